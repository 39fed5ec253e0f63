/- The statement on NumBack: for any number of 64 bits and any text the law's call returns true, and its arguments read as they did; the five listed variables start as the program's text lays them. -/
import Derived.Test.YtkmnboaimhcmiaaDoorFrameB
import Derived.Test.YtkmnboaimhcmiaaDoorParse
import Derived.SizedLaws
import Derived.Test.YtkmnboaimhcmiaaDoorTie
import Derived.Test.YtkmnboaimhcmiaaDoorCards
namespace Go.Proofs.YtkmnboaimhcmiaaDoor.numBack
open Go.ChangeShapes Go.WideShapes Go.ChangeAt Go.RowKit
open Go.ChangeMaps (open_string shut_string)

theorem fits_abs {n : Int} (h : Fits n) : n.natAbs < 18446744073709551616 := by unfold Fits at h; omega
theorem itoa_short {n : Int} (h : Fits n) : (Lib.itoa n).length ≤ 100 := by
  have key : ∀ u : Nat, u < 18446744073709551616 → (Lib.decDigits u).length ≤ 20 := fun u hu => by
    rw [Lib.decDigits_length]
    by_cases h1 : 1 ≤ u
    · have := Lib.numDigits_eq u h1 hu
      split at this <;> omega
    · have : u = 0 := by omega
      subst this
      rw [Lib.nDigits_small (by omega)]
      omega
  have hb := fits_abs h
  unfold Lib.itoa
  split
  · have := key n.natAbs hb
    simp only [List.length_cons]
    omega
  · have := key n.toNat (by omega)
    omega

theorem parse_text (n : Int) (hn : Fits n) (w : World) {t1 : TypeId} {p1 : Value} (hv1 : w.var? Tryd.prog "strconv.ErrRange" = some #[.iface t1 p1]) :
    Calls Tryd.prog 25 #[.string ⟨(Lib.itoa n).toArray⟩] w fun e w' => e = .returned (.tuple #[.int .i64 n, .int .i64 0]) ∧ Below w.heap.size w w' := by
  have h := parse_any ⟨(Lib.itoa n).toArray⟩ w (by rw [size_list]; have := itoa_short hn; omega) hv1
  have e : parseP ((⟨(Lib.itoa n).toArray⟩ : ByteArray).data.toList) = (n, 0) := by
    show parseP (Lib.itoa n).toArray.toList = (n, 0)
    rw [List.toList_toArray]
    exact parse_itoa hn
  rw [e] at h
  exact h

theorem parse_at (s : ByteArray) (k f : Int) (w : World) (he : parseP s.data.toList = (k, f)) (hlim : s.size ≤ 281474976710656) {t1 : TypeId} {p1 : Value} (hv1 : w.var? Tryd.prog "strconv.ErrRange" = some #[.iface t1 p1]) :
    Calls Tryd.prog 25 #[.string s] w fun e w' => e = .returned (.tuple #[.int .i64 k, .int .i64 f]) ∧ Below w.heap.size w w' := by
  have h := parse_any s w hlim hv1
  rw [he] at h
  exact h

set_option maxHeartbeats 1000000 in
theorem walk (n : Int) (s : ByteArray) (hn : Fits n) (hlim : s.size ≤ 281474976710656) (w : World) (htab : Lib.TabIs Tryd.prog w "internal/strconv.uint64pow10" .u64 Lib.pow10Tab)
    {t1 : TypeId} {p1 : Value} (hv1 : w.var? Tryd.prog "strconv.ErrRange" = some #[.iface t1 p1]) :
    Calls Tryd.prog 6 #[.int .i64 n, .string s] w fun e w' => e = .returned (.bool true) ∧ Below w.heap.size w w' := by
  obtain ⟨k, f, he, hk, hq⟩ : ∃ k f : Int, Hid (parseP s.data.toList = (k, f)) ∧ Fits k ∧ (f = 0 → Lib.itoa k = s.data.toList) :=
    ⟨_, _, rfl, parse_fits _, itoa_parse⟩
  have V : Hid (w.var? Tryd.prog "strconv.ErrRange" = some #[.iface t1 p1]) := hv1
  have HT : Hid (Lib.TabIs Tryd.prog w "internal/strconv.uint64pow10" .u64 Lib.pow10Tab) := htab
  clear hv1 htab
  by_cases hf : f = 0
  · subst hf
    have hs : (Lib.itoa k == s.toList) = true := by rw [Lib.toList_data, hq rfl]; simp
    clear hq
    go_enter Tryd.func6, Tryd.ntmps6
    go_wp2_with fail
    refine (text_any n hn _ HT.out).mono ?_
    rintro e w1 ⟨rfl, h1⟩
    go_wp2_with fail
    refine (parse_text n hn _ (var_below V.out h1)).mono ?_
    rintro e w2 ⟨rfl, h2'⟩
    have h2 := h1.trans (h2'.mono h1.size)
    clear h2'
    go_wp2_with fail
    refine (parse_at s k 0 _ he.out hlim (var_below V.out h2)).mono ?_
    rintro e w3 ⟨rfl, h3'⟩
    have h3 := h2.trans (h3'.mono h2.size)
    clear h3'
    go_wp2_with fail
    refine (text_any k hk _ (var_below HT.out h3)).mono ?_
    rintro e w4 ⟨rfl, h4'⟩
    have h4 := h3.trans (h4'.mono h3.size)
    clear h4'
    go_wp2_with fail
    refine (alive_any _ (var_below HT.out h4)).mono ?_
    rintro e w5 ⟨rfl, h5'⟩
    have h5 := h4.trans (h5'.mono h4.size)
    clear h5'
    go_wp2
    go_ret
    exact ⟨rfl, h5⟩
  · have hf' : (f != 0) = true := bne_iff_ne.2 hf
    clear hq hf
    go_enter Tryd.func6, Tryd.ntmps6
    go_wp2_with fail
    refine (text_any n hn _ HT.out).mono ?_
    rintro e w1 ⟨rfl, h1⟩
    go_wp2_with fail
    refine (parse_text n hn _ (var_below V.out h1)).mono ?_
    rintro e w2 ⟨rfl, h2'⟩
    have h2 := h1.trans (h2'.mono h1.size)
    clear h2'
    go_wp2_with fail
    refine (parse_at s k f _ he.out hlim (var_below V.out h2)).mono ?_
    rintro e w3 ⟨rfl, h3'⟩
    have h3 := h2.trans (h3'.mono h2.size)
    clear h3'
    go_wp2_with fail
    refine (alive_any _ (var_below HT.out h3)).mono ?_
    rintro e w5 ⟨rfl, h5'⟩
    have h5 := h3.trans (h5'.mono h3.size)
    clear h5'
    go_wp2
    go_ret
    exact ⟨rfl, h5⟩

set_option maxRecDepth 100000 in
theorem lifted (os : Os) (started : os.Started) (H : Type) (enc : TypeId × Value → H) :
    ReturnsInHanded {} Tryd.checked os 6 .any (fun w args => (Rows.numBackSpec.pre enc Tryd.prog Tryd.f6 [] false w args ∧ laidMetH Tryd.prog Rows.numBackRow.laid w) ∧ sizedMet enc Tryd.prog Tryd.f6 (OpenSpec.ofChange Rows.numBackSpec) false w args)
      (Rows.numBackSpec.post enc Tryd.prog Tryd.f6 false true false false) := by
  refine returnsInHanded_of_change_and (C := Tryd.checked) (X := fun w _ => laidMetH Tryd.prog Rows.numBackRow.laid w) (fun _ _ _ hh h => h.of_heap hh) own started (by kernel_rfl) Tryd.func6
    (ChangeSpec.witness_shaped (enc := enc) (C := Tryd.checked) (os := os) (X := fun w _ => laidMetH Tryd.prog Rows.numBackRow.laid w) false (World.doorLaid Tryd.prog 62 os) #[.int .i64 0, .string ⟨#[]⟩] 8 rfl (World.shaped_of_RefB (by kernel_rfl) (by kernel_rfl)) (by kernel_rfl) (by kernel_rfl) (by kernel_rfl) (door5 os _)) ?_
  intro W base args ds gs before hval0 hW _ hsz0 hL _
  have hsz : (DataW.weightsEach Tryd.prog (Tryd.f6.params.toList ++ Rows.numBackSpec.plain.varTypes Tryd.prog) (ds ++ gs)).all (· ≤ reachBytes) = true := hsz0
  clear hsz0
  have hval : ∀ (j : Nat) t v, Tryd.f6.params[j]? = some t → args[j]? = some v → Value.okWide Tryd.prog W .any base t v := hval0
  have hW' := hW
  obtain ⟨p, q, hA0, hV, rfl, hfz, hnd⟩ := hW
  have hA : DataW.TrodAll enc Tryd.prog W 0 (fun _ => true) true Tryd.f6.params.toList args.toList ds p := hA0
  rw [Tryd.params6] at hA hval hsz
  obtain ⟨v0, v1, d0, d1, p0, p1, rfl, rfl, rfl, h0, h1⟩ := trodAll_two hA
  obtain ⟨rfl, rfl⟩ := trodVars_none hV
  obtain ⟨n, rfl, rfl, rfl, wn⟩ := open_int Tryd.underlying3 (hval 0 3 v0 rfl rfl) h0
  obtain ⟨s, rfl, rfl, rfl, hs⟩ := open_string Tryd.underlying9 (hval 1 9 v1 rfl rfl) h1
  clear hA0 hval0
  simp only [List.append_nil] at hW'
  have hlim : s.size ≤ 281474976710656 := by
    have h1 := sized_string hsz (j := 1) (t := 9) rfl rfl
    have h2 := reachBytes_lt
    have e1 : s.size = s.data.size := rfl
    have e2 : s.data.toList.length = s.data.size := Array.length_toList
    have e3 : (2 : Nat) ^ 47 = 140737488355328 := by decide
    omega
  obtain ⟨p1, hv1⟩ := range5 hL
  refine (walk n s (fits_wf wn) hlim W (tab5 hL) hv1).mono fun e W' ⟨he, hg⟩ => ?_
  subst he
  refine ⟨_, rfl, _, _, _, [], [], [], hW', ?_, ?_, rfl, hg.frame _, fun h => by cases h⟩
  · exact trodAll_mk1 (shut_bool Tryd.underlying4 _)
  · exact trodAll_mk2 (shut_int Tryd.underlying3 wn) (shut_string Tryd.underlying9 hs)

theorem over : Rows.NumBackSaid :=
  OpenClaim.holds_of_wide 6 Tryd.f6 rfl rfl rfl rfl rfl rfl rfl ⟨rfl, rfl, rfl, rfl, rfl⟩ rfl rfl rfl rfl rfl (by kernel_rfl) Tryd.func6 (by kernel_rfl)
    (of_decide_eq_true (by kernel_rfl)) (by unfold Func.isWrapper; first | (rw [if_pos (by decide +kernel)]; kernel_rfl) | (rw [if_neg (by decide +kernel)]; exact ⟨rfl, rfl⟩))
    (fun os started H enc _ => lifted os started H enc)
end Go.Proofs.YtkmnboaimhcmiaaDoor.numBack
namespace Go.Proofs.YtkmnboaimhcmiaaDoor
open Go

theorem numBack_holds : Rows.NumBackCardSaid :=
  Claim7.holds_tied_plain_at .later [] [.data, .data, .data, .sentinel, .sentinel] true Rows.numBackCard.stood.harness true
    numBack.over (fun _ h => by cases h) (by kernel_rfl) (fun _ h => by cases h) numBack_row_tie rfl ⟨rfl, rfl⟩ (by kernel_rfl) rfl
    (fun f fn hf hfn => by
      obtain rfl : f = 6 := Option.some.inj ((show Tryd.prog.funcNamed "vestry/vestrylaw01.NumBack" = some 6 by kernel_rfl).symm.trans hf) |>.symm
      obtain rfl : fn = Tryd.f6 := (Option.some.inj (Tryd.func6.symm.trans hfn)).symm
      exact ⟨by kernel_rfl, fun j t ht => by
        rw [Tryd.params6] at ht
        have hm : t ∈ [3, 9] := by simpa using Array.mem_of_getElem? ht
        have hall : ([3, 9].all fun u => !Tryd.prog.wantsStandIn u) = true := by kernel_rfl
        exact (show Tryd.prog.wantsStandIn t = false by simpa using List.all_eq_true.1 hall t hm)⟩)
    (by kernel_rfl)
#print axioms numBack_holds
end Go.Proofs.YtkmnboaimhcmiaaDoor
