/- The statement on NumRing: for any two numbers of 64 bits the law's call returns true, and its arguments read as they did; the three listed tables start as the program's text lays them. -/
import Derived.Test.YtkmnboaimhcmiaaDoorFrame
import Derived.Test.YtkmnboaimhcmiaaDoorAlive
import Derived.Test.YtkmnboaimhcmiaaDoorTie
import Derived.Test.YtkmnboaimhcmiaaDoorCards
namespace Go.Proofs.YtkmnboaimhcmiaaDoor.numRing
open Go.ChangeShapes Go.WideShapes Go.ChangeAt Go.RowKit

theorem addP_comm (a b : Int) : addP b a = addP a b := by unfold addP; rw [Int.add_comm]
theorem mulP_comm (a b : Int) : mulP b a = mulP a b := by unfold mulP; rw [Int.mul_comm]
theorem add_back (a b : Int) (ha : Fits a) : subP (a + b) b = (a, 0) := by
  have e : a + b - b = a := by omega
  rw [subP_in (by rw [e]; exact ha), e]
theorem div_back (a b : Int) (ha : Fits a) (h0 : b ≠ 0) : divP (a * b) b = (a, 0) := by
  rw [div_in h0, Int.mul_tdiv_cancel _ h0]
  rintro ⟨h1, rfl⟩
  unfold Fits at ha
  omega
theorem rem_back (a b : Int) (h0 : b ≠ 0) : remP (a * b) b = (0, 0) := by
  rw [rem_in h0, Int.mul_tmod_left]

/-- A contract said of the pair that it comes to. -/
theorem at_pair {f : FuncId} {args : Array Value} {w : World} {p : Int × Int} {x y : Int} (hp : p = (x, y))
    (h : Calls Tryd.prog f args w fun e w' => e = .returned (.tuple #[.int .i64 p.1, .int .i64 p.2]) ∧ w' = w) :
    Calls Tryd.prog f args w fun e w' => e = .returned (.tuple #[.int .i64 x, .int .i64 y]) ∧ w' = w := by
  subst hp; exact h

set_option maxHeartbeats 400000 in
theorem divides_any (a b p : Int) (ha : Fits a) (h0 : Hid (b ≠ 0)) (hp : Fits p) (hm : Hid (p = a * b)) (w : World) :
    Calls Tryd.prog 29 #[.int .i64 p, .int .i64 b, .int .i64 a] w fun e w' => e = .returned (.bool true) ∧ w' = w := by
  go_enter Tryd.func29, Tryd.ntmps29
  go_wp2_with fail
  refine (at_pair (x := a) (y := 0) (by rw [hm.out]; exact div_back a b ha h0.out) (div_any p b hp _)).mono ?_
  rintro e w' ⟨rfl, rfl⟩
  go_wp2_with fail
  refine (at_pair (x := 0) (y := 0) (by rw [hm.out]; exact rem_back a b h0.out) (rem_any p b _)).mono ?_
  rintro e w' ⟨rfl, rfl⟩
  go_wp2
  go_ret
  exact ⟨rfl, rfl⟩

set_option maxHeartbeats 1000000 in
theorem walk (a b : Int) (ha : Fits a) (hb : Fits b) (w : World) (htab : Lib.TabIs Tryd.prog w "internal/strconv.uint64pow10" .u64 Lib.pow10Tab) :
    Calls Tryd.prog 7 #[.int .i64 a, .int .i64 b] w fun e w' => e = .returned (.bool true) ∧ Below w.heap.size w w' := by
  obtain ⟨s, p, e, g, hs, hp, hin, hmul⟩ : ∃ s p e g : Int, Hid (addP a b = (s, e)) ∧ Hid (mulP a b = (p, g)) ∧ (Hid (s = a + b ∧ Fits s) ∧ e = 0 ∨ e = 8) ∧ (Hid (p = a * b ∧ Fits p) ∧ g = 0 ∨ g = 8) := by
    by_cases h1 : Fits (a + b) <;> by_cases h2 : Fits (a * b)
    · exact ⟨_, _, _, _, addP_in h1, mulP_in h2, .inl ⟨⟨rfl, h1⟩, rfl⟩, .inl ⟨⟨rfl, h2⟩, rfl⟩⟩
    · exact ⟨_, _, _, _, addP_in h1, mulP_out h2, .inl ⟨⟨rfl, h1⟩, rfl⟩, .inr rfl⟩
    · exact ⟨_, _, _, _, addP_out h1, mulP_in h2, .inr rfl, .inl ⟨⟨rfl, h2⟩, rfl⟩⟩
    · exact ⟨_, _, _, _, addP_out h1, mulP_out h2, .inr rfl, .inr rfl⟩
  have c1 : Hid (∀ w, Calls Tryd.prog 9 #[.int .i64 a, .int .i64 b] w fun r w' => r = .returned (.tuple #[.int .i64 s, .int .i64 e]) ∧ w' = w) := fun w => at_pair hs.out (add_any a b ha hb w)
  have c2 : Hid (∀ w, Calls Tryd.prog 9 #[.int .i64 b, .int .i64 a] w fun r w' => r = .returned (.tuple #[.int .i64 s, .int .i64 e]) ∧ w' = w) := fun w => at_pair ((addP_comm a b).trans hs.out) (add_any b a hb ha w)
  have c3 : Hid (∀ w, Calls Tryd.prog 14 #[.int .i64 a, .int .i64 b] w fun r w' => r = .returned (.tuple #[.int .i64 p, .int .i64 g]) ∧ w' = w) := fun w => at_pair hp.out (mul_any a b ha hb w)
  have c4 : Hid (∀ w, Calls Tryd.prog 14 #[.int .i64 b, .int .i64 a] w fun r w' => r = .returned (.tuple #[.int .i64 p, .int .i64 g]) ∧ w' = w) := fun w => at_pair ((mulP_comm a b).trans hp.out) (mul_any b a hb ha w)
  rcases hin with ⟨hs1, rfl⟩ | rfl <;> rcases hmul with ⟨hp1, rfl⟩ | rfl
  all_goals
    by_cases hb0 : b = 0
    all_goals
      first
        | (have b0 : (b == 0) = true := by simpa using hb0)
        | (have b0 : (b == 0) = false := by simpa using hb0
           have HB : Hid (b ≠ 0) := hb0)
      clear hb0
      go_enter Tryd.func7, Tryd.ntmps7
      go_wp2_with fail
      refine (c1.out _).mono ?_
      rintro e w' ⟨rfl, rfl⟩
      go_wp2_with fail
      refine (c2.out _).mono ?_
      rintro e w' ⟨rfl, rfl⟩
      go_wp2_with fail
      refine (c3.out _).mono ?_
      rintro e w' ⟨rfl, rfl⟩
      go_wp2_with fail
      refine (c4.out _).mono ?_
      rintro e w' ⟨rfl, rfl⟩
      go_wp2_with (first
        | (go_at_call 20; refine (alive_any _ htab).mono ?_; rintro e w1 ⟨rfl, hw⟩)
        | (go_at_call 12; refine (at_pair (x := a) (y := 0) (by rw [hs1.out.1]; exact add_back a b ha) (sub_any _ _ hs1.out.2 hb _)).mono ?_; rintro e w' ⟨rfl, rfl⟩)
        | (go_at_call 29; refine (divides_any a b p ha HB hp1.out.2 hp1.out.1 _).mono ?_; rintro e w' ⟨rfl, rfl⟩))
      go_ret
      exact ⟨rfl, hw⟩

set_option maxRecDepth 100000 in
theorem lifted (os : Os) (started : os.Started) (H : Type) (enc : TypeId × Value → H) :
    ReturnsInHanded {} Tryd.checked os 7 .any (fun w args => (Rows.numRingSpec.pre enc Tryd.prog Tryd.f7 [] false w args ∧ laidMetH Tryd.prog Rows.numRingRow.laid w) ∧ sizedMet enc Tryd.prog Tryd.f7 (OpenSpec.ofChange Rows.numRingSpec) false w args)
      (Rows.numRingSpec.post enc Tryd.prog Tryd.f7 false true false false) := by
  refine returnsInHanded_of_change_and (C := Tryd.checked) (X := fun w _ => laidMetH Tryd.prog Rows.numRingRow.laid w) (fun _ _ _ hh h => h.of_heap hh) own started (by kernel_rfl) Tryd.func7
    (ChangeSpec.witness_shaped (enc := enc) (C := Tryd.checked) (os := os) (X := fun w _ => laidMetH Tryd.prog Rows.numRingRow.laid w) false (World.doorLaid Tryd.prog 62 os) #[.int .i64 0, .int .i64 0] 8 rfl (World.shaped_of_RefB (by kernel_rfl) (by kernel_rfl)) (by kernel_rfl) (by kernel_rfl) (by kernel_rfl) (door3 os _)) ?_
  intro W base args ds gs before hval0 hW _ _ hL _
  have hval : ∀ (j : Nat) t v, Tryd.f7.params[j]? = some t → args[j]? = some v → Value.okWide Tryd.prog W .any base t v := hval0
  have hW' := hW
  obtain ⟨p, q, hA0, hV, rfl, hfz, hnd⟩ := hW
  have hA : DataW.TrodAll enc Tryd.prog W 0 (fun _ => true) true Tryd.f7.params.toList args.toList ds p := hA0
  rw [Tryd.params7] at hA hval
  obtain ⟨v0, v1, d0, d1, p0, p1, rfl, rfl, rfl, h0, h1⟩ := trodAll_two hA
  obtain ⟨rfl, rfl⟩ := trodVars_none hV
  obtain ⟨a0, rfl, rfl, rfl, w0⟩ := open_int Tryd.underlying3 (hval 0 3 v0 rfl rfl) h0
  obtain ⟨a1, rfl, rfl, rfl, w1⟩ := open_int Tryd.underlying3 (hval 1 3 v1 rfl rfl) h1
  clear hA0 hval0
  simp only [List.append_nil] at hW'
  refine (walk a0 a1 (fits_wf w0) (fits_wf w1) W (tab3 hL)).mono fun e W' ⟨he, hg⟩ => ?_
  subst he
  refine ⟨_, rfl, _, _, _, [], [], [], hW', ?_, ?_, rfl, hg.frame _, fun h => by cases h⟩
  · exact trodAll_mk1 (shut_bool Tryd.underlying4 _)
  · exact trodAll_mk2 (shut_int Tryd.underlying3 w0) (shut_int Tryd.underlying3 w1)

theorem over : Rows.NumRingSaid :=
  OpenClaim.holds_of_wide 7 Tryd.f7 rfl rfl rfl rfl rfl rfl rfl ⟨rfl, rfl, rfl, rfl, rfl⟩ rfl rfl rfl rfl rfl (by kernel_rfl) Tryd.func7 (by kernel_rfl)
    (of_decide_eq_true (by kernel_rfl)) (by unfold Func.isWrapper; first | (rw [if_pos (by decide +kernel)]; kernel_rfl) | (rw [if_neg (by decide +kernel)]; exact ⟨rfl, rfl⟩))
    (fun os started H enc _ => lifted os started H enc)
end Go.Proofs.YtkmnboaimhcmiaaDoor.numRing
namespace Go.Proofs.YtkmnboaimhcmiaaDoor
open Go

theorem numRing_holds : Rows.NumRingCardSaid :=
  Claim7.holds_tied_plain_at .later [] [.data, .data, .data] true Rows.numRingCard.stood.harness true
    numRing.over (fun _ h => by cases h) (by kernel_rfl) (fun _ h => by cases h) numRing_row_tie rfl ⟨rfl, rfl⟩ (by kernel_rfl) rfl
    (fun f fn hf hfn => by
      obtain rfl : f = 7 := Option.some.inj ((show Tryd.prog.funcNamed "vestry/vestrylaw01.NumRing" = some 7 by kernel_rfl).symm.trans hf) |>.symm
      obtain rfl : fn = Tryd.f7 := (Option.some.inj (Tryd.func7.symm.trans hfn)).symm
      exact ⟨by kernel_rfl, fun j t ht => by
        rw [Tryd.params7] at ht
        have hm : t ∈ [3, 3] := by simpa using Array.mem_of_getElem? ht
        have hall : ([3, 3].all fun u => !Tryd.prog.wantsStandIn u) = true := by kernel_rfl
        exact (show Tryd.prog.wantsStandIn t = false by simpa using List.all_eq_true.1 hall t hm)⟩)
    (by kernel_rfl)
#print axioms numRing_holds
end Go.Proofs.YtkmnboaimhcmiaaDoor
