/- The statement on NumRest: for any two numbers of 64 bits the law's call returns true, and its arguments read as they did; the three listed tables start as the program's text lays them. -/
import Derived.Test.YtkmnboaimhcmiaaDoorFrame
import Derived.Test.YtkmnboaimhcmiaaDoorAlive
import Derived.Test.YtkmnboaimhcmiaaDoorTie
import Derived.Test.YtkmnboaimhcmiaaDoorCards
namespace Go.Proofs.YtkmnboaimhcmiaaDoor.numRest
open Go.ChangeShapes Go.WideShapes Go.ChangeAt Go.RowKit

/-- A contract said of the pair that it comes to. -/
theorem at_pair {f : FuncId} {args : Array Value} {w : World} {p : Int × Int} {x y : Int} (hp : p = (x, y))
    (h : Calls Tryd.prog f args w fun e w' => e = .returned (.tuple #[.int .i64 p.1, .int .i64 p.2]) ∧ w' = w) :
    Calls Tryd.prog f args w fun e w' => e = .returned (.tuple #[.int .i64 x, .int .i64 y]) ∧ w' = w := by
  subst hp; exact h

/-- What quotient and rest are, in words that omega knows. -/
theorem parts {a b : Int} (ha : Fits a) (h0 : b ≠ 0) (hx : ¬ (a = -9223372036854775808 ∧ b = -1)) :
    ∃ q r x : Int, divP a b = (q, 0) ∧ remP a b = (r, 0) ∧ Fits q ∧ x = q * b ∧ Fits x ∧ x + r = a ∧ (0 < r → 0 < a) ∧ (r < 0 → a < 0) ∧ (0 < b → r < b ∧ -r < b) ∧ (b < 0 → r < -b ∧ -r < -b) := by
  have h1 := Int.mul_tdiv_add_tmod a b
  have h2 := tmod_abs a b h0
  rw [Int.mul_comm] at h1
  have hn : 0 ≤ a → 0 ≤ a.tmod b := fun h => Int.tmod_nonneg b h
  have hp : a ≤ 0 → a.tmod b ≤ 0 := fun h => by
    have := Int.tmod_nonneg b (a := -a) (by omega)
    rw [Int.neg_tmod] at this
    omega
  have hle : (a.tmod b).natAbs ≤ a.natAbs := by rw [Int.natAbs_tmod]; exact Nat.mod_le _ _
  refine ⟨a.tdiv b, a.tmod b, a.tdiv b * b, div_in h0 hx, rem_in h0, tdiv_fits ha h0 hx, rfl, ?_, h1, ?_, ?_, ?_, ?_⟩
  all_goals
    generalize a.tdiv b * b = x at *
    generalize a.tmod b = r at *
    unfold Fits at *
    omega

set_option maxHeartbeats 1000000 in
theorem walk_zero (a : Int) (ha : Fits a) (w : World) (htab : Lib.TabIs Tryd.prog w "internal/strconv.uint64pow10" .u64 Lib.pow10Tab) :
    Calls Tryd.prog 8 #[.int .i64 a, .int .i64 0] w fun e w' => e = .returned (.bool true) ∧ Below w.heap.size w w' := by
  go_enter Tryd.func8, Tryd.ntmps8
  go_wp2_with (first
    | (go_at_call 16; refine (at_pair (div_zero a) (div_any _ _ ha _)).mono ?_; rintro e w' ⟨rfl, rfl⟩)
    | (go_at_call 18; refine (at_pair (rem_zero a) (rem_any _ _ _)).mono ?_; rintro e w' ⟨rfl, rfl⟩)
    | (go_at_call 20; refine (alive_any _ htab).mono ?_; rintro e w1 ⟨rfl, hw⟩))
  go_ret
  exact ⟨rfl, hw⟩

theorem least_fits : Fits (-9223372036854775808) := by unfold Fits; omega

set_option maxHeartbeats 1000000 in
theorem walk_over (w : World) (htab : Lib.TabIs Tryd.prog w "internal/strconv.uint64pow10" .u64 Lib.pow10Tab) :
    Calls Tryd.prog 8 #[.int .i64 (-9223372036854775808), .int .i64 (-1)] w fun e w' => e = .returned (.bool true) ∧ Below w.heap.size w w' := by
  go_enter Tryd.func8, Tryd.ntmps8
  go_wp2_with (first
    | (go_at_call 16; refine (at_pair (div_over (by decide) ⟨rfl, rfl⟩) (div_any _ _ least_fits _)).mono ?_; rintro e w' ⟨rfl, rfl⟩)
    | (go_at_call 18; refine (at_pair (rem_neg _) (rem_any _ _ _)).mono ?_; rintro e w' ⟨rfl, rfl⟩)
    | (go_at_call 20; refine (alive_any _ htab).mono ?_; rintro e w1 ⟨rfl, hw⟩))
  go_ret
  exact ⟨rfl, hw⟩

set_option maxHeartbeats 1000000 in
theorem walk_in (a b q r x : Int) (w : World) (htab : Lib.TabIs Tryd.prog w "internal/strconv.uint64pow10" .u64 Lib.pow10Tab)
    (cd : Hid (∀ w, Calls Tryd.prog 16 #[.int .i64 a, .int .i64 b] w fun e w' => e = .returned (.tuple #[.int .i64 q, .int .i64 0]) ∧ w' = w))
    (cr : Hid (∀ w, Calls Tryd.prog 18 #[.int .i64 a, .int .i64 b] w fun e w' => e = .returned (.tuple #[.int .i64 r, .int .i64 0]) ∧ w' = w))
    (cm : Hid (∀ w, Calls Tryd.prog 14 #[.int .i64 q, .int .i64 b] w fun e w' => e = .returned (.tuple #[.int .i64 x, .int .i64 0]) ∧ w' = w))
    (ca : Hid (∀ w, Calls Tryd.prog 9 #[.int .i64 x, .int .i64 r] w fun e w' => e = .returned (.tuple #[.int .i64 a, .int .i64 0]) ∧ w' = w))
    (b1 : -9223372036854775808 ≤ b) (b2 : b ≤ 9223372036854775807) (r1 : -9223372036854775808 < r) (r2 : r ≤ 9223372036854775807)
    (hs : 0 < r ∧ 0 < a ∨ r < 0 ∧ a < 0 ∨ r = 0) (hab : 0 < b ∧ r < b ∧ -r < b ∨ b < 0 ∧ r < -b ∧ -r < -b) :
    Calls Tryd.prog 8 #[.int .i64 a, .int .i64 b] w fun e w' => e = .returned (.bool true) ∧ Below w.heap.size w w' := by
  rcases hs with ⟨s1, s2⟩ | ⟨s1, s2⟩ | s1 <;> rcases hab with ⟨t1, t2, t3⟩ | ⟨t1, t2, t3⟩
  all_goals
    have z : (b == 0) = false := by simp; omega
    try subst s1
    go_enter Tryd.func8, Tryd.ntmps8
    go_wp2_with (first
      | (go_at_call 16; refine (cd.out _).mono ?_; rintro e w' ⟨rfl, rfl⟩)
      | (go_at_call 18; refine (cr.out _).mono ?_; rintro e w' ⟨rfl, rfl⟩)
      | (go_at_call 14; refine (cm.out _).mono ?_; rintro e w' ⟨rfl, rfl⟩)
      | (go_at_call 9; refine (ca.out _).mono ?_; rintro e w' ⟨rfl, rfl⟩)
      | (go_at_call 20; refine (alive_any _ htab).mono ?_; rintro e w1 ⟨rfl, hw⟩))
    go_ret
    exact ⟨by first | (simp; done) | (simp; omega), hw⟩

theorem walk (a b : Int) (ha : Fits a) (hb : Fits b) (w : World) (htab : Lib.TabIs Tryd.prog w "internal/strconv.uint64pow10" .u64 Lib.pow10Tab) :
    Calls Tryd.prog 8 #[.int .i64 a, .int .i64 b] w fun e w' => e = .returned (.bool true) ∧ Below w.heap.size w w' := by
  by_cases h0 : b = 0
  · subst h0; exact walk_zero a ha w htab
  by_cases hx : a = -9223372036854775808 ∧ b = -1
  · obtain ⟨rfl, rfl⟩ := hx; exact walk_over w htab
  · obtain ⟨q, r, x, hd, hr, hq, hxe, hxf, hsum, s1, s2, t1, t2⟩ := parts ha h0 hx
    have hrf : Fits r := by have := tmod_fits (a := a) hb h0; rw [rem_in h0] at hr; cases hr; exact this
    have hm : mulP q b = (x, 0) := by rw [mulP_in (by rw [← hxe]; exact hxf), hxe]
    have hadd : addP x r = (a, 0) := by rw [addP_in (by rw [hsum]; exact ha), hsum]
    unfold Fits at hb
    have hrf' := hrf
    unfold Fits at hrf'
    refine walk_in a b q r x w htab (fun w => at_pair hd (div_any a b ha w)) (fun w => at_pair hr (rem_any a b w)) (fun w => at_pair hm (mul_any q b hq hb w)) (fun w => at_pair hadd (add_any x r hxf hrf w)) hb.1 hb.2 ?_ hrf'.2 ?_ ?_
    all_goals omega

set_option maxRecDepth 100000 in
theorem lifted (os : Os) (started : os.Started) (H : Type) (enc : TypeId × Value → H) :
    ReturnsInHanded {} Tryd.checked os 8 .any (fun w args => (Rows.numRestSpec.pre enc Tryd.prog Tryd.f8 [] false w args ∧ laidMetH Tryd.prog Rows.numRestRow.laid w) ∧ sizedMet enc Tryd.prog Tryd.f8 (OpenSpec.ofChange Rows.numRestSpec) false w args)
      (Rows.numRestSpec.post enc Tryd.prog Tryd.f8 false true false false) := by
  refine returnsInHanded_of_change_and (C := Tryd.checked) (X := fun w _ => laidMetH Tryd.prog Rows.numRestRow.laid w) (fun _ _ _ hh h => h.of_heap hh) own started (by kernel_rfl) Tryd.func8
    (ChangeSpec.witness_shaped (enc := enc) (C := Tryd.checked) (os := os) (X := fun w _ => laidMetH Tryd.prog Rows.numRestRow.laid w) false (World.doorLaid Tryd.prog 62 os) #[.int .i64 0, .int .i64 0] 8 rfl (World.shaped_of_RefB (by kernel_rfl) (by kernel_rfl)) (by kernel_rfl) (by kernel_rfl) (by kernel_rfl) (door3 os _)) ?_
  intro W base args ds gs before hval0 hW _ _ hL _
  have hval : ∀ (j : Nat) t v, Tryd.f8.params[j]? = some t → args[j]? = some v → Value.okWide Tryd.prog W .any base t v := hval0
  have hW' := hW
  obtain ⟨p, q, hA0, hV, rfl, hfz, hnd⟩ := hW
  have hA : DataW.TrodAll enc Tryd.prog W 0 (fun _ => true) true Tryd.f8.params.toList args.toList ds p := hA0
  rw [Tryd.params8] at hA hval
  obtain ⟨v0, v1, d0, d1, p0, p1, rfl, rfl, rfl, h0, h1⟩ := trodAll_two hA
  obtain ⟨rfl, rfl⟩ := trodVars_none hV
  obtain ⟨a0, rfl, rfl, rfl, w0⟩ := open_int Tryd.underlying3 (hval 0 3 v0 rfl rfl) h0
  obtain ⟨a1, rfl, rfl, rfl, w1⟩ := open_int Tryd.underlying3 (hval 1 3 v1 rfl rfl) h1
  clear hA0 hval0
  simp only [List.append_nil] at hW'
  refine (walk a0 a1 (fits_wf w0) (fits_wf w1) W (tab3 hL)).mono fun e W' ⟨he, hg⟩ => ?_
  subst he
  refine ⟨_, rfl, _, _, _, [], [], [], hW', ?_, ?_, rfl, hg.frame _, fun h => by cases h⟩
  · exact trodAll_mk1 (shut_bool Tryd.underlying4 _)
  · exact trodAll_mk2 (shut_int Tryd.underlying3 w0) (shut_int Tryd.underlying3 w1)

theorem over : Rows.NumRestSaid :=
  OpenClaim.holds_of_wide 8 Tryd.f8 rfl rfl rfl rfl rfl rfl rfl ⟨rfl, rfl, rfl, rfl, rfl⟩ rfl rfl rfl rfl rfl (by kernel_rfl) Tryd.func8 (by kernel_rfl)
    (of_decide_eq_true (by kernel_rfl)) (by unfold Func.isWrapper; first | (rw [if_pos (by decide +kernel)]; kernel_rfl) | (rw [if_neg (by decide +kernel)]; exact ⟨rfl, rfl⟩))
    (fun os started H enc _ => lifted os started H enc)
end Go.Proofs.YtkmnboaimhcmiaaDoor.numRest
namespace Go.Proofs.YtkmnboaimhcmiaaDoor
open Go

theorem numRest_holds : Rows.NumRestCardSaid :=
  Claim7.holds_tied_plain_at .later [] [.data, .data, .data] true Rows.numRestCard.stood.harness true
    numRest.over (fun _ h => by cases h) (by kernel_rfl) (fun _ h => by cases h) numRest_row_tie rfl ⟨rfl, rfl⟩ (by kernel_rfl) rfl
    (fun f fn hf hfn => by
      obtain rfl : f = 8 := Option.some.inj ((show Tryd.prog.funcNamed "vestry/vestrylaw01.NumRest" = some 8 by kernel_rfl).symm.trans hf) |>.symm
      obtain rfl : fn = Tryd.f8 := (Option.some.inj (Tryd.func8.symm.trans hfn)).symm
      exact ⟨by kernel_rfl, fun j t ht => by
        rw [Tryd.params8] at ht
        have hm : t ∈ [3, 3] := by simpa using Array.mem_of_getElem? ht
        have hall : ([3, 3].all fun u => !Tryd.prog.wantsStandIn u) = true := by kernel_rfl
        exact (show Tryd.prog.wantsStandIn t = false by simpa using List.all_eq_true.1 hall t hm)⟩)
    (by kernel_rfl)
#print axioms numRest_holds
end Go.Proofs.YtkmnboaimhcmiaaDoor
