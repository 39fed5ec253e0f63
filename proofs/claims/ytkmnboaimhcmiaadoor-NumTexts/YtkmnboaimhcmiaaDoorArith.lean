/- Walks of the package num's five operations and of the document's: each returns what the plain function says, in every world. -/
import Derived.Test.YtkmnboaimhcmiaaDoorRows
import Derived.Test.YtkmnboaimhcmiaaDoorMath
import Derived.WalkKit
import Derived.ProofKit
namespace Go.Proofs.YtkmnboaimhcmiaaDoor
open Go.ChangeShapes Go.WideShapes Go.ChangeAt Go.RowKit

set_option maxHeartbeats 400000 in
theorem add_any (a b : Int) (ha : Fits a) (hb : Fits b) (w : World) :
    Calls Tryd.prog 9 #[.int .i64 a, .int .i64 b] w fun e w' => e = .returned (.tuple #[.int .i64 (addP a b).1, .int .i64 (addP a b).2]) ∧ w' = w := by
  go_enter Tryd.func9, Tryd.ntmps9
  go_wp2
  · go_ret2
    exact ⟨ret2 (add_over ha hb ‹_›), rfl⟩
  · go_ret2
    exact ⟨ret2 (add_in ha hb ‹_›), rfl⟩

set_option maxHeartbeats 400000 in
theorem sub_any (a b : Int) (ha : Fits a) (hb : Fits b) (w : World) :
    Calls Tryd.prog 12 #[.int .i64 a, .int .i64 b] w fun e w' => e = .returned (.tuple #[.int .i64 (subP a b).1, .int .i64 (subP a b).2]) ∧ w' = w := by
  go_enter Tryd.func12, Tryd.ntmps12
  go_wp2
  · go_ret2
    exact ⟨ret2 (sub_over ha hb ‹_›), rfl⟩
  · go_ret2
    exact ⟨ret2 (sub_in ha hb ‹_›), rfl⟩

theorem fits0 : Fits 0 := by unfold Fits; omega

set_option maxHeartbeats 400000 in
theorem mul_any (a b : Int) (ha : Fits a) (hb : Fits b) (w : World) :
    Calls Tryd.prog 14 #[.int .i64 a, .int .i64 b] w fun e w' => e = .returned (.tuple #[.int .i64 (mulP a b).1, .int .i64 (mulP a b).2]) ∧ w' = w := by
  by_cases h0 : b = 0
  · subst h0
    go_enter Tryd.func14, Tryd.ntmps14
    go_wp2
    go_ret2
    exact ⟨ret2 (mul_zero a), rfl⟩
  by_cases h1 : b = -1
  · subst h1
    have H : Hid (mulP a (-1) = subP 0 a) := mul_neg a
    go_enter Tryd.func14, Tryd.ntmps14
    go_wp2_with (go_at_call 12; refine (sub_any _ _ fits0 ha _).mono ?_; rintro e w' ⟨rfl, rfl⟩)
    go_ret2
    rw [H.out]
    exact ⟨rfl, rfl⟩
  · have H : Hid (b ≠ 0) := h0
    have H1 : Hid (¬ (a = -9223372036854775808 ∧ b = -1)) := fun h => h1 h.2
    have b0 : (b == 0) = false := by simpa using h0
    have b1 : (b == -1) = false := by simpa using h1
    clear h1
    go_enter Tryd.func14, Tryd.ntmps14
    go_wp2
    · go_ret2
      exact ⟨ret2 (mul_over ha hb H.out H1.out ‹_›), rfl⟩
    · go_ret2
      exact ⟨ret2 (mul_in ha hb H.out H1.out ‹_›), rfl⟩

theorem div_zero (a : Int) : divP a 0 = (0, 9) := by unfold divP; rw [if_pos rfl]
theorem div_over {a b : Int} (h0 : b ≠ 0) (h : a = -9223372036854775808 ∧ b = -1) : divP a b = (0, 8) := by unfold divP; rw [if_neg h0, if_pos h]
theorem div_in {a b : Int} (h0 : b ≠ 0) (h : ¬ (a = -9223372036854775808 ∧ b = -1)) : divP a b = (a.tdiv b, 0) := by unfold divP; rw [if_neg h0, if_neg h]
theorem div_wrap {a b : Int} (ha : Fits a) (h0 : b ≠ 0) (h : ¬ (a = -9223372036854775808 ∧ b = -1)) : divP a b = (wrap64 (a.tdiv b), 0) := by
  rw [div_in h0 h, wrap_fits (tdiv_fits ha h0 h)]
theorem rem_zero (a : Int) : remP a 0 = (0, 9) := by unfold remP; rw [if_pos rfl]
theorem rem_in {a b : Int} (h0 : b ≠ 0) : remP a b = (a.tmod b, 0) := by unfold remP; rw [if_neg h0]
theorem rem_neg (a : Int) : remP a (-1) = (0, 0) := by rw [rem_in (by decide), tmod_neg_one]

set_option maxHeartbeats 400000 in
theorem div_any (a b : Int) (ha : Fits a) (w : World) :
    Calls Tryd.prog 16 #[.int .i64 a, .int .i64 b] w fun e w' => e = .returned (.tuple #[.int .i64 (divP a b).1, .int .i64 (divP a b).2]) ∧ w' = w := by
  by_cases h0 : b = 0
  · subst h0
    go_enter Tryd.func16, Tryd.ntmps16
    go_wp2
    go_ret2
    exact ⟨ret2 (div_zero a), rfl⟩
  have H : Hid (b ≠ 0) := h0
  have b0 : (b == 0) = false := by simpa using h0
  by_cases h1 : a = -9223372036854775808
  · by_cases h2 : b = -1
    · have H2 : Hid (a = -9223372036854775808 ∧ b = -1) := ⟨h1, h2⟩
      have a1 : (a == -9223372036854775808) = true := by simpa using h1
      have b1 : (b == -1) = true := by simpa using h2
      clear h1 h2
      go_enter Tryd.func16, Tryd.ntmps16
      go_wp2
      go_ret2
      exact ⟨ret2 (div_over H.out H2.out), rfl⟩
    · have H2 : Hid (¬ (a = -9223372036854775808 ∧ b = -1)) := fun h => h2 h.2
      have a1 : (a == -9223372036854775808) = true := by simpa using h1
      have b1 : (b == -1) = false := by simpa using h2
      clear h1 h2
      go_enter Tryd.func16, Tryd.ntmps16
      go_wp2
      go_ret2
      exact ⟨ret2 (div_wrap ha H.out H2.out), rfl⟩
  · have H2 : Hid (¬ (a = -9223372036854775808 ∧ b = -1)) := fun h => h1 h.1
    have a1 : (a == -9223372036854775808) = false := by simpa using h1
    clear h1
    go_enter Tryd.func16, Tryd.ntmps16
    go_wp2
    go_ret2
    exact ⟨ret2 (div_wrap ha H.out H2.out), rfl⟩

set_option maxHeartbeats 400000 in
theorem rdiv_any (a b : Int) (ha : Fits a) (w : World) :
    Calls Tryd.prog 17 #[.int .i64 a, .int .i64 b] w fun e w' => e = .returned (.tuple #[.int .i64 (divP a b).1, .int .i64 (divP a b).2]) ∧ w' = w := by
  by_cases h0 : b = 0
  · subst h0
    go_enter Tryd.func17, Tryd.ntmps17
    go_wp2
    go_ret2
    exact ⟨ret2 (div_zero a), rfl⟩
  have H : Hid (b ≠ 0) := h0
  have b0 : (b == 0) = false := by simpa using h0
  by_cases h1 : a = -9223372036854775808
  · by_cases h2 : b = -1
    · have H2 : Hid (a = -9223372036854775808 ∧ b = -1) := ⟨h1, h2⟩
      have a1 : (a == -9223372036854775808) = true := by simpa using h1
      have b1 : (b == -1) = true := by simpa using h2
      clear h1 h2
      go_enter Tryd.func17, Tryd.ntmps17
      go_wp2
      go_ret2
      exact ⟨ret2 (div_over H.out H2.out), rfl⟩
    · have H2 : Hid (¬ (a = -9223372036854775808 ∧ b = -1)) := fun h => h2 h.2
      have a1 : (a == -9223372036854775808) = true := by simpa using h1
      have b1 : (b == -1) = false := by simpa using h2
      clear h1 h2
      go_enter Tryd.func17, Tryd.ntmps17
      go_wp2
      go_ret2
      exact ⟨ret2 (div_wrap ha H.out H2.out), rfl⟩
  · have H2 : Hid (¬ (a = -9223372036854775808 ∧ b = -1)) := fun h => h1 h.1
    have a1 : (a == -9223372036854775808) = false := by simpa using h1
    clear h1
    go_enter Tryd.func17, Tryd.ntmps17
    go_wp2
    go_ret2
    exact ⟨ret2 (div_wrap ha H.out H2.out), rfl⟩

set_option maxHeartbeats 400000 in
theorem rem_any (a b : Int) (w : World) :
    Calls Tryd.prog 18 #[.int .i64 a, .int .i64 b] w fun e w' => e = .returned (.tuple #[.int .i64 (remP a b).1, .int .i64 (remP a b).2]) ∧ w' = w := by
  by_cases h0 : b = 0
  · subst h0
    go_enter Tryd.func18, Tryd.ntmps18
    go_wp2
    go_ret2
    exact ⟨ret2 (rem_zero a), rfl⟩
  · have b0 : (b == 0) = false := by simpa using h0
    have H : Hid (b ≠ 0) := h0
    go_enter Tryd.func18, Tryd.ntmps18
    go_wp2
    go_ret2
    exact ⟨ret2 (rem_in H.out), rfl⟩

set_option maxHeartbeats 400000 in
theorem rrem_any (a b : Int) (w : World) :
    Calls Tryd.prog 19 #[.int .i64 a, .int .i64 b] w fun e w' => e = .returned (.tuple #[.int .i64 (remP a b).1, .int .i64 (remP a b).2]) ∧ w' = w := by
  by_cases h0 : b = 0
  · subst h0
    go_enter Tryd.func19, Tryd.ntmps19
    go_wp2
    go_ret2
    exact ⟨ret2 (rem_zero a), rfl⟩
  by_cases h1 : b = -1
  · subst h1
    go_enter Tryd.func19, Tryd.ntmps19
    go_wp2
    go_ret2
    exact ⟨ret2 (rem_neg a), rfl⟩
  · have b0 : (b == 0) = false := by simpa using h0
    have b1 : (b == -1) = false := by simpa using h1
    have H : Hid (b ≠ 0) := h0
    clear h1
    go_enter Tryd.func19, Tryd.ntmps19
    go_wp2
    go_ret2
    exact ⟨ret2 (rem_in H.out), rfl⟩

set_option maxHeartbeats 400000 in
theorem radd_any (a b : Int) (ha : Fits a) (hb : Fits b) (w : World) :
    Calls Tryd.prog 10 #[.int .i64 a, .int .i64 b] w fun e w' => e = .returned (.tuple #[.int .i64 (addP a b).1, .int .i64 (addP a b).2]) ∧ w' = w := by
  go_enter Tryd.func10, Tryd.ntmps10
  go_wp2
  all_goals
    go_ret2
    refine ⟨ret2 ?_, rfl⟩
    unfold Fits at ha hb
    first
      | (rw [addP_in (by unfold Fits; (try unfold wrap64 at *); omega), wrap_fits (by unfold Fits; (try unfold wrap64 at *); omega)]; done)
      | (rw [addP_out (by unfold Fits; (try unfold wrap64 at *); omega)]; done)

set_option maxHeartbeats 400000 in
theorem rsub_any (a b : Int) (ha : Fits a) (hb : Fits b) (w : World) :
    Calls Tryd.prog 13 #[.int .i64 a, .int .i64 b] w fun e w' => e = .returned (.tuple #[.int .i64 (subP a b).1, .int .i64 (subP a b).2]) ∧ w' = w := by
  go_enter Tryd.func13, Tryd.ntmps13
  go_wp2
  all_goals
    go_ret2
    refine ⟨ret2 ?_, rfl⟩
    unfold Fits at ha hb
    first
      | (rw [subP_in (by unfold Fits; (try unfold wrap64 at *); omega), wrap_fits (by unfold Fits; (try unfold wrap64 at *); omega)]; done)
      | (rw [subP_out (by unfold Fits; (try unfold wrap64 at *); omega)]; done)

set_option maxHeartbeats 1000000 in
theorem rmul_any (a b : Int) (ha : Fits a) (hb : Fits b) (w : World) :
    Calls Tryd.prog 15 #[.int .i64 a, .int .i64 b] w fun e w' => e = .returned (.tuple #[.int .i64 (mulP a b).1, .int .i64 (mulP a b).2]) ∧ w' = w := by
  by_cases h0 : b = 0
  · subst h0
    have H : Hid (mulP a 0 = (0, 0)) := mul_zero a
    by_cases h1 : a = 0
    all_goals
      first
        | have a0 : (a == 0) = true := by simpa using h1
        | have a0 : (a == 0) = false := by simpa using h1
      clear h1
      go_enter Tryd.func15, Tryd.ntmps15
      go_wp2
      go_ret2
      exact ⟨ret2 H.out, rfl⟩
  by_cases h1 : a = 0
  · subst h1
    have H : Hid (mulP 0 b = (0, 0)) := zero_mul b
    go_enter Tryd.func15, Tryd.ntmps15
    go_wp2
    go_ret2
    exact ⟨ret2 H.out, rfl⟩
  have H : Hid (b ≠ 0) := h0
  have a0 : (a == 0) = false := by simpa using h1
  have b0 : (b == 0) = false := by simpa using h0
  clear h1
  by_cases h2 : a = -9223372036854775808 ∧ b = -1
  · have HO : Hid (mulP a b = (0, 8)) := by
      obtain ⟨rfl, rfl⟩ := h2
      exact mulP_out (by unfold Fits; omega)
    have t1 : (a == -1) = false := by rw [h2.1]; decide
    have t2 : (b == -1) = true := by simpa using h2.2
    have t3 : (a == -9223372036854775808) = true := by simpa using h2.1
    clear h2
    go_enter Tryd.func15, Tryd.ntmps15
    go_wp2
    go_ret2
    exact ⟨ret2 HO.out, rfl⟩
  by_cases h3 : a = -1 ∧ b = -9223372036854775808
  · have HO : Hid (mulP a b = (0, 8)) := by
      obtain ⟨rfl, rfl⟩ := h3
      exact mulP_out (by unfold Fits; omega)
    have t1 : (a == -1) = true := by simpa using h3.1
    have t2 : (b == -9223372036854775808) = true := by simpa using h3.2
    clear h2 h3
    go_enter Tryd.func15, Tryd.ntmps15
    go_wp2
    go_ret2
    exact ⟨ret2 HO.out, rfl⟩
  have H2 : Hid (¬ (a = -9223372036854775808 ∧ b = -1)) := h2
  by_cases e1 : a = -1
  · have t1 : (a == -1) = true := by simpa using e1
    have t2 : (b == -9223372036854775808) = false := by simp; omega
    have t4 : (a == -9223372036854775808) = false := by simp; omega
    clear h2 h3 e1
    by_cases e2 : b = -1
    all_goals
      first
        | have t3 : (b == -1) = true := by simpa using e2
        | have t3 : (b == -1) = false := by simpa using e2
      clear e2
      go_enter Tryd.func15, Tryd.ntmps15
      go_wp2
      · go_ret2
        exact ⟨ret2 (mul_over ha hb H.out H2.out ‹_›), rfl⟩
      · go_ret2
        exact ⟨ret2 (mul_in ha hb H.out H2.out ‹_›), rfl⟩
  · have t1 : (a == -1) = false := by simpa using e1
    by_cases e2 : b = -1
    · have t3 : (b == -1) = true := by simpa using e2
      have t4 : (a == -9223372036854775808) = false := by simp; omega
      clear h2 h3 e1 e2
      go_enter Tryd.func15, Tryd.ntmps15
      go_wp2
      · go_ret2
        exact ⟨ret2 (mul_over ha hb H.out H2.out ‹_›), rfl⟩
      · go_ret2
        exact ⟨ret2 (mul_in ha hb H.out H2.out ‹_›), rfl⟩
    · have t3 : (b == -1) = false := by simpa using e2
      clear h2 h3 e1 e2
      go_enter Tryd.func15, Tryd.ntmps15
      go_wp2
      · go_ret2
        exact ⟨ret2 (mul_over ha hb H.out H2.out ‹_›), rfl⟩
      · go_ret2
        exact ⟨ret2 (mul_in ha hb H.out H2.out ‹_›), rfl⟩

set_option maxHeartbeats 400000 in
theorem same_any (n e : Int) (w : World) :
    Calls Tryd.prog 11 #[.int .i64 n, .int .i64 e, .int .i64 n, .int .i64 e] w fun r w' => r = .returned (.bool true) ∧ w' = w := by
  go_enter Tryd.func11, Tryd.ntmps11
  go_wp2
  go_ret
  exact ⟨rfl, rfl⟩
end Go.Proofs.YtkmnboaimhcmiaaDoor
