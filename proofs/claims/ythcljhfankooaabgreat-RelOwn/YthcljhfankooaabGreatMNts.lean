/- Notes. Notes that are made, and held one against the other. -/
import Derived.Test.YthcljhfankooaabGreatMFlt
namespace Go.Proofs.YthcljhfankooaabGreat
open Go.RowKit

def W64 (b : Nat) : Prop := b < 18446744073709551616
theorem conv_fi (b : Nat) (w : World) (h : le50 b = true) : (convert 108 3 (.float .f64 b)).run Tryz.prog w = .ok (.int .i64 (partN b)) w := by
  refine run_convert_float_int w _ _ .f64 .i64 b (partN b) (by kernel_rfl) (by kernel_rfl) ?_
  obtain ⟨h1, h2⟩ := partN_some h
  have h1 : (FloatKind.f64.decode b).toInt .zero = some (partN b) := h1
  unfold floatToIntVal
  rw [h1]
  have a1 : IntKind.i64.min = -9223372036854775808 := by decide
  have a2 : IntKind.i64.max = 9223372036854775807 := by decide
  simp only [a1, a2]
  rw [if_pos (by omega)]
theorem conv_if (n : Int) (w : World) : (convert 3 108 (.int .i64 n)).run Tryz.prog w = .ok (.float .f64 (floatOfInt .f64 n)) w := run_convert_int_float w _ _ .i64 .f64 n (by kernel_rfl) (by kernel_rfl)

set_option maxRecDepth 100000 in
set_option maxHeartbeats 4000000 in
theorem whole_any (b : Nat) (hb : W64 b) (w : World) : Calls Tryz.prog 46 #[.float .f64 b] w fun e w' => e = .returned (.bool (partB b)) ∧ ∃ n, w' = w.drewN n := by
  have ht := mTrunc_any b w
  have ha := fun w => abs_any b hb w
  have h2 := abs50_eq b
  clear hb
  go_enter Tryz.func46, Tryz.ntmps46
  go_wp2_with fail
  refine ht.mono ?_
  clear ht
  rintro e w' ⟨t, n, rfl, hw', h1⟩
  subst hw'
  have HO : (FloatKind.f64.format.order t b == some .eq) = (Ieee.double.order t b == some .eq) := rfl
  generalize (Ieee.double.order t b == some .eq) = c at HO h1
  cases c with
  | false =>
    have HP := hide h1
    clear h1 h2 ha
    go_wp2_with fail
    go_ret
    exact ⟨by rw [← unhide HP]; rfl, n, rfl⟩
  | true =>
    have HP : Hid (le50 b = partB b) := by rw [Bool.true_and] at h1; exact hide h1
    have HL : (FloatKind.f64.format.order (b % 9223372036854775808) 4832362400168542208 == some .lt || FloatKind.f64.format.order (b % 9223372036854775808) 4832362400168542208 == some .eq) = le50 b := h2
    clear h1 h2
    go_wp2_with fail
    refine (ha _).mono ?_
    clear ha
    rintro e w' ⟨rfl, hw'⟩
    subst hw'
    go_wp2_with fail
    go_ret
    exact ⟨by rw [← unhide HP]; rfl, n, rfl⟩

/-- What Height tells. -/
def hgtB (re im : Nat) : Bool := partB re && partB im
def hgtN (re im b : Nat) : Int := if hgtB re im = true then partN b else 0

set_option maxRecDepth 100000 in
set_option maxHeartbeats 4000000 in
theorem height_any (re im : Nat) (hr : W64 re) (hi : W64 im) (w : World) : Calls Tryz.prog 26 #[.complex .f64 re im] w fun e w' => e = .returned (.tuple #[.int .i64 (hgtN re im re), .int .i64 (hgtN re im im), .bool (hgtB re im)]) ∧ ∃ n, w' = w.drewN n := by
  have h1 := whole_any re hr w
  have h2 := fun w => whole_any im hi w
  clear hr hi
  cases c1 : partB re with
  | false =>
    have HB : Hid (hgtB re im = false) := by unfold hgtB; rw [c1]; exact hide rfl
    have HN : Hid (∀ b, hgtN re im b = 0) := fun b => by unfold hgtN; rw [unhide HB]; rfl
    rw [c1] at h1
    clear c1 h2
    go_enter Tryz.func26, Tryz.ntmps26
    go_wp2_with fail
    refine h1.mono ?_
    clear h1
    rintro e w' ⟨rfl, n, hw'⟩
    subst hw'
    go_wp2_with fail
    go_ret3
    exact ⟨by rw [unhide HB, unhide HN, unhide HN]; rfl, n, rfl⟩
  | true =>
    cases c2 : partB im with
    | false =>
      have HB : Hid (hgtB re im = false) := by unfold hgtB; rw [c2, Bool.and_false]; exact hide rfl
      have HN : Hid (∀ b, hgtN re im b = 0) := fun b => by unfold hgtN; rw [unhide HB]; rfl
      rw [c1] at h1
      rw [c2] at h2
      clear c1 c2
      go_enter Tryz.func26, Tryz.ntmps26
      go_wp2_with fail
      refine h1.mono ?_
      clear h1
      rintro e w' ⟨rfl, n, hw'⟩
      subst hw'
      go_wp2_with fail
      refine (h2 _).mono ?_
      clear h2
      rintro e w' ⟨rfl, n2, hw'⟩
      subst hw'
      go_wp2_with fail
      go_ret3
      exact ⟨by rw [unhide HB, unhide HN, unhide HN]; rfl, n + n2, rfl⟩
    | true =>
      have HB : Hid (hgtB re im = true) := by unfold hgtB; rw [c1, c2]; exact hide rfl
      have HN : Hid (∀ b, hgtN re im b = partN b) := fun b => by unfold hgtN; rw [unhide HB]; rfl
      have k1 := fun w => conv_fi re w (by simp only [partB, Bool.and_eq_true] at c1; exact c1.1)
      have k2 := fun w => conv_fi im w (by simp only [partB, Bool.and_eq_true] at c2; exact c2.1)
      rw [c1] at h1
      rw [c2] at h2
      clear c1 c2
      go_enter Tryz.func26, Tryz.ntmps26
      go_wp2_with fail
      refine h1.mono ?_
      clear h1
      rintro e w' ⟨rfl, n, hw'⟩
      subst hw'
      go_wp2_with fail
      refine (h2 _).mono ?_
      clear h2
      rintro e w' ⟨rfl, n2, hw'⟩
      subst hw'
      go_wp2_with fail
      go_ret3
      exact ⟨by rw [unhide HB, unhide HN, unhide HN]; rfl, n + n2, rfl⟩

/-- A part, as the document reads it. -/
def prtN (b : Nat) : Int := if le50 b = true then partN b else 0
set_option maxRecDepth 100000 in
set_option maxHeartbeats 4000000 in
theorem rpart_any (b : Nat) (w : World) : Calls Tryz.prog 73 #[.float .f64 b] w fun e w' => e = .returned (.tuple #[.int .i64 (prtN b), .bool (partB b)]) ∧ w' = w := by
  have h1 := in50_eq b
  cases hl : le50 b with
  | false =>
    rw [hl] at h1
    have HB : Hid (prtN b = 0 ∧ partB b = false) := ⟨by unfold prtN; rw [hl]; rfl, by unfold partB; rw [hl]; rfl⟩
    have HO : (FloatKind.f64.format.order b 14055734437023318016 == some .gt || FloatKind.f64.format.order b 14055734437023318016 == some .eq) = (Ieee.double.order b 14055734437023318016 == some .gt || Ieee.double.order b 14055734437023318016 == some .eq) := rfl
    generalize (Ieee.double.order b 14055734437023318016 == some .gt || Ieee.double.order b 14055734437023318016 == some .eq) = c at HO h1
    clear hl
    cases c with
    | false =>
      clear h1
      go_enter Tryz.func73, Tryz.ntmps73
      go_wp2_with fail
      go_ret2
      exact ⟨by rw [(unhide HB).1, (unhide HB).2]; rfl, rfl⟩
    | true =>
      have HO2 : (FloatKind.f64.format.order b 4832362400168542208 == some .lt || FloatKind.f64.format.order b 4832362400168542208 == some .eq) = false := by rw [Bool.true_and] at h1; exact h1
      clear h1
      go_enter Tryz.func73, Tryz.ntmps73
      go_wp2_with fail
      go_ret2
      exact ⟨by rw [(unhide HB).1, (unhide HB).2]; rfl, rfl⟩
  | true =>
    rw [hl, Bool.and_eq_true] at h1
    have HO : (FloatKind.f64.format.order b 14055734437023318016 == some .gt || FloatKind.f64.format.order b 14055734437023318016 == some .eq) = true := h1.1
    have HO2 : (FloatKind.f64.format.order b 4832362400168542208 == some .lt || FloatKind.f64.format.order b 4832362400168542208 == some .eq) = true := h1.2
    have HB : Hid (prtN b = partN b ∧ partB b = (FloatKind.f64.format.order (floatOfInt .f64 (partN b)) b == some .eq)) := ⟨by unfold prtN; rw [hl]; rfl, by unfold partB; rw [hl]; rfl⟩
    have k1 := conv_fi b w hl
    have k2 := conv_if (partN b) w
    clear hl h1
    go_enter Tryz.func73, Tryz.ntmps73
    go_wp2_with fail
    go_ret2
    exact ⟨by rw [(unhide HB).1, (unhide HB).2]; rfl, rfl⟩
end Go.Proofs.YthcljhfankooaabGreat

namespace Go.Proofs.YthcljhfankooaabGreat
open Go.RowKit

set_option maxRecDepth 100000 in
set_option maxHeartbeats 4000000 in
theorem rheight_any (re im : Nat) (w : World) : Calls Tryz.prog 53 #[.float .f64 re, .float .f64 im] w fun e w' => e = .returned (.tuple #[.int .i64 (hgtN re im re), .int .i64 (hgtN re im im), .bool (hgtB re im)]) ∧ w' = w := by
  have h1 := rpart_any re w
  have h2 := rpart_any im w
  have HS : Hid (∀ b, partB b = true → prtN b = partN b) := fun b hb => by
    unfold prtN
    simp only [partB, Bool.and_eq_true] at hb
    rw [if_pos hb.1]
  cases c1 : partB re with
  | false =>
    have HB : Hid (hgtB re im = false) := by unfold hgtB; rw [c1]; exact hide rfl
    have HN : Hid (∀ b, hgtN re im b = 0) := fun b => by unfold hgtN; rw [unhide HB]; rfl
    rw [c1] at h1
    clear c1
    go_enter Tryz.func53, Tryz.ntmps53
    go_wp2_with fail
    refine h1.mono ?_
    clear h1
    rintro e w' ⟨rfl, hw'⟩
    subst hw'
    go_wp2_with fail
    refine h2.mono ?_
    clear h2
    rintro e w' ⟨rfl, hw'⟩
    subst hw'
    go_wp2_with fail
    go_ret3
    exact ⟨by rw [unhide HB, unhide HN, unhide HN]; rfl, rfl⟩
  | true =>
    cases c2 : partB im with
    | false =>
      have HB : Hid (hgtB re im = false) := by unfold hgtB; rw [c2, Bool.and_false]; exact hide rfl
      have HN : Hid (∀ b, hgtN re im b = 0) := fun b => by unfold hgtN; rw [unhide HB]; rfl
      rw [c1] at h1
      rw [c2] at h2
      clear c1 c2
      go_enter Tryz.func53, Tryz.ntmps53
      go_wp2_with fail
      refine h1.mono ?_
      clear h1
      rintro e w' ⟨rfl, hw'⟩
      subst hw'
      go_wp2_with fail
      refine h2.mono ?_
      clear h2
      rintro e w' ⟨rfl, hw'⟩
      subst hw'
      go_wp2_with fail
      go_ret3
      exact ⟨by rw [unhide HB, unhide HN, unhide HN]; rfl, rfl⟩
    | true =>
      have HB : Hid (hgtB re im = true) := by unfold hgtB; rw [c1, c2]; exact hide rfl
      have HN : Hid (∀ b, hgtN re im b = partN b) := fun b => by unfold hgtN; rw [unhide HB]; rfl
      rw [c1, unhide HS re c1] at h1
      rw [c2, unhide HS im c2] at h2
      clear c1 c2
      go_enter Tryz.func53, Tryz.ntmps53
      go_wp2_with fail
      refine h1.mono ?_
      clear h1
      rintro e w' ⟨rfl, hw'⟩
      subst hw'
      go_wp2_with fail
      refine h2.mono ?_
      clear h2
      rintro e w' ⟨rfl, hw'⟩
      subst hw'
      go_wp2_with fail
      go_ret3
      exact ⟨by rw [unhide HB, unhide HN, unhide HN]; rfl, rfl⟩

/-- May it be a height, or a rule? -/
def inN (n : Int) : Bool := decide (-1125899906842624 ≤ n) && decide (n ≤ 1125899906842624)
theorem inN_abs {n : Int} (h : inN n = true) : n.natAbs ≤ 1125899906842624 := by
  simp only [inN, Bool.and_eq_true, decide_eq_true_eq] at h
  omega

set_option maxRecDepth 100000 in
set_option maxHeartbeats 4000000 in
theorem within_any (n : Int) (w : World) : Calls Tryz.prog 49 #[.int .i64 n] w fun e w' => e = .returned (.bool (inN n)) ∧ w' = w := by
  by_cases h : -1125899906842624 ≤ n
  · have HB : Hid (inN n = decide (n ≤ 1125899906842624)) := by unfold inN; rw [decide_eq_true h, Bool.true_and]; exact hide rfl
    go_enter Tryz.func49, Tryz.ntmps49
    go_wp2_with fail
    go_ret
    exact ⟨by rw [unhide HB]; rfl, rfl⟩
  · have HB : Hid (inN n = false) := by unfold inN; rw [decide_eq_false h, Bool.false_and]; exact hide rfl
    go_enter Tryz.func49, Tryz.ntmps49
    go_wp2_with fail
    go_ret
    exact ⟨by rw [unhide HB]; rfl, rfl⟩



/-- The note of a height and a rule. -/
def noteV (h k : Int) : Value := .complex .f64 (floatOfInt .f64 h) (floatOfInt .f64 k)
set_option maxRecDepth 100000 in
set_option maxHeartbeats 4000000 in
theorem noteOf_any (h k : Int) (w : World) : Calls Tryz.prog 28 #[.int .i64 h, .int .i64 k] w fun e w' => e = .returned (noteV h k) ∧ w' = w := by
  have k1 := conv_if h w
  have k2 := conv_if k w
  have HV : Hid (noteV h k = .complex .f64 (floatOfInt .f64 h) (floatOfInt .f64 k)) := rfl
  go_enter Tryz.func28, Tryz.ntmps28
  go_wp2_with fail
  go_ret
  exact ⟨by rw [unhide HV]; rfl, rfl⟩

/-- What Note tells. -/
def ntV (h k : Int) : Value := if (inN h && inN k) = true then noteV h k else .complex .f64 0 0
def ntE (h k : Int) : Int := if (inN h && inN k) = true then 0 else 1
set_option maxRecDepth 100000 in
set_option maxHeartbeats 4000000 in
theorem note_any (h k : Int) (w : World) : Calls Tryz.prog 29 #[.int .i64 h, .int .i64 k] w fun e w' => e = .returned (.tuple #[ntV h k, .int .i64 (ntE h k)]) ∧ w' = w := by
  have h1 := within_any h w
  have h2 := within_any k w
  have h3 := noteOf_any h k w
  cases c1 : inN h with
  | false =>
    have HB : Hid (ntV h k = .complex .f64 0 0 ∧ ntE h k = 1) := by unfold ntV ntE; rw [c1]; exact ⟨rfl, rfl⟩
    rw [c1] at h1
    clear c1 h2 h3
    go_enter Tryz.func29, Tryz.ntmps29
    go_wp2_with fail
    refine h1.mono ?_
    clear h1
    rintro e w' ⟨rfl, hw'⟩
    subst hw'
    go_wp2_with fail
    go_ret2
    exact ⟨by rw [(unhide HB).1, (unhide HB).2]; rfl, rfl⟩
  | true =>
    cases c2 : inN k with
    | false =>
      have HB : Hid (ntV h k = .complex .f64 0 0 ∧ ntE h k = 1) := by unfold ntV ntE; rw [c2, Bool.and_false]; exact ⟨rfl, rfl⟩
      rw [c1] at h1
      rw [c2] at h2
      clear c1 c2 h3
      go_enter Tryz.func29, Tryz.ntmps29
      go_wp2_with fail
      refine h1.mono ?_
      clear h1
      rintro e w' ⟨rfl, hw'⟩
      subst hw'
      go_wp2_with fail
      refine h2.mono ?_
      clear h2
      rintro e w' ⟨rfl, hw'⟩
      subst hw'
      go_wp2_with fail
      go_ret2
      exact ⟨by rw [(unhide HB).1, (unhide HB).2]; rfl, rfl⟩
    | true =>
      have HB : Hid (ntV h k = noteV h k ∧ ntE h k = 0) := by unfold ntV ntE; rw [c1, c2]; exact ⟨rfl, rfl⟩
      rw [c1] at h1
      rw [c2] at h2
      clear c1 c2
      go_enter Tryz.func29, Tryz.ntmps29
      go_wp2_with fail
      refine h1.mono ?_
      clear h1
      rintro e w' ⟨rfl, hw'⟩
      subst hw'
      go_wp2_with fail
      refine h2.mono ?_
      clear h2
      rintro e w' ⟨rfl, hw'⟩
      subst hw'
      go_wp2_with fail
      refine h3.mono ?_
      clear h3
      rintro e w' ⟨rfl, hw'⟩
      subst hw'
      go_wp2_with fail
      go_ret2
      exact ⟨by rw [(unhide HB).1, (unhide HB).2]; rfl, rfl⟩

/-- Is a note better? -/
def betB (a b c d : Int) : Bool := if a = c then decide (b < d) else decide (a < c)
theorem ord_lt {a b : Nat} {n m : Int} (ha : IsI a n) (hb : IsI b m) : (FloatKind.f64.format.order a b == some .lt) = decide (n < m) := by
  show (Ieee.double.order a b == some .lt) = _
  rw [order_isI ha hb]
  rcases Int.lt_trichotomy n m with h | h | h
  · rw [Int.compare_eq_lt.2 h, decide_eq_true h]; rfl
  · rw [Int.compare_eq_eq.2 h, decide_eq_false (by omega)]; rfl
  · rw [Int.compare_eq_gt.2 h, decide_eq_false (by omega)]; rfl
theorem ord_ne {a b : Nat} {n m : Int} (ha : IsI a n) (hb : IsI b m) : (FloatKind.f64.format.order a b != some .eq) = !decide (n = m) := by
  show (!(Ieee.double.order a b == some .eq)) = _
  rw [order_isI ha hb]
  rcases Int.lt_trichotomy n m with h | h | h
  · rw [Int.compare_eq_lt.2 h, decide_eq_false (by omega)]; rfl
  · rw [Int.compare_eq_eq.2 h, decide_eq_true h]; rfl
  · rw [Int.compare_eq_gt.2 h, decide_eq_false (by omega)]; rfl
theorem ord_eq {a b : Nat} {n m : Int} (ha : IsI a n) (hb : IsI b m) : (FloatKind.f64.format.order a b == some .eq) = decide (n = m) := by
  have := ord_ne ha hb
  rw [bne, Bool.not_eq_eq_eq_not, Bool.not_not] at this
  exact this
set_option maxRecDepth 100000 in
set_option maxHeartbeats 4000000 in
theorem better_any (a b c d : Int) (x y u v : Nat) (ha : IsI x a) (hb : IsI y b) (hc : IsI u c) (hd : IsI v d) (w : World) : Calls Tryz.prog 47 #[.complex .f64 x y, .complex .f64 u v] w fun e w' => e = .returned (.bool (betB a b c d)) ∧ w' = w := by
  have h1 := ord_ne ha hc
  have h2 := ord_lt ha hc
  have h3 := ord_lt hb hd
  clear ha hb hc hd
  by_cases h : a = c
  · have HB : Hid (betB a b c d = decide (b < d)) := if_pos h
    rw [decide_eq_true h] at h1
    clear h h2
    go_enter Tryz.func47, Tryz.ntmps47
    go_wp2_with fail
    go_ret
    exact ⟨by rw [unhide HB]; rfl, rfl⟩
  · have HB : Hid (betB a b c d = decide (a < c)) := if_neg h
    rw [decide_eq_false h] at h1
    clear h h3
    go_enter Tryz.func47, Tryz.ntmps47
    go_wp2_with fail
    go_ret
    exact ⟨by rw [unhide HB]; rfl, rfl⟩
end Go.Proofs.YthcljhfankooaabGreat
