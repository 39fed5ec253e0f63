/- Floats that are whole numbers. Floats between -2^50 and 2^50, and which of them are whole. The walks over floats. -/
import Derived.Laws.FloatArith
import Derived.Laws.Cover3
import Derived.Test.YthcljhfankooaabGreatBMem
import Derived.Laws.BitsAllLaws
import Derived.WalkLawsBesides
namespace Go.Proofs.YthcljhfankooaabGreat

/-- The float of these bits is the whole number n. -/
def IsI (b : Nat) (n : Int) : Prop := ∃ (s : Bool) (q k : Nat), Ieee.double.read b = .number s (q * 2 ^ k) (-(k : Int)) ∧ n = (if s then -(q : Int) else q)

theorem signed_eq (s : Bool) (m u : Nat) : Ieee.signed s m u = (if s then -(m : Int) else m) * ((2 ^ u : Nat) : Int) := by
  unfold Ieee.signed
  rw [Nat.shiftLeft_eq]
  cases s <;> simp [Int.neg_mul]

theorem compare_mul (a b : Int) (c : Nat) (hc : 0 < c) : compare (a * (c : Int)) (b * (c : Int)) = compare a b := by
  have hc' : (0 : Int) < c := by omega
  rcases Int.lt_trichotomy a b with h | h | h
  · rw [Int.compare_eq_lt.2 h, Int.compare_eq_lt.2 (Int.mul_lt_mul_of_pos_right h hc')]
  · rw [h, Int.compare_eq_eq.2 rfl, Int.compare_eq_eq.2 rfl]
  · rw [Int.compare_eq_gt.2 h, Int.compare_eq_gt.2 (Int.mul_lt_mul_of_pos_right h hc')]

/-- How a whole number stands to any number. -/
theorem order_num (s t : Bool) (q k m j : Nat) : Ieee.Datum.order (.number s (q * 2 ^ k) (-(k : Int))) (.number t m (-(j : Int))) = some (compare ((if s then -(q : Int) else q) * ((2 ^ j : Nat) : Int)) (if t then -(m : Int) else m)) := by
  unfold Ieee.Datum.order
  simp only [signed_eq]
  congr 1
  by_cases h : j ≤ k
  · have e1 : min (-(k : Int)) (-(j : Int)) = -(k : Int) := by omega
    rw [e1]
    have e2 : (-(k : Int) - -(k : Int)).toNat = 0 := by omega
    have e3 : (-(j : Int) - -(k : Int)).toNat = k - j := by omega
    rw [e2, e3]
    have e4 : (2 : Nat) ^ k = 2 ^ j * 2 ^ (k - j) := by rw [← Nat.pow_add]; congr 1; omega
    have hp : 0 < (2 : Nat) ^ (k - j) := Nat.two_pow_pos _
    rw [← compare_mul ((if s then -(q : Int) else q) * ((2 ^ j : Nat) : Int)) _ (2 ^ (k - j)) hp]
    congr 1
    cases s
    · simp only [Bool.false_eq_true, if_false, e4]; push_cast; simp [Int.mul_assoc]
    · simp only [if_true, e4]; push_cast; simp [Int.mul_assoc, Int.neg_mul]
  · have e1 : min (-(k : Int)) (-(j : Int)) = -(j : Int) := by omega
    rw [e1]
    have e2 : (-(j : Int) - -(j : Int)).toNat = 0 := by omega
    have e3 : (-(k : Int) - -(j : Int)).toNat = j - k := by omega
    rw [e2, e3]
    have e4 : (2 : Nat) ^ j = 2 ^ k * 2 ^ (j - k) := by rw [← Nat.pow_add]; congr 1; omega
    congr 1
    · cases s
      · simp only [Bool.false_eq_true, if_false, e4]; push_cast; simp [Int.mul_assoc]
      · simp only [if_true, e4]; push_cast; simp [Int.mul_assoc, Int.neg_mul]
    · simp

theorem order_isI {a b : Nat} {n m : Int} (ha : IsI a n) (hb : IsI b m) : Ieee.double.order a b = some (compare n m) := by
  obtain ⟨s, q, k, e1, rfl⟩ := ha
  obtain ⟨t, r, j, e2, rfl⟩ := hb
  unfold Ieee.Format.order
  rw [e1, e2, order_num]
  congr 1
  have hp : 0 < (2 : Nat) ^ j := Nat.two_pow_pos _
  rw [← compare_mul (if s then -(q : Int) else q) (if t then -(r : Int) else r) (2 ^ j) hp]
  congr 1
  cases t
  · simp only [Bool.false_eq_true, if_false]; push_cast; rfl
  · simp only [if_true]; push_cast; simp [Int.neg_mul]

theorem toInt_isI {b : Nat} {n : Int} (h : IsI b n) : (Ieee.double.read b).toInt .zero = some n := by
  obtain ⟨s, q, k, e, rfl⟩ := h
  rw [e]
  unfold Ieee.Datum.toInt Ieee.Datum.integral Ieee.Toward.cut
  simp only [signed_eq, Nat.shiftLeft_eq, Bool.toNat_false, Nat.add_zero, Nat.one_mul]
  have e1 : (-(k : Int)).toNat = 0 := by omega
  have e2 : (- -(k : Int)).toNat = k := by omega
  rw [e1, e2]
  simp only [Nat.pow_zero, Nat.mul_one]
  congr 1
  have hq : q * 2 ^ k / 2 ^ min k ((q * 2 ^ k).log2 + 2) = q := by
    by_cases h0 : q = 0
    · simp [h0]
    · have h1 : 2 ^ k ≤ q * 2 ^ k := Nat.le_mul_of_pos_left _ (by omega)
      have h2 : k ≤ (q * 2 ^ k).log2 := (Nat.le_log2 (by have := Nat.two_pow_pos k; omega)).2 h1
      rw [Nat.min_eq_left (by omega)]
      exact Nat.mul_div_cancel _ (Nat.two_pow_pos _)
  rw [hq]
  simp

/-- The same value, hence the same whole number. -/
theorem isI_of_eq {a b : Nat} {n : Int} {t : Bool} {m j : Nat} (ha : IsI a n) (hb : Ieee.double.read b = .number t m (-(j : Int))) (h : Ieee.double.order a b = some .eq) : IsI b n := by
  obtain ⟨s, q, k, e1, rfl⟩ := ha
  unfold Ieee.Format.order at h
  rw [e1, hb, order_num] at h
  have h := Int.compare_eq_eq.1 (Option.some.inj h)
  have hm : m = q * 2 ^ j := by
    have := congrArg Int.natAbs h
    cases s <;> cases t <;> simp [Int.natAbs_mul, Int.natAbs_pow] at this <;> omega
  refine ⟨t, q, j, by rw [hb, hm], ?_⟩
  by_cases h0 : q = 0
  · subst h0; cases s <;> cases t <;> rfl
  · have hp : 0 < (2 : Nat) ^ j := Nat.two_pow_pos _
    have hm0 : 0 < m := by rw [hm]; exact Nat.mul_pos (by omega) hp
    have hq0 : (0 : Int) < (q : Int) * ((2 ^ j : Nat) : Int) := Int.mul_pos (by omega) (by omega)
    cases s <;> cases t
    · rfl
    · exfalso; simp only [Bool.false_eq_true, if_false, if_true] at h; omega
    · exfalso; simp only [Bool.false_eq_true, if_false, if_true, Int.neg_mul] at h; omega
    · rfl

/-- What a word stands for, below infinity. -/
theorem read_lo {b r : Nat} (hr : b % 9223372036854775808 = r) (h : r < 4503599627370496) : Ieee.double.read b = .number (b / 9223372036854775808 % 2 == 1) r (-((1074 : Nat) : Int)) := by
  have e1 : Ieee.double.signWeight = 9223372036854775808 := by decide
  have e2 : Ieee.double.binade = 4503599627370496 := by decide
  have e3 : Ieee.double.leastPlace = -((1074 : Nat) : Int) := by decide
  unfold Ieee.Format.read
  simp only [e1, e2, e3, hr, if_pos h]
theorem read_hi {b r : Nat} (hr : b % 9223372036854775808 = r) (h : 4503599627370496 ≤ r) (h2 : r < 9218868437227405312) : Ieee.double.read b = .number (b / 9223372036854775808 % 2 == 1) (4503599627370496 + r % 4503599627370496) (-((1074 : Nat) : Int) + ((r / 4503599627370496 - 1 : Nat) : Int)) := by
  have e1 : Ieee.double.signWeight = 9223372036854775808 := by decide
  have e2 : Ieee.double.binade = 4503599627370496 := by decide
  have e3 : Ieee.double.leastPlace = -((1074 : Nat) : Int) := by decide
  have e4 : Ieee.double.infRung = 9218868437227405312 := by decide
  unfold Ieee.Format.read
  simp only [e1, e2, e3, e4, hr, if_neg (show ¬ r < 4503599627370496 by omega), if_pos h2]
theorem read_end {b r : Nat} (hr : b % 9223372036854775808 = r) (h2 : 9218868437227405312 ≤ r) : Ieee.double.read b = (if r = 9218868437227405312 then .infinity (b / 9223372036854775808 % 2 == 1) else .nan (b / 9223372036854775808 % 2 == 1) (r - 9218868437227405312)) := by
  have e1 : Ieee.double.signWeight = 9223372036854775808 := by decide
  have e2 : Ieee.double.binade = 4503599627370496 := by decide
  have e4 : Ieee.double.infRung = 9218868437227405312 := by decide
  unfold Ieee.Format.read
  simp only [e1, e2, e4, hr, if_neg (show ¬ r < 4503599627370496 by omega), if_neg (show ¬ r < 9218868437227405312 by omega)]

theorem isI_zero {b : Nat} {s : Bool} {k : Nat} (h : Ieee.double.read b = .number s 0 (-(k : Int))) : IsI b 0 := ⟨s, 0, k, by rw [h, Nat.zero_mul], by cases s <;> rfl⟩
/-- A whole number's float. -/
theorem isI_of_int (n : Int) (h : n.natAbs ≤ 1125899906842624) : IsI (floatOfInt .f64 n) n := by
  show IsI (Ieee.double.nearest (n < 0) n.natAbs 0) n
  by_cases h0 : n.natAbs = 0
  · have hn : n = 0 := by omega
    subst hn
    exact isI_zero (read_lo (b := 0) (r := 0) rfl (by omega))
  · generalize hq : n.natAbs = q at h h0
    have hL : q.log2 ≤ 50 := by
      have := (Nat.log2_lt h0 (k := 51)).2 (by omega)
      omega
    obtain ⟨L, hLe⟩ : ∃ L, L = q.log2 := ⟨_, rfl⟩
    have hlo : 2 ^ L ≤ q := by rw [hLe]; exact Nat.log2_self_le h0
    have hhi : q < 2 ^ (L + 1) := by rw [hLe]; exact Nat.lt_log2_self
    have e3 : Ieee.double.leastPlace = -((1074 : Nat) : Int) := by decide
    have e2 : Ieee.double.binade = 4503599627370496 := by decide
    have e4 : Ieee.double.infRung = 9218868437227405312 := by decide
    have e5 : Ieee.double.fractionBits = 52 := rfl
    have e6 : Ieee.double.signWeight = 9223372036854775808 := by decide
    rw [← hLe] at hL
    have k1 : q * 2 ^ (52 - L) < 2 ^ 53 := by
      have : q * 2 ^ (52 - L) < 2 ^ (L + 1) * 2 ^ (52 - L) := Nat.mul_lt_mul_of_pos_right hhi (Nat.two_pow_pos _)
      rw [← Nat.pow_add, show L + 1 + (52 - L) = 53 by omega] at this
      exact this
    have k2 : 2 ^ 52 ≤ q * 2 ^ (52 - L) := by
      have : 2 ^ L * 2 ^ (52 - L) ≤ q * 2 ^ (52 - L) := Nat.mul_le_mul_right _ hlo
      rw [← Nat.pow_add, show L + (52 - L) = 52 by omega] at this
      exact this
    obtain ⟨K, hK⟩ : ∃ K, K = q * 2 ^ (52 - L) := ⟨_, rfl⟩
    rw [← hK] at k1 k2
    have hw : Ieee.double.nearest (decide (n < 0)) q 0 = Ieee.double.word (decide (n < 0)) ((L + 1022) * 4503599627370496 + K) := by
      unfold Ieee.Format.nearest
      rw [if_neg h0, ← hLe]
      simp only [e2, e3, e4, e5]
      have m1 : max ((0 : Int) + (L : Int) - ((52 : Nat) : Int)) (-((1074 : Nat) : Int)) = (L : Int) - 52 := by omega
      rw [m1]
      have m2 : ((0 : Int) - ((L : Int) - 52)).toNat = 52 - L := by omega
      have m3 : ((L : Int) - 52 - 0).toNat = 0 := by omega
      have m4 : ((L : Int) - 52 - -((1074 : Nat) : Int)).toNat = L + 1022 := by omega
      rw [m2, m3, m4, Nat.shiftLeft_eq, ← hK]
      unfold Ieee.Toward.cut
      simp only [Nat.zero_min, Nat.shiftLeft_zero, Nat.div_one, Nat.mod_one]
      have : (decide (1 < 2 * 0) || (1 == 2 * 0 && K % 2 == 1)) = false := by simp
      rw [this, Bool.toNat_false]
      simp only [Nat.add_zero]
      rw [Nat.min_eq_left (by omega)]
    rw [hw]
    have hrl : (L + 1022) * 4503599627370496 + K < 9218868437227405312 := by omega
    have hrg : 4503599627370496 ≤ (L + 1022) * 4503599627370496 + K := by omega
    have hmod : ((L + 1022) * 4503599627370496 + K) % 4503599627370496 = K - 4503599627370496 := by omega
    have hdiv : ((L + 1022) * 4503599627370496 + K) / 4503599627370496 - 1 = L + 1022 := by omega
    by_cases hn : n < 0
    · have hwd : Ieee.double.word (decide (n < 0)) ((L + 1022) * 4503599627370496 + K) = 9223372036854775808 + ((L + 1022) * 4503599627370496 + K) := by
        unfold Ieee.Format.word
        rw [e6]; simp [hn]
      rw [hwd]
      have hrd := read_hi (b := 9223372036854775808 + ((L + 1022) * 4503599627370496 + K)) (r := (L + 1022) * 4503599627370496 + K) (by rw [Nat.add_mod_left]; exact Nat.mod_eq_of_lt (by omega)) hrg hrl
      rw [hmod, hdiv] at hrd
      refine ⟨true, q, 52 - L, ?_, ?_⟩
      · rw [hrd]
        have : ((9223372036854775808 + ((L + 1022) * 4503599627370496 + K)) / 9223372036854775808 % 2 == 1) = true := by
          have : (9223372036854775808 + ((L + 1022) * 4503599627370496 + K)) / 9223372036854775808 = 1 := by omega
          rw [this]; rfl
        rw [this, ← hK, show 4503599627370496 + (K - 4503599627370496) = K by omega, show -((1074 : Nat) : Int) + ((L + 1022 : Nat) : Int) = -((52 - L : Nat) : Int) by omega]
      · simp only [if_true]; omega
    · have hwd : Ieee.double.word (decide (n < 0)) ((L + 1022) * 4503599627370496 + K) = (L + 1022) * 4503599627370496 + K := by
        unfold Ieee.Format.word
        simp [hn]
      rw [hwd]
      have hrd := read_hi (b := (L + 1022) * 4503599627370496 + K) (r := (L + 1022) * 4503599627370496 + K) (Nat.mod_eq_of_lt (by omega)) hrg hrl
      rw [hmod, hdiv] at hrd
      refine ⟨false, q, 52 - L, ?_, ?_⟩
      · rw [hrd]
        have : (((L + 1022) * 4503599627370496 + K) / 9223372036854775808 % 2 == 1) = false := by
          have : ((L + 1022) * 4503599627370496 + K) / 9223372036854775808 = 0 := by omega
          rw [this]; rfl
        rw [this, ← hK, show 4503599627370496 + (K - 4503599627370496) = K by omega, show -((1074 : Nat) : Int) + ((L + 1022 : Nat) : Int) = -((52 - L : Nat) : Int) by omega]
      · simp only [Bool.false_eq_true, if_false]; omega
end Go.Proofs.YthcljhfankooaabGreat

namespace Go.Proofs.YthcljhfankooaabGreat

theorem order_num' (s t : Bool) (q k m j : Nat) : Ieee.Datum.order (.number t m (-(j : Int))) (.number s (q * 2 ^ k) (-(k : Int))) = some (compare (if t then -(m : Int) else m) ((if s then -(q : Int) else q) * ((2 ^ j : Nat) : Int))) := by
  have h := order_num s t q k m j
  unfold Ieee.Datum.order at h ⊢
  simp only [Option.some.injEq] at h ⊢
  rw [Int.min_comm, ← Int.compare_swap, h, Int.compare_swap]

/-- Is it between them? -/
def le50 (b : Nat) : Bool := decide (b % 9223372036854775808 ≤ 4832362400168542208)
theorem pow2_le {j : Nat} (h : 2 ≤ j) : 4 ≤ 2 ^ j := by
  have : 2 ^ 2 ≤ 2 ^ j := Nat.pow_le_pow_right (by omega) h
  omega
theorem small_of {b : Nat} (h : le50 b = true) : ∃ m j : Nat, Ieee.double.read b = .number (b / 9223372036854775808 % 2 == 1) m (-(j : Int)) ∧ 2 ≤ j ∧ m ≤ 1125899906842624 * 2 ^ j ∧ (b % 9223372036854775808 < 4503599627370496 ∧ m = b % 9223372036854775808 ∧ j = 1074 ∨ 4503599627370496 ≤ b % 9223372036854775808 ∧ m = 4503599627370496 + b % 4503599627370496 ∧ j = 1075 - b % 9223372036854775808 / 4503599627370496) := by
  have h : b % 9223372036854775808 ≤ 4832362400168542208 := of_decide_eq_true h
  have hbm : b % 9223372036854775808 % 4503599627370496 = b % 4503599627370496 := Nat.mod_mod_of_dvd _ ⟨2048, rfl⟩
  generalize hr : b % 9223372036854775808 = r at h hbm
  by_cases hlo : r < 4503599627370496
  · refine ⟨r, 1074, read_lo hr hlo, by omega, ?_, .inl ⟨hlo, rfl, rfl⟩⟩
    have := pow2_le (j := 1074) (by omega)
    generalize (2 : Nat) ^ 1074 = z at this
    omega
  · have hrd := read_hi hr (by omega) (by omega)
    obtain ⟨e, he⟩ : ∃ e, e = r / 4503599627370496 := ⟨_, rfl⟩
    obtain ⟨f, hf⟩ : ∃ f, f = b % 4503599627370496 := ⟨_, rfl⟩
    rw [hbm] at hrd
    rw [← he, ← hf] at hrd
    have h1 : 1 ≤ e := by omega
    have h2 : e ≤ 1073 := by omega
    have h3 : f < 4503599627370496 := by omega
    have h4 : e = 1073 → f = 0 := by omega
    rw [← he, ← hf]
    refine ⟨4503599627370496 + f, 1075 - e, ?_, by omega, ?_, .inr ⟨by omega, rfl, rfl⟩⟩
    · rw [hrd]
      congr 1
      omega
    · by_cases h5 : e = 1073
      · rw [h4 h5, h5]; decide
      · have : 2 ^ 3 ≤ 2 ^ (1075 - e) := Nat.pow_le_pow_right (by omega) (by omega)
        generalize (2 : Nat) ^ (1075 - e) = z at this
        omega
theorem read_2_50 : Ieee.double.read 4832362400168542208 = .number false (1125899906842624 * 2 ^ 2) (-((2 : Nat) : Int)) := by decide
theorem read_m2_50 : Ieee.double.read 14055734437023318016 = .number true (1125899906842624 * 2 ^ 2) (-((2 : Nat) : Int)) := by decide

theorem big_order (s t : Bool) (m : Nat) (p : Int) (hp : -2 ≤ p) (hm : 4503599627370496 ≤ m) (h : p = -2 → 4503599627370496 < m) : Ieee.Datum.order (.number s m p) (.number t (1125899906842624 * 2 ^ 2) (-((2 : Nat) : Int))) = some (if s then .lt else .gt) := by
  unfold Ieee.Datum.order
  simp only [signed_eq]
  have e1 : min p (-((2 : Nat) : Int)) = -2 := by omega
  rw [e1]
  have e2 : (-((2 : Nat) : Int) - -2).toNat = 0 := by omega
  have e3 : (p - -2).toNat = (p + 2).toNat := by omega
  rw [e2, e3]
  have hk : 4503599627370496 < m * 2 ^ (p + 2).toNat := by
    by_cases hp2 : p = -2
    · have := h hp2
      subst hp2
      simpa using this
    · have : 2 ^ 1 ≤ 2 ^ (p + 2).toNat := Nat.pow_le_pow_right (by omega) (by omega)
      have : m * 2 ^ 1 ≤ m * 2 ^ (p + 2).toNat := Nat.mul_le_mul_left _ this
      omega
  congr 1
  have A : (m : Int) * ((2 ^ (p + 2).toNat : Nat) : Int) = ((m * 2 ^ (p + 2).toNat : Nat) : Int) := (Int.natCast_mul _ _).symm
  have B : ((1125899906842624 * 2 ^ 2 : Nat) : Int) * ((2 ^ 0 : Nat) : Int) = 4503599627370496 := by decide
  generalize m * 2 ^ (p + 2).toNat = z at hk A
  cases s <;> cases t
  all_goals simp only [Bool.false_eq_true, if_false, if_true, Int.neg_mul]
  all_goals rw [A, B]
  · exact Int.compare_eq_gt.2 (by omega)
  · exact Int.compare_eq_gt.2 (by omega)
  · exact Int.compare_eq_lt.2 (by omega)
  · exact Int.compare_eq_lt.2 (by omega)

theorem big_of {b : Nat} (h : le50 b = false) (h2 : b % 9223372036854775808 < 9218868437227405312) : ∃ (m : Nat) (p : Int), Ieee.double.read b = .number (b / 9223372036854775808 % 2 == 1) m p ∧ -2 ≤ p ∧ 4503599627370496 ≤ m ∧ (p = -2 → 4503599627370496 < m) := by
  have h : ¬ b % 9223372036854775808 ≤ 4832362400168542208 := of_decide_eq_false h
  generalize hr : b % 9223372036854775808 = r at h h2
  refine ⟨_, _, read_hi hr (by omega) h2, ?_, by omega, ?_⟩
  · omega
  · intro e
    omega
/-- Against 2^50, and against -2^50. -/
theorem hi_big {b c : Nat} {t : Bool} (h : le50 b = false) (hc : Ieee.double.read c = .number t (1125899906842624 * 2 ^ 2) (-((2 : Nat) : Int))) : Ieee.double.order b c = (if b % 9223372036854775808 ≤ 9218868437227405312 then some (if b / 9223372036854775808 % 2 == 1 then .lt else .gt) else none) := by
  unfold Ieee.Format.order
  rw [hc]
  by_cases h2 : b % 9223372036854775808 < 9218868437227405312
  · obtain ⟨m, p, e, h3, h4, h5⟩ := big_of h h2
    have h7 : b % 9223372036854775808 ≤ 9218868437227405312 := by omega
    rw [e, big_order _ t m p h3 h4 h5]
    simp only [h7, if_true]
  · rw [read_end rfl (by omega)]
    by_cases h6 : b % 9223372036854775808 = 9218868437227405312
    · have h7 : b % 9223372036854775808 ≤ 9218868437227405312 := by omega
      simp only [h6, if_true]
      rfl
    · have h7 : ¬ b % 9223372036854775808 ≤ 9218868437227405312 := by omega
      simp only [h6, h7, if_false]
      rfl
theorem hi_small {b : Nat} (h : le50 b = true) : (Ieee.double.order b 4832362400168542208 == some .lt || Ieee.double.order b 4832362400168542208 == some .eq) = true := by
  obtain ⟨m, j, e, h2, h3, _⟩ := small_of h
  unfold Ieee.Format.order
  rw [e, read_2_50, order_num']
  have A : ((1125899906842624 : Nat) : Int) * ((2 ^ j : Nat) : Int) = ((1125899906842624 * 2 ^ j : Nat) : Int) := (Int.natCast_mul _ _).symm
  simp only [Bool.false_eq_true, if_false, A]
  generalize 1125899906842624 * 2 ^ j = z at h3
  generalize (b / 9223372036854775808 % 2 == 1) = s
  have hle : (if s = true then -(m : Int) else m) ≤ (z : Int) := by cases s <;> simp <;> omega
  rcases Int.lt_or_eq_of_le hle with h | h
  · rw [Int.compare_eq_lt.2 h]; rfl
  · rw [Int.compare_eq_eq.2 h]; rfl
theorem lo_small {b : Nat} (h : le50 b = true) : (Ieee.double.order b 14055734437023318016 == some .gt || Ieee.double.order b 14055734437023318016 == some .eq) = true := by
  obtain ⟨m, j, e, h2, h3, _⟩ := small_of h
  unfold Ieee.Format.order
  rw [e, read_m2_50, order_num']
  have A : ((1125899906842624 : Nat) : Int) * ((2 ^ j : Nat) : Int) = ((1125899906842624 * 2 ^ j : Nat) : Int) := (Int.natCast_mul _ _).symm
  simp only [if_true, Int.neg_mul, A]
  generalize 1125899906842624 * 2 ^ j = z at h3
  generalize (b / 9223372036854775808 % 2 == 1) = s
  have hle : -(z : Int) ≤ (if s = true then -(m : Int) else m) := by cases s <;> simp <;> omega
  rcases Int.lt_or_eq_of_le hle with h | h
  · rw [Int.compare_eq_gt.2 h]; rfl
  · rw [Int.compare_eq_eq.2 h.symm]; rfl
theorem in50_eq (b : Nat) : ((Ieee.double.order b 14055734437023318016 == some .gt || Ieee.double.order b 14055734437023318016 == some .eq) && (Ieee.double.order b 4832362400168542208 == some .lt || Ieee.double.order b 4832362400168542208 == some .eq)) = le50 b := by
  cases h : le50 b with
  | true => rw [hi_small h, lo_small h]; rfl
  | false =>
    rw [hi_big h read_2_50, hi_big h read_m2_50]
    generalize (b / 9223372036854775808 % 2 == 1) = s
    split <;> cases s <;> rfl
theorem abs50_eq (b : Nat) : (Ieee.double.order (b % 9223372036854775808) 4832362400168542208 == some .lt || Ieee.double.order (b % 9223372036854775808) 4832362400168542208 == some .eq) = le50 b := by
  have e : le50 (b % 9223372036854775808) = le50 b := by unfold le50; rw [Nat.mod_mod]
  rw [← e]
  cases h : le50 (b % 9223372036854775808) with
  | true => exact hi_small h
  | false =>
    rw [hi_big h read_2_50]
    have : (b % 9223372036854775808 / 9223372036854775808 % 2 == 1) = false := by
      rw [Nat.div_eq_of_lt (Nat.mod_lt _ (by omega))]; rfl
    rw [this]
    split <;> rfl

/-- The whole number towards nought. -/
def partN (b : Nat) : Int := ((Ieee.double.read b).toInt .zero).getD 0
/-- Is it a whole number that may be one? -/
def partB (b : Nat) : Bool := le50 b && Ieee.double.order (floatOfInt .f64 (partN b)) b == some .eq
theorem toInt_small {b m j : Nat} {s : Bool} (h : Ieee.double.read b = .number s m (-(j : Int))) : (Ieee.double.read b).toInt .zero = some (if s then -((m / 2 ^ j : Nat) : Int) else ((m / 2 ^ j : Nat) : Int)) := by
  rw [h]
  unfold Ieee.Datum.toInt Ieee.Datum.integral Ieee.Toward.cut
  simp only [signed_eq, Nat.shiftLeft_eq, Bool.toNat_false, Nat.add_zero, Nat.one_mul]
  have e1 : (-(j : Int)).toNat = 0 := by omega
  have e2 : (- -(j : Int)).toNat = j := by omega
  rw [e1, e2]
  simp only [Nat.pow_zero, Nat.mul_one]
  have hq : m / 2 ^ min j (m.log2 + 2) = m / 2 ^ j := by
    by_cases hj : j ≤ m.log2 + 2
    · rw [Nat.min_eq_left hj]
    · rw [Nat.min_eq_right (by omega)]
      have h1 : m < 2 ^ (m.log2 + 1) := Nat.lt_log2_self
      have h2 : 2 ^ (m.log2 + 1) ≤ 2 ^ (m.log2 + 2) := Nat.pow_le_pow_right (by omega) (by omega)
      have h3 : 2 ^ (m.log2 + 1) ≤ 2 ^ j := Nat.pow_le_pow_right (by omega) (by omega)
      rw [Nat.div_eq_of_lt (by omega), Nat.div_eq_of_lt (by omega)]
  rw [hq]
  simp
theorem partN_some {b : Nat} (h : le50 b = true) : (Ieee.double.read b).toInt .zero = some (partN b) ∧ (partN b).natAbs ≤ 1125899906842624 := by
  obtain ⟨m, j, e, h2, h3, _⟩ := small_of h
  have := toInt_small e
  unfold partN
  rw [this]
  refine ⟨rfl, ?_⟩
  have h4 : m / 2 ^ j ≤ 1125899906842624 := by
    rw [Nat.div_le_iff_le_mul_add_pred (Nat.two_pow_pos j), Nat.mul_comm]
    omega
  generalize m / 2 ^ j = z at h4
  generalize (b / 9223372036854775808 % 2 == 1) = s
  cases s <;> simp only [Option.getD_some, Bool.false_eq_true, if_false, if_true] <;> omega
theorem partB_isI {b : Nat} (h : partB b = true) : IsI b (partN b) ∧ (partN b).natAbs ≤ 1125899906842624 := by
  simp only [partB, Bool.and_eq_true, beq_iff_eq] at h
  obtain ⟨h1, h2⟩ := h
  obtain ⟨m, j, e, _⟩ := small_of h1
  exact ⟨isI_of_eq (isI_of_int _ (partN_some h1).2) e h2, (partN_some h1).2⟩
theorem isI_partN {b : Nat} {n : Int} (h : IsI b n) : partN b = n := by
  unfold partN; rw [toInt_isI h]; rfl
theorem isI_partB {b : Nat} {n : Int} (h : IsI b n) (hl : le50 b = true) : partB b = true := by
  have h2 := (partN_some hl).2
  rw [isI_partN h] at h2
  simp only [partB, Bool.and_eq_true, beq_iff_eq]
  rw [isI_partN h, order_isI (isI_of_int n h2) h]
  exact ⟨hl, congrArg some (Int.compare_eq_eq.2 rfl)⟩
theorem isI_le50 {b : Nat} {n : Int} (h : IsI b n) (hn : n.natAbs ≤ 1125899906842624) : le50 b = true := by
  rw [← in50_eq]
  have h1 : IsI 4832362400168542208 1125899906842624 := ⟨false, 1125899906842624, 2, read_2_50, rfl⟩
  have h2 : IsI 14055734437023318016 (-1125899906842624) := ⟨true, 1125899906842624, 2, read_m2_50, rfl⟩
  rw [order_isI h h1, order_isI h h2]
  rcases Int.lt_trichotomy n 1125899906842624 with a | a | a
  · rcases Int.lt_trichotomy n (-1125899906842624) with c | c | c
    · omega
    · rw [Int.compare_eq_lt.2 a, Int.compare_eq_eq.2 c]; rfl
    · rw [Int.compare_eq_lt.2 a, Int.compare_eq_gt.2 c]; rfl
  · rw [Int.compare_eq_eq.2 a, Int.compare_eq_gt.2 (by omega)]; rfl
  · omega
/-- A whole number's float is one. -/
theorem partB_int {n : Int} (h : n.natAbs ≤ 1125899906842624) : partB (floatOfInt .f64 n) = true ∧ partN (floatOfInt .f64 n) = n := by
  have := isI_of_int n h
  exact ⟨isI_partB this (isI_le50 this h), isI_partN this⟩

/-- The whole number of a size and a sign. -/
theorem isI_nearest (s : Bool) (q : Nat) (h : q ≤ 1125899906842624) : IsI (Ieee.double.nearest s q 0) (if s then -(q : Int) else q) := by
  by_cases h0 : q = 0
  · subst h0
    cases s
    · exact isI_zero (s := false) (read_lo (b := 0) (r := 0) rfl (by omega))
    · exact isI_zero (s := true) (read_lo (b := 9223372036854775808) (r := 0) rfl (by omega))
  · cases s
    · have := isI_of_int (q : Int) (by omega)
      rw [show floatOfInt .f64 (q : Int) = Ieee.double.nearest (decide ((q : Int) < 0)) ((q : Int).natAbs) 0 from rfl, decide_eq_false (by omega), Int.natAbs_natCast] at this
      exact this
    · have := isI_of_int (-(q : Int)) (by omega)
      rw [show floatOfInt .f64 (-(q : Int)) = Ieee.double.nearest (decide (-(q : Int) < 0)) ((-(q : Int)).natAbs) 0 from rfl, decide_eq_true (by omega), Int.natAbs_neg, Int.natAbs_natCast] at this
      exact this
/-- Cut towards nought, and held against it. -/
theorem trunc_eq (b : Nat) : (Ieee.double.order (Ieee.double.write ((Ieee.double.read b).integral .zero)) b == some .eq && le50 b) = partB b := by
  cases h : le50 b with
  | false => simp [partB, h]
  | true =>
    obtain ⟨m, j, e, _⟩ := small_of h
    have hI : IsI (Ieee.double.write ((Ieee.double.read b).integral .zero)) (partN b) := by
      obtain ⟨h1, h2⟩ := partN_some h
      rw [e] at h1 ⊢
      unfold Ieee.Datum.toInt at h1
      unfold Ieee.Datum.integral at h1 ⊢
      simp only [Option.some.injEq] at h1
      simp only [Ieee.Format.write]
      generalize Ieee.Toward.cut .zero _ _ _ = q at h1 ⊢
      rw [signed_eq] at h1
      have h3 : (if (b / 9223372036854775808 % 2 == 1) = true then -(q : Int) else q) = partN b := by rw [← h1]; simp
      rw [← h3]
      refine isI_nearest _ q ?_
      generalize (b / 9223372036854775808 % 2 == 1) = s at h3
      cases s <;> simp at h3 <;> omega
    rw [Bool.and_true, Bool.eq_iff_iff]
    constructor
    · intro h1
      exact isI_partB (isI_of_eq hI e (by simpa using h1)) h
    · intro h1
      rw [order_isI hI (partB_isI h1).1, Int.compare_eq_eq.2 rfl]
      rfl
end Go.Proofs.YthcljhfankooaabGreat

namespace Go.Proofs.YthcljhfankooaabGreat
open Go.RowKit

theorem bitsf_run (b : Nat) (w : World) : (callFunc 88 #[.float .f64 b]).run Tryz.prog w = .ok (.value (.int .u64 b)) w := by
  rw [run_callFunc_extern Tryz.func88 (by kernel_rfl) (by kernel_rfl) (by kernel_rfl) (show Extern.find _ = some Extern.MathFloatBits.float64bits by kernel_rfl)]
  rfl
theorem fbits_run (n : Int) (w : World) : (callFunc 87 #[.int .u64 n]).run Tryz.prog w = .ok (.value (.float .f64 n.toNat)) w := by
  rw [run_callFunc_extern Tryz.func87 (by kernel_rfl) (by kernel_rfl) (by kernel_rfl) (show Extern.find _ = some Extern.MathFloatBits.float64frombits by kernel_rfl)]
  rfl

set_option maxRecDepth 100000 in
set_option maxHeartbeats 4000000 in
theorem abs_any (b : Nat) (hb : b < 18446744073709551616) (w : World) : Calls Tryz.prog 68 #[.float .f64 b] w fun e w' => e = .returned (.float .f64 (b % 9223372036854775808)) ∧ w' = w := by
  have e1 : (bits .andNot .u64 (b : Int) 9223372036854775808).toNat = b % 9223372036854775808 := by
    have := u64_andNot_nat b 9223372036854775808 hb (by omega)
    rw [show ((9223372036854775808 : Nat) : Int) = 9223372036854775808 from rfl] at this
    rw [this, Int.toNat_natCast]
    exact Nat.and_two_pow_sub_one_eq_mod b 63
  have h1 := bitsf_run b w
  have h2 := fbits_run (bits .andNot .u64 (b : Int) 9223372036854775808) w
  rw [e1] at h2
  clear e1
  go_enter Tryz.func68, Tryz.ntmps68
  go_wp2_with fail
  go_ret
  exact ⟨rfl, rfl⟩

def cutD (q : Question) (b : Nat) : Ieee.Datum → Sem Value
  | .nan s t => if FloatKind.f64.format.quiet t = t then pure (.float .f64 b) else do
      let kept ← choose q
      pure (.float .f64 (if kept == 1 then b else FloatKind.f64.encode (.nan s (FloatKind.f64.format.quiet t))))
  | d => pure (.float .f64 (FloatKind.f64.encode (d.integral .zero)))
theorem cutD_eq (nm : String) (b : Nat) : ∃ q : Question, q.forced = false ∧ Extern.MathFloor.toIntegral nm .zero #[.float .f64 b] = cutD q b (Ieee.double.read b) := by
  apply Exists.intro
  apply And.symm
  constructor
  · show (match FloatKind.f64.decode b with
      | .nan s t => _
      | d => _) = _
    change _ = cutD _ b (FloatKind.f64.decode b)
    cases FloatKind.f64.decode b
    all_goals rfl
  · rfl
theorem cutD_run (q : Question) (hq : q.forced = false) (b : Nat) (w : World) : ∃ t n, ((cutD q b (Ieee.double.read b)).run Tryz.prog w) = .ok (.float .f64 t) (w.drewN n) ∧ (Ieee.double.order t b == some .eq && le50 b) = partB b := by
  have ht := trunc_eq b
  cases hd : Ieee.double.read b with
  | nan s t =>
    have hl : ∀ c, (Ieee.double.order c b == some .eq) = false := fun c => by
      unfold Ieee.Format.order
      rw [hd]
      cases Ieee.double.read c <;> rfl
    have hp : partB b = false := by unfold partB; rw [hl, Bool.and_false]
    by_cases hq : FloatKind.f64.format.quiet t = t
    · refine ⟨b, 0, ?_, by rw [hl, hp]; rfl⟩
      simp only [cutD, hq, if_true]
      rfl
    · refine ⟨if Question.cut q (w.tape w.drawn q) == 1 then b else FloatKind.f64.encode (.nan s (FloatKind.f64.format.quiet t)), 1, ?_, by rw [hl, hp]; rfl⟩
      simp only [cutD, hq, if_false]
      simp [*]
      rfl
  | infinity s => rw [hd] at ht; exact ⟨_, 0, rfl, ht⟩
  | number s m p => rw [hd] at ht; exact ⟨_, 0, rfl, ht⟩
/-- What the machine's Trunc gives. -/
theorem archTrunc_run (b : Nat) (w : World) : ∃ t n, (callFunc 85 #[.float .f64 b]).run Tryz.prog w = .ok (.value (.float .f64 t)) (w.drewN n) ∧ (Ieee.double.order t b == some .eq && le50 b) = partB b := by
  have hx := run_callFunc_extern (args := #[.float .f64 b]) (w := w) Tryz.func85 (by kernel_rfl) (by kernel_rfl) (by kernel_rfl) (show Extern.find _ = some (Extern.MathFloor.toIntegral _ .zero) by rfl)
  obtain ⟨q, hq, e⟩ := cutD_eq _ b
  obtain ⟨t, n, h1, h2⟩ := cutD_run q hq b w
  exact ⟨t, n, by rw [hx, e, h1]; rfl, h2⟩

set_option maxRecDepth 100000 in
set_option maxHeartbeats 4000000 in
theorem mTrunc_any (b : Nat) (w : World) : Calls Tryz.prog 67 #[.float .f64 b] w fun e w' => ∃ t n, e = .returned (.float .f64 t) ∧ w' = w.drewN n ∧ (Ieee.double.order t b == some .eq && le50 b) = partB b := by
  obtain ⟨t, n, ha, hp⟩ := archTrunc_run b w
  have HP := hide hp
  clear hp
  go_enter Tryz.func67, Tryz.ntmps67
  go_wp2_with fail
  go_ret
  exact ⟨t, n, rfl, rfl, unhide HP⟩
end Go.Proofs.YthcljhfankooaabGreat
