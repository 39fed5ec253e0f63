/- Plain arithmetic of the package num: what its operations come to, as functions on integers; no program stands in it. -/
import Derived.RowKit
namespace Go.Proofs.YtbekkpfbjafagaaDoor.Num
open Go.RowKit

/-- A number of 64 bits. -/
def Fits (n : Int) : Prop := -9223372036854775808 ≤ n ∧ n ≤ 9223372036854775807

def addP (a b : Int) : Int × Int := if -9223372036854775808 ≤ a + b ∧ a + b ≤ 9223372036854775807 then (a + b, 0) else (0, 8)
def subP (a b : Int) : Int × Int := if -9223372036854775808 ≤ a - b ∧ a - b ≤ 9223372036854775807 then (a - b, 0) else (0, 8)
def mulP (a b : Int) : Int × Int := if -9223372036854775808 ≤ a * b ∧ a * b ≤ 9223372036854775807 then (a * b, 0) else (0, 8)
def divP (a b : Int) : Int × Int := if b = 0 then (0, 9) else if a = -9223372036854775808 ∧ b = -1 then (0, 8) else (a.tdiv b, 0)
def remP (a b : Int) : Int × Int := if b = 0 then (0, 9) else (a.tmod b, 0)

theorem ret2 {a b : Int} {p : Int × Int} (h : p = (a, b)) : Ending.returned (.tuple #[.int .i64 a, .int .i64 b]) = .returned (.tuple #[.int .i64 p.1, .int .i64 p.2]) := by
  subst h; rfl

theorem wrap_fits {n : Int} (h : Fits n) : wrap64 n = n := by unfold Fits at h; unfold wrap64; omega
theorem fits_wrap (n : Int) : Fits (wrap64 n) := by unfold Fits wrap64; omega

theorem add_over {a b : Int} (ha : Fits a) (hb : Fits b) (h : (!decide (a < wrap64 (a + b)) == decide (0 < b)) = true) : addP a b = (0, 8) := by
  unfold Fits at ha hb
  have h' : ¬ (a < wrap64 (a + b) ↔ 0 < b) := by
    by_cases h1 : a < wrap64 (a + b) <;> by_cases h2 : 0 < b <;> simp [h1, h2] at h ⊢ <;> omega
  unfold wrap64 at h'
  unfold addP
  rw [if_neg]
  omega
theorem add_in {a b : Int} (ha : Fits a) (hb : Fits b) (h : (!decide (a < wrap64 (a + b)) == decide (0 < b)) = false) : addP a b = (wrap64 (a + b), 0) := by
  unfold Fits at ha hb
  have h' : (a < wrap64 (a + b) ↔ 0 < b) := by
    by_cases h1 : a < wrap64 (a + b) <;> by_cases h2 : 0 < b <;> simp [h1, h2] at h ⊢ <;> omega
  unfold wrap64 at h'
  have hf : Fits (a + b) := by unfold Fits; omega
  rw [wrap_fits hf]
  unfold addP
  rw [if_pos]
  unfold Fits at hf
  omega
theorem sub_over {a b : Int} (ha : Fits a) (hb : Fits b) (h : (!decide (wrap64 (a - b) < a) == decide (0 < b)) = true) : subP a b = (0, 8) := by
  unfold Fits at ha hb
  have h' : ¬ (wrap64 (a - b) < a ↔ 0 < b) := by
    by_cases h1 : wrap64 (a - b) < a <;> by_cases h2 : 0 < b <;> simp [h1, h2] at h ⊢ <;> omega
  unfold wrap64 at h'
  unfold subP
  rw [if_neg]
  omega
theorem sub_in {a b : Int} (ha : Fits a) (hb : Fits b) (h : (!decide (wrap64 (a - b) < a) == decide (0 < b)) = false) : subP a b = (wrap64 (a - b), 0) := by
  unfold Fits at ha hb
  have h' : (wrap64 (a - b) < a ↔ 0 < b) := by
    by_cases h1 : wrap64 (a - b) < a <;> by_cases h2 : 0 < b <;> simp [h1, h2] at h ⊢ <;> omega
  unfold wrap64 at h'
  have hf : Fits (a - b) := by unfold Fits; omega
  rw [wrap_fits hf]
  unfold subP
  rw [if_pos]
  unfold Fits at hf
  omega

theorem addP_in {a b : Int} (h : Fits (a + b)) : addP a b = (a + b, 0) := by unfold addP; exact if_pos h
theorem addP_out {a b : Int} (h : ¬ Fits (a + b)) : addP a b = (0, 8) := by unfold addP; exact if_neg h
theorem subP_in {a b : Int} (h : Fits (a - b)) : subP a b = (a - b, 0) := by unfold subP; exact if_pos h
theorem subP_out {a b : Int} (h : ¬ Fits (a - b)) : subP a b = (0, 8) := by unfold subP; exact if_neg h
theorem mulP_in {a b : Int} (h : Fits (a * b)) : mulP a b = (a * b, 0) := by unfold mulP; exact if_pos h
theorem mulP_out {a b : Int} (h : ¬ Fits (a * b)) : mulP a b = (0, 8) := by unfold mulP; exact if_neg h

theorem tmod_abs (p b : Int) (hb : b ≠ 0) : (p.tmod b).natAbs < b.natAbs := by
  rw [Int.natAbs_tmod]; exact Nat.mod_lt _ (by omega)

/-- The quotient of a 64-bit number leaves the bits only at the least one by -1. -/
theorem tdiv_fits {p b : Int} (hp : Fits p) (hb : b ≠ 0) (hx : ¬ (p = -9223372036854775808 ∧ b = -1)) : Fits (p.tdiv b) := by
  have h1 := Int.mul_tdiv_add_tmod p b
  have h2 := tmod_abs p b hb
  have h3 : (p.tdiv b).natAbs ≤ p.natAbs := by rw [Int.natAbs_tdiv]; exact Nat.div_le_self _ _
  generalize hq : p.tdiv b = q at *
  generalize p.tmod b = r at *
  unfold Fits at *
  by_cases e : q = 9223372036854775808
  · subst e; omega
  · omega

theorem mul_back {a b : Int} (ha : Fits a) (hb : Fits b) (h0 : b ≠ 0) (hx : ¬ (a = -9223372036854775808 ∧ b = -1)) : wrap64 ((wrap64 (a * b)).tdiv b) = a ↔ Fits (a * b) := by
  constructor
  · intro h
    by_cases hy : wrap64 (a * b) = -9223372036854775808 ∧ b = -1
    · obtain ⟨h1, rfl⟩ := hy
      rw [h1] at h
      have : Int.tdiv (-9223372036854775808) (-1) = 9223372036854775808 := by decide
      rw [this] at h
      unfold wrap64 at h
      omega
    · rw [wrap_fits (tdiv_fits (fits_wrap _) h0 hy)] at h
      have h1 := Int.mul_tdiv_add_tmod (wrap64 (a * b)) b
      have h2 := tmod_abs (wrap64 (a * b)) b h0
      rw [h, Int.mul_comm b a] at h1
      generalize a * b = m at *
      generalize (wrap64 m).tmod b = r at *
      unfold wrap64 Fits at *
      omega
  · intro h
    rw [wrap_fits h, Int.mul_tdiv_cancel _ h0, wrap_fits ha]

theorem mul_over {a b : Int} (ha : Fits a) (hb : Fits b) (h0 : b ≠ 0) (hx : ¬ (a = -9223372036854775808 ∧ b = -1)) (h : (wrap64 ((wrap64 (a * b)).tdiv b) != a) = true) : mulP a b = (0, 8) := by
  rw [bne_iff_ne] at h
  exact mulP_out fun hf => h ((mul_back ha hb h0 hx).2 hf)
theorem mul_in {a b : Int} (ha : Fits a) (hb : Fits b) (h0 : b ≠ 0) (hx : ¬ (a = -9223372036854775808 ∧ b = -1)) (h : (wrap64 ((wrap64 (a * b)).tdiv b) != a) = false) : mulP a b = (wrap64 (a * b), 0) := by
  have h' : wrap64 ((wrap64 (a * b)).tdiv b) = a := by simpa using h
  have hf := (mul_back ha hb h0 hx).1 h'
  rw [mulP_in hf, wrap_fits hf]
theorem mul_neg (a : Int) : mulP a (-1) = subP 0 a := by
  unfold mulP subP
  rw [show a * -1 = 0 - a by omega]
theorem mul_zero (a : Int) : mulP a 0 = (0, 0) := by
  rw [mulP_in (by unfold Fits; omega)]; simp
theorem zero_mul (b : Int) : mulP 0 b = (0, 0) := by
  rw [mulP_in (by unfold Fits; omega)]; simp
theorem tmod_neg_one (a : Int) : a.tmod (-1) = 0 := by
  have := tmod_abs a (-1) (by decide)
  omega
theorem tmod_fits {a b : Int} (hb : Fits b) (h0 : b ≠ 0) : Fits (a.tmod b) := by
  have := tmod_abs a b h0
  unfold Fits at *
  omega
end Go.Proofs.YtbekkpfbjafagaaDoor.Num
