/- Plain facts on numbers' texts: which lists of bytes are a number's text, which number that is, and that texts and numbers lead back to one another; no program stands in it. -/
import Derived.Lib.Strings
import Derived.Lib.AtoiAll
import Derived.Test.YtbekkpfbjafagaaDoorNmm
namespace Go.Proofs.YtbekkpfbjafagaaDoor.Num
open Go.RowKit

def dig (c : UInt8) : Bool := decide (48 ≤ c.toNat) && decide (c.toNat ≤ 57)
def valFrom : Nat → List UInt8 → Nat
  | acc, [] => acc
  | acc, c :: r => valFrom (acc * 10 + (c.toNat - 48)) r
def trim (l : List UInt8) : List UInt8 := Lib.trimPrefix l [45]
def isNeg (l : List UInt8) : Bool := l.head? == some 45
def numForm (l : List UInt8) : Bool := l == [48] || (!(trim l).isEmpty && (trim l).head? != some 48 && (trim l).all dig)
def numVal (l : List UInt8) : Int := if isNeg l = true then -(valFrom 0 (trim l) : Int) else (valFrom 0 (trim l) : Int)
def parseP (l : List UInt8) : Int × Int :=
  if numForm l = true then (if -9223372036854775808 ≤ numVal l ∧ numVal l ≤ 9223372036854775807 then (numVal l, 0) else (0, 8)) else (0, 7)

theorem dig_iff {c : UInt8} : dig c = true ↔ 48 ≤ c.toNat ∧ c.toNat ≤ 57 := by simp [dig]

theorem valFrom_snoc : ∀ (l : List UInt8) (acc : Nat) (c : UInt8), valFrom acc (l ++ [c]) = valFrom acc l * 10 + (c.toNat - 48)
  | [], _, _ => rfl
  | x :: r, acc, c => valFrom_snoc r (acc * 10 + (x.toNat - 48)) c
theorem valFrom_le : ∀ (l : List UInt8) (acc : Nat), acc ≤ valFrom acc l
  | [], acc => Nat.le_refl _
  | x :: r, acc => by
    have := valFrom_le r (acc * 10 + (x.toNat - 48))
    have h2 : acc ≤ acc * 10 + (x.toNat - 48) := by omega
    exact Nat.le_trans h2 this

theorem trim_cases (l : List UInt8) : (isNeg l = true ∧ l = 45 :: trim l) ∨ (isNeg l = false ∧ trim l = l) := by
  unfold isNeg trim Lib.trimPrefix Lib.hasPrefix
  cases l with
  | nil => right; simp
  | cons c r =>
    by_cases h : c = 45
    · subst h; left; simp
    · right
      have h2 : ¬ 45 = c := fun e => h e.symm
      simp [h, h2]

theorem form_zero : numForm [48] = true := by decide
theorem form_trim {l : List UInt8} (h : numForm l = true) : (trim l).all dig = true ∧ trim l ≠ [] := by
  unfold numForm at h
  simp only [Bool.or_eq_true, Bool.and_eq_true, beq_iff_eq] at h
  rcases h with rfl | ⟨⟨h1, _⟩, h3⟩
  · exact ⟨by decide, by decide⟩
  · exact ⟨h3, fun e => by rw [e] at h1; simp at h1⟩

theorem parseUint10_dig (l : List UInt8) : ∀ (acc : Nat), l.all dig = true → acc < 18446744073709551616 →
    Lib.parseUint10 acc l = if valFrom acc l < 18446744073709551616 then .ok (valFrom acc l) else .range := by
  induction l with
  | nil =>
    intro acc _ ha
    have e : valFrom acc [] = acc := rfl
    rw [e, if_pos ha]
    rfl
  | cons c r ih =>
    intro acc h ha
    simp only [List.all_cons, Bool.and_eq_true] at h
    have hc := dig_iff.1 h.1
    have hm := valFrom_le r (acc * 10 + (c.toNat - 48))
    have e : valFrom acc (c :: r) = valFrom (acc * 10 + (c.toNat - 48)) r := rfl
    rw [e, Lib.parseUint10, if_pos hc]
    by_cases h1 : 1844674407370955162 ≤ acc
    · rw [if_pos h1, if_neg (by omega)]
    · rw [if_neg h1]
      by_cases h2 : 18446744073709551616 ≤ acc * 10 + (c.toNat - 48)
      · rw [if_pos h2, if_neg (by omega)]
      · rw [if_neg h2]
        exact ih _ h.2 (by omega)

theorem atoi_form {l : List UInt8} (h : numForm l = true) :
    (Fits (numVal l) → Lib.atoiAll l = .ok (numVal l)) ∧ (¬ Fits (numVal l) → Lib.atoiAll l = .range) := by
  obtain ⟨hd, hne⟩ := form_trim h
  have hp := parseUint10_dig (trim l) 0 hd (by omega)
  have hmag : Lib.parseMag (trim l) = if valFrom 0 (trim l) < 18446744073709551616 then .ok (valFrom 0 (trim l)) else .range := by
    unfold Lib.parseMag; rw [if_neg hne]; exact hp
  rcases trim_cases l with ⟨hn, hl⟩ | ⟨hn, hl⟩
  · generalize htd : trim l = d at *
    unfold numVal Fits
    rw [hn, htd, if_pos rfl]
    generalize valFrom 0 d = v at *
    have e : Lib.atoiAll l = match Lib.parseMag d with
      | .ok u => if 9223372036854775808 < u then .range else .ok (-(u : Int))
      | x => x.rec (fun u => .ok (u : Int)) (Lib.atoiAll []) .range := by
      rw [hl]; unfold Lib.atoiAll
      simp
      cases Lib.parseMag d <;> simp
    rw [e, hmag]
    by_cases h1 : v < 18446744073709551616
    · rw [if_pos h1]
      by_cases h2 : 9223372036854775808 < v
      · exact ⟨fun hf => absurd hf (by omega), fun _ => show (if 9223372036854775808 < v then Lib.NumEnd.range else .ok (-(v : Int))) = .range from if_pos h2⟩
      · exact ⟨fun _ => show (if 9223372036854775808 < v then Lib.NumEnd.range else .ok (-(v : Int))) = .ok (-(v : Int)) from if_neg h2, fun hf => absurd hf (by omega)⟩
    · rw [if_neg h1]
      exact ⟨fun hf => absurd hf (by omega), fun _ => rfl⟩
  · rw [hl] at hd hne hmag
    unfold numVal Fits
    rw [hn, hl, if_neg (by simp)]
    generalize hv : valFrom 0 l = v at *
    cases l with
    | nil => exact absurd rfl hne
    | cons c r =>
      have hc := dig_iff.1 (by simpa using (List.all_eq_true.1 hd) c (by simp) : dig c = true)
      have h45 : ¬ c.toNat = 45 := by omega
      have h43 : ¬ (c.toNat = 43 ∨ c.toNat = 45) := by omega
      have e : Lib.atoiAll (c :: r) = match Lib.parseMag (c :: r) with
        | .ok u => if 9223372036854775808 ≤ u then .range else .ok (u : Int)
        | x => x.rec (fun u => .ok (u : Int)) (Lib.atoiAll []) .range := by
        unfold Lib.atoiAll
        simp only [if_neg h43]
        cases Lib.parseMag (c :: r) <;> simp [h45]
      rw [e, hmag]
      by_cases h1 : v < 18446744073709551616
      · rw [if_pos h1]
        by_cases h2 : 9223372036854775808 ≤ v
        · exact ⟨fun hf => absurd hf (by omega), fun _ => show (if 9223372036854775808 ≤ v then Lib.NumEnd.range else .ok (v : Int)) = .range from if_pos h2⟩
        · exact ⟨fun _ => show (if 9223372036854775808 ≤ v then Lib.NumEnd.range else .ok (v : Int)) = .ok (v : Int) from if_neg h2, fun hf => absurd hf (by omega)⟩
      · rw [if_neg h1]
        exact ⟨fun hf => absurd hf (by omega), fun _ => rfl⟩

theorem parse_form {l : List UInt8} (h : numForm l = false) : parseP l = (0, 7) := by unfold parseP; rw [if_neg (by simp [h])]
theorem parse_in {l : List UInt8} (h : numForm l = true) (hf : Fits (numVal l)) : parseP l = (numVal l, 0) := by unfold parseP; rw [if_pos h]; exact if_pos hf
theorem parse_out {l : List UInt8} (h : numForm l = true) (hf : ¬ Fits (numVal l)) : parseP l = (0, 8) := by unfold parseP; rw [if_pos h]; exact if_neg hf

/-! ### There and back -/
end Go.Proofs.YtbekkpfbjafagaaDoor.Num
