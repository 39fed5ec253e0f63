/- Plain facts on numbers' texts: which lists of bytes are a number's text, which number that is, and that texts and numbers lead back to one another; no program stands in it. -/
import Derived.Test.YtkmnboaimhcmiaaDoorMath
import Derived.Lib.Strings
import Derived.Lib.ItoaNum
import Derived.Lib.ItoaMem
import Derived.Lib.AtoiAll
namespace Go.Proofs.YtkmnboaimhcmiaaDoor
open Go.RowKit

def dig (c : UInt8) : Bool := decide (48 ≤ c.toNat) && decide (c.toNat ≤ 57)
def valFrom : Nat → List UInt8 → Nat
  | acc, [] => acc
  | acc, c :: r => valFrom (acc * 10 + (c.toNat - 48)) r
def trim (l : List UInt8) : List UInt8 := Lib.trimPrefix l [45]
def isNeg (l : List UInt8) : Bool := l.head? == some 45
def numForm (l : List UInt8) : Bool := l == [48] || (!(trim l).isEmpty && (trim l).head? != some 48 && (trim l).all dig)
def numVal (l : List UInt8) : Int := if isNeg l = true then -(valFrom 0 (trim l) : Int) else (valFrom 0 (trim l) : Int)
def parseP (l : List UInt8) : Int × Int :=
  if numForm l = true then (if -9223372036854775808 ≤ numVal l ∧ numVal l ≤ 9223372036854775807 then (numVal l, 0) else (0, 8)) else (0, 7)

theorem dig_iff {c : UInt8} : dig c = true ↔ 48 ≤ c.toNat ∧ c.toNat ≤ 57 := by simp [dig]

theorem valFrom_snoc : ∀ (l : List UInt8) (acc : Nat) (c : UInt8), valFrom acc (l ++ [c]) = valFrom acc l * 10 + (c.toNat - 48)
  | [], _, _ => rfl
  | x :: r, acc, c => valFrom_snoc r (acc * 10 + (x.toNat - 48)) c
theorem valFrom_le : ∀ (l : List UInt8) (acc : Nat), acc ≤ valFrom acc l
  | [], acc => Nat.le_refl _
  | x :: r, acc => by
    have := valFrom_le r (acc * 10 + (x.toNat - 48))
    have h2 : acc ≤ acc * 10 + (x.toNat - 48) := by omega
    exact Nat.le_trans h2 this

theorem trim_cases (l : List UInt8) : (isNeg l = true ∧ l = 45 :: trim l) ∨ (isNeg l = false ∧ trim l = l) := by
  unfold isNeg trim Lib.trimPrefix Lib.hasPrefix
  cases l with
  | nil => right; simp
  | cons c r =>
    by_cases h : c = 45
    · subst h; left; simp
    · right
      have h2 : ¬ 45 = c := fun e => h e.symm
      simp [h, h2]

theorem form_zero : numForm [48] = true := by decide
theorem form_trim {l : List UInt8} (h : numForm l = true) : (trim l).all dig = true ∧ trim l ≠ [] := by
  unfold numForm at h
  simp only [Bool.or_eq_true, Bool.and_eq_true, beq_iff_eq] at h
  rcases h with rfl | ⟨⟨h1, _⟩, h3⟩
  · exact ⟨by decide, by decide⟩
  · exact ⟨h3, fun e => by rw [e] at h1; simp at h1⟩

theorem parseUint10_dig (l : List UInt8) : ∀ (acc : Nat), l.all dig = true → acc < 18446744073709551616 →
    Lib.parseUint10 acc l = if valFrom acc l < 18446744073709551616 then .ok (valFrom acc l) else .range := by
  induction l with
  | nil =>
    intro acc _ ha
    have e : valFrom acc [] = acc := rfl
    rw [e, if_pos ha]
    rfl
  | cons c r ih =>
    intro acc h ha
    simp only [List.all_cons, Bool.and_eq_true] at h
    have hc := dig_iff.1 h.1
    have hm := valFrom_le r (acc * 10 + (c.toNat - 48))
    have e : valFrom acc (c :: r) = valFrom (acc * 10 + (c.toNat - 48)) r := rfl
    rw [e, Lib.parseUint10, if_pos hc]
    by_cases h1 : 1844674407370955162 ≤ acc
    · rw [if_pos h1, if_neg (by omega)]
    · rw [if_neg h1]
      by_cases h2 : 18446744073709551616 ≤ acc * 10 + (c.toNat - 48)
      · rw [if_pos h2, if_neg (by omega)]
      · rw [if_neg h2]
        exact ih _ h.2 (by omega)

theorem atoi_form {l : List UInt8} (h : numForm l = true) :
    (Fits (numVal l) → Lib.atoiAll l = .ok (numVal l)) ∧ (¬ Fits (numVal l) → Lib.atoiAll l = .range) := by
  obtain ⟨hd, hne⟩ := form_trim h
  have hp := parseUint10_dig (trim l) 0 hd (by omega)
  have hmag : Lib.parseMag (trim l) = if valFrom 0 (trim l) < 18446744073709551616 then .ok (valFrom 0 (trim l)) else .range := by
    unfold Lib.parseMag; rw [if_neg hne]; exact hp
  rcases trim_cases l with ⟨hn, hl⟩ | ⟨hn, hl⟩
  · generalize htd : trim l = d at *
    unfold numVal Fits
    rw [hn, htd, if_pos rfl]
    generalize valFrom 0 d = v at *
    have e : Lib.atoiAll l = match Lib.parseMag d with
      | .ok u => if 9223372036854775808 < u then .range else .ok (-(u : Int))
      | x => x.rec (fun u => .ok (u : Int)) (Lib.atoiAll []) .range := by
      rw [hl]; unfold Lib.atoiAll
      simp
      cases Lib.parseMag d <;> simp
    rw [e, hmag]
    by_cases h1 : v < 18446744073709551616
    · rw [if_pos h1]
      by_cases h2 : 9223372036854775808 < v
      · exact ⟨fun hf => absurd hf (by omega), fun _ => show (if 9223372036854775808 < v then Lib.NumEnd.range else .ok (-(v : Int))) = .range from if_pos h2⟩
      · exact ⟨fun _ => show (if 9223372036854775808 < v then Lib.NumEnd.range else .ok (-(v : Int))) = .ok (-(v : Int)) from if_neg h2, fun hf => absurd hf (by omega)⟩
    · rw [if_neg h1]
      exact ⟨fun hf => absurd hf (by omega), fun _ => rfl⟩
  · rw [hl] at hd hne hmag
    unfold numVal Fits
    rw [hn, hl, if_neg (by simp)]
    generalize hv : valFrom 0 l = v at *
    cases l with
    | nil => exact absurd rfl hne
    | cons c r =>
      have hc := dig_iff.1 (by simpa using (List.all_eq_true.1 hd) c (by simp) : dig c = true)
      have h45 : ¬ c.toNat = 45 := by omega
      have h43 : ¬ (c.toNat = 43 ∨ c.toNat = 45) := by omega
      have e : Lib.atoiAll (c :: r) = match Lib.parseMag (c :: r) with
        | .ok u => if 9223372036854775808 ≤ u then .range else .ok (u : Int)
        | x => x.rec (fun u => .ok (u : Int)) (Lib.atoiAll []) .range := by
        unfold Lib.atoiAll
        simp only [if_neg h43]
        cases Lib.parseMag (c :: r) <;> simp [h45]
      rw [e, hmag]
      by_cases h1 : v < 18446744073709551616
      · rw [if_pos h1]
        by_cases h2 : 9223372036854775808 ≤ v
        · exact ⟨fun hf => absurd hf (by omega), fun _ => show (if 9223372036854775808 ≤ v then Lib.NumEnd.range else .ok (v : Int)) = .range from if_pos h2⟩
        · exact ⟨fun _ => show (if 9223372036854775808 ≤ v then Lib.NumEnd.range else .ok (v : Int)) = .ok (v : Int) from if_neg h2, fun hf => absurd hf (by omega)⟩
      · rw [if_neg h1]
        exact ⟨fun hf => absurd hf (by omega), fun _ => rfl⟩

theorem parse_form {l : List UInt8} (h : numForm l = false) : parseP l = (0, 7) := by unfold parseP; rw [if_neg (by simp [h])]
theorem parse_in {l : List UInt8} (h : numForm l = true) (hf : Fits (numVal l)) : parseP l = (numVal l, 0) := by unfold parseP; rw [if_pos h]; exact if_pos hf
theorem parse_out {l : List UInt8} (h : numForm l = true) (hf : ¬ Fits (numVal l)) : parseP l = (0, 8) := by unfold parseP; rw [if_pos h]; exact if_neg hf

/-! ### There and back -/
theorem ofNat_toNat {k : Nat} (h : k < 10) : (UInt8.ofNat (48 + k)).toNat = 48 + k := by
  rw [UInt8.toNat_ofNat']; omega

theorem decDigits_facts (u : Nat) : (Lib.decDigits u).all dig = true ∧ valFrom 0 (Lib.decDigits u) = u ∧ Lib.decDigits u ≠ [] ∧ (1 ≤ u → (Lib.decDigits u).head? ≠ some 48) := by
  induction u using Nat.strongRecOn with
  | _ u ih =>
    by_cases h : u < 10
    · rw [Lib.decDigits_one h]
      have e := ofNat_toNat h
      refine ⟨?_, ?_, by simp, ?_⟩
      · simp [dig]; omega
      · show 0 * 10 + ((UInt8.ofNat (48 + u)).toNat - 48) = u
        rw [e]; omega
      · intro h1 h2
        simp only [List.head?_cons, Option.some.injEq] at h2
        have := congrArg UInt8.toNat h2
        rw [e] at this
        simp at this
        omega
    · have ih' := ih (u / 10) (by omega)
      rw [Lib.decDigits, dif_neg h]
      obtain ⟨h1, h2, h3, h4⟩ := ih'
      have e := ofNat_toNat (k := u % 10) (by omega)
      refine ⟨?_, ?_, by simp, ?_⟩
      · rw [List.all_append, h1]; simp [dig]; omega
      · rw [valFrom_snoc, h2, e]; omega
      · intro _
        cases hd : Lib.decDigits (u / 10) with
        | nil => exact absurd hd h3
        | cons c r =>
          have := h4 (by omega)
          rw [hd] at this
          simpa using this

theorem decDigits_back : ∀ (d : List UInt8), d.all dig = true → d ≠ [] → d.head? ≠ some 48 → Lib.decDigits (valFrom 0 d) = d ∧ 1 ≤ valFrom 0 d := by
  intro d
  induction hk : d.length generalizing d with
  | zero => intro _ h; exact absurd (List.eq_nil_of_length_eq_zero hk) h
  | succ k ih =>
    intro h1 h2 h3
    obtain ⟨d', c, rfl⟩ : ∃ d' c, d = d' ++ [c] := ⟨d.dropLast, d.getLast h2, (List.dropLast_concat_getLast h2).symm⟩
    rw [List.all_append] at h1
    simp only [Bool.and_eq_true, List.all_cons, List.all_nil, Bool.and_true] at h1
    have hc := dig_iff.1 h1.2
    rw [valFrom_snoc]
    by_cases hd : d' = []
    · subst hd
      have hx : c.toNat ≠ 48 := fun e => h3 (congrArg some (UInt8.toNat_inj.1 e))
      have ev : valFrom 0 [] * 10 + (c.toNat - 48) = c.toNat - 48 := by
        rw [show valFrom 0 [] = 0 from rfl]; omega
      have hc' : UInt8.ofNat (48 + (c.toNat - 48)) = c := UInt8.toNat_inj.1 (by rw [ofNat_toNat (by omega)]; omega)
      have h1' : Lib.decDigits (c.toNat - 48) = [UInt8.ofNat (48 + (c.toNat - 48))] := Lib.decDigits_one (by omega)
      rw [ev, h1', hc']
      exact ⟨rfl, by omega⟩
    · have hh : d'.head? ≠ some 48 := by
        cases d' with
        | nil => exact absurd rfl hd
        | cons a r => simpa using h3
      obtain ⟨e1, e2⟩ := ih d' (by simpa using hk) h1.1 hd hh
      refine ⟨?_, by omega⟩
      rw [Lib.decDigits, dif_neg (by omega), show (valFrom 0 d' * 10 + (c.toNat - 48)) / 10 = valFrom 0 d' by omega, e1, show (valFrom 0 d' * 10 + (c.toNat - 48)) % 10 = c.toNat - 48 by omega]
      have : UInt8.ofNat (48 + (c.toNat - 48)) = c := UInt8.toNat_inj.1 (by rw [ofNat_toNat (by omega)]; omega)
      rw [this]

theorem dig_not_minus {l : List UInt8} (h : l.all dig = true) : isNeg l = false := by
  cases l with
  | nil => rfl
  | cons c r =>
    have hc := dig_iff.1 (by simpa using (List.all_eq_true.1 h) c (by simp) : dig c = true)
    have : c ≠ 45 := fun e => by rw [e] at hc; simp at hc
    simp [isNeg, this]

theorem itoa_back (n : Int) : numForm (Lib.itoa n) = true ∧ numVal (Lib.itoa n) = n := by
  by_cases h0 : n = 0
  · subst h0
    have e : Lib.itoa 0 = [48] := by unfold Lib.itoa; rw [if_neg (by omega)]; exact Lib.decDigits_one (by decide)
    rw [e]; exact ⟨by decide, by decide⟩
  by_cases hn : n < 0
  · obtain ⟨u, rfl⟩ : ∃ u : Nat, n = -(u : Int) := ⟨n.natAbs, by omega⟩
    rw [Lib.itoa_neg u (by omega)]
    obtain ⟨f1, f2, f3, f4⟩ := decDigits_facts u
    have ht : trim (45 :: Lib.decDigits u) = Lib.decDigits u := by simp [trim, Lib.trimPrefix, Lib.hasPrefix]
    have hi : isNeg (45 :: Lib.decDigits u) = true := by simp [isNeg]
    refine ⟨?_, ?_⟩
    · unfold numForm; rw [ht, f1]; simp [f3, f4 (by omega)]
    · unfold numVal; rw [hi, if_pos rfl, ht, f2]
  · obtain ⟨u, rfl⟩ : ∃ u : Nat, n = (u : Int) := ⟨n.toNat, by omega⟩
    rw [Lib.itoa_nonneg]
    obtain ⟨f1, f2, f3, f4⟩ := decDigits_facts u
    have hi := dig_not_minus f1
    have ht : trim (Lib.decDigits u) = Lib.decDigits u := by
      rcases trim_cases (Lib.decDigits u) with h | h
      · rw [hi] at h; exact absurd h.1 (by simp)
      · exact h.2
    refine ⟨?_, ?_⟩
    · unfold numForm; rw [ht, f1]; simp [f3, f4 (by omega)]
    · unfold numVal; rw [hi, if_neg (by simp), ht, f2]

theorem parse_itoa {n : Int} (h : Fits n) : parseP (Lib.itoa n) = (n, 0) := by
  obtain ⟨h1, h2⟩ := itoa_back n
  have := parse_in h1 (by rw [h2]; exact h)
  rw [h2] at this
  exact this

theorem itoa_form {l : List UInt8} (h : numForm l = true) : Lib.itoa (numVal l) = l := by
  by_cases h0 : l = [48]
  · subst h0
    have e : numVal [48] = 0 := by decide
    rw [e]
    unfold Lib.itoa; rw [if_neg (by omega)]; exact Lib.decDigits_one (by decide)
  · have hx : !(trim l).isEmpty && (trim l).head? != some 48 && (trim l).all dig := by
      unfold numForm at h
      simp only [Bool.or_eq_true, beq_iff_eq] at h
      exact h.resolve_left h0
    simp only [Bool.and_eq_true] at hx
    obtain ⟨⟨g1, g2⟩, g3⟩ := hx
    have n1 : trim l ≠ [] := fun e => by rw [e] at g1; simp at g1
    have n2 : (trim l).head? ≠ some 48 := by simpa using g2
    obtain ⟨e1, e2⟩ := decDigits_back (trim l) g3 n1 n2
    rcases trim_cases l with ⟨hn, hl⟩ | ⟨hn, hl⟩
    · unfold numVal; rw [hn, if_pos rfl, Lib.itoa_neg _ e2, e1]; exact hl.symm
    · unfold numVal; rw [hn, if_neg (by simp), Lib.itoa_nonneg, e1]; exact hl

theorem itoa_parse {l : List UInt8} (h : (parseP l).2 = 0) : Lib.itoa (parseP l).1 = l := by
  cases hf : numForm l with
  | false => rw [parse_form hf] at h; simp at h
  | true =>
    by_cases hr : Fits (numVal l)
    · rw [parse_in hf hr]; exact itoa_form hf
    · rw [parse_out hf hr] at h; simp at h

theorem parse_fits (l : List UInt8) : Fits (parseP l).1 := by
  unfold parseP
  split
  · split
    · assumption
    · unfold Fits; omega
  · unfold Fits; omega
end Go.Proofs.YtkmnboaimhcmiaaDoor
