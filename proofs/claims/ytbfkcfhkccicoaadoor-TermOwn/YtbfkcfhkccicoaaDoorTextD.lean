/- The text of a value, as a plain function; how long it can be. -/
import Derived.Test.YtbfkcfhkccicoaaDoorBuild
import Derived.Lib.ItoaNum
namespace Go.Proofs.YtbfkcfhkccicoaaDoor
open Go.RowKit

def esc (c : UInt8) : List UInt8 := if c = 34 then [92, 34] else if c = 92 then [92, 92] else if c = 10 then [92, 110] else if c = 9 then [92, 116] else [c]
def escs (l : List UInt8) : List UInt8 := l.flatMap esc
def quoted (s : ByteArray) : List UInt8 := [34] ++ escs s.data.toList ++ [34]
/-- Texts with signs between. -/
def joinTo (t : Nat → List UInt8) : Nat → List UInt8
  | 0 => []
  | k + 1 => joinTo t k ++ ((if k = 0 then [] else [44, 32]) ++ t k)

namespace V
def text : V → List UInt8
  | none => [63]
  | mk k n s _ l _ f => if k = 1 then Lib.itoa n else if k = 2 then quoted s else [36] ++ s.data.toList ++ [40] ++ joinTo (fun i => (f i).text) l ++ [41]
theorem text_num {v : V} (h : v.kind = 1) : v.text = Lib.itoa v.num := by
  cases v with
  | none => cases h
  | mk k n s a l c f => exact if_pos h
theorem text_sym {v : V} (h : v.kind = 2) : v.text = quoted v.str := by
  cases v with
  | none => cases h
  | mk k n s a l c f =>
    have h2 : k = 2 := h
    show (if k = 1 then _ else if k = 2 then _ else _) = _
    rw [if_neg (by omega), if_pos h2]; rfl
theorem text_con {v : V} (h : v.kind = 3) : v.text = [36] ++ v.str.data.toList ++ [40] ++ joinTo (fun i => (v.kid i).text) v.len ++ [41] := by
  cases v with
  | none => cases h
  | mk k n s a l c f =>
    have h2 : k = 3 := h
    show (if k = 1 then _ else if k = 2 then _ else _) = _
    rw [if_neg (by omega), if_neg (by omega)]; rfl
end V

theorem esc_len (c : UInt8) : (esc c).length ≤ 2 := by
  unfold esc
  repeat (split; · simp)
  simp
theorem escs_len : ∀ l : List UInt8, (escs l).length ≤ 2 * l.length
  | [] => by simp [escs]
  | c :: l => by
    have h1 := escs_len l
    have h2 := esc_len c
    have : escs (c :: l) = esc c ++ escs l := rfl
    rw [this, List.length_append, List.length_cons]; omega
theorem quoted_len (s : ByteArray) : (quoted s).length ≤ 2 * s.size + 2 := by
  have h := escs_len s.data.toList
  have e : s.data.toList.length = s.size := by rw [Array.length_toList]; rfl
  unfold quoted
  simp only [List.length_append, List.length_cons, List.length_nil]
  omega
theorem escs_snoc (l : List UInt8) (c : UInt8) : escs (l ++ [c]) = escs l ++ esc c := by simp [escs]
theorem joinTo_len {t : Nat → List UInt8} {f : Nat → Nat} : ∀ {k : Nat}, (∀ i, i < k → (t i).length ≤ 131100 * f i) → (joinTo t k).length ≤ 131100 * sumTo f k + 2 * k
  | 0, _ => by simp [joinTo, sumTo]
  | k + 1, h => by
    have h1 := joinTo_len (k := k) (fun i hi => h i (by omega))
    have h2 := h k (by omega)
    simp only [joinTo, sumTo, List.length_append]
    have h3 : (if k = 0 then ([] : List UInt8) else [44, 32]).length ≤ 2 := by split <;> simp
    omega
theorem joinTo_mono {t : Nat → List UInt8} {i k : Nat} (h : i ≤ k) : (joinTo t i).length ≤ (joinTo t k).length := by
  induction k with
  | zero => obtain rfl : i = 0 := by omega
            exact Nat.le_refl _
  | succ k ih =>
    by_cases e : i = k + 1
    · subst e; exact Nat.le_refl _
    · exact Nat.le_trans (ih (by omega)) (by simp only [joinTo, List.length_append]; omega)

theorem itoa_len {n : Int} (h0 : -9223372036854775808 ≤ n) (h1 : n ≤ 9223372036854775807) : (Lib.itoa n).length ≤ 21 := by
  have hd : (Lib.decDigits n.natAbs).length ≤ 20 := by
    rw [Lib.decDigits_length]
    by_cases h1 : 1 ≤ n.natAbs
    · have := Lib.numDigits_eq n.natAbs h1 (by omega)
      split at this <;> omega
    · rw [Lib.nDigits_small (by omega)]; omega
  unfold Lib.itoa
  split
  · simp only [List.length_cons]; omega
  · have e : n.toNat = n.natAbs := by omega
    rw [e]; omega

theorem wd_size {s : ByteArray} (h : isWd s = true) : s.size ≤ 64 := by
  unfold isWd at h
  simp only [Bool.and_eq_true, decide_eq_true_eq] at h
  exact h.1.2

/-- The text of a value that may be is not long. -/
theorem text_len : ∀ v : V, ∀ (B : Nat) (w : World) (d : Nat), v.At B w → v.may d = true → v.text.length ≤ 131100 * v.size := by
  refine V.ind fun v ih B w d hat hm => ?_
  have hp := v.size_pos
  rw [V.may_eq] at hm
  by_cases h1 : v.kind = 1
  · have := itoa_len hat.flat.n0 hat.flat.n1
    rw [V.text_num h1]; omega
  · rw [if_neg h1] at hm
    by_cases h2 : v.kind = 2
    · rw [if_pos h2] at hm
      simp only [Bool.and_eq_true, decide_eq_true_eq] at hm
      have := quoted_len v.str
      rw [V.text_sym h2]; omega
    · rw [if_neg h2] at hm
      simp only [Bool.and_eq_true, decide_eq_true_eq] at hm
      obtain ⟨⟨⟨⟨⟨h3, _⟩, _⟩, hw⟩, h8⟩, hk⟩ := hm
      have hj := joinTo_len (t := fun i => (v.kid i).text) (f := fun i => (v.kid i).size) (k := v.len) (fun i hi => ih i hi B w (d - 1) (hat.kid i hi) ((allTo_iff _ _).1 hk i hi))
      have hs := wd_size hw
      have e : v.str.data.toList.length = v.str.size := by rw [Array.length_toList]; rfl
      rw [V.text_con h3, V.size_eq]
      simp only [List.length_append, List.length_cons, List.length_nil]
      omega
end Go.Proofs.YtbfkcfhkccicoaaDoor
