/- How two values stand, as plain functions. -/
import Derived.Test.YtbfkcfhkccicoaaDoorRRight
namespace Go.Proofs.YtbfkcfhkccicoaaDoor
open Go.RowKit

def cmpI (a b : Int) : Int := if a < b then -1 else if b < a then 1 else 0
def cmpS (a b : ByteArray) : Int := if Op.bytesLess a.toList b.toList = true then -1 else if Op.bytesLess b.toList a.toList = true then 1 else 0
theorem bytes_gtr : ∀ x y : List UInt8, Op.bytesLess y x = !(Op.bytesLess x y || x == y)
  | [], [] => rfl
  | [], _ :: _ => rfl
  | _ :: _, [] => rfl
  | a :: x, b :: y => by
    simp only [Op.bytesLess, bytes_gtr x y, List.cons_beq_cons]
    by_cases h : a = b
    · subst h; simp
    · have h1 : (a == b) = false := beq_eq_false_iff_ne.2 h
      have h2 : (b == a) = false := beq_eq_false_iff_ne.2 (fun e => h e.symm)
      rw [h1, h2]
      simp only [Bool.false_and, Bool.or_false]
      by_cases h3 : a < b
      · have h4 : ¬ b < a := fun e => absurd (UInt8.lt_trans h3 e) (UInt8.lt_irrefl _)
        simp [h3, h4]
      · have h4 : b < a := by
          rcases UInt8.lt_or_le b a with h5 | h5
          · exact h5
          · exact absurd (UInt8.le_antisymm h5 (UInt8.not_lt.1 (fun e => h3 e)) ) (fun e => h (by first | exact e | exact e.symm))
        simp [h3, h4]
/-- The first of f 0, f 1, .. that is not 0, behind n. -/
def firstTo (f : Nat → Int) : Nat → Int → Int
  | 0, n => n
  | k + 1, n => if firstTo f k n = 0 then f k else firstTo f k n

/-- The four first looks. -/
def four (a b : V) (i : Nat) : Int := if i = 0 then cmpI a.kind b.kind else if i = 1 then cmpI a.num b.num else if i = 2 then cmpS a.str b.str else cmpI (a.len : Int) (b.len : Int)

namespace V
/-- As the code has it. -/
def ord : V → V → Int
  | none, b => firstTo (four none b) 4 0
  | mk k n s a l c f, b => if firstTo (four (mk k n s a l c f) b) 4 0 = 0 then firstTo (fun i => (f i).ord (b.kid i)) l 0 else firstTo (four (mk k n s a l c f) b) 4 0
theorem ord_eq (a b : V) : a.ord b = if firstTo (four a b) 4 0 = 0 then firstTo (fun i => (a.kid i).ord (b.kid i)) a.len 0 else firstTo (four a b) 4 0 := by
  cases a with
  | none =>
    simp only [ord, len, firstTo]
    split <;> simp_all
  | mk => rfl

/-- As the document has it. -/
def std : V → V → Int
  | none, b => if 0 = b.kind then 0 else cmpI 0 b.kind
  | mk k n s _ l _ f, b => if k = b.kind then
      (if k = 1 then cmpI n b.num else if k = 2 then cmpS s b.str else if k = 3 then
        firstTo (fun i => (f i).std (b.kid i)) l (if cmpS s b.str = 0 then cmpI (l : Int) (b.len : Int) else cmpS s b.str) else 0)
    else cmpI k b.kind
theorem std_eq (a b : V) : a.std b = if a.kind = b.kind then
      (if a.kind = 1 then cmpI a.num b.num else if a.kind = 2 then cmpS a.str b.str else if a.kind = 3 then
        firstTo (fun i => (a.kid i).std (b.kid i)) a.len (if cmpS a.str b.str = 0 then cmpI (a.len : Int) (b.len : Int) else cmpS a.str b.str) else 0)
    else cmpI a.kind b.kind := by
  cases a with
  | none =>
    show (if (0 : Int) = b.kind then (0 : Int) else cmpI 0 b.kind) = (if (0 : Int) = b.kind then (if (0 : Int) = 1 then _ else if (0 : Int) = 2 then _ else if (0 : Int) = 3 then _ else 0) else cmpI 0 b.kind)
    rw [if_neg (show ¬ (0 : Int) = 1 by decide), if_neg (show ¬ (0 : Int) = 2 by decide), if_neg (show ¬ (0 : Int) = 3 by decide)]
  | mk => rfl
end V

theorem cmpI_zero {a b : Int} : cmpI a b = 0 ↔ a = b := by
  unfold cmpI
  split
  · constructor <;> intro h <;> omega
  · split
    · constructor <;> intro h <;> omega
    · constructor <;> intro h <;> omega
theorem cmpI_self (a : Int) : cmpI a a = 0 := cmpI_zero.2 rfl
theorem firstTo_first {f : Nat → Int} {n : Int} (h : n ≠ 0) : ∀ k, firstTo f k n = n
  | 0 => rfl
  | k + 1 => by simp only [firstTo]; rw [firstTo_first h k, if_neg h]
theorem firstTo_congr {f g : Nat → Int} {n : Int} : ∀ {k : Nat}, (∀ i, i < k → f i = g i) → firstTo f k n = firstTo g k n
  | 0, _ => rfl
  | k + 1, h => by
    simp only [firstTo]
    rw [firstTo_congr (fun i hi => h i (by omega)), h k (by omega)]
theorem firstTo_zero {f : Nat → Int} {n : Int} : ∀ {k : Nat}, firstTo f k n = 0 ↔ n = 0 ∧ ∀ i, i < k → f i = 0
  | 0 => by simp [firstTo]
  | k + 1 => by
    simp only [firstTo]
    split
    · rename_i h
      have h2 := firstTo_zero.1 h
      constructor
      · intro h3
        refine ⟨h2.1, fun i hi => ?_⟩
        rcases Nat.lt_succ_iff_lt_or_eq.1 hi with h4 | rfl
        · exact h2.2 i h4
        · exact h3
      · exact fun h3 => h3.2 k (by omega)
    · rename_i h
      constructor
      · exact fun h3 => absurd h3 h
      · exact fun h3 => absurd (firstTo_zero.2 ⟨h3.1, fun i hi => h3.2 i (by omega)⟩) h
theorem four_val (a b : V) : firstTo (four a b) 4 0 = if cmpI a.kind b.kind ≠ 0 then cmpI a.kind b.kind else if cmpI a.num b.num ≠ 0 then cmpI a.num b.num else if cmpS a.str b.str ≠ 0 then cmpS a.str b.str else cmpI (a.len : Int) (b.len : Int) := by
  simp only [firstTo, four, if_true, show ¬ (1 = 0) by omega, show ¬ (2 = 0) by omega, show ¬ (2 = 1) by omega, show ¬ (3 = 0) by omega, show ¬ (3 = 1) by omega, show ¬ (3 = 2) by omega, if_false]
  by_cases h0 : cmpI a.kind b.kind = 0
  · by_cases h1 : cmpI a.num b.num = 0
    · by_cases h2 : cmpS a.str b.str = 0
      · simp [h0, h1, h2]
      · simp [h0, h1, h2]
    · simp [h0, h1]
  · simp [h0]

theorem size0 {s : ByteArray} (h : s.size = 0) : s = ⟨#[]⟩ := by
  have : s.data = #[] := Array.size_eq_zero_iff.1 h
  cases s; simp_all
theorem cmpS_self (s : ByteArray) : cmpS s s = 0 := by
  have : Op.bytesLess s.toList s.toList = false := by
    generalize s.toList = l
    induction l with
    | nil => rfl
    | cons x l ih => simp [Op.bytesLess, ih]
  unfold cmpS
  rw [this]; rfl

/-- Of values that may be the two are the same. -/
theorem std_ord : ∀ a : V, ∀ (b : V) (d d' : Nat), a.may d = true → b.may d' = true → a.std b = a.ord b := by
  refine V.ind fun a ih b d d' ha hb => ?_
  rw [V.std_eq, V.ord_eq, four_val]
  by_cases hk : a.kind = b.kind
  · rw [if_pos hk]
    have hk0 : cmpI a.kind b.kind = 0 := cmpI_zero.2 hk
    rw [V.may_eq] at ha hb
    by_cases h1 : a.kind = 1
    · rw [if_pos h1] at ha
      rw [if_pos (hk ▸ h1)] at hb
      simp only [Bool.and_eq_true, decide_eq_true_eq] at ha hb
      have e1 : cmpS a.str b.str = 0 := by rw [size0 ha.1, size0 hb.1]; exact cmpS_self _
      have e2 : cmpI (a.len : Int) (b.len : Int) = 0 := by rw [ha.2, hb.2]; exact cmpI_self _
      rw [if_pos h1, hk0, e1, e2, ha.2]
      by_cases h2 : cmpI a.num b.num = 0 <;> simp [h2, firstTo]
    · rw [if_neg h1] at ha
      rw [if_neg (hk ▸ h1)] at hb
      by_cases h2 : a.kind = 2
      · rw [if_pos h2] at ha
        rw [if_pos (hk ▸ h2)] at hb
        simp only [Bool.and_eq_true, decide_eq_true_eq] at ha hb
        have e1 : cmpI a.num b.num = 0 := cmpI_zero.2 (ha.1.1.trans hb.1.1.symm)
        have e2 : cmpI (a.len : Int) (b.len : Int) = 0 := by rw [ha.1.2, hb.1.2]; exact cmpI_self _
        rw [if_neg h1, if_pos h2, hk0, e1, e2, ha.1.2]
        by_cases h3 : cmpS a.str b.str = 0 <;> simp [h3, firstTo]
      · rw [if_neg h2] at ha
        rw [if_neg (hk ▸ h2)] at hb
        simp only [Bool.and_eq_true, decide_eq_true_eq] at ha hb
        obtain ⟨⟨⟨⟨⟨ha3, _⟩, han⟩, _⟩, _⟩, hak⟩ := ha
        obtain ⟨⟨⟨⟨⟨_, _⟩, hbn⟩, _⟩, _⟩, hbk⟩ := hb
        have e1 : cmpI a.num b.num = 0 := cmpI_zero.2 (han.trans hbn.symm)
        rw [if_neg h1, if_neg h2, if_pos ha3, hk0, e1]
        by_cases h3 : cmpS a.str b.str = 0
        · by_cases h4 : cmpI (a.len : Int) (b.len : Int) = 0
          · have hl : a.len = b.len := by have := cmpI_zero.1 h4; omega
            simp only [h3, h4, ne_eq, not_true_eq_false, if_false, if_true]
            refine firstTo_congr fun i hi => ih i hi _ (d - 1) (d' - 1) ((allTo_iff _ _).1 hak i hi) ((allTo_iff _ _).1 hbk i (by omega))
          · simp only [h3, ne_eq, not_true_eq_false, if_false, if_true]
            rw [if_neg h4, firstTo_first h4]
        · simp only [ne_eq, not_true_eq_false, if_false, h3, not_false_eq_true, if_true]
          rw [firstTo_first h3]
  · have hk0 : ¬ cmpI a.kind b.kind = 0 := fun e => hk (cmpI_zero.1 e)
    rw [if_neg hk, if_pos hk0, if_neg hk0]

/-- Order: of any two. -/
def ordAll (a b : V) : Int := if a.right && b.right then a.ord b else if a.right then 1 else if b.right then -1 else 0
theorem right_may {v : V} (h : v.right = true) : v.may 32 = true := by
  unfold V.right at h
  simp only [Bool.and_eq_true] at h
  exact h.1
theorem std_ordAll (a b : V) (ha : a.right = true) (hb : b.right = true) : a.std b = a.ord b := std_ord a b 32 32 (right_may ha) (right_may hb)
end Go.Proofs.YtbfkcfhkccicoaaDoor
