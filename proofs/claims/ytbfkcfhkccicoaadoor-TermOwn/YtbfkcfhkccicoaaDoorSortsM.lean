/- The order turns round, and three values never stand in a ring: plain facts. -/
import Derived.Test.YtbfkcfhkccicoaaDoorTextI
namespace Go.Proofs.YtbfkcfhkccicoaaDoor
open Go.RowKit

/-- Of three: a before b, b before c, a before c. -/
def Tr (m n k : Int) : Prop := m ≤ 0 → n ≤ 0 → k ≤ 0 ∧ (k = 0 ↔ m = 0 ∧ n = 0)

theorem cmpI_tr (a b c : Int) : Tr (cmpI a b) (cmpI b c) (cmpI a c) := by
  unfold Tr cmpI
  intro h1 h2
  (repeat' split at h1) <;> (repeat' split at h2) <;> (repeat' split) <;> first | (constructor <;> omega) | omega
theorem cmpI_neg (a b : Int) : cmpI b a = - cmpI a b := by
  unfold cmpI
  (repeat' split) <;> omega
theorem cmpI_range (a b : Int) : -1 ≤ cmpI a b ∧ cmpI a b ≤ 1 := by
  unfold cmpI
  (repeat' split) <;> omega

theorem less_trans : ∀ x y z : List UInt8, Op.bytesLess x y = true → Op.bytesLess y z = true → Op.bytesLess x z = true
  | [], [], _ => fun h => by cases h
  | [], _ :: _, [] => fun _ h => by cases h
  | [], _ :: _, _ :: _ => fun _ _ => rfl
  | _ :: _, [], _ => fun h => by cases h
  | _ :: _, _ :: _, [] => fun _ h => by cases h
  | a :: x, b :: y, c :: z => fun h1 h2 => by
    simp only [Op.bytesLess, Bool.or_eq_true, Bool.and_eq_true, decide_eq_true_eq, beq_iff_eq] at h1 h2 ⊢
    rcases h1 with h1 | ⟨h1, h1'⟩ <;> rcases h2 with h2 | ⟨h2, h2'⟩
    · exact .inl (UInt8.lt_trans h1 h2)
    · exact .inl (h2 ▸ h1)
    · exact .inl (h1 ▸ h2)
    · exact .inr ⟨h1.trans h2, less_trans x y z h1' h2'⟩
theorem less_irrefl (x : List UInt8) : Op.bytesLess x x = false := by
  have := bytes_gtr x x
  cases h : Op.bytesLess x x
  · rfl
  · rw [h] at this; simp at this
theorem less_tri (x y : List UInt8) : Op.bytesLess x y = true ∨ x = y ∨ Op.bytesLess y x = true := by
  have := bytes_gtr x y
  cases h : Op.bytesLess y x
  · rw [h] at this
    have h2 : (Op.bytesLess x y || x == y) = true := by
      cases h3 : (Op.bytesLess x y || x == y)
      · rw [h3] at this; cases this
      · rfl
    simp only [Bool.or_eq_true, beq_iff_eq] at h2
    rcases h2 with h2 | h2
    · exact .inl h2
    · exact .inr (.inl h2)
  · exact .inr (.inr rfl)

theorem cmpS_le {s t : ByteArray} : cmpS s t ≤ 0 ↔ (Op.bytesLess s.toList t.toList = true ∨ s.toList = t.toList) := by
  unfold cmpS
  split
  · rename_i h; simp [h]
  · rename_i h
    split
    · rename_i h2
      constructor
      · intro h3; omega
      · rintro (h3 | h3)
        · exact absurd h3 h
        · rw [h3, less_irrefl] at h2; cases h2
    · rename_i h2
      refine ⟨fun _ => ?_, fun _ => by omega⟩
      rcases less_tri s.toList t.toList with h3 | h3 | h3
      · exact .inl h3
      · exact .inr h3
      · exact absurd h3 h2
theorem cmpS_nil {s t : ByteArray} : cmpS s t = 0 ↔ s.toList = t.toList := by
  rw [cmpS_zero]
  refine ⟨fun h => by rw [h], fun h => ?_⟩
  rw [Lib.toList_data, Lib.toList_data] at h
  exact str_eq h
theorem cmpS_tr (a b c : ByteArray) : Tr (cmpS a b) (cmpS b c) (cmpS a c) := by
  intro h1 h2
  rw [cmpS_le] at h1 h2
  rw [cmpS_le, cmpS_nil, cmpS_nil, cmpS_nil]
  rcases h1 with h1 | h1 <;> rcases h2 with h2 | h2
  · have h3 := less_trans _ _ _ h1 h2
    refine ⟨.inl h3, fun e => ?_, fun e => ?_⟩
    · rw [e, less_irrefl] at h3; cases h3
    · rw [e.1, less_irrefl] at h1; cases h1
  · rw [← h2]
    exact ⟨.inl h1, fun e => ⟨e, rfl⟩, fun e => e.1⟩
  · rw [h1]
    exact ⟨.inl h2, fun e => ⟨rfl, e⟩, fun e => e.2⟩
  · rw [h1, h2]
    exact ⟨.inr rfl, fun _ => ⟨rfl, rfl⟩, fun _ => rfl⟩
theorem less_asym {x y : List UInt8} (h : Op.bytesLess x y = true) : ¬ Op.bytesLess y x = true := fun h2 => by
  have := less_trans _ _ _ h h2
  rw [less_irrefl] at this; cases this
theorem cmpS_neg (a b : ByteArray) : cmpS b a = - cmpS a b := by
  unfold cmpS
  by_cases h1 : Op.bytesLess a.toList b.toList = true
  · rw [if_pos h1, if_neg (less_asym h1), if_pos h1]; rfl
  · by_cases h2 : Op.bytesLess b.toList a.toList = true
    · rw [if_pos h2, if_neg h1, if_pos h2]
    · rw [if_neg h1, if_neg h2, if_neg h2, if_neg h1]; rfl
theorem cmpS_range (a b : ByteArray) : -1 ≤ cmpS a b ∧ cmpS a b ≤ 1 := by
  unfold cmpS
  (repeat' split) <;> omega

theorem tr_step {F G K x y z : Int} (ih : Tr F G K) (hk : F = 0 → G = 0 → Tr x y z) : Tr (if F = 0 then x else F) (if G = 0 then y else G) (if K = 0 then z else K) := by
  intro h1 h2
  by_cases e1 : F = 0
  · rw [if_pos e1] at h1
    by_cases e2 : G = 0
    · rw [if_pos e2] at h2
      have := ih (by omega) (by omega)
      have e3 : K = 0 := this.2.2 ⟨e1, e2⟩
      rw [if_pos e1, if_pos e2, if_pos e3]
      exact hk e1 e2 h1 h2
    · rw [if_neg e2] at h2
      have := ih (by omega) h2
      have e3 : ¬ K = 0 := fun e => e2 (this.2.1 e).2
      rw [if_pos e1, if_neg e2, if_neg e3]
      exact ⟨this.1, fun e => absurd e e3, fun e => absurd e.2 e2⟩
  · rw [if_neg e1] at h1
    have hG : G ≤ 0 := by
      by_cases e2 : G = 0
      · omega
      · rwa [if_neg e2] at h2
    have := ih h1 hG
    have e3 : ¬ K = 0 := fun e => e1 (this.2.1 e).1
    rw [if_neg e1, if_neg e3]
    exact ⟨this.1, fun e => absurd e e3, fun e => absurd e.1 e1⟩
theorem firstTo_tr {f g h : Nat → Int} : ∀ {k : Nat}, (∀ i, i < k → Tr (f i) (g i) (h i)) → Tr (firstTo f k 0) (firstTo g k 0) (firstTo h k 0)
  | 0, _ => fun _ _ => ⟨Int.le_refl _, by simp [firstTo]⟩
  | k + 1, H => by
    have ih := firstTo_tr (k := k) fun i hi => H i (by omega)
    have hk := H k (by omega)
    simp only [firstTo]
    exact tr_step ih fun _ _ => hk
theorem firstTo_neg {f g : Nat → Int} : ∀ {k : Nat}, (∀ i, i < k → g i = - f i) → firstTo g k 0 = - firstTo f k 0
  | 0, _ => rfl
  | k + 1, H => by
    have ih := firstTo_neg (k := k) fun i hi => H i (by omega)
    simp only [firstTo]
    rw [ih, H k (by omega)]
    by_cases e : firstTo f k 0 = 0
    · rw [if_pos e, if_pos (by omega)]
    · rw [if_neg e, if_neg (by omega)]
theorem firstTo_range {f : Nat → Int} : ∀ {k : Nat}, (∀ i, i < k → -1 ≤ f i ∧ f i ≤ 1) → -1 ≤ firstTo f k 0 ∧ firstTo f k 0 ≤ 1
  | 0, _ => by simp [firstTo]
  | k + 1, H => by
    have ih := firstTo_range (k := k) fun i hi => H i (by omega)
    have := H k (by omega)
    simp only [firstTo]
    split <;> omega

theorem four_tr (a b c : V) (i : Nat) : Tr (four a b i) (four b c i) (four a c i) := by
  unfold four
  split
  · exact cmpI_tr _ _ _
  · split
    · exact cmpI_tr _ _ _
    · split
      · exact cmpS_tr _ _ _
      · exact cmpI_tr _ _ _
theorem four_neg (a b : V) (i : Nat) : four b a i = - four a b i := by
  unfold four
  split
  · exact cmpI_neg _ _
  · split
    · exact cmpI_neg _ _
    · split
      · exact cmpS_neg _ _
      · exact cmpI_neg _ _
theorem four_range (a b : V) (i : Nat) : -1 ≤ four a b i ∧ four a b i ≤ 1 := by
  unfold four
  split
  · exact cmpI_range _ _
  · split
    · exact cmpI_range _ _
    · split
      · exact cmpS_range _ _
      · exact cmpI_range _ _
theorem four_len {a b : V} (h : firstTo (four a b) 4 0 = 0) : a.len = b.len := by
  have := (firstTo_zero.1 h).2 3 (by omega)
  have := cmpI_zero.1 (show cmpI (a.len : Int) (b.len : Int) = 0 from this)
  omega

theorem ord_neg : ∀ a b : V, b.ord a = - a.ord b := by
  refine V.ind fun a ih b => ?_
  rw [V.ord_eq b a, V.ord_eq a b]
  have h4 := firstTo_neg (k := 4) fun i _ => four_neg a b i
  by_cases e : firstTo (four a b) 4 0 = 0
  · rw [if_pos e, if_pos (by omega), ← four_len e]
    exact firstTo_neg fun i hi => ih i hi (b.kid i)
  · rw [if_neg e, if_neg (by omega)]
    exact h4
theorem ord_range : ∀ a b : V, -1 ≤ a.ord b ∧ a.ord b ≤ 1 := by
  refine V.ind fun a ih b => ?_
  rw [V.ord_eq a b]
  have h4 := firstTo_range (k := 4) fun i _ => four_range a b i
  split
  · exact firstTo_range fun i hi => ih i hi (b.kid i)
  · exact h4
theorem ord_tr : ∀ a b c : V, Tr (a.ord b) (b.ord c) (a.ord c) := by
  refine V.ind fun a ih b c => ?_
  rw [V.ord_eq a b, V.ord_eq b c, V.ord_eq a c]
  have h4 := firstTo_tr (k := 4) fun i _ => four_tr a b c i
  refine tr_step h4 fun e _ => ?_
  rw [← four_len e]
  exact firstTo_tr fun i hi => ih i hi _ _

theorem ordAll_neg (a b : V) : ordAll b a = - ordAll a b := by
  have := ord_neg a b
  unfold ordAll
  cases a.right <;> cases b.right <;> simp_all
theorem ordAll_range (a b : V) : -1 ≤ ordAll a b ∧ ordAll a b ≤ 1 := by
  have := ord_range a b
  unfold ordAll
  cases a.right <;> cases b.right <;> simp_all
theorem ordAll_tr (a b c : V) : Tr (ordAll a b) (ordAll b c) (ordAll a c) := by
  have := ord_tr a b c
  unfold ordAll
  unfold Tr at *
  cases a.right <;> cases b.right <;> cases c.right <;> simp <;> simpa using this
theorem ordAll_self (a : V) : ordAll a a = 0 := by
  have := ordAll_neg a a
  omega
end Go.Proofs.YtbfkcfhkccicoaaDoor
