/- Ordered sets as lists: what stands where in a node, what an insertion is, how tuples by an order stand. -/
import Derived.Test.YthcljhfankooaabGreatBIns
namespace Go.Proofs.YthcljhfankooaabGreat
open Go.RowKit

/-- A tuple that is kept: its slice, its numbers. -/
abbrev Item : Type := Value × List Int

theorem cmpA_all {o a b : List Int} (ho : right o = true) (ha : a.length = o.length) (hb : b.length = o.length) : cmpA o a b = lex (turn o a) (turn o b) := if_pos (fitN_mk2 ha hb ho)
theorem cmpA_self (o a : List Int) (ho : right o = true) (ha : a.length = o.length) : cmpA o a a = 0 := by
  rw [cmpA_all ho ha ha]; exact (lex_zero _ _ rfl).2 rfl
theorem cmpA_zero {o a b : List Int} (ho : right o = true) (ha : a.length = o.length) (hb : b.length = o.length) (h : cmpA o a b = 0) : a = b := by
  rw [cmpA_all ho ha hb] at h
  exact turn_inj ho ha hb ((lex_zero _ _ (by simp [turn_length])).1 h)
theorem cmpA_neg {o a b : List Int} (ho : right o = true) (ha : a.length = o.length) (hb : b.length = o.length) : cmpA o b a = - cmpA o a b := by
  rw [cmpA_all ho ha hb, cmpA_all ho hb ha]; exact lex_neg _ _
theorem cmpA_le {o a b c : List Int} (ho : right o = true) (ha : a.length = o.length) (hb : b.length = o.length) (hc : c.length = o.length) (h1 : cmpA o a b ≤ 0) (h2 : cmpA o b c ≤ 0) : cmpA o a c ≤ 0 := by
  rw [cmpA_all ho ha hb] at h1
  rw [cmpA_all ho hb hc] at h2
  rw [cmpA_all ho ha hc]
  exact lex_trans _ _ _ (by simp [turn_length]) (by simp [turn_length]) h1 h2
theorem cmpA_lt_le {o a b c : List Int} (ho : right o = true) (ha : a.length = o.length) (hb : b.length = o.length) (hc : c.length = o.length) (h1 : cmpA o a b < 0) (h2 : cmpA o b c ≤ 0) : cmpA o a c < 0 := by
  have h := cmpA_le ho ha hb hc (Int.le_of_lt h1) h2
  rcases Int.lt_or_eq_of_le h with h3 | h3
  · exact h3
  · exfalso
    have := cmpA_zero ho ha hc h3
    subst this
    have := cmpA_neg ho ha hb
    omega
theorem cmpA_le_lt {o a b c : List Int} (ho : right o = true) (ha : a.length = o.length) (hb : b.length = o.length) (hc : c.length = o.length) (h1 : cmpA o a b ≤ 0) (h2 : cmpA o b c < 0) : cmpA o a c < 0 := by
  have h := cmpA_le ho ha hb hc h1 (Int.le_of_lt h2)
  rcases Int.lt_or_eq_of_le h with h3 | h3
  · exact h3
  · exfalso
    have := cmpA_zero ho ha hc h3
    subst this
    have := cmpA_neg ho ha hb
    omega

/-- From the i-th kid on: k tuples and what stands between them. -/
def seg (c : Nat → List Item) (t : Nat → Item) : Nat → Nat → List Item
  | i, 0 => c i
  | i, k + 1 => c i ++ t i :: seg c t (i + 1) k
/-- Ahead of the i-th kid. -/
def up (c : Nat → List Item) (t : Nat → Item) : Nat → List Item
  | 0 => []
  | i + 1 => up c t i ++ (c i ++ [t i])
/-- Behind the i-th kid of n. -/
def bk (c : Nat → List Item) (t : Nat → Item) (i n : Nat) : List Item := if i < n then t i :: seg c t (i + 1) (n - i - 1) else []

theorem seg_split (c : Nat → List Item) (t : Nat → Item) : ∀ i k, seg c t 0 (i + k) = up c t i ++ seg c t i k
  | 0, k => by simp [up]
  | i + 1, k => by
    rw [show i + 1 + k = i + (k + 1) by omega, seg_split c t i (k + 1)]
    simp [up, seg]
theorem seg_parts (c : Nat → List Item) (t : Nat → Item) (i n : Nat) (h : i ≤ n) : seg c t 0 n = up c t i ++ (c i ++ bk c t i n) := by
  rw [show n = i + (n - i) by omega, seg_split, show i + (n - i) = n by omega]
  rcases Nat.lt_or_ge i n with h1 | h1
  · rw [bk, if_pos h1, show n - i = (n - i - 1) + 1 by omega, seg]
    simp
  · rw [bk, if_neg (by omega), show n - i = 0 by omega, seg]
    simp
theorem seg_congr {c c' : Nat → List Item} {t t' : Nat → Item} : ∀ k i, (∀ j, i ≤ j → j ≤ i + k → c j = c' j) → (∀ j, i ≤ j → j < i + k → t j = t' j) → seg c t i k = seg c' t' i k
  | 0, i, hc, _ => by simp [seg, hc i (Nat.le_refl _) (Nat.le_refl _)]
  | k + 1, i, hc, ht => by
    rw [seg, seg, hc i (Nat.le_refl _) (by omega), ht i (Nat.le_refl _) (by omega), seg_congr k (i + 1) (fun j h1 h2 => hc j (by omega) (by omega)) (fun j h1 h2 => ht j (by omega) (by omega))]
theorem seg_shift (c : Nat → List Item) (t : Nat → Item) (s : Nat) : ∀ k i, seg (fun j => c (s + j)) (fun j => t (s + j)) i k = seg c t (s + i) k
  | 0, i => rfl
  | k + 1, i => by rw [seg, seg, seg_shift c t s k (i + 1)]; rfl
theorem up_congr {c c' : Nat → List Item} {t t' : Nat → Item} : ∀ i, (∀ j, j < i → c j = c' j) → (∀ j, j < i → t j = t' j) → up c t i = up c' t' i
  | 0, _, _ => rfl
  | i + 1, hc, ht => by rw [up, up, up_congr i (fun j h => hc j (by omega)) (fun j h => ht j (by omega)), hc i (by omega), ht i (by omega)]
/-- Another kid at a place. -/
def updf {α : Type} (f : Nat → α) (i : Nat) (x : α) (j : Nat) : α := if j = i then x else f j
theorem updf_eq {α : Type} (f : Nat → α) (i : Nat) (x : α) : updf f i x i = x := if_pos rfl
theorem updf_ne {α : Type} {f : Nat → α} {i : Nat} {x : α} {j : Nat} (h : j ≠ i) : updf f i x j = f j := if_neg h
theorem seg_upd (c : Nat → List Item) (t : Nat → Item) (i n : Nat) (x : List Item) (h : i ≤ n) : seg (updf c i x) t 0 n = up c t i ++ (x ++ bk c t i n) := by
  rw [seg_parts _ _ i n h, updf_eq, up_congr (c' := c) (t' := t) i (fun j hj => updf_ne (by omega)) (fun _ _ => rfl)]
  congr 2
  unfold bk
  split
  · rw [seg_congr (c' := c) (t' := t) (n - i - 1) (i + 1) (fun j h1 _ => updf_ne (by omega)) (fun _ _ _ => rfl)]
  · rfl
/-- Two halves and a tuple between them in a kid's place. -/
theorem seg_ins (c : Nat → List Item) (t : Nat → Item) (i n : Nat) (x y : List Item) (m : Item) (h : i ≤ n) : seg (insf (updf c i y) i x) (insf t i m) 0 (n + 1) = up c t i ++ ((x ++ m :: y) ++ bk c t i n) := by
  rw [seg_parts _ _ i (n + 1) (by omega), insf_eq, up_congr (c' := c) (t' := t) i (fun j hj => by rw [insf_lt hj, updf_ne (by omega)]) (fun j hj => insf_lt hj)]
  congr 1
  rw [List.append_assoc]
  congr 1
  rw [bk, if_pos (by omega), insf_eq, List.cons_append]
  congr 1
  unfold bk
  rcases Nat.lt_or_ge i n with h1 | h1
  · rw [if_pos h1, show n + 1 - i - 1 = (n - i - 1) + 1 by omega, seg, insf_gt (by omega), insf_gt (by omega), Nat.add_sub_cancel, updf_eq]
    congr 2
    rw [seg_congr (c' := fun j => c (j - 1)) (t' := fun j => t (j - 1)) (n - i - 1) (i + 1 + 1) (fun j h2 _ => by rw [insf_gt (by omega), updf_ne (by omega)]) (fun j h2 _ => insf_gt (by omega))]
    have e := seg_shift (fun j => c (j - 1)) (fun j => t (j - 1)) 1 (n - i - 1) (i + 1)
    rw [show i + 1 + 1 = 1 + (i + 1) by omega, ← e]
    exact seg_congr _ _ (fun j _ _ => by simp) (fun j _ _ => by simp)
  · rw [if_neg (by omega), show n + 1 - i - 1 = 0 by omega, seg, insf_gt (by omega), Nat.add_sub_cancel, updf_eq]
    simp

/-- Rising, and all of the order's width. -/
def Rises (o : List Int) (l : List Item) : Prop := l.Pairwise (fun a b => cmpA o a.2 b.2 < 0) ∧ ∀ a ∈ l, a.2.length = o.length
theorem Rises.nil (o : List Int) : Rises o [] := ⟨List.Pairwise.nil, fun _ h => by cases h⟩
theorem Rises.first {o : List Int} {a b : List Item} (h : Rises o (a ++ b)) : Rises o a := ⟨(List.pairwise_append.1 h.1).1, fun x hx => h.2 x (by simp [hx])⟩
theorem Rises.rest {o : List Int} {a b : List Item} (h : Rises o (a ++ b)) : Rises o b := ⟨(List.pairwise_append.1 h.1).2.1, fun x hx => h.2 x (by simp [hx])⟩
theorem Rises.cross {o : List Int} {a b : List Item} (h : Rises o (a ++ b)) : ∀ x ∈ a, ∀ y ∈ b, cmpA o x.2 y.2 < 0 := (List.pairwise_append.1 h.1).2.2
theorem Rises.kid {o : List Int} {c : Nat → List Item} {t : Nat → Item} {i n : Nat} (h : Rises o (seg c t 0 n)) (hi : i ≤ n) : Rises o (c i) := by
  rw [seg_parts c t i n hi] at h
  exact h.rest.first
theorem mem_seg {c : Nat → List Item} {t : Nat → Item} {i n : Nat} (h : i < n) : t i ∈ seg c t 0 n := by
  rw [seg_parts c t i n (by omega), bk, if_pos h]
  simp
/-- The tuples of a node rise. -/
theorem Rises.ts {o : List Int} {c : Nat → List Item} {t : Nat → Item} {n : Nat} (h : Rises o (seg c t 0 n)) : ∀ i j, i < j → j < n → cmpA o (t i).2 (t j).2 < 0 := fun i j hij hj => by
  rw [seg_parts c t j n (by omega)] at h
  refine h.cross (t i) ?_ (t j) (by rw [bk, if_pos hj]; simp)
  clear h hj
  induction j with
  | zero => omega
  | succ j ih =>
    rw [up]
    rcases Nat.lt_or_ge i j with h1 | h1
    · simp [ih h1]
    · obtain rfl : i = j := by omega
      simp
theorem Rises.width {o : List Int} {c : Nat → List Item} {t : Nat → Item} {n : Nat} (h : Rises o (seg c t 0 n)) {i : Nat} (hi : i < n) : (t i).2.length = o.length := h.2 _ (mem_seg hi)
/-- What stands ahead of the place that was found is below, what stands behind it above. -/
theorem Rises.ahead {o : List Int} (ho : right o = true) {c : Nat → List Item} {t : Nat → Item} {n at_ : Nat} {x : List Int} (h : Rises o (seg c t 0 n)) (hx : x.length = o.length) (ha : at_ ≤ n) (hlo : ∀ j, j < at_ → cmpA o (t j).2 x < 0) :
    ∀ y ∈ up c t at_, cmpA o y.2 x < 0 := fun y hy => by
  match at_, hy with
  | 0, hy => cases hy
  | i + 1, hy =>
    rw [seg_parts c t (i + 1) n ha, up] at h
    have hl := hlo i (by omega)
    rw [up, ← List.append_assoc, List.mem_append] at hy
    rcases hy with hy | hy
    · have h1 := h.first
      rw [← List.append_assoc] at h1
      have h2 := h1.cross y hy (t i) (by simp)
      exact cmpA_lt_le ho (h1.2 y (List.mem_append.2 (.inl hy))) (h1.2 (t i) (by simp)) hx h2 (Int.le_of_lt hl)
    · simp at hy
      subst hy
      exact hl
theorem Rises.behind {o : List Int} (ho : right o = true) {c : Nat → List Item} {t : Nat → Item} {n at_ : Nat} {x : List Int} (h : Rises o (seg c t 0 n)) (hx : x.length = o.length) (hhi : ∀ j, at_ ≤ j → j < n → 0 ≤ cmpA o (t j).2 x) :
    ∀ y ∈ bk c t at_ n, y = t at_ ∨ 0 < cmpA o y.2 x := fun y hy => by
  unfold bk at hy
  split at hy
  · rename_i hlt
    rw [seg_parts c t at_ n (by omega), bk, if_pos hlt] at h
    rcases List.mem_cons.1 hy with hy | hy
    · exact .inl hy
    · right
      have h1 := h.rest.rest
      have h2 : cmpA o (t at_).2 y.2 < 0 := (List.pairwise_cons.1 h1.1).1 y hy
      have w1 := h1.2 (t at_) (by simp)
      have w2 := h1.2 y (by simp [hy])
      have h3 := hhi at_ (Nat.le_refl _) hlt
      have h4 := cmpA_neg ho w1 hx
      have h5 := cmpA_le_lt ho hx w1 w2 (by omega) h2
      have h6 := cmpA_neg ho hx w2
      omega
  · cases hy

/-- Is it there? -/
def hasI (x : List Int) (l : List Item) : Bool := l.any fun y => y.2 == x
theorem hasI_append (x : List Int) (a b : List Item) : hasI x (a ++ b) = (hasI x a || hasI x b) := by simp [hasI]
theorem hasI_false {x : List Int} {l : List Item} (h : ∀ y ∈ l, y.2 ≠ x) : hasI x l = false := by
  simp only [hasI, List.any_eq_false, beq_iff_eq]
  exact h
theorem hasI_mem {x : List Int} {l : List Item} {y : Item} (h : y ∈ l) (e : y.2 = x) : hasI x l = true := by
  simp only [hasI, List.any_eq_true, beq_iff_eq]
  exact ⟨y, h, e⟩
/-- In a node: at the place that was found, or in the kid ahead of it. -/
theorem hasI_node {o : List Int} (ho : right o = true) {c : Nat → List Item} {t : Nat → Item} {n at_ : Nat} {x : List Int} (h : Rises o (seg c t 0 n)) (hx : x.length = o.length) (ha : at_ ≤ n) (hlo : ∀ j, j < at_ → cmpA o (t j).2 x < 0)
    (hhi : ∀ j, at_ ≤ j → j < n → 0 ≤ cmpA o (t j).2 x) : hasI x (seg c t 0 n) = (decide (at_ < n ∧ cmpA o (t at_).2 x = 0) || hasI x (c at_)) := by
  have h1 := h.ahead ho hx ha hlo
  have h2 := h.behind ho hx hhi
  have e1 : hasI x (up c t at_) = false := hasI_false fun y hy e => by
    have := h1 y hy
    rw [e, cmpA_self o x ho hx] at this
    omega
  have e2 : hasI x (bk c t at_ n) = decide (at_ < n ∧ cmpA o (t at_).2 x = 0) := by
    rcases Nat.lt_or_ge at_ n with hlt | hlt
    · have hw := h.width hlt
      by_cases hz : cmpA o (t at_).2 x = 0
      · rw [decide_eq_true ⟨hlt, hz⟩]
        exact hasI_mem (y := t at_) (by rw [bk, if_pos hlt]; simp) (cmpA_zero ho hw hx hz)
      · rw [decide_eq_false (fun e => hz e.2)]
        refine hasI_false fun y hy e => ?_
        rcases h2 y hy with h3 | h3
        · subst h3
          rw [e, cmpA_self o x ho hx] at hz
          exact hz rfl
        · rw [e, cmpA_self o x ho hx] at h3
          omega
    · rw [decide_eq_false (by omega), bk, if_neg (by omega)]
      rfl
  rw [seg_parts c t at_ n ha, hasI_append, hasI_append, e1, e2, Bool.false_or, Bool.or_comm]

/-- A tuple put in its place. -/
def PutIn (o : List Int) (x : Item) (l l' : List Item) : Prop := ∃ p q, l = p ++ q ∧ l' = p ++ x :: q ∧ (∀ y ∈ p, cmpA o y.2 x.2 < 0) ∧ (∀ y ∈ q, 0 < cmpA o y.2 x.2)
theorem PutIn.ctx {o : List Int} {x : Item} {c c' A B : List Item} (h : PutIn o x c c') (hA : ∀ y ∈ A, cmpA o y.2 x.2 < 0) (hB : ∀ y ∈ B, 0 < cmpA o y.2 x.2) : PutIn o x (A ++ (c ++ B)) (A ++ (c' ++ B)) := by
  obtain ⟨p, q, rfl, rfl, h1, h2⟩ := h
  refine ⟨A ++ p, q ++ B, by simp, by simp, fun y hy => ?_, fun y hy => ?_⟩
  · rcases List.mem_append.1 hy with h | h
    · exact hA y h
    · exact h1 y h
  · rcases List.mem_append.1 hy with h | h
    · exact h2 y h
    · exact hB y h
/-- .. in a node. -/
theorem PutIn.node {o : List Int} (ho : right o = true) {c : Nat → List Item} {t : Nat → Item} {n at_ : Nat} {x : Item} {c' : List Item} (h : Rises o (seg c t 0 n)) (hx : x.2.length = o.length) (hnot : hasI x.2 (seg c t 0 n) = false) (ha : at_ ≤ n) (hlo : ∀ j, j < at_ → cmpA o (t j).2 x.2 < 0)
    (hhi : ∀ j, at_ ≤ j → j < n → 0 ≤ cmpA o (t j).2 x.2) (hp : PutIn o x (c at_) c') : PutIn o x (seg c t 0 n) (up c t at_ ++ (c' ++ bk c t at_ n)) := by
  rw [seg_parts c t at_ n ha]
  refine hp.ctx (h.ahead ho hx ha hlo) (fun y hy => ?_)
  rcases h.behind ho hx hhi y hy with e | e
  · subst e
    have hlt : at_ < n := by
      unfold bk at hy
      split at hy
      · assumption
      · cases hy
    have h1 := hhi at_ (Nat.le_refl _) hlt
    rcases Int.lt_or_eq_of_le h1 with h2 | h2
    · exact h2
    · exfalso
      have := cmpA_zero ho (h.width hlt) hx h2.symm
      rw [hasI_mem (mem_seg hlt) this] at hnot
      cases hnot
  · exact e
theorem PutIn.rises {o : List Int} (ho : right o = true) {x : Item} {l l' : List Item} (h : PutIn o x l l') (hr : Rises o l) (hx : x.2.length = o.length) : Rises o l' := by
  obtain ⟨p, q, rfl, rfl, h1, h2⟩ := h
  refine ⟨?_, fun a ha => ?_⟩
  · rw [List.pairwise_append]
    refine ⟨hr.first.1, List.pairwise_cons.2 ⟨fun y hy => ?_, hr.rest.1⟩, fun a ha b hb => ?_⟩
    · have := cmpA_neg ho (hr.rest.2 y hy) hx
      have := h2 y hy
      omega
    · rcases List.mem_cons.1 hb with e | hb
      · rw [e]; exact h1 a ha
      · exact hr.cross a ha b hb
  · rcases List.mem_append.1 ha with ha | ha
    · exact hr.2 a (by simp [ha])
    · rcases List.mem_cons.1 ha with e | ha
      · rw [e]; exact hx
      · exact hr.2 a (by simp [ha])
theorem PutIn.length {o : List Int} {x : Item} {l l' : List Item} (h : PutIn o x l l') : l'.length = l.length + 1 := by
  obtain ⟨p, q, rfl, rfl, _, _⟩ := h
  simp; omega
theorem PutIn.has {o : List Int} {x : Item} {l l' : List Item} (h : PutIn o x l l') (y : List Int) : hasI y l' = (hasI y l || x.2 == y) := by
  obtain ⟨p, q, rfl, rfl, _, _⟩ := h
  rw [hasI_append, hasI_append]
  simp [hasI, Bool.or_comm, Bool.or_left_comm]
end Go.Proofs.YthcljhfankooaabGreat
