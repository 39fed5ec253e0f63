/- What stands in a store under a number: plain facts. -/
import Derived.Test.YtpiehfjgokfdeaaDoorPutA
namespace Go.Proofs.YtpiehfjgokfdeaaDoor
open Go.RowKit

/-- The value has that number there. -/
def V.IsIn (S : SS) : V → Int → Prop
  | .none, _ => False
  | .mk k n s a l c f, m => if k = 1 then m = n else if k = 2 then ∃ j : Nat, m = j ∧ S.xs[j]? = some s
    else ∃ (j w : Nat) (nums : Nat → Int), m = j ∧ S.ns[j]? = some ((nodeAt (.mk k n s a l c f) nums l).at0 w).list ∧ S.ws[w]? = some s ∧ ∀ i, i < l → (f i).IsIn S (nums i)
theorem isIn_num {v : V} {S : SS} {m : Int} (h : v.kind = 1) : v.IsIn S m ↔ m = v.num := by
  cases v with
  | none => cases h
  | mk k n s a l c f =>
    show (if k = 1 then _ else _) ↔ _
    rw [if_pos (show k = 1 from h)]; rfl
theorem isIn_sym {v : V} {S : SS} {m : Int} (h : v.kind = 2) : v.IsIn S m ↔ ∃ j : Nat, m = j ∧ S.xs[j]? = some v.str := by
  cases v with
  | none => cases h
  | mk k n s a l c f =>
    have h2 : k = 2 := h
    show (if k = 1 then _ else if k = 2 then _ else _) ↔ _
    rw [if_neg (by omega), if_pos h2]; rfl
theorem isIn_con {v : V} {S : SS} {m : Int} (h : v.kind = 3) : v.IsIn S m ↔ ∃ (j w : Nat) (nums : Nat → Int), m = j ∧ S.ns[j]? = some ((nodeAt v nums v.len).at0 w).list ∧ S.ws[w]? = some v.str ∧ ∀ i, i < v.len → (v.kid i).IsIn S (nums i) := by
  cases v with
  | none => cases h
  | mk k n s a l c f =>
    have h2 : k = 3 := h
    show (if k = 1 then _ else if k = 2 then _ else _) ↔ _
    rw [if_neg (by omega), if_neg (by omega)]; rfl

/-- One store has all that the other has. -/
structure SS.Le (S T : SS) : Prop where
  xs : S.xs <+: T.xs
  ws : S.ws <+: T.ws
  ns : S.ns <+: T.ns
theorem SS.Le.refl (S : SS) : S.Le S := ⟨List.prefix_rfl, List.prefix_rfl, List.prefix_rfl⟩
theorem SS.Le.trans {S T U : SS} (h : S.Le T) (k : T.Le U) : S.Le U := ⟨h.xs.trans k.xs, h.ws.trans k.ws, h.ns.trans k.ns⟩
theorem at_prefix {α : Type} {l m : List α} {j : Nat} {x : α} (h : l <+: m) (e : l[j]? = some x) : m[j]? = some x := by
  obtain ⟨r, rfl⟩ := h
  rw [List.getElem?_append_left (List.getElem?_eq_some_iff.1 e).1]; exact e

theorem IsIn.more {S T : SS} (hST : S.Le T) : ∀ (v : V) (d : Nat) (m : Int), v.may d = true → v.IsIn S m → v.IsIn T m := by
  refine V.ind fun v ih d m hm h => ?_
  rcases kinds_of hm with hk | hk | hk
  · rw [isIn_num hk] at h ⊢; exact h
  · rw [isIn_sym hk] at h ⊢
    obtain ⟨j, e, h⟩ := h
    exact ⟨j, e, at_prefix hST.xs h⟩
  · rw [isIn_con hk] at h ⊢
    obtain ⟨j, w, nums, e, h1, h2, h3⟩ := h
    exact ⟨j, w, nums, e, at_prefix hST.ns h1, at_prefix hST.ws h2, fun i hi => ih i hi (d - 1) _ (may_kids hm hk i hi) (h3 i hi)⟩

theorem sym_put_at {xs : List ByteArray} {s : ByteArray} (h : Sym.ansE xs s = 0) : (Sym.put xs s)[Sym.ansN xs s]? = some s := by
  by_cases ht : Sym.there xs s = true
  · unfold Sym.put Sym.ansN
    rw [if_pos ht, if_pos ht]; exact (Sym.num_at ht).1
  · by_cases hf : 16384 ≤ xs.length
    · unfold Sym.ansE at h
      rw [if_neg ht, if_pos hf] at h; cases h
    · exact (Sym.put_room (by omega)).2.1

/-- What was put is there, and what was there stays. -/
theorem putNode_in {S : SS} {word : ByteArray} {n : Nd} (ok : S.Ok) (h : (putNodeV S word n).1.2 = 0) :
    ∃ j w : Nat, (putNodeV S word n).1.1 = j ∧ (putNodeV S word n).2.ns[j]? = some (n.at0 w).list ∧ (putNodeV S word n).2.ws[w]? = some word := by
  unfold putNodeV at h ⊢
  by_cases h1 : (findV S word n).2 = true
  · simp only [if_pos h1] at h ⊢
    unfold findV at h1 ⊢
    by_cases ht : Sym.there S.ws word = true
    · simp only [if_pos ht] at h1 ⊢
      unfold nThere at h1
      have hmem := of_decide_eq_true h1
      refine ⟨_, _, rfl, ?_, (Sym.num_at ht).1⟩
      unfold nNum
      rw [if_pos hmem]; exact (nIdx_at hmem).1
    · simp only [if_neg ht] at h1; cases h1
  · simp only [if_neg h1] at h ⊢
    by_cases h2 : 16384 ≤ S.ns.length
    · simp only [if_pos h2] at h; cases h
    · simp only [if_neg h2] at h ⊢
      have hw : S.ws.length < 16384 := by have := ok.words; omega
      exact ⟨S.ns.length, Sym.ansN S.ws word, rfl, by simp, (Sym.put_room hw).2.1⟩
theorem putNode_le (S : SS) (word : ByteArray) (n : Nd) : S.Le (putNodeV S word n).2 := by
  unfold putNodeV
  split
  · exact SS.Le.refl S
  · split
    · exact SS.Le.refl S
    · exact ⟨List.prefix_rfl, Sym.put_prefix _ _, List.prefix_append _ _⟩

theorem nodeAt_congr (v : V) {f g : Nat → Int} {k : Nat} (h : ∀ j, j < k → f j = g j) : nodeAt v f k = nodeAt v g k := by
  funext j
  unfold nodeAt
  split
  · rfl
  · split
    · rfl
    · split
      · rfl
      · split
        · rename_i hj; exact h _ hj
        · rfl

theorem putV_le : ∀ (v : V) (d : Nat) (S : SS), v.may d = true → S.Le (v.putV S).2 := by
  refine V.ind fun v ih d S hm => ?_
  rcases kinds_of hm with hk | hk | hk
  · rw [V.putV_num hk]; exact SS.Le.refl S
  · rw [V.putV_sym hk]; exact ⟨Sym.put_prefix _ _, List.prefix_rfl, List.prefix_rfl⟩
  · have hargs : ∀ k, k ≤ v.len → S.Le (argsTo (fun i S => (v.kid i).putV S) k S).S := by
      intro k
      induction k with
      | zero => intro _; exact SS.Le.refl S
      | succ k ihk =>
        intro hkl
        simp only [argsTo]
        split
        · exact (ihk (by omega)).trans (ih k (by omega) (d - 1) _ (may_kids hm hk k (by omega)))
        · exact ihk (by omega)
    rw [V.putV_con hk]
    split
    · exact (hargs v.len (Nat.le_refl _)).trans (putNode_le _ _ _)
    · exact hargs v.len (Nat.le_refl _)

theorem putV_in : ∀ (v : V) (d : Nat) (S : SS), v.may d = true → S.Ok → (v.putV S).1.2 = 0 → v.IsIn (v.putV S).2 (v.putV S).1.1 := by
  refine V.ind fun v ih d S hm ok he => ?_
  rcases kinds_of hm with hk | hk | hk
  · rw [isIn_num hk, V.putV_num hk]
  · rw [isIn_sym hk]
    rw [V.putV_sym hk] at he ⊢
    exact ⟨_, rfl, sym_put_at he⟩
  · have hargs : ∀ k, k ≤ v.len → (argsTo (fun i S => (v.kid i).putV S) k S).S.Ok ∧ ((argsTo (fun i S => (v.kid i).putV S) k S).err = 0 → ∀ i, i < k → (v.kid i).IsIn (argsTo (fun i S => (v.kid i).putV S) k S).S ((argsTo (fun i S => (v.kid i).putV S) k S).nums i)) := by
      intro k
      induction k with
      | zero => intro _; exact ⟨ok, fun _ i hi => absurd hi (Nat.not_lt_zero i)⟩
      | succ k ihk =>
        intro hkl
        obtain ⟨o1, i1⟩ := ihk (by omega)
        have hmk := may_kids hm hk k (by omega)
        simp only [argsTo]
        by_cases e : (argsTo (fun i S => (v.kid i).putV S) k S).err = 0
        · simp only [if_pos e]
          refine ⟨putV_ok_all _ (d - 1) hmk _ o1, fun e2 i hi => ?_⟩
          by_cases eik : i = k
          · subst eik
            simp only [if_true]
            exact ih i (by omega) (d - 1) _ hmk o1 e2
          · simp only [if_neg eik]
            exact IsIn.more (putV_le _ (d - 1) _ hmk) _ (d - 1) _ (may_kids hm hk i (by omega)) (i1 e i (by omega))
        · simp only [if_neg e]
          exact ⟨o1, fun e2 => absurd e2 e⟩
    obtain ⟨o1, i1⟩ := hargs v.len (Nat.le_refl _)
    rw [isIn_con hk]
    rw [V.putV_con hk] at he ⊢
    by_cases e : (argsTo (fun i S => (v.kid i).putV S) v.len S).err = 0
    · simp only [if_pos e] at he ⊢
      obtain ⟨j, w, h1, h2, h3⟩ := putNode_in o1 he
      exact ⟨j, w, _, h1, h2, h3, fun i hi => IsIn.more (putNode_le _ _ _) _ (d - 1) _ (may_kids hm hk i hi) (i1 e i hi)⟩
    · simp only [if_neg e] at he
      exact absurd he e
end Go.Proofs.YtpiehfjgokfdeaaDoor
