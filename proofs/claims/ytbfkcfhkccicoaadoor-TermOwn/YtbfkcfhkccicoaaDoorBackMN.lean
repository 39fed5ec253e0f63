/- What stands in a store under a number: plain facts. Numbers of a store tell values apart: plain facts. -/
import Derived.Test.YtbfkcfhkccicoaaDoorPutA
namespace Go.Proofs.YtbfkcfhkccicoaaDoor
open Go.RowKit

/-- The value has that number there. -/
def V.IsIn (S : SS) : V → Int → Prop
  | .none, _ => False
  | .mk k n s a l c f, m => if k = 1 then m = n else if k = 2 then ∃ j : Nat, m = j ∧ S.xs[j]? = some s
    else ∃ (j w : Nat) (nums : Nat → Int), m = j ∧ S.ns[j]? = some ((nodeAt (.mk k n s a l c f) nums l).at0 w).list ∧ S.ws[w]? = some s ∧ ∀ i, i < l → (f i).IsIn S (nums i)
theorem isIn_num {v : V} {S : SS} {m : Int} (h : v.kind = 1) : v.IsIn S m ↔ m = v.num := by
  cases v with
  | none => cases h
  | mk k n s a l c f =>
    show (if k = 1 then _ else _) ↔ _
    rw [if_pos (show k = 1 from h)]; rfl
theorem isIn_sym {v : V} {S : SS} {m : Int} (h : v.kind = 2) : v.IsIn S m ↔ ∃ j : Nat, m = j ∧ S.xs[j]? = some v.str := by
  cases v with
  | none => cases h
  | mk k n s a l c f =>
    have h2 : k = 2 := h
    show (if k = 1 then _ else if k = 2 then _ else _) ↔ _
    rw [if_neg (by omega), if_pos h2]; rfl
theorem isIn_con {v : V} {S : SS} {m : Int} (h : v.kind = 3) : v.IsIn S m ↔ ∃ (j w : Nat) (nums : Nat → Int), m = j ∧ S.ns[j]? = some ((nodeAt v nums v.len).at0 w).list ∧ S.ws[w]? = some v.str ∧ ∀ i, i < v.len → (v.kid i).IsIn S (nums i) := by
  cases v with
  | none => cases h
  | mk k n s a l c f =>
    have h2 : k = 3 := h
    show (if k = 1 then _ else if k = 2 then _ else _) ↔ _
    rw [if_neg (by omega), if_neg (by omega)]; rfl

/-- One store has all that the other has. -/
structure SS.Le (S T : SS) : Prop where
  xs : S.xs <+: T.xs
  ws : S.ws <+: T.ws
  ns : S.ns <+: T.ns
theorem SS.Le.refl (S : SS) : S.Le S := ⟨List.prefix_rfl, List.prefix_rfl, List.prefix_rfl⟩
theorem SS.Le.trans {S T U : SS} (h : S.Le T) (k : T.Le U) : S.Le U := ⟨h.xs.trans k.xs, h.ws.trans k.ws, h.ns.trans k.ns⟩
theorem at_prefix {α : Type} {l m : List α} {j : Nat} {x : α} (h : l <+: m) (e : l[j]? = some x) : m[j]? = some x := by
  obtain ⟨r, rfl⟩ := h
  rw [List.getElem?_append_left (List.getElem?_eq_some_iff.1 e).1]; exact e

theorem IsIn.more {S T : SS} (hST : S.Le T) : ∀ (v : V) (d : Nat) (m : Int), v.may d = true → v.IsIn S m → v.IsIn T m := by
  refine V.ind fun v ih d m hm h => ?_
  rcases kinds_of hm with hk | hk | hk
  · rw [isIn_num hk] at h ⊢; exact h
  · rw [isIn_sym hk] at h ⊢
    obtain ⟨j, e, h⟩ := h
    exact ⟨j, e, at_prefix hST.xs h⟩
  · rw [isIn_con hk] at h ⊢
    obtain ⟨j, w, nums, e, h1, h2, h3⟩ := h
    exact ⟨j, w, nums, e, at_prefix hST.ns h1, at_prefix hST.ws h2, fun i hi => ih i hi (d - 1) _ (may_kids hm hk i hi) (h3 i hi)⟩

theorem sym_put_at {xs : List ByteArray} {s : ByteArray} (h : Sym.ansE xs s = 0) : (Sym.put xs s)[Sym.ansN xs s]? = some s := by
  by_cases ht : Sym.there xs s = true
  · unfold Sym.put Sym.ansN
    rw [if_pos ht, if_pos ht]; exact (Sym.num_at ht).1
  · by_cases hf : 16384 ≤ xs.length
    · unfold Sym.ansE at h
      rw [if_neg ht, if_pos hf] at h; cases h
    · exact (Sym.put_room (by omega)).2.1

/-- What was put is there, and what was there stays. -/
theorem putNode_in {S : SS} {word : ByteArray} {n : Nd} (ok : S.Ok) (h : (putNodeV S word n).1.2 = 0) :
    ∃ j w : Nat, (putNodeV S word n).1.1 = j ∧ (putNodeV S word n).2.ns[j]? = some (n.at0 w).list ∧ (putNodeV S word n).2.ws[w]? = some word := by
  unfold putNodeV at h ⊢
  by_cases h1 : (findV S word n).2 = true
  · simp only [if_pos h1] at h ⊢
    unfold findV at h1 ⊢
    by_cases ht : Sym.there S.ws word = true
    · simp only [if_pos ht] at h1 ⊢
      unfold nThere at h1
      have hmem := of_decide_eq_true h1
      refine ⟨_, _, rfl, ?_, (Sym.num_at ht).1⟩
      unfold nNum
      rw [if_pos hmem]; exact (nIdx_at hmem).1
    · simp only [if_neg ht] at h1; cases h1
  · simp only [if_neg h1] at h ⊢
    by_cases h2 : 16384 ≤ S.ns.length
    · simp only [if_pos h2] at h; cases h
    · simp only [if_neg h2] at h ⊢
      have hw : S.ws.length < 16384 := by have := ok.words; omega
      exact ⟨S.ns.length, Sym.ansN S.ws word, rfl, by simp, (Sym.put_room hw).2.1⟩
theorem putNode_le (S : SS) (word : ByteArray) (n : Nd) : S.Le (putNodeV S word n).2 := by
  unfold putNodeV
  split
  · exact SS.Le.refl S
  · split
    · exact SS.Le.refl S
    · exact ⟨List.prefix_rfl, Sym.put_prefix _ _, List.prefix_append _ _⟩

theorem nodeAt_congr (v : V) {f g : Nat → Int} {k : Nat} (h : ∀ j, j < k → f j = g j) : nodeAt v f k = nodeAt v g k := by
  funext j
  unfold nodeAt
  split
  · rfl
  · split
    · rfl
    · split
      · rfl
      · split
        · rename_i hj; exact h _ hj
        · rfl

theorem putV_le : ∀ (v : V) (d : Nat) (S : SS), v.may d = true → S.Le (v.putV S).2 := by
  refine V.ind fun v ih d S hm => ?_
  rcases kinds_of hm with hk | hk | hk
  · rw [V.putV_num hk]; exact SS.Le.refl S
  · rw [V.putV_sym hk]; exact ⟨Sym.put_prefix _ _, List.prefix_rfl, List.prefix_rfl⟩
  · have hargs : ∀ k, k ≤ v.len → S.Le (argsTo (fun i S => (v.kid i).putV S) k S).S := by
      intro k
      induction k with
      | zero => intro _; exact SS.Le.refl S
      | succ k ihk =>
        intro hkl
        simp only [argsTo]
        split
        · exact (ihk (by omega)).trans (ih k (by omega) (d - 1) _ (may_kids hm hk k (by omega)))
        · exact ihk (by omega)
    rw [V.putV_con hk]
    split
    · exact (hargs v.len (Nat.le_refl _)).trans (putNode_le _ _ _)
    · exact hargs v.len (Nat.le_refl _)

theorem putV_in : ∀ (v : V) (d : Nat) (S : SS), v.may d = true → S.Ok → (v.putV S).1.2 = 0 → v.IsIn (v.putV S).2 (v.putV S).1.1 := by
  refine V.ind fun v ih d S hm ok he => ?_
  rcases kinds_of hm with hk | hk | hk
  · rw [isIn_num hk, V.putV_num hk]
  · rw [isIn_sym hk]
    rw [V.putV_sym hk] at he ⊢
    exact ⟨_, rfl, sym_put_at he⟩
  · have hargs : ∀ k, k ≤ v.len → (argsTo (fun i S => (v.kid i).putV S) k S).S.Ok ∧ ((argsTo (fun i S => (v.kid i).putV S) k S).err = 0 → ∀ i, i < k → (v.kid i).IsIn (argsTo (fun i S => (v.kid i).putV S) k S).S ((argsTo (fun i S => (v.kid i).putV S) k S).nums i)) := by
      intro k
      induction k with
      | zero => intro _; exact ⟨ok, fun _ i hi => absurd hi (Nat.not_lt_zero i)⟩
      | succ k ihk =>
        intro hkl
        obtain ⟨o1, i1⟩ := ihk (by omega)
        have hmk := may_kids hm hk k (by omega)
        simp only [argsTo]
        by_cases e : (argsTo (fun i S => (v.kid i).putV S) k S).err = 0
        · simp only [if_pos e]
          refine ⟨putV_ok_all _ (d - 1) hmk _ o1, fun e2 i hi => ?_⟩
          by_cases eik : i = k
          · subst eik
            simp only [if_true]
            exact ih i (by omega) (d - 1) _ hmk o1 e2
          · simp only [if_neg eik]
            exact IsIn.more (putV_le _ (d - 1) _ hmk) _ (d - 1) _ (may_kids hm hk i (by omega)) (i1 e i (by omega))
        · simp only [if_neg e]
          exact ⟨o1, fun e2 => absurd e2 e⟩
    obtain ⟨o1, i1⟩ := hargs v.len (Nat.le_refl _)
    rw [isIn_con hk]
    rw [V.putV_con hk] at he ⊢
    by_cases e : (argsTo (fun i S => (v.kid i).putV S) v.len S).err = 0
    · simp only [if_pos e] at he ⊢
      obtain ⟨j, w, h1, h2, h3⟩ := putNode_in o1 he
      exact ⟨j, w, _, h1, h2, h3, fun i hi => IsIn.more (putNode_le _ _ _) _ (d - 1) _ (may_kids hm hk i hi) (i1 e i hi)⟩
    · simp only [if_neg e] at he
      exact absurd he e
end Go.Proofs.YtbfkcfhkccicoaaDoor

namespace Go.Proofs.YtbfkcfhkccicoaaDoor
open Go.RowKit

/-- No text, word or node twice. -/
structure SS.Dis (S : SS) : Prop where
  xs : S.xs.Nodup
  ws : S.ws.Nodup
  ns : S.ns.Nodup

theorem nodup_snoc {α : Type} {l : List α} {x : α} (h : l.Nodup) (hx : x ∉ l) : (l ++ [x]).Nodup := by
  rw [List.nodup_append]
  exact ⟨h, by simp, fun a ha b hb => by rw [List.mem_singleton.1 hb]; exact fun e => hx (e ▸ ha)⟩
theorem sym_put_nodup {xs : List ByteArray} {s : ByteArray} (h : xs.Nodup) : (Sym.put xs s).Nodup := by
  unfold Sym.put
  split
  · exact h
  · rename_i ht
    split
    · exact h
    · refine nodup_snoc h fun hm => ht ?_
      unfold Sym.there
      cases hp : Sym.place xs s 0 with
      | none => exact absurd hm (Sym.place_none xs s 0 hp)
      | some _ => rfl
theorem nodup_at {α : Type} {l : List α} (h : l.Nodup) {i j : Nat} {x : α} (hi : l[i]? = some x) (hj : l[j]? = some x) : i = j := by
  obtain ⟨h1, e1⟩ := List.getElem?_eq_some_iff.1 hi
  obtain ⟨h2, e2⟩ := List.getElem?_eq_some_iff.1 hj
  have hp := List.pairwise_iff_getElem.1 h
  rcases Nat.lt_trichotomy i j with c | c | c
  · exact absurd (e1.trans e2.symm) (hp i j h1 h2 c)
  · exact c
  · exact absurd (e2.trans e1.symm) (hp j i h2 h1 c)

theorem list_at {n n' : Nd} (h : n.list = n'.list) : ∀ j, j < 18 → n j = n' j := fun j hj => by
  have : n.list[j]? = n'.list[j]? := by rw [h]
  simpa [Nd.list, hj] using this
theorem list_of {n n' : Nd} (h : ∀ j, j < 18 → n j = n' j) : n.list = n'.list := by
  unfold Nd.list
  exact List.map_congr_left fun j hj => h j (List.mem_range.1 hj)

theorem may_con_num {v : V} {d : Nat} (h : v.may d = true) (hk : v.kind = 3) : v.num = 0 ∧ v.len ≤ 8 := by
  rw [may_con hk] at h
  simp only [Bool.and_eq_true, decide_eq_true_eq] at h
  exact ⟨h.1.1.1.2, h.1.2⟩
theorem str_nil {s t : ByteArray} (h : s.size = 0) (k : t.size = 0) : s = t := by
  refine str_eq ?_
  rw [List.eq_nil_of_length_eq_zero (show s.data.toList.length = 0 by rw [Array.length_toList]; exact h), List.eq_nil_of_length_eq_zero (show t.data.toList.length = 0 by rw [Array.length_toList]; exact k)]

theorem isIn_same {S : SS} (dis : S.Dis) : ∀ (v u : V) (d d' : Nat) (m m' : Int), v.may d = true → u.may d' = true → v.kind = u.kind → v.IsIn S m → u.IsIn S m' → (m = m' ↔ v.ord u = 0) := by
  refine V.ind fun v ih u d d' m m' hm hm' hkk h h' => ?_
  rw [ord_zero]
  rcases kinds_of hm with hk | hk | hk
  · have hk' : u.kind = 1 := hkk ▸ hk
    rw [isIn_num hk] at h
    rw [isIn_num hk'] at h'
    have a1 := may_num0 hm hk
    have a2 := may_num0 hm' hk'
    subst h h'
    exact ⟨fun e => ⟨hkk, e, str_nil a1.1 a2.1, by omega, fun i hi => by omega⟩, fun e => e.2.1⟩
  · have hk' : u.kind = 2 := hkk ▸ hk
    rw [isIn_sym hk] at h
    rw [isIn_sym hk'] at h'
    obtain ⟨j, rfl, h⟩ := h
    obtain ⟨j', rfl, h'⟩ := h'
    have a1 := may_sym0 hm hk
    have a2 := may_sym0 hm' hk'
    refine ⟨fun e => ⟨hkk, by omega, ?_, by omega, fun i hi => by omega⟩, fun e => ?_⟩
    · have e2 : j = j' := by omega
      subst e2
      rw [h] at h'
      exact Option.some.inj h'
    · rw [← e.2.2.1] at h'
      have := nodup_at dis.xs h h'
      omega
  · have hk' : u.kind = 3 := hkk ▸ hk
    rw [isIn_con hk] at h
    rw [isIn_con hk'] at h'
    obtain ⟨j, w, nums, rfl, h1, h2, h3⟩ := h
    obtain ⟨j', w', nums', rfl, h1', h2', h3'⟩ := h'
    have a1 := may_con_num hm hk
    have a2 := may_con_num hm' hk'
    refine ⟨fun e => ?_, fun e => ?_⟩
    · have e2 : j = j' := by omega
      subst e2
      rw [h1] at h1'
      have hl := list_at (Option.some.inj h1')
      have e0 : (w : Int) = w' := by simpa [Nd.at0] using hl 0 (by omega)
      have e1 : (v.len : Int) = u.len := by simpa [Nd.at0, nodeAt] using hl 1 (by omega)
      have hlen : v.len = u.len := by omega
      have ew : w = w' := by omega
      subst ew
      rw [h2] at h2'
      refine ⟨hkk, by omega, Option.some.inj h2', hlen, fun i hi => ?_⟩
      have k1 : (v.kid i).kind = (u.kid i).kind := by
        have := hl (i + 2) (by omega)
        simp only [Nd.at0, nodeAt] at this
        rw [if_neg (by omega), if_neg (by omega), if_neg (by omega), if_pos (by omega), if_pos (by omega), if_neg (by omega), if_neg (by omega), if_neg (by omega), if_pos (by omega), if_pos (by omega)] at this
        simpa using this
      have k2 : nums i = nums' i := by
        have := hl (i + 10) (by omega)
        simp only [Nd.at0, nodeAt] at this
        rw [if_neg (by omega), if_neg (by omega), if_neg (by omega), if_neg (by omega), if_pos (by omega), if_neg (by omega), if_neg (by omega), if_neg (by omega), if_neg (by omega), if_pos (by omega)] at this
        simpa using this
      exact (ih i hi (u.kid i) (d - 1) (d' - 1) _ _ (may_kids hm hk i hi) (may_kids hm' hk' i (by omega)) k1 (h3 i hi) (h3' i (by omega))).1 k2
    · obtain ⟨_, _, es, el, ek⟩ := e
      rw [← es] at h2'
      have ew := nodup_at dis.ws h2 h2'
      subst ew
      have en : ∀ i, i < v.len → (v.kid i).kind = (u.kid i).kind ∧ nums i = nums' i := fun i hi => by
        have hz := ek i hi
        have hkd := ((ord_zero _ _).1 hz).1
        exact ⟨hkd, (ih i hi (u.kid i) (d - 1) (d' - 1) _ _ (may_kids hm hk i hi) (may_kids hm' hk' i (by omega)) hkd (h3 i hi) (h3' i (by omega))).2 hz⟩
      have hlist : ((nodeAt v nums v.len).at0 w).list = ((nodeAt u nums' u.len).at0 w).list := by
        refine list_of fun q hq => ?_
        simp only [Nd.at0, nodeAt]
        split
        · rfl
        · split
          · omega
          · split
            · by_cases c : q - 2 < v.len
              · rw [if_pos c, if_pos (by omega)]; exact (en _ c).1
              · rw [if_neg c, if_neg (by omega)]
            · by_cases c : q - 10 < v.len
              · rw [if_pos c, if_pos (by omega)]; exact (en _ c).2
              · rw [if_neg c, if_neg (by omega)]
      rw [← hlist] at h1'
      have := nodup_at dis.ns h1 h1'
      omega

theorem putNode_dis {S : SS} {word : ByteArray} {n : Nd} (ok : S.Ok) (dis : S.Dis) : (putNodeV S word n).2.Dis := by
  unfold putNodeV
  by_cases h1 : (findV S word n).2 = true
  · simp only [if_pos h1]; exact dis
  · simp only [if_neg h1]
    by_cases h2 : 16384 ≤ S.ns.length
    · simp only [if_pos h2]; exact dis
    · simp only [if_neg h2]
      exact ⟨dis.xs, sym_put_nodup dis.ws, nodup_snoc dis.ns (new_node ok (by simpa using h1) (by omega))⟩
theorem putV_dis : ∀ (v : V) (d : Nat) (S : SS), v.may d = true → S.Ok → S.Dis → (v.putV S).2.Dis := by
  refine V.ind fun v ih d S hm ok dis => ?_
  rcases kinds_of hm with hk | hk | hk
  · rw [V.putV_num hk]; exact dis
  · rw [V.putV_sym hk]; exact ⟨sym_put_nodup dis.xs, dis.ws, dis.ns⟩
  · have hargs : ∀ k, k ≤ v.len → (argsTo (fun i S => (v.kid i).putV S) k S).S.Ok ∧ (argsTo (fun i S => (v.kid i).putV S) k S).S.Dis := by
      intro k
      induction k with
      | zero => intro _; exact ⟨ok, dis⟩
      | succ k ihk =>
        intro hkl
        obtain ⟨o1, d1⟩ := ihk (by omega)
        have hmk := may_kids hm hk k (by omega)
        simp only [argsTo]
        split
        · exact ⟨putV_ok_all _ (d - 1) hmk _ o1, ih k (by omega) (d - 1) _ hmk o1 d1⟩
        · exact ⟨o1, d1⟩
    obtain ⟨o1, d1⟩ := hargs v.len (Nat.le_refl _)
    rw [V.putV_con hk]
    split
    · exact putNode_dis o1 d1
    · exact d1
end Go.Proofs.YtbfkcfhkccicoaaDoor
