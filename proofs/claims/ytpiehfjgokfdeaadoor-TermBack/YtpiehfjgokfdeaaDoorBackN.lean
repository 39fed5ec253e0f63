/- Numbers of a store tell values apart: plain facts. -/
import Derived.Test.YtpiehfjgokfdeaaDoorBackM
namespace Go.Proofs.YtpiehfjgokfdeaaDoor
open Go.RowKit

/-- No text, word or node twice. -/
structure SS.Dis (S : SS) : Prop where
  xs : S.xs.Nodup
  ws : S.ws.Nodup
  ns : S.ns.Nodup

theorem nodup_snoc {α : Type} {l : List α} {x : α} (h : l.Nodup) (hx : x ∉ l) : (l ++ [x]).Nodup := by
  rw [List.nodup_append]
  exact ⟨h, by simp, fun a ha b hb => by rw [List.mem_singleton.1 hb]; exact fun e => hx (e ▸ ha)⟩
theorem sym_put_nodup {xs : List ByteArray} {s : ByteArray} (h : xs.Nodup) : (Sym.put xs s).Nodup := by
  unfold Sym.put
  split
  · exact h
  · rename_i ht
    split
    · exact h
    · refine nodup_snoc h fun hm => ht ?_
      unfold Sym.there
      cases hp : Sym.place xs s 0 with
      | none => exact absurd hm (Sym.place_none xs s 0 hp)
      | some _ => rfl
theorem nodup_at {α : Type} {l : List α} (h : l.Nodup) {i j : Nat} {x : α} (hi : l[i]? = some x) (hj : l[j]? = some x) : i = j := by
  obtain ⟨h1, e1⟩ := List.getElem?_eq_some_iff.1 hi
  obtain ⟨h2, e2⟩ := List.getElem?_eq_some_iff.1 hj
  have hp := List.pairwise_iff_getElem.1 h
  rcases Nat.lt_trichotomy i j with c | c | c
  · exact absurd (e1.trans e2.symm) (hp i j h1 h2 c)
  · exact c
  · exact absurd (e2.trans e1.symm) (hp j i h2 h1 c)

theorem list_at {n n' : Nd} (h : n.list = n'.list) : ∀ j, j < 18 → n j = n' j := fun j hj => by
  have : n.list[j]? = n'.list[j]? := by rw [h]
  simpa [Nd.list, hj] using this
theorem list_of {n n' : Nd} (h : ∀ j, j < 18 → n j = n' j) : n.list = n'.list := by
  unfold Nd.list
  exact List.map_congr_left fun j hj => h j (List.mem_range.1 hj)

theorem may_con_num {v : V} {d : Nat} (h : v.may d = true) (hk : v.kind = 3) : v.num = 0 ∧ v.len ≤ 8 := by
  rw [may_con hk] at h
  simp only [Bool.and_eq_true, decide_eq_true_eq] at h
  exact ⟨h.1.1.1.2, h.1.2⟩
theorem str_nil {s t : ByteArray} (h : s.size = 0) (k : t.size = 0) : s = t := by
  refine str_eq ?_
  rw [List.eq_nil_of_length_eq_zero (show s.data.toList.length = 0 by rw [Array.length_toList]; exact h), List.eq_nil_of_length_eq_zero (show t.data.toList.length = 0 by rw [Array.length_toList]; exact k)]

theorem isIn_same {S : SS} (dis : S.Dis) : ∀ (v u : V) (d d' : Nat) (m m' : Int), v.may d = true → u.may d' = true → v.kind = u.kind → v.IsIn S m → u.IsIn S m' → (m = m' ↔ v.ord u = 0) := by
  refine V.ind fun v ih u d d' m m' hm hm' hkk h h' => ?_
  rw [ord_zero]
  rcases kinds_of hm with hk | hk | hk
  · have hk' : u.kind = 1 := hkk ▸ hk
    rw [isIn_num hk] at h
    rw [isIn_num hk'] at h'
    have a1 := may_num0 hm hk
    have a2 := may_num0 hm' hk'
    subst h h'
    exact ⟨fun e => ⟨hkk, e, str_nil a1.1 a2.1, by omega, fun i hi => by omega⟩, fun e => e.2.1⟩
  · have hk' : u.kind = 2 := hkk ▸ hk
    rw [isIn_sym hk] at h
    rw [isIn_sym hk'] at h'
    obtain ⟨j, rfl, h⟩ := h
    obtain ⟨j', rfl, h'⟩ := h'
    have a1 := may_sym0 hm hk
    have a2 := may_sym0 hm' hk'
    refine ⟨fun e => ⟨hkk, by omega, ?_, by omega, fun i hi => by omega⟩, fun e => ?_⟩
    · have e2 : j = j' := by omega
      subst e2
      rw [h] at h'
      exact Option.some.inj h'
    · rw [← e.2.2.1] at h'
      have := nodup_at dis.xs h h'
      omega
  · have hk' : u.kind = 3 := hkk ▸ hk
    rw [isIn_con hk] at h
    rw [isIn_con hk'] at h'
    obtain ⟨j, w, nums, rfl, h1, h2, h3⟩ := h
    obtain ⟨j', w', nums', rfl, h1', h2', h3'⟩ := h'
    have a1 := may_con_num hm hk
    have a2 := may_con_num hm' hk'
    refine ⟨fun e => ?_, fun e => ?_⟩
    · have e2 : j = j' := by omega
      subst e2
      rw [h1] at h1'
      have hl := list_at (Option.some.inj h1')
      have e0 : (w : Int) = w' := by simpa [Nd.at0] using hl 0 (by omega)
      have e1 : (v.len : Int) = u.len := by simpa [Nd.at0, nodeAt] using hl 1 (by omega)
      have hlen : v.len = u.len := by omega
      have ew : w = w' := by omega
      subst ew
      rw [h2] at h2'
      refine ⟨hkk, by omega, Option.some.inj h2', hlen, fun i hi => ?_⟩
      have k1 : (v.kid i).kind = (u.kid i).kind := by
        have := hl (i + 2) (by omega)
        simp only [Nd.at0, nodeAt] at this
        rw [if_neg (by omega), if_neg (by omega), if_neg (by omega), if_pos (by omega), if_pos (by omega), if_neg (by omega), if_neg (by omega), if_neg (by omega), if_pos (by omega), if_pos (by omega)] at this
        simpa using this
      have k2 : nums i = nums' i := by
        have := hl (i + 10) (by omega)
        simp only [Nd.at0, nodeAt] at this
        rw [if_neg (by omega), if_neg (by omega), if_neg (by omega), if_neg (by omega), if_pos (by omega), if_neg (by omega), if_neg (by omega), if_neg (by omega), if_neg (by omega), if_pos (by omega)] at this
        simpa using this
      exact (ih i hi (u.kid i) (d - 1) (d' - 1) _ _ (may_kids hm hk i hi) (may_kids hm' hk' i (by omega)) k1 (h3 i hi) (h3' i (by omega))).1 k2
    · obtain ⟨_, _, es, el, ek⟩ := e
      rw [← es] at h2'
      have ew := nodup_at dis.ws h2 h2'
      subst ew
      have en : ∀ i, i < v.len → (v.kid i).kind = (u.kid i).kind ∧ nums i = nums' i := fun i hi => by
        have hz := ek i hi
        have hkd := ((ord_zero _ _).1 hz).1
        exact ⟨hkd, (ih i hi (u.kid i) (d - 1) (d' - 1) _ _ (may_kids hm hk i hi) (may_kids hm' hk' i (by omega)) hkd (h3 i hi) (h3' i (by omega))).2 hz⟩
      have hlist : ((nodeAt v nums v.len).at0 w).list = ((nodeAt u nums' u.len).at0 w).list := by
        refine list_of fun q hq => ?_
        simp only [Nd.at0, nodeAt]
        split
        · rfl
        · split
          · omega
          · split
            · by_cases c : q - 2 < v.len
              · rw [if_pos c, if_pos (by omega)]; exact (en _ c).1
              · rw [if_neg c, if_neg (by omega)]
            · by_cases c : q - 10 < v.len
              · rw [if_pos c, if_pos (by omega)]; exact (en _ c).2
              · rw [if_neg c, if_neg (by omega)]
      rw [← hlist] at h1'
      have := nodup_at dis.ns h1 h1'
      omega

theorem putNode_dis {S : SS} {word : ByteArray} {n : Nd} (ok : S.Ok) (dis : S.Dis) : (putNodeV S word n).2.Dis := by
  unfold putNodeV
  by_cases h1 : (findV S word n).2 = true
  · simp only [if_pos h1]; exact dis
  · simp only [if_neg h1]
    by_cases h2 : 16384 ≤ S.ns.length
    · simp only [if_pos h2]; exact dis
    · simp only [if_neg h2]
      exact ⟨dis.xs, sym_put_nodup dis.ws, nodup_snoc dis.ns (new_node ok (by simpa using h1) (by omega))⟩
theorem putV_dis : ∀ (v : V) (d : Nat) (S : SS), v.may d = true → S.Ok → S.Dis → (v.putV S).2.Dis := by
  refine V.ind fun v ih d S hm ok dis => ?_
  rcases kinds_of hm with hk | hk | hk
  · rw [V.putV_num hk]; exact dis
  · rw [V.putV_sym hk]; exact ⟨sym_put_nodup dis.xs, dis.ws, dis.ns⟩
  · have hargs : ∀ k, k ≤ v.len → (argsTo (fun i S => (v.kid i).putV S) k S).S.Ok ∧ (argsTo (fun i S => (v.kid i).putV S) k S).S.Dis := by
      intro k
      induction k with
      | zero => intro _; exact ⟨ok, dis⟩
      | succ k ihk =>
        intro hkl
        obtain ⟨o1, d1⟩ := ihk (by omega)
        have hmk := may_kids hm hk k (by omega)
        simp only [argsTo]
        split
        · exact ⟨putV_ok_all _ (d - 1) hmk _ o1, ih k (by omega) (d - 1) _ hmk o1 d1⟩
        · exact ⟨o1, d1⟩
    obtain ⟨o1, d1⟩ := hargs v.len (Nat.le_refl _)
    rw [V.putV_con hk]
    split
    · exact putNode_dis o1 d1
    · exact d1
end Go.Proofs.YtpiehfjgokfdeaaDoor
