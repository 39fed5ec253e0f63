/- TermBack: what stands between two Puts. -/
import Derived.Test.YtpiehfjgokfdeaaDoorBackX
import Derived.Test.YtpiehfjgokfdeaaDoorBackL
namespace Go.Proofs.YtpiehfjgokfdeaaDoor
open Go.RowKit Go.Maps

theorem infoInt : (Tryd.prog.info? 3).map (fun i => (i.zero, i.size, i.bytes)) = some (some (.int .i64 0), 1, 8) := by kernel_rfl

/-- The numbers that were met, as far as k go. -/
def numsTo (kid : Nat → V) (k M : Nat) : List Int := (List.range M).map fun i => if i < k then numAt kid i else 0
theorem numsTo_len (kid : Nat → V) (k M : Nat) : (numsTo kid k M).length = M := by simp [numsTo]
theorem numsTo_zero (kid : Nat → V) (M : Nat) : numsTo kid 0 M = List.replicate M 0 := by
  unfold numsTo
  apply List.ext_getElem
  · simp
  · intro i h1 h2; simp
theorem numsTo_next (kid : Nat → V) (k M : Nat) : (numsTo kid k M).set k (numAt kid k) = numsTo kid (k + 1) M := by
  apply List.ext_getElem
  · simp [numsTo]
  · intro i h1 h2
    simp only [numsTo, List.getElem_set, List.getElem_map, List.getElem_range]
    by_cases e : k = i
    · subst e; simp
    · rw [if_neg e]
      by_cases h : i < k
      · rw [if_pos h, if_pos (by omega)]
      · rw [if_neg h, if_neg (by omega)]
theorem numsTo_at (kid : Nat → V) {i M : Nat} (hi : i < M) : (numsTo kid M M)[i]? = some (numAt kid i) := by
  simp [numsTo, hi]

theorem ownsRow_turn {Q : Nat → Prop} {w w' : World} {base : Nat} {e : TypeId} {size g n cap : Nat} {xs : List Value} (h : w.ownsRow base e size (.slice (some ⟨g, 0, none⟩) n cap) n xs) (t : Turn Q w w') (hg : ¬ Q g) : w'.ownsRow base e size (.slice (some ⟨g, 0, none⟩) n cap) n xs := by
  refine ⟨h.1, ?_⟩
  rcases h.2 with ⟨h0, _⟩ | ⟨g', cap', cur, e1, hb, hh, r⟩
  · simp at h0
  · refine .inr ⟨g', cap', cur, e1, hb, ?_, r⟩
    simp only [Value.slice.injEq, Option.some.injEq, Addr.mk.injEq, and_true, true_and] at e1
    obtain ⟨rfl, rfl⟩ := e1
    exact (t.block g (Array.getElem?_eq_some_iff.1 hh).1 hg).trans hh

/-- Between two Puts. -/
structure PL (W wr : World) (L : V) (p : SP) (sb g M k : Nat) : Prop where
  bw : Below W.heap.size W wr
  sto : Sto wr p (putsTo L.kid k)
  ok : PutsOk L.kid k
  base : W.heap.size ≤ p.base
  met : wr.ownsRow W.heap.size 3 1 (.slice (some ⟨g, 0, none⟩) M M) M ((numsTo L.kid k M).map (Value.int .i64))
  gp : ¬ p.own g
  gs : g ≠ p.sb
  sb : p.sb = sb

section
variable {W wr w2 : World} {L : V} {p p2 : SP} {sb g M k : Nat} {ob : Obj}

theorem PL.glt (h : PL W wr L p sb g M k) : W.heap.size ≤ g ∧ g < wr.heap.size := World.ownsRow.lt h.met g rfl
theorem PL.later (h : PL W wr L p sb g M k) (b : Below wr.heap.size wr w2) : PL W w2 L p sb g M k :=
  ⟨h.bw.trans (b.mono h.bw.size), h.sto.later b, h.ok, h.base, ownsRow_turn h.met (Turn.of_below (S := fun _ => False) b) (fun e => e), h.gp, h.gs, h.sb⟩
theorem PL.uses (h : PL W wr L p sb g M k) {v : V} (hat : v.At W.heap.size W) : ∀ q, v.uses q → ¬ p.own q := fun q hq e => by
  have h1 := V.uses_lt v hat q hq
  have h2 := (h.sto.own_lt q e).1
  have h3 := h.base
  omega
theorem PL.below_step (h : PL W wr L p sb g M k) (st : Step (wr.alloc ob) w2 p p2) : Below W.heap.size W w2 := by
  have b1 : Below W.heap.size W (wr.alloc ob) := h.bw.alloc h.bw.size _
  exact b1.trans (st.turn.below b1.size (fun q e => by have h2 := (h.sto.own_lt q e).1; have h3 := h.base; omega))
theorem PL.met_step (h : PL W wr L p sb g M k) (st : Step (wr.alloc ob) w2 p p2) : w2.ownsRow W.heap.size 3 1 (.slice (some ⟨g, 0, none⟩) M M) M ((numsTo L.kid k M).map (Value.int .i64)) :=
  ownsRow_turn (World.ownsRow.alloc h.met ob) st.turn h.gp
theorem PL.box_step (h : PL W wr L p sb g M k) (st : Step (wr.alloc ob) w2 p p2) : w2.heap[wr.heap.size]? = some ob :=
  (st.turn.block wr.heap.size (by simp) (fun e => by have := (h.sto.own_lt _ e).2; omega)).trans (World.alloc_heap_new wr ob)
theorem PL.cell_step (h : PL W wr L p sb g M k) (st : Step (wr.alloc ob) w2 p p2) (hk : k < M) : (∃ c, w2.cell? ⟨g, k, none⟩ = some (.int .i64 c)) ∧ w2.frozen? ⟨g, k, none⟩ = false := by
  have hm := h.met_step st
  refine ⟨⟨(numsTo L.kid k M)[k]'(by rw [numsTo_len]; exact hk), ?_⟩, World.ownsRow.frozenAt hm k⟩
  rw [World.ownsRow.cellAt hm k (by omega), List.getElem?_map, List.getElem?_eq_getElem (by rw [numsTo_len]; exact hk)]
  rfl
theorem PL.next (h : PL W wr L p sb g M k) (st : Step (wr.alloc ob) w2 p p2) (hs : Sto w2 p2 (putAll (L.kid k) (putsTo L.kid k)).2) (he : errAt L.kid k = 0) : PL W (w2.setCell ⟨g, k, none⟩ (.int .i64 (numAt L.kid k))) L p2 sb g M (k + 1) := by
  have hg := h.glt
  have hz : (wr.alloc ob).heap.size = wr.heap.size + 1 := by simp
  have hne : ¬ p2.own g := fun e => (st.own g e).elim h.gp (fun e2 => by omega)
  have hns : g ≠ p2.sb := by rw [st.sb]; exact h.gs
  have t : Turn (· = g) w2 (w2.setCell ⟨g, k, none⟩ (.int .i64 (numAt L.kid k))) := Turn.setCell w2 _ _ rfl
  refine ⟨(h.below_step st).setCell hg.1 _, hs.stays t (fun q e e2 => ?_), h.ok.next he, by rw [st.base]; exact h.base, ?_, hne, hns, st.sb.trans h.sb⟩
  · subst e2
    rcases e with e | e
    · exact hns e
    · exact hne e
  · have := (World.ownsRow.stored (h.met_step st) k (.int .i64 (numAt L.kid k))).1
    rw [← List.map_set, numsTo_next L.kid k M] at this
    exact this
theorem PL.num_at (h : PL W wr L p sb g M M) {i : Nat} (hi : i < M) : wr.cell? ⟨g, i, none⟩ = some (.int .i64 (numAt L.kid i)) := by
  rw [World.ownsRow.cellAt h.met i (by omega), List.getElem?_map, numsTo_at L.kid hi]
  rfl
end
end Go.Proofs.YtpiehfjgokfdeaaDoor
