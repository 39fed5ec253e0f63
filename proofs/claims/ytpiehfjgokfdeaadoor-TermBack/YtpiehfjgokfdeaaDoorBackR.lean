/- A node is read in the store's row, and written into a new block, in one step. -/
import Derived.Deep.MidRow
import Derived.Deep.WholeRow
import Derived.Test.YtpiehfjgokfdeaaDoorBackW
import Derived.Test.YtpiehfjgokfdeaaDoorNodeSl
namespace Go.Proofs.YtpiehfjgokfdeaaDoor
open Go.RowKit

theorem size98 : (Tryd.prog.info? 98).map (·.size) = some 18 := by kernel_rfl
theorem flat_at {ns : List (List Int)} (h18 : ∀ l ∈ ns, l.length = 18) : ∀ {j : Nat} {l : List Int}, ns[j]? = some l → ∀ q, q < 18 → (ns.flatMap fun l => l.map (Value.int .i64))[j * 18 + q]? = (l[q]?).map (Value.int .i64) := by
  induction ns with
  | nil => intro j l h; simp at h
  | cons x xs ih =>
    intro j l h q hq
    have hx : (x.map (Value.int .i64)).length = 18 := by rw [List.length_map]; exact h18 x (by simp)
    simp only [List.flatMap_cons]
    cases j with
    | zero =>
      simp only [List.getElem?_cons_zero, Option.some.injEq] at h
      subst h
      rw [List.getElem?_append_left (by omega)]
      simp
    | succ j =>
      rw [List.getElem?_append_right (by omega), hx]
      have := ih (fun l hl => h18 l (by simp [hl])) (j := j) (l := l) (by simpa using h) q hq
      rw [← this]
      congr 1
      omega

/-- A new block of a node, written. -/
theorem new_node_store (W : World) (c : Array Value) (hc : c.size = 18) (l : List Int) (hl : l.length = 18) :
    (Instr.storeAt 98 (.pointer (some ⟨W.heap.size, 0, none⟩)) (ndVal l)).run Tryd.prog (W.alloc (.cells c 98)) = .ok () (W.alloc (.cells (l.map (Value.int .i64)).toArray 98)) :=
  run_storeAt_new W 98 c _ (by rw [size98]; simp [hl]) (by simp [hc, hl]) (by
    refine all_oneCell_toArray fun v hv => ?_
    obtain ⟨_, _, rfl⟩ := List.mem_map.1 hv
    rfl)

/-- A node in the store's row, loaded. -/
theorem row_load {W : World} {p : SP} {S : SS} (h : Sto W p S) {j : Nat} {l : List Int} (h18 : ∀ l ∈ S.ns, l.length = 18) (hj : S.ns[j]? = some l) :
    ∃ g, p.na = some ⟨g, 0, none⟩ ∧ (nodeLoad (.pointer (some ⟨g, j * 18, none⟩))).run Tryd.prog W = .ok (ndVal l) W := by
  have hr := h.row
  have hjl := (List.getElem?_eq_some_iff.1 hj).1
  rcases hr.2 with ⟨_, h0⟩ | ⟨g, cap, cur, e, hb, hg, hle, hm, hsz, ht⟩
  · omega
  · injection e with e _ _
    refine ⟨g, e, ?_⟩
    unfold nodeLoad ndVal
    have h18l := h18 l (List.mem_of_getElem? hj)
    refine run_loadAt_mid W g (j * 18) 98 (l.map (Value.int .i64)) _ (fun q v hq => ?_) Tryd.underlying98 rfl (by rw [size98]; simp [h18l])
    have hq18 : q < 18 := by have := (List.getElem?_eq_some_iff.1 hq).1; simp at this; omega
    rw [cell_of_row W g (j * 18 + q) cur 98 (0, 0) hg]
    have h2 := flat_at h18 hj q hq18
    rw [← ht, List.getElem?_take, if_pos (by omega)] at h2
    rw [← Array.getElem?_toList, h2, ← hq, List.getElem?_map]
end Go.Proofs.YtpiehfjgokfdeaaDoor
