/- A node is loaded, and boxed, in one step. -/
import Derived.Test.YtbfkcfhkccicoaaDoorMPut
import Derived.StillTailTactics
namespace Go.Proofs.YtbfkcfhkccicoaaDoor
open Go.RowKit Go.Maps

set_option maxRecDepth 100000 in
set_option maxHeartbeats 4000000 in
theorem load_node {w : World} {g : Nat} {N : Nd} (h : NB w g N) : (Instr.loadAt 81 (.pointer (some ⟨g, 0, none⟩))).run Tryd.prog w = .ok (ndVal N.list) w := by
  have n0 := h.cell 0 (by omega)
  have n1 := h.cell 1 (by omega)
  have n2 := h.cell 2 (by omega)
  have n3 := h.cell 3 (by omega)
  have n4 := h.cell 4 (by omega)
  have n5 := h.cell 5 (by omega)
  have n6 := h.cell 6 (by omega)
  have n7 := h.cell 7 (by omega)
  have n8 := h.cell 8 (by omega)
  have n9 := h.cell 9 (by omega)
  have n10 := h.cell 10 (by omega)
  have n11 := h.cell 11 (by omega)
  have n12 := h.cell 12 (by omega)
  have n13 := h.cell 13 (by omega)
  have n14 := h.cell 14 (by omega)
  have n15 := h.cell 15 (by omega)
  have n16 := h.cell 16 (by omega)
  have n17 := h.cell 17 (by omega)
  rw [ndVal_nd]
  simp [go_sem, n0, n1, n2, n3, n4, n5, n6, n7, n8, n9, n10, n11, n12, n13, n14, n15, n16, n17]
theorem run_load98 {o : Oper} {a : Act} {w : World} {g : Nat} {N : Nd} (x : Operand) (ho : o.op = .load 81 x) (hx : a.eval x = .pointer (some ⟨g, 0, none⟩)) (h : NB w g N) :
    (execOp a.eval o).run Tryd.prog w = .ok (.value (ndVal N.list)) w := by
  unfold execOp
  simp only [ho, hx, Sem.run_bind, load_node h, Result.andThen_ok, Sem.run_pure]
set_option maxRecDepth 100000 in
set_option maxHeartbeats 4000000 in
theorem box_node {w : World} {N : Nd} : (Instr.box 81 (ndVal N.list)).run Tryd.prog w = .ok (.pointer (some ⟨w.heap.size, 0, none⟩)) (w.alloc (.cells (N.list.map (Value.int .i64)).toArray 81)) := by
  rw [ndVal_nd, nd_obj]
  simp [go_sem]
theorem run_box98 {o : Oper} {a : Act} {w : World} {N : Nd} (x : Operand) (ho : o.op = .box 81 x) (hx : a.eval x = ndVal N.list) :
    (execOp a.eval o).run Tryd.prog w = .ok (.value (.pointer (some ⟨w.heap.size, 0, none⟩))) (w.alloc (.cells (N.list.map (Value.int .i64)).toArray 81)) := by
  unfold execOp
  simp only [ho, hx, Sem.run_bind, box_node, Result.andThen_ok, Sem.run_pure]

section
variable {w : World} {ops : Array Oper} {rest : List Oper} {o : Oper} {a : Act} {Q : Exit → Act → World → Prop} {g : Nat} {N : Nd}
theorem wpList_load98 (hg : o.guard = none) (x : Operand) (ho : o.op = .load 81 x) (hx : a.eval x = .pointer (some ⟨g, 0, none⟩)) (h : NB w g N) (hK : wpList Tryd.prog ops Q rest (a.put o.dst (ndVal N.list)) w) : wpList Tryd.prog ops Q (o :: rest) a w := by
  refine wpList_plain hg fun K hKK => ?_
  unfold Oper.wp
  rw [run_load98 x ho hx h]
  exact hKK _ _ hK
theorem wpList_box98 (hg : o.guard = none) (x : Operand) (ho : o.op = .box 81 x) (hx : a.eval x = ndVal N.list) (hK : wpList Tryd.prog ops Q rest (a.put o.dst (.pointer (some ⟨w.heap.size, 0, none⟩))) (w.alloc (.cells (N.list.map (Value.int .i64)).toArray 81))) :
    wpList Tryd.prog ops Q (o :: rest) a w := by
  refine wpList_plain hg fun K hKK => ?_
  unfold Oper.wp
  rw [run_box98 x ho hx]
  exact hKK _ _ hK
theorem still_load98 (hg : o.guard = none) (x : Operand) (ho : o.op = .load 81 x) (hx : a.eval x = .pointer (some ⟨g, 0, none⟩)) (h : NB w g N) {R : Act → Prop} (hK : wpStill Tryd.prog ops w R rest (a.put o.dst (ndVal N.list))) : wpStill Tryd.prog ops w R (o :: rest) a := by
  refine wpStill_step fun K hKK => ?_
  simp only [Region.wanted, hg, if_true]
  unfold Oper.still
  rw [run_load98 x ho hx h]
  exact ⟨rfl, hKK _ hK⟩
end
end Go.Proofs.YtbfkcfhkccicoaaDoor
