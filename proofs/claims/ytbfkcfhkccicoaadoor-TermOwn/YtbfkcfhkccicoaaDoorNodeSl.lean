/- A node is loaded, and laid as a slice of one, by words of their own. -/
import Derived.Test.YtbfkcfhkccicoaaDoorNodeOps
namespace Go.Proofs.YtbfkcfhkccicoaaDoor
open Go.RowKit Go.Maps

/-- The load of a node, closed. -/
def nodeLoad (x : Value) : Sem Value := Instr.loadAt 81 x
theorem loadAt98 (x : Value) : Instr.loadAt 81 x = nodeLoad x := rfl
theorem nodeLoad_run {w : World} {g : Nat} {N : Nd} (h : NB w g N) : (nodeLoad (.pointer (some ⟨g, 0, none⟩))).run Tryd.prog w = .ok (ndVal N.list) w := load_node h
/-- A slice of one node, closed. -/
def nodeSlice (ps : Array (Nat × Value)) : Sem Value := Instr.buildSlice 50 1 ps
theorem buildSlice98 (ps : Array (Nat × Value)) : Instr.buildSlice 50 1 ps = nodeSlice ps := rfl
set_option maxRecDepth 100000 in
set_option maxHeartbeats 4000000 in
theorem nodeSlice_run (w : World) (N : Nd) : (nodeSlice #[(0, ndVal N.list)]).run Tryd.prog w = .ok (.slice (some ⟨w.heap.size, 0, none⟩) 1 1) (w.alloc (.cells (N.list.map (Value.int .i64)).toArray 81)) := by
  unfold nodeSlice
  rw [ndVal_nd, nd_obj]
  simp [go_sem]
end Go.Proofs.YtbfkcfhkccicoaaDoor
