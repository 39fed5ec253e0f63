/- backCon: what stands in memory before its loop and between two rounds. -/
import Derived.Test.YtpiehfjgokfdeaaDoorBackR
import Derived.Deep.RegionWith
namespace Go.Proofs.YtpiehfjgokfdeaaDoor
open Go.RowKit Go.Maps

def nodeStore (p v : Value) : Sem Unit := Instr.storeAt 98 p v
theorem storeAt98 (p v : Value) : Instr.storeAt 98 p v = nodeStore p v := rfl

/-- The three blocks that are made first. -/
structure BS0 (W wr : World) (N : Nd) : Prop where
  bw : Below W.heap.size W wr
  res : wr.heap[W.heap.size]? = some (.cells #[.int .i64 0, .int .i64 0, .string ⟨#[]⟩, .slice none 0 0] 24 (0, 0))
  node : NB wr (W.heap.size + 1) N
  val : wr.heap[W.heap.size + 1 + 1]? = some (.cells #[.int .i64 3, .int .i64 0, .string ⟨#[]⟩, .slice none 0 0] 24 (0, 0))
  sz : wr.heap.size = W.heap.size + 3
theorem bs0_start (W : World) (N : Nd) : BS0 W (((W.alloc (.cells #[.int .i64 0, .int .i64 0, .string ⟨#[]⟩, .slice none 0 0] 24)).alloc (.cells (N.list.map (Value.int .i64)).toArray 98)).alloc (.cells #[.int .i64 3, .int .i64 0, .string ⟨#[]⟩, .slice none 0 0] 24)) N := by
  have h1 := World.alloc_heap_new W (.cells #[.int .i64 0, .int .i64 0, .string ⟨#[]⟩, .slice none 0 0] 24)
  have b1 := below_box W (.cells #[.int .i64 0, .int .i64 0, .string ⟨#[]⟩, .slice none 0 0] 24)
  have s1 : (W.alloc (.cells #[.int .i64 0, .int .i64 0, .string ⟨#[]⟩, .slice none 0 0] 24)).heap.size = W.heap.size + 1 := by simp
  generalize W.alloc (.cells #[.int .i64 0, .int .i64 0, .string ⟨#[]⟩, .slice none 0 0] 24) = W1 at *
  have h2 := World.alloc_heap_new W1 (.cells (N.list.map (Value.int .i64)).toArray 98)
  have b2 := below_box W1 (.cells (N.list.map (Value.int .i64)).toArray 98)
  have s2 : (W1.alloc (.cells (N.list.map (Value.int .i64)).toArray 98)).heap.size = W.heap.size + 1 + 1 := by simp [s1]
  rw [s1] at h2 b2
  generalize W1.alloc (.cells (N.list.map (Value.int .i64)).toArray 98) = W2 at *
  have h3 := World.alloc_heap_new W2 (.cells #[.int .i64 3, .int .i64 0, .string ⟨#[]⟩, .slice none 0 0] 24)
  have b3 := below_box W2 (.cells #[.int .i64 3, .int .i64 0, .string ⟨#[]⟩, .slice none 0 0] 24)
  rw [s2] at h3 b3
  refine ⟨b1.trans ((b2.mono (by omega)).trans (b3.mono (by omega))), ?_, ?_, h3, by simp [s2]⟩
  · exact (b3.block _ (by omega)).trans ((b2.block _ (by omega)).trans h1)
  · exact (b3.block _ (by omega)).trans h2

/-- The cells of the first k. -/
def cellsTo (us : Nat → V) : Nat → List Value
  | 0 => []
  | k + 1 => cellsTo us k ++ [.int .i64 (us k).kind, .int .i64 (us k).num, .string (us k).str, .slice (us k).addr (us k).len (us k).cap]

/-- Between two rounds. -/
structure BL (W wr : World) (v : V) (N : Nd) (k : Nat) (us : Nat → V) : Prop where
  bw : Below W.heap.size W wr
  res : wr.heap[W.heap.size]? = some (.cells #[.int .i64 0, .int .i64 0, .string ⟨#[]⟩, .slice none 0 0] 24 (0, 0))
  node : NB wr (W.heap.size + 1) N
  box : ∃ sl, wr.heap[W.heap.size + 1 + 1]? = some (.cells #[.int .i64 3, .int .i64 0, .string v.str, sl] 24 (0, 0)) ∧ wr.ownsRow (W.heap.size + 3) 24 4 sl k (cellsTo us k) ∧ ∀ i, i < k → ∀ q, (us i).uses q → W.heap.size + 3 ≤ q ∧ sl.ownBlock ≠ some q
  sz : W.heap.size + 3 ≤ wr.heap.size
  at_ : ∀ i, i < k → (us i).At wr.heap.size wr
  like : ∀ i, i < k → (us i).ord (v.kid i) = 0

theorem bl_start {W W3 : World} {v : V} {N : Nd} (h : BS0 W W3 N) : BL W ((W3.setCell ⟨W.heap.size + 1 + 1, 2, none⟩ (.string v.str)).drew) v N 0 (fun _ => .none) := by
  have ho : ∀ k, k ≠ W.heap.size + 1 + 1 → (W3.setCell ⟨W.heap.size + 1 + 1, 2, none⟩ (.string v.str)).heap[k]? = W3.heap[k]? := fun k hk => Below.heap_setCell _ _ _ _ hk
  have hs := setCell_eq_setRow W3 (W.heap.size + 1 + 1) 2 _ _ _ (.string v.str) h.val
  refine ⟨(h.bw.setCell (by show _ ≤ W.heap.size + 1 + 1; omega) _).drew, (ho _ (by omega)).trans h.res, (ho _ (by omega)).trans h.node, ⟨.slice none 0 0, ?_, World.ownsRow_nil _ _ _ _, fun i hi => absurd hi (Nat.not_lt_zero i)⟩, ?_, fun i hi => absurd hi (Nat.not_lt_zero i), fun i hi => absurd hi (Nat.not_lt_zero i)⟩
  · show (W3.setCell _ _).heap[_]? = _
    rw [hs]
    exact setRow_heap W3 _ _ _ _ _ h.val
  · have := (h.bw.setCell (p := ⟨W.heap.size + 1 + 1, 2, none⟩) (by show _ ≤ W.heap.size + 1 + 1; omega) (.string v.str)).size
    have h2 := h.sz
    show _ ≤ (W3.setCell _ _).heap.size
    simp [World.setCell, h2]

end Go.Proofs.YtpiehfjgokfdeaaDoor
