/- A node is read in the store's row, and written into a new block, in one step. backCon: what stands in memory before its loop and between two rounds. -/
import Derived.Deep.MidRow
import Derived.Deep.WholeRow
import Derived.Test.YtpiehfjgokfdeaaDoorBackW
import Derived.Test.YtpiehfjgokfdeaaDoorNodeSl
import Derived.Deep.RegionWith
namespace Go.Proofs.YtpiehfjgokfdeaaDoor
open Go.RowKit

theorem size98 : (Tryd.prog.info? 98).map (·.size) = some 18 := by kernel_rfl
theorem flat_at {ns : List (List Int)} (h18 : ∀ l ∈ ns, l.length = 18) : ∀ {j : Nat} {l : List Int}, ns[j]? = some l → ∀ q, q < 18 → (ns.flatMap fun l => l.map (Value.int .i64))[j * 18 + q]? = (l[q]?).map (Value.int .i64) := by
  induction ns with
  | nil => intro j l h; simp at h
  | cons x xs ih =>
    intro j l h q hq
    have hx : (x.map (Value.int .i64)).length = 18 := by rw [List.length_map]; exact h18 x (by simp)
    simp only [List.flatMap_cons]
    cases j with
    | zero =>
      simp only [List.getElem?_cons_zero, Option.some.injEq] at h
      subst h
      rw [List.getElem?_append_left (by omega)]
      simp
    | succ j =>
      rw [List.getElem?_append_right (by omega), hx]
      have := ih (fun l hl => h18 l (by simp [hl])) (j := j) (l := l) (by simpa using h) q hq
      rw [← this]
      congr 1
      omega

/-- A new block of a node, written. -/
theorem new_node_store (W : World) (c : Array Value) (hc : c.size = 18) (l : List Int) (hl : l.length = 18) :
    (Instr.storeAt 98 (.pointer (some ⟨W.heap.size, 0, none⟩)) (ndVal l)).run Tryd.prog (W.alloc (.cells c 98)) = .ok () (W.alloc (.cells (l.map (Value.int .i64)).toArray 98)) :=
  run_storeAt_new W 98 c _ (by rw [size98]; simp [hl]) (by simp [hc, hl]) (by
    refine all_oneCell_toArray fun v hv => ?_
    obtain ⟨_, _, rfl⟩ := List.mem_map.1 hv
    rfl)

/-- A node in the store's row, loaded. -/
theorem row_load {W : World} {p : SP} {S : SS} (h : Sto W p S) {j : Nat} {l : List Int} (h18 : ∀ l ∈ S.ns, l.length = 18) (hj : S.ns[j]? = some l) :
    ∃ g, p.na = some ⟨g, 0, none⟩ ∧ (nodeLoad (.pointer (some ⟨g, j * 18, none⟩))).run Tryd.prog W = .ok (ndVal l) W := by
  have hr := h.row
  have hjl := (List.getElem?_eq_some_iff.1 hj).1
  rcases hr.2 with ⟨_, h0⟩ | ⟨g, cap, cur, e, hb, hg, hle, hm, hsz, ht⟩
  · omega
  · injection e with e _ _
    refine ⟨g, e, ?_⟩
    unfold nodeLoad ndVal
    have h18l := h18 l (List.mem_of_getElem? hj)
    refine run_loadAt_mid W g (j * 18) 98 (l.map (Value.int .i64)) _ (fun q v hq => ?_) Tryd.underlying98 rfl (by rw [size98]; simp [h18l])
    have hq18 : q < 18 := by have := (List.getElem?_eq_some_iff.1 hq).1; simp at this; omega
    rw [cell_of_row W g (j * 18 + q) cur 98 (0, 0) hg]
    have h2 := flat_at h18 hj q hq18
    rw [← ht, List.getElem?_take, if_pos (by omega)] at h2
    rw [← Array.getElem?_toList, h2, ← hq, List.getElem?_map]
end Go.Proofs.YtpiehfjgokfdeaaDoor

namespace Go.Proofs.YtpiehfjgokfdeaaDoor
open Go.RowKit Go.Maps

def nodeStore (p v : Value) : Sem Unit := Instr.storeAt 98 p v
theorem storeAt98 (p v : Value) : Instr.storeAt 98 p v = nodeStore p v := rfl

/-- The three blocks that are made first. -/
structure BS0 (W wr : World) (N : Nd) : Prop where
  bw : Below W.heap.size W wr
  res : wr.heap[W.heap.size]? = some (.cells #[.int .i64 0, .int .i64 0, .string ⟨#[]⟩, .slice none 0 0] 24 (0, 0))
  node : NB wr (W.heap.size + 1) N
  val : wr.heap[W.heap.size + 1 + 1]? = some (.cells #[.int .i64 3, .int .i64 0, .string ⟨#[]⟩, .slice none 0 0] 24 (0, 0))
  sz : wr.heap.size = W.heap.size + 3
theorem bs0_start (W : World) (N : Nd) : BS0 W (((W.alloc (.cells #[.int .i64 0, .int .i64 0, .string ⟨#[]⟩, .slice none 0 0] 24)).alloc (.cells (N.list.map (Value.int .i64)).toArray 98)).alloc (.cells #[.int .i64 3, .int .i64 0, .string ⟨#[]⟩, .slice none 0 0] 24)) N := by
  have h1 := World.alloc_heap_new W (.cells #[.int .i64 0, .int .i64 0, .string ⟨#[]⟩, .slice none 0 0] 24)
  have b1 := below_box W (.cells #[.int .i64 0, .int .i64 0, .string ⟨#[]⟩, .slice none 0 0] 24)
  have s1 : (W.alloc (.cells #[.int .i64 0, .int .i64 0, .string ⟨#[]⟩, .slice none 0 0] 24)).heap.size = W.heap.size + 1 := by simp
  generalize W.alloc (.cells #[.int .i64 0, .int .i64 0, .string ⟨#[]⟩, .slice none 0 0] 24) = W1 at *
  have h2 := World.alloc_heap_new W1 (.cells (N.list.map (Value.int .i64)).toArray 98)
  have b2 := below_box W1 (.cells (N.list.map (Value.int .i64)).toArray 98)
  have s2 : (W1.alloc (.cells (N.list.map (Value.int .i64)).toArray 98)).heap.size = W.heap.size + 1 + 1 := by simp [s1]
  rw [s1] at h2 b2
  generalize W1.alloc (.cells (N.list.map (Value.int .i64)).toArray 98) = W2 at *
  have h3 := World.alloc_heap_new W2 (.cells #[.int .i64 3, .int .i64 0, .string ⟨#[]⟩, .slice none 0 0] 24)
  have b3 := below_box W2 (.cells #[.int .i64 3, .int .i64 0, .string ⟨#[]⟩, .slice none 0 0] 24)
  rw [s2] at h3 b3
  refine ⟨b1.trans ((b2.mono (by omega)).trans (b3.mono (by omega))), ?_, ?_, h3, by simp [s2]⟩
  · exact (b3.block _ (by omega)).trans ((b2.block _ (by omega)).trans h1)
  · exact (b3.block _ (by omega)).trans h2

/-- The cells of the first k. -/
def cellsTo (us : Nat → V) : Nat → List Value
  | 0 => []
  | k + 1 => cellsTo us k ++ [.int .i64 (us k).kind, .int .i64 (us k).num, .string (us k).str, .slice (us k).addr (us k).len (us k).cap]

/-- Between two rounds. -/
structure BL (W wr : World) (v : V) (N : Nd) (k : Nat) (us : Nat → V) : Prop where
  bw : Below W.heap.size W wr
  res : wr.heap[W.heap.size]? = some (.cells #[.int .i64 0, .int .i64 0, .string ⟨#[]⟩, .slice none 0 0] 24 (0, 0))
  node : NB wr (W.heap.size + 1) N
  box : ∃ sl, wr.heap[W.heap.size + 1 + 1]? = some (.cells #[.int .i64 3, .int .i64 0, .string v.str, sl] 24 (0, 0)) ∧ wr.ownsRow (W.heap.size + 3) 24 4 sl k (cellsTo us k) ∧ ∀ i, i < k → ∀ q, (us i).uses q → W.heap.size + 3 ≤ q ∧ sl.ownBlock ≠ some q
  sz : W.heap.size + 3 ≤ wr.heap.size
  at_ : ∀ i, i < k → (us i).At wr.heap.size wr
  like : ∀ i, i < k → (us i).ord (v.kid i) = 0

theorem bl_start {W W3 : World} {v : V} {N : Nd} (h : BS0 W W3 N) : BL W ((W3.setCell ⟨W.heap.size + 1 + 1, 2, none⟩ (.string v.str)).drew) v N 0 (fun _ => .none) := by
  have ho : ∀ k, k ≠ W.heap.size + 1 + 1 → (W3.setCell ⟨W.heap.size + 1 + 1, 2, none⟩ (.string v.str)).heap[k]? = W3.heap[k]? := fun k hk => Below.heap_setCell _ _ _ _ hk
  have hs := setCell_eq_setRow W3 (W.heap.size + 1 + 1) 2 _ _ _ (.string v.str) h.val
  refine ⟨(h.bw.setCell (by show _ ≤ W.heap.size + 1 + 1; omega) _).drew, (ho _ (by omega)).trans h.res, (ho _ (by omega)).trans h.node, ⟨.slice none 0 0, ?_, World.ownsRow_nil _ _ _ _, fun i hi => absurd hi (Nat.not_lt_zero i)⟩, ?_, fun i hi => absurd hi (Nat.not_lt_zero i), fun i hi => absurd hi (Nat.not_lt_zero i)⟩
  · show (W3.setCell _ _).heap[_]? = _
    rw [hs]
    exact setRow_heap W3 _ _ _ _ _ h.val
  · have := (h.bw.setCell (p := ⟨W.heap.size + 1 + 1, 2, none⟩) (by show _ ≤ W.heap.size + 1 + 1; omega) (.string v.str)).size
    have h2 := h.sz
    show _ ≤ (W3.setCell _ _).heap.size
    simp [World.setCell, h2]

end Go.Proofs.YtpiehfjgokfdeaaDoor
