/- All: what it answers goes over all tuples. -/
import Derived.Test.YthcljhfankooaabGreatBGoes
namespace Go.Proofs.YthcljhfankooaabGreat
open Go.RowKit Go.Shelf

attribute [local go_sem] Oper.semAt_some

theorem drew_alloc (w : World) (o : Obj) : w.drew.alloc o = (w.alloc o).drew := rfl
theorem drew_size (w : World) : w.drew.heap.size = w.heap.size := rfl
theorem cell_at {w : World} {b : Nat} {Z : Array Value} {t : TypeId} {f : Nat × Nat} (h : w.heap[b]? = some (.cells Z t f)) (j : Nat) : w.cell? ⟨b, j, none⟩ = Z[j]? := by simp [World.cell?, h]
/-- A row of zeros that was made. -/
theorem zeros_made (n : Nat) : (madeCells #[Value.int .i64 0] n).toList = (List.replicate n (0 : Int)).map (Value.int .i64) := by
  apply List.ext_getElem
  · simp [size_madeCells]
  · intro i h1 h2
    simp [madeCells, Nat.mod_one]
theorem zeros_run (n : Nat) (hn : n ≤ 8) : ∃ Z : Array Value, Z.toList = (List.replicate n (0 : Int)).map (Value.int .i64) ∧ ∀ w : World, (Instr.makeSlice 32 (.int .i64 (n : Int)) (.int .i64 (n : Int))).run Tryz.prog w = .ok (.slice (some ⟨w.heap.size, 0, none⟩) n n) (w.alloc (.cells Z 3)) := by
  obtain ⟨i, h1, h2, h3, h4⟩ := infoI
  have ht : Tryz.prog.underlying 32 = some (.slice 3) := by kernel_rfl
  refine ⟨madeCells #[Value.int .i64 0] n, zeros_made n, fun w => ?_⟩
  have := run_make (P := Tryz.prog) w 32 3 i _ ht h1 h2 .i64 .i64 n n (by omega) (Int.le_refl _) (by rw [h4]; omega) (by omega)
  rw [h3] at this
  simpa [Value.cells] using this
theorem zeros_own {n : Nat} {Z : Array Value} (hZ : Z.toList = (List.replicate n (0 : Int)).map (Value.int .i64)) (hn : n ≤ 8) (w : World) : IntsS (fun b => w.heap.size ≤ b) (w.alloc (.cells Z 3)) (.slice (some ⟨w.heap.size, 0, none⟩) n n) (List.replicate n 0) := by
  have hw := World.alloc_heap_new w (.cells Z 3)
  refine ⟨_, n, by simp, by simp, by omega, fun j hj => ⟨w.heap.size, 0, rfl, Nat.le_refl _, ?_⟩⟩
  have hj' : j < n := by simpa using hj
  have hz : Z[j]? = some (.int .i64 0) := by
    rw [← Array.getElem?_toList, hZ]
    simp [hj']
  rw [Nat.zero_add, cell_at hw, hz]
  simp [List.getD, hj']

end Go.Proofs.YthcljhfankooaabGreat
