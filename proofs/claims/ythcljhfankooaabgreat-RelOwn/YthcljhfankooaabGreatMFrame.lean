/- What slices of numbers, and slices of tuples, that came in give to a walk. -/
import Derived.Test.YthcljhfankooaabGreatRows
import Derived.Test.YthcljhfankooaabGreatMRows
import Derived.ProofKit
import Derived.OpenShut
import Derived.SizedLaws
namespace Go.Proofs.YthcljhfankooaabGreat
open Go.ChangeShapes Go.WideShapes Go.ChangeAt Go.RowKit

theorem own : ownKnob Tryz.prog.godebug = none := by kernel_rfl
theorem laidOut : laidOutB Tryz.prog = true := by kernel_rfl
theorem cells3 : Tryz.prog.cellsOf 3 = 1 := by kernel_rfl
theorem cells22 : Tryz.prog.cellsOf 32 = 1 := by kernel_rfl
theorem bytes3 : Tryz.prog.bytesOf 3 = 8 := by kernel_rfl

/-- One slice of numbers. -/
theorem ints_of {H : Type} {enc : TypeId × Value → H} {W : World} {fuel : Nat} {cs : List Value} {x : DataW H × List MemPlace} (h : DataW.trod enc Tryz.prog W 0 (fun _ => true) true fuel 32 cs = some x)
    (hlt : ∀ p ∈ x.2, p.block < W.heap.size) : ∃ v l, cs = [v] ∧ IntsS (fun b => b < W.heap.size) W v l ∧ Bnd l ∧ ((∀ n ∈ x.1.weights Tryz.prog 32, n ≤ reachBytes) → l.length * 8 ≤ 140737488351232) := by
  rcases open_ints Tryz.underlying32 Tryz.underlying3 cells3 h with ⟨rfl, rfl⟩ | ⟨a, len, cap, zs, rfl, _, hl, hm, hz, rfl, hcell, hwf⟩
  · exact ⟨_, [], rfl, IntsS.nil _ _, fun _ h => (by cases h), fun _ => by simp⟩
  · simp only [if_true] at hz
    have hlen : (zs.take len).length = len := by simp; omega
    refine ⟨_, zs.take len, rfl, ⟨some a, cap, by rw [hlen], by omega, by unfold maxLen at hm; omega, fun j hj => ?_⟩, fun n hn => (bounds_i64 (hwf n (List.mem_of_mem_take hn))).1, fun hw => ?_⟩
    · have hj2 : j < len := by omega
      have hc := hcell j (by omega)
      obtain ⟨b, off, spot⟩ := a
      have hspot : spot = none := by
        have := World.cell?_spot (hcell 0 (by omega))
        simpa [Addr.add] using this
      subst hspot
      refine ⟨b, off, rfl, hlt (.cell b off) (MemPlace.mem_row.2 ⟨0, by omega, by simp⟩), ?_⟩
      have e1 : (⟨b, off, none⟩ : Addr).add j = ⟨b, off + j, none⟩ := by cases j <;> simp [Addr.add]
      rw [e1] at hc
      rw [hc]
      simp [List.getD, hj2]
    · have := hw (((lits IntKind.i64 (zs.take len)).length + (lits IntKind.i64 (zs.drop len)).length) * Tryz.prog.bytesOf 3) (by
        simp only [DataW.weights, Tryz.underlying32]
        exact List.mem_cons_self)
      simp only [bytes3, lits, List.length_map, reachBytes, List.length_take, List.length_drop] at this
      simp only [List.length_take]
      omega

theorem slice_of {H : Type} {enc : TypeId × Value → H} {W : World} {v : Value} {d : DataW H} {p : List MemPlace} (h : DataW.Trod enc Tryz.prog W 0 (fun _ => true) true 32 v d p) (h1 : v.cells.toList = [v])
    (hlt : ∀ x ∈ p, x.block < W.heap.size) : ∃ l, IntsS (fun b => b < W.heap.size) W v l ∧ Bnd l ∧ ((∀ n ∈ d.weights Tryz.prog 32, n ≤ reachBytes) → l.length * 8 ≤ 140737488351232) := by
  obtain ⟨fuel, hf⟩ := h
  obtain ⟨u, l, hu, hi⟩ := ints_of hf hlt
  rw [h1] at hu
  simp only [List.cons.injEq, and_true] at hu
  subst hu
  exact ⟨l, hi⟩

theorem weights_all {H : Type} {e : TypeId} {n : Nat} : ∀ (ds : List (DataW H)) (d : DataW H), d ∈ ds → n ∈ d.weights Tryz.prog e → n ∈ DataW.weightsAll Tryz.prog e ds
  | x :: r, d, hd, hn => by
    rw [DataW.weightsAll, List.mem_append]
    rcases List.mem_cons.1 hd with rfl | hd
    · exact .inl hn
    · exact .inr (weights_all r d hd hn)

/-- A slice of slices of numbers. -/
theorem lists_of {H : Type} {enc : TypeId × Value → H} {W : World} {fuel : Nat} {cs : List Value} {x : DataW H × List MemPlace} (h : DataW.trod enc Tryz.prog W 0 (fun _ => true) true fuel 22 cs = some x)
    (hlt : ∀ p ∈ x.2, p.block < W.heap.size) : ∃ v xs, cs = [v] ∧ ListAt (fun b => b < W.heap.size) W v xs ∧ (∀ y ∈ xs, Bnd y) ∧ ((∀ n ∈ x.1.weights Tryz.prog 22, n ≤ reachBytes) → ∀ y ∈ xs, y.length * 8 ≤ 140737488351232) := by
  rcases DataW.trod_slice Tryz.underlying22 h with ⟨rfl, rfl⟩ | ⟨a, len, cap, elems, rest, n, _, rfl, rfl, hb, hl, hm, hlen, hel, hsp, hns⟩
  · exact ⟨_, [], rfl, ⟨fun _ => undef, Row.nil _ _ _, fun j hj => by simp at hj⟩, fun _ h => (by cases h), fun _ _ h => by cases h⟩
  · rw [cells22] at hel
    simp only [Nat.mul_one] at hel
    have each : ∀ i, i < len → ∃ v l d, W.cell? (a.add i) = some v ∧ elems[i]? = some d ∧ IntsS (fun b => b < W.heap.size) W v l ∧ Bnd l ∧ ((∀ n ∈ d.1.weights Tryz.prog 32, n ≤ reachBytes) → l.length * 8 ≤ 140737488351232) := fun i hi => by
      have hi2 : i < elems.length := by omega
      have h1 := hel i hi
      rw [List.getElem?_eq_getElem hi2] at h1
      obtain ⟨cs, h2, h3⟩ := Option.bind_eq_some_iff.1 h1
      obtain ⟨v, l, rfl, h4, h5, h6⟩ := ints_of h3 (fun p hp => hlt p (by
        refine List.mem_append.2 (.inr (List.mem_flatMap.2 ⟨elems[i], ?_, hp⟩))
        exact List.mem_append.2 (.inl (List.getElem_mem hi2))))
      exact ⟨v, l, elems[i], cell_of_cells?_one h2, List.getElem?_eq_getElem hi2, h4, h5, h6⟩
    have pick : ∀ i, ∃ q : Value × List Int, i < len → W.cell? (a.add i) = some q.1 ∧ IntsS (fun b => b < W.heap.size) W q.1 q.2 ∧ Bnd q.2 ∧ ∃ d, elems[i]? = some d ∧ ((∀ n ∈ d.1.weights Tryz.prog 32, n ≤ reachBytes) → q.2.length * 8 ≤ 140737488351232) := fun i => by
      by_cases hi : i < len
      · obtain ⟨v, l, d, h1, h2, h3, h4, h5⟩ := each i hi
        exact ⟨(v, l), fun _ => ⟨h1, h3, h4, d, h2, h5⟩⟩
      · exact ⟨(undef, []), fun h => absurd h hi⟩
    obtain ⟨q, hq⟩ := Classical.axiomOfChoice pick
    have hgl : ∀ j, j < len → ((List.range len).map fun i => (q i).2).getD j [] = (q j).2 := fun j hj => by simp [List.getD, hj]
    refine ⟨_, (List.range len).map fun i => (q i).2, rfl, ⟨fun j => (q j).1, ⟨some a, cap, by simp, by simpa using hl, by unfold maxLen at hm; omega, fun j hj => ?_⟩, fun j hj => ?_⟩, fun y hy => ?_, fun hw y hy => ?_⟩
    · have hj2 : j < len := by simpa using hj
      obtain ⟨h1, _⟩ := hq j hj2
      obtain ⟨b, off, spot⟩ := a
      have hspot : spot = none := by
        have := World.cell?_spot (hq 0 (by omega)).1
        simpa [Addr.add] using this
      subst hspot
      have e1 : (⟨b, off, none⟩ : Addr).add j = ⟨b, off + j, none⟩ := by cases j <;> simp [Addr.add]
      rw [e1] at h1
      obtain ⟨o, ho, _⟩ := cells_of_cell h1
      exact ⟨b, off, rfl, lt_heap ho, h1⟩
    · have hj2 : j < len := by simpa using hj
      rw [hgl j hj2]
      exact (hq j hj2).2.1
    · obtain ⟨i, hi, rfl⟩ := List.mem_map.1 hy
      exact (hq i (List.mem_range.1 hi)).2.2.1
    · obtain ⟨i, hi, rfl⟩ := List.mem_map.1 hy
      obtain ⟨_, _, _, d, hd, hwd⟩ := hq i (List.mem_range.1 hi)
      refine hwd (fun n hn => hw n ?_)
      simp only [DataW.weights, Tryz.underlying22]
      refine List.mem_cons_of_mem _ (List.mem_append.2 (.inl (weights_all _ d.1 (List.mem_map_of_mem (List.mem_of_getElem? hd)) hn)))

theorem lists_at {H : Type} {enc : TypeId × Value → H} {W : World} {v : Value} {d : DataW H} {p : List MemPlace} (h : DataW.Trod enc Tryz.prog W 0 (fun _ => true) true 22 v d p) (h1 : v.cells.toList = [v])
    (hlt : ∀ x ∈ p, x.block < W.heap.size) : ∃ xs, ListAt (fun b => b < W.heap.size) W v xs ∧ (∀ y ∈ xs, Bnd y) ∧ ((∀ n ∈ d.weights Tryz.prog 22, n ≤ reachBytes) → ∀ y ∈ xs, y.length * 8 ≤ 140737488351232) := by
  obtain ⟨fuel, hf⟩ := h
  obtain ⟨u, l, hu, hi⟩ := lists_of hf hlt
  rw [h1] at hu
  simp only [List.cons.injEq, and_true] at hu
  subst hu
  exact ⟨l, hi⟩
end Go.Proofs.YthcljhfankooaabGreat
