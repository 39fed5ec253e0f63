/- What slices of numbers, and arrays of such slices, that came in give to a walk. -/
import Derived.Test.YtklmhgljhmodlaaRows
import Derived.Test.YtklmhgljhmodlaaAlive
import Derived.ProofKit
import Derived.OpenShut
import Derived.SizedLaws
namespace Go.Proofs.Ytklmhgljhmodlaa
open Go.ChangeShapes Go.WideShapes Go.ChangeAt Go.RowKit

theorem own : ownKnob Try.prog.godebug = none := by kernel_rfl
theorem laidOut : laidOutB Try.prog = true := by kernel_rfl
theorem cells3 : Try.prog.cellsOf 3 = 1 := by kernel_rfl
theorem cells22 : Try.prog.cellsOf 22 = 1 := by kernel_rfl
theorem cells23 : Try.prog.cellsOf 23 = 2 := by kernel_rfl
theorem cells39 : Try.prog.cellsOf 39 = 3 := by kernel_rfl
theorem bytes3 : Try.prog.bytesOf 3 = 8 := by kernel_rfl

theorem okWide_array {P : Program} {w : World} {r : Reach} {base : Nat} {t e : TypeId} {n : Nat} {v : Value} (ht : P.underlying t = some (.array n e)) (h : Value.okWide P w r base t v) : ∃ cs, v = .agg cs ∧ cs.size = P.cellsOf t := by
  simp only [Value.okWide, ht] at h
  obtain ⟨cs, h1, h2, _⟩ := h
  exact ⟨cs, h1, h2⟩

/-- One slice of numbers. -/
theorem ints_of {H : Type} {enc : TypeId × Value → H} {W : World} {fuel : Nat} {cs : List Value} {x : DataW H × List MemPlace} (h : DataW.trod enc Try.prog W 0 (fun _ => true) true fuel 22 cs = some x)
    (hlt : ∀ p ∈ x.2, p.block < W.heap.size) : ∃ v l, cs = [v] ∧ Ints W.heap.size W v l ∧ ((∀ n ∈ x.1.weights Try.prog 22, n ≤ reachBytes) → l.length * 8 ≤ 140737488351232) := by
  rcases open_ints Try.underlying22 Try.underlying3 cells3 h with ⟨rfl, rfl⟩ | ⟨a, len, cap, zs, rfl, _, hl, hm, hz, rfl, hcell, hwf⟩
  · exact ⟨_, [], rfl, Ints.nil _ _, fun _ => by simp⟩
  · simp only [if_true] at hz
    have hlen : (zs.take len).length = len := by simp; omega
    refine ⟨_, zs.take len, rfl, ⟨some a, cap, by rw [hlen], by omega, by unfold maxLen at hm; omega, fun j y hj => ?_⟩, fun hw => ?_⟩
    · have hj2 : j < len := by have := (List.getElem?_eq_some_iff.1 hj).1; omega
      have hx2 : zs[j]? = some y := by rw [List.getElem?_take, if_pos hj2] at hj; exact hj
      have hc := hcell j (by omega)
      rw [List.getD, hx2] at hc
      obtain ⟨b, off, spot⟩ := a
      have hspot : spot = none := by
        have := World.cell?_spot (hcell 0 (by omega))
        simpa [Addr.add] using this
      subst hspot
      refine ⟨b, off, rfl, hlt (.cell b off) (MemPlace.mem_row.2 ⟨0, by omega, by simp⟩), ?_⟩
      have e1 : (⟨b, off, none⟩ : Addr).add j = ⟨b, off + j, none⟩ := by cases j <;> simp [Addr.add]
      rw [e1] at hc
      exact hc
    · have := hw (((lits IntKind.i64 (zs.take len)).length + (lits IntKind.i64 (zs.drop len)).length) * Try.prog.bytesOf 3) (by
        simp only [DataW.weights, Try.underlying22]
        exact List.mem_cons_self)
      simp only [bytes3, lits, List.length_map, reachBytes, List.length_take, List.length_drop] at this
      simp only [List.length_take]
      omega

theorem slice_of {H : Type} {enc : TypeId × Value → H} {W : World} {a : Option Addr} {len cap : Nat} {d : DataW H} {p : List MemPlace} (h : DataW.Trod enc Try.prog W 0 (fun _ => true) true 22 (.slice a len cap) d p)
    (hlt : ∀ x ∈ p, x.block < W.heap.size) : ∃ l, Ints W.heap.size W (.slice a len cap) l ∧ ((∀ n ∈ d.weights Try.prog 22, n ≤ reachBytes) → l.length * 8 ≤ 140737488351232) := by
  obtain ⟨fuel, hf⟩ := h
  obtain ⟨u, l, hu, hi, hw⟩ := ints_of hf hlt
  simp only [Value.cells, List.cons.injEq, and_true] at hu
  subst hu
  exact ⟨l, hi, hw⟩

/-- An array of two. -/
theorem two_of {H : Type} {enc : TypeId × Value → H} {W : World} {r : Reach} {b0 : Nat} {x : Value} {d : DataW H} {p : List MemPlace} (hval : Value.okWide Try.prog W r b0 23 x) (h : DataW.Trod enc Try.prog W 0 (fun _ => true) true 23 x d p)
    (hlt : ∀ y ∈ p, y.block < W.heap.size) : ∃ u v l m, x = .agg #[u, v] ∧ Ints W.heap.size W u l ∧ Ints W.heap.size W v m := by
  obtain ⟨cs, rfl, hsz⟩ := okWide_array Try.underlying23 hval
  obtain ⟨fuel, hf⟩ := h
  obtain ⟨xs, m, _, hx, _, hlen, hk⟩ := DataW.trod_array Try.underlying23 hf
  rw [cells23] at hsz
  rw [cells22] at hk
  obtain ⟨rfl, rfl⟩ := Prod.mk.inj hx
  obtain ⟨u, v, rfl⟩ : ∃ u v, cs = #[u, v] := by
    obtain ⟨l⟩ := cs
    match l, hsz with
    | [u, v], _ => exact ⟨u, v, rfl⟩
  match xs, hlen with
  | [y0, y1], _ =>
    have h0 := hk 0 (by omega)
    have h1 := hk 1 (by omega)
    simp [Value.cells] at h0 h1
    obtain ⟨u', l, e0, i0, _⟩ := ints_of h0 (fun p hp => hlt p (by simp [hp]))
    obtain ⟨v', m, e1, i1, _⟩ := ints_of h1 (fun p hp => hlt p (by simp [hp]))
    simp only [List.cons.injEq, and_true] at e0 e1
    subst e0 e1
    exact ⟨u, v, l, m, rfl, i0, i1⟩

/-- An array of three. -/
theorem three_of {H : Type} {enc : TypeId × Value → H} {W : World} {r : Reach} {b0 : Nat} {x : Value} {d : DataW H} {p : List MemPlace} (hval : Value.okWide Try.prog W r b0 39 x) (h : DataW.Trod enc Try.prog W 0 (fun _ => true) true 39 x d p)
    (hlt : ∀ y ∈ p, y.block < W.heap.size) : ∃ u v z l m n, x = .agg #[u, v, z] ∧ Ints W.heap.size W u l ∧ Ints W.heap.size W v m ∧ Ints W.heap.size W z n := by
  obtain ⟨cs, rfl, hsz⟩ := okWide_array Try.underlying39 hval
  obtain ⟨fuel, hf⟩ := h
  obtain ⟨xs, m, _, hx, _, hlen, hk⟩ := DataW.trod_array Try.underlying39 hf
  rw [cells39] at hsz
  rw [cells22] at hk
  obtain ⟨rfl, rfl⟩ := Prod.mk.inj hx
  obtain ⟨u, v, z, rfl⟩ : ∃ u v z, cs = #[u, v, z] := by
    obtain ⟨l⟩ := cs
    match l, hsz with
    | [u, v, z], _ => exact ⟨u, v, z, rfl⟩
  match xs, hlen with
  | [y0, y1, y2], _ =>
    have h0 := hk 0 (by omega)
    have h1 := hk 1 (by omega)
    have h2 := hk 2 (by omega)
    simp [Value.cells] at h0 h1 h2
    obtain ⟨u', l, e0, i0, _⟩ := ints_of h0 (fun p hp => hlt p (by simp [hp]))
    obtain ⟨v', m, e1, i1, _⟩ := ints_of h1 (fun p hp => hlt p (by simp [hp]))
    obtain ⟨z', n, e2, i2, _⟩ := ints_of h2 (fun p hp => hlt p (by simp [hp]))
    simp only [List.cons.injEq, and_true] at e0 e1 e2
    subst e0 e1 e2
    exact ⟨u, v, z, l, m, n, rfl, i0, i1, i2⟩
end Go.Proofs.Ytklmhgljhmodlaa
