/- What an array of two slices of tuples that came in gives to a walk. -/
import Derived.Test.YtmjlhmhkbfnccaaFrame
namespace Go.Proofs.Ytmjlhmhkbfnccaa
open Go.ChangeShapes Go.WideShapes Go.ChangeAt Go.RowKit

theorem cellsD : Try.prog.cellsOf 52 = 2 := by kernel_rfl
theorem cellsL : Try.prog.cellsOf 32 = 1 := by kernel_rfl
theorem okWide_array {P : Program} {w : World} {r : Reach} {base : Nat} {t e : TypeId} {n : Nat} {v : Value} (ht : P.underlying t = some (.array n e)) (h : Value.okWide P w r base t v) : ∃ cs, v = .agg cs ∧ cs.size = P.cellsOf t := by
  simp only [Value.okWide, ht] at h
  obtain ⟨cs, h1, h2, _⟩ := h
  exact ⟨cs, h1, h2⟩

set_option maxRecDepth 100000 in
theorem two_of {H : Type} {enc : TypeId × Value → H} {W : World} {r : Reach} {b0 : Nat} {x : Value} {d : DataW H} {p : List MemPlace} (hval : Value.okWide Try.prog W r b0 52 x) (h : DataW.Trod enc Try.prog W 0 (fun _ => true) true 52 x d p)
    (hlt : ∀ y ∈ p, y.block < W.heap.size) : ∃ u v l m, x = .agg #[u, v] ∧ ListAt (fun b => b < W.heap.size) W u l ∧ ListAt (fun b => b < W.heap.size) W v m ∧ (∀ y ∈ l, Bnd y) ∧ (∀ y ∈ m, Bnd y) := by
  obtain ⟨cs, rfl, hsz⟩ := okWide_array Try.underlying52 hval
  obtain ⟨fuel, hf⟩ := h
  obtain ⟨xs, m, _, hx, _, hlen, hk⟩ := DataW.trod_array Try.underlying52 hf
  rw [cellsD] at hsz
  rw [cellsL] at hk
  obtain ⟨rfl, rfl⟩ := Prod.mk.inj hx
  obtain ⟨u, v, rfl⟩ : ∃ u v, cs = #[u, v] := by
    obtain ⟨l⟩ := cs
    match l, hsz with
    | [u, v], _ => exact ⟨u, v, rfl⟩
  match xs, hlen with
  | [y0, y1], _ =>
    have h0 := hk 0 (by omega)
    have h1 := hk 1 (by omega)
    simp [Value.cells] at h0 h1
    obtain ⟨u', l, e0, i0, j0, _⟩ := lists_of h0 (fun p hp => hlt p (by simp [hp]))
    obtain ⟨v', m, e1, i1, j1, _⟩ := lists_of h1 (fun p hp => hlt p (by simp [hp]))
    simp only [List.cons.injEq, and_true] at e0 e1
    subst e0 e1
    exact ⟨u, v, l, m, rfl, i0, i1, j0, j1⟩
end Go.Proofs.Ytmjlhmhkbfnccaa
