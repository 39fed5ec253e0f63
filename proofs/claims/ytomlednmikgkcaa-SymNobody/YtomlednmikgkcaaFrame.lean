/- What a slice of texts that came in gives to a walk. -/
import Derived.Test.YtomlednmikgkcaaRows
import Derived.Test.YtomlednmikgkcaaBoth
import Derived.ProofKit
import Derived.SizedLaws
namespace Go.Proofs.Ytomlednmikgkcaa
open Go.ChangeShapes Go.WideShapes Go.ChangeAt Go.RowKit

theorem own : ownKnob Try.prog.godebug = none := by kernel_rfl
theorem laidOut : laidOutB Try.prog = true := by kernel_rfl
theorem cells9 : Try.prog.cellsOf 9 = 1 := by kernel_rfl

theorem weights_strs {H : Type} : ∀ (l : List ByteArray) (x : ByteArray), x ∈ l → x.size ∈ DataW.weightsAll (H := H) Try.prog 9 (strs l)
  | [], _, h => by cases h
  | y :: r, x, h => by
    simp only [strs, List.map_cons, DataW.weightsAll, DataW.weights, List.mem_append]
    rcases List.mem_cons.1 h with rfl | h
    · exact .inl (by rw [Array.length_toList]; exact List.mem_singleton.2 rfl)
    · exact .inr (weights_strs r x h)

theorem arg_of {H : Type} {enc : TypeId × Value → H} {W : World} {a0 : Option Addr} {len cap : Nat} {d : DataW H} {p : List MemPlace} (h0 : DataW.Trod enc Try.prog W 0 (fun _ => true) true 22 (.slice a0 len cap) d p)
    (hlt : ∀ x ∈ p, x.block < W.heap.size) (hw : ∀ n ∈ d.weights Try.prog 22, n ≤ reachBytes) : ∃ l, Arg W (.slice a0 len cap) 140737488351232 l := by
  obtain ⟨fuel, hf⟩ := h0
  rcases open_strings Try.underlying22 Try.underlying9 cells9 hf with ⟨hcs, hx⟩ | ⟨a, len', cap', ss, hcs, _, hl, hm, hz, hx, hcell, hws⟩
  · simp [Value.cells] at hcs
    obtain ⟨rfl, rfl, rfl⟩ := hcs
    exact ⟨[], .inl ⟨rfl, rfl⟩⟩
  · simp [Value.cells] at hcs
    obtain ⟨rfl, rfl, rfl⟩ := hcs
    simp only [Prod.mk.injEq] at hx
    obtain ⟨rfl, rfl⟩ := hx
    simp only [if_true] at hz
    have hlen : (ss.take len).length = len := by simp; omega
    refine ⟨ss.take len, .inr ⟨a, cap, by rw [hlen], by omega, by unfold maxLen at hm; omega, fun j x hj => ?_⟩⟩
    have hj2 : j < len := by have := (List.getElem?_eq_some_iff.1 hj).1; omega
    have hx2 : ss[j]? = some x := by rw [List.getElem?_take, if_pos hj2] at hj; exact hj
    refine ⟨?_, hlt (.cell a.block a.off) (MemPlace.mem_row.2 ⟨0, by omega, by simp⟩), ?_⟩
    · have := hcell j (by omega)
      rw [List.getD, hx2] at this
      exact this
    · have := hw x.size (by
        simp only [DataW.weights, Try.underlying22]
        exact List.mem_cons_of_mem _ (List.mem_append_left _ (weights_strs _ x (List.mem_of_getElem? hj))))
      simpa [reachBytes] using this
theorem Arg.mono {W : World} {v : Value} {N N' : Nat} {l : List ByteArray} (h : Arg W v N l) (hN : N ≤ N') : Arg W v N' l := by
  rcases h with h | ⟨ad, cap, h1, h2, h3, h4⟩
  · exact .inl h
  · exact .inr ⟨ad, cap, h1, h2, h3, fun j x hj => ⟨(h4 j x hj).1, (h4 j x hj).2.1, Nat.le_trans (h4 j x hj).2.2 hN⟩⟩
end Go.Proofs.Ytomlednmikgkcaa
