/- What a slice of bytes that came in gives to a walk. -/
import Derived.Test.YtclialdbaclpoaaFrame
import Derived.Test.YtclialdbaclpoaaApartW
namespace Go.Proofs.Ytclialdbaclpoaa
open Go.ChangeShapes Go.WideShapes Go.ChangeAt Go.RowKit

theorem u8_in {n : Int} (h : (Lit.int .u8 n).wf = true) : 0 ≤ n ∧ n < 256 := by
  have := bounds_u8 h
  omega
theorem cells5 : Try.prog.cellsOf 5 = 1 := by kernel_rfl
theorem bytesD {H : Type} {enc : TypeId × Value → H} {W : World} {fuel : Nat} {cs : List Value} {x : DataW H × List MemPlace} (h : DataW.trod enc Try.prog W 0 (fun _ => true) true fuel 38 cs = some x)
    (hlt : ∀ p ∈ x.2, p.block < W.heap.size) : ∃ v l, cs = [v] ∧ BytesS (fun b => b < W.heap.size) W v l ∧ (∀ y ∈ l, 0 ≤ y ∧ y < 256) := by
  rcases open_ints Try.underlying38 Try.underlying5 cells5 h with ⟨rfl, rfl⟩ | ⟨a, len, cap, zs, rfl, _, hl, hm, hz, rfl, hcell, hwf⟩
  · exact ⟨_, [], rfl, Row.nil _ _ _, fun _ h => (by cases h)⟩
  · simp only [if_true] at hz
    have hlen : (zs.take len).length = len := by simp; omega
    refine ⟨_, zs.take len, rfl, ⟨some a, cap, by rw [hlen], by omega, by unfold maxLen at hm; omega, fun j hj => ?_⟩, fun n hn => u8_in (hwf n (List.mem_of_mem_take hn))⟩
    have hj2 : j < len := by omega
    have hc := hcell j (by omega)
    obtain ⟨b, off, spot⟩ := a
    have hspot : spot = none := by
      have := World.cell?_spot (hcell 0 (by omega))
      simpa [Addr.add] using this
    subst hspot
    refine ⟨b, off, rfl, hlt (.cell b off) (MemPlace.mem_row.2 ⟨0, by omega, by simp⟩), ?_⟩
    have e1 : (⟨b, off, none⟩ : Addr).add j = ⟨b, off + j, none⟩ := by cases j <;> simp [Addr.add]
    rw [e1] at hc
    rw [hc]
    simp [List.getD, hj2]
theorem bytes_of {H : Type} {enc : TypeId × Value → H} {W : World} {v : Value} {d : DataW H} {p : List MemPlace} (h : DataW.Trod enc Try.prog W 0 (fun _ => true) true 38 v d p) (h1 : v.cells.toList = [v])
    (hlt : ∀ x ∈ p, x.block < W.heap.size) : ∃ l, BytesS (fun b => b < W.heap.size) W v l ∧ (∀ y ∈ l, 0 ≤ y ∧ y < 256) ∧ True := by
  obtain ⟨fuel, hf⟩ := h
  obtain ⟨u, l, hu, hi, hb⟩ := bytesD hf hlt
  rw [h1] at hu
  simp only [List.cons.injEq, and_true] at hu
  subst hu
  exact ⟨l, hi, hb, trivial⟩
end Go.Proofs.Ytclialdbaclpoaa
