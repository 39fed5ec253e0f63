/- backCon: what it answers, behind its loop. -/
import Derived.Test.YtpiehfjgokfdeaaDoorBackU
namespace Go.Proofs.YtpiehfjgokfdeaaDoor
open Go.RowKit Go.Maps

theorem ownsRow_below {w w' : World} {base : Nat} {e : TypeId} {size : Nat} {v : Value} {n : Nat} {xs : List Value} (h : w.ownsRow base e size v n xs) (hb : Below w.heap.size w w') : w'.ownsRow base e size v n xs :=
  World.ownsRow.kept h (row := none) ⟨hb.os, hb.tape, hb.output, hb.size, fun k hk _ => hb.block k hk⟩ (by cases v.ownBlock <;> simp)
theorem row_new (w : World) (u : V) : ∀ j y, u.row[j]? = some y → (w.alloc (.cells #[.int .i64 u.kind, .int .i64 u.num, .string u.str, .slice u.addr u.len u.cap] 24)).cell? ((⟨w.heap.size, 0, none⟩ : Addr).add j) = some y := by
  have hn := World.alloc_heap_new w u.obj
  intro j y hj
  have e1 : (⟨w.heap.size, 0, none⟩ : Addr).add j = ⟨w.heap.size, j, none⟩ := by cases j <;> simp [Addr.add]
  rw [e1]
  simp only [World.cell?]
  rw [show (w.alloc (.cells #[.int .i64 u.kind, .int .i64 u.num, .string u.str, .slice u.addr u.len u.cap] 24)).heap[w.heap.size]? = some u.obj from hn]
  match j, hj with
  | 0, h => exact h
  | 1, h => exact h
  | 2, h => exact h
  | 3, h => exact h
theorem frozen_mid {w5 : World} {g : Nat} {c : Array Value} (h : w5.heap[g]? = some (.cells c 24 (0, 0))) : w5.frozen? ⟨g, 3, none⟩ = false := by simp [World.frozen?, h]
theorem cell_mid {w5 : World} {g : Nat} {a b c d : Value} (h : w5.heap[g]? = some (.cells #[a, b, c, d] 24 (0, 0))) : w5.cell? ⟨g, 3, none⟩ = some d := by simp [World.cell?, h]

theorem own_shape {w : World} {base : Nat} {e : TypeId} {size : Nat} {v : Value} {n : Nat} {xs : List Value} (h : w.ownsRow base e size v n xs) : ∃ a l c, v = .slice a l c := by
  rcases h.2 with ⟨rfl, _⟩ | ⟨g, cap, cur, rfl, _⟩
  · exact ⟨_, _, _, rfl⟩
  · exact ⟨_, _, _, rfl⟩

theorem bl_end {W wr : World} {v : V} {N : Nd} {d : Nat} {us : Nat → V} {sl : Value} (hb : BL W wr v N v.len us) (hm : v.may d = true) (hk : v.kind = 3) (hs : v.Small)
    (hrow : wr.ownsRow (W.heap.size + 3) 24 4 sl v.len (cellsTo us v.len)) (hsep : ∀ i, i < v.len → ∀ q, (us i).uses q → W.heap.size + 3 ≤ q ∧ sl.ownBlock ≠ some q) :
    ∃ a cap, sl = .slice a v.len cap ∧ ∀ q0 q1 q2 q3, Got W ((((wr.setCell ⟨W.heap.size, 0, none⟩ q0).setCell ⟨W.heap.size, 1, none⟩ q1).setCell ⟨W.heap.size, 2, none⟩ q2).setCell ⟨W.heap.size, 3, none⟩ q3) v (.agg #[.int .i64 3, .int .i64 0, .string v.str, .slice a v.len cap]) := by
  obtain ⟨hn0, h8⟩ := may_con_num hm hk
  obtain ⟨a, cap, rfl, hgood⟩ : ∃ a cap, sl = .slice a v.len cap ∧ (0 < v.len → ∃ g, a = some ⟨g, 0, none⟩ ∧ W.heap.size + 3 ≤ g ∧ g < wr.heap.size ∧ ∀ i, i < v.len → CellsAt wr g (0 + i * 4) (us i)) := by
    rcases hrow.2 with ⟨rfl, h0⟩ | ⟨g, cap, cur, rfl, hg, hh, _, _, _, _⟩
    · exact ⟨none, 0, by rw [h0], fun h => by omega⟩
    · refine ⟨some ⟨g, 0, none⟩, cap, rfl, fun _ => ⟨g, rfl, hg, (Array.getElem?_eq_some_iff.1 hh).1, fun i hi => ?_⟩⟩
      have hc : ∀ q, q < 4 → wr.cell? ⟨g, i * 4 + q, none⟩ = (us i).row[q]? := fun q hq => by
        rw [World.ownsRow.cellAt hrow (i * 4 + q) (by omega)]
        exact cellsTo_at us v.len i hi q hq
      rw [Nat.zero_add]
      exact ⟨hc 0 (by omega), hc 1 (by omega), hc 2 (by omega), hc 3 (by omega)⟩
  refine ⟨a, cap, rfl, fun q0 q1 q2 q3 => ?_⟩
  have t := turn_four wr W.heap.size q0 q1 q2 q3
  refine ⟨.mk 3 0 v.str a v.len cap us, rfl, V.At.of ⟨(by show (-9223372036854775808 : Int) ≤ 3; decide), (by show (3 : Int) ≤ 9223372036854775807; decide), (by show (-9223372036854775808 : Int) ≤ 0; decide), (by show (0 : Int) ≤ 9223372036854775807; decide), hs.top.2.2.2.2, by show v.len ≤ _; omega, fun i hi => ?_⟩ (fun i hi => ?_), ?_, fun q hq => ?_⟩
  · have hi' : i < v.len := hi
    obtain ⟨g, e, h3, hlt, hc⟩ := hgood (by omega)
    refine ⟨g, 0, e, Nat.lt_of_lt_of_le hlt t.size, (hc i hi').stays fun p u hp hu => ?_⟩
    have : (((((wr.setCell ⟨W.heap.size, 0, none⟩ q0).setCell ⟨W.heap.size, 1, none⟩ q1).setCell ⟨W.heap.size, 2, none⟩ q2).setCell ⟨W.heap.size, 3, none⟩ q3)).cell? p = wr.cell? p := by
      simp only [World.cell?]
      rw [t.block _ (by omega) (by omega)]
    exact this.trans hu
  · have hi' : i < v.len := hi
    refine (V.At.turn' t (us i) (hb.at_ i hi') (fun q hq e => ?_)).more t.size _
    have := (hsep i hi' q hq).1
    omega
  · rw [ord_zero]
    exact ⟨hk.symm, hn0.symm, rfl, rfl, fun i hi => hb.like i hi⟩
  · rcases (V.uses_eq _ _).1 hq with ⟨h1, h2⟩ | ⟨i, hi, h2⟩
    · have h1' : 0 < v.len := h1
      obtain ⟨g, e, h3, _, _⟩ := hgood h1'
      have h2' : a.map Addr.block = some q := h2
      rw [e] at h2'
      simp at h2'
      omega
    · have := (hsep i hi q h2).1
      omega
end Go.Proofs.YtpiehfjgokfdeaaDoor
