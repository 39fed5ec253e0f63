/- BtreePlays: the sets, a call in its box, and its tuple. -/
import Derived.Test.YtmjlhmhkbfnccaaPlaysA
namespace Go.Proofs.Ytmjlhmhkbfnccaa
open Go.RowKit Go.Shelf Go.Maps

/-- The sets, the call in its box, and its tuple. -/
structure Dq (S : Nat → Prop) (W w : World) (tb s h s' h' i d j d' : Nat) (cs : Array Value) (o o' : List Int) (A A' : List (List Int)) (bx : Nat) (kind on k : Int) (tv : Value) (x : List Int) : Prop where
  pl : Pl S W w tb s h s' h' i d j d' cs o o' A A'
  act : w.heap[bx]? = some (.cells #[.int .i64 kind, .int .i64 on, .int .i64 k, tv] 29 (0, 0))
  hx : Ints W.heap.size w tv x
section
variable {S : Nat → Prop} {W w wy : World} {tb s h s' h' i d j d' : Nat} {cs : Array Value} {o o' : List Int} {A A' : List (List Int)} {bx : Nat} {kind on k : Int} {tv : Value} {x : List Int}
theorem Dq.later (q : Dq S W w tb s h s' h' i d j d' cs o o' A A' bx kind on k tv x) (hb : Below w.heap.size w wy) : Dq S W wy tb s h s' h' i d j d' cs o o' A A' bx kind on k tv x :=
  ⟨q.pl.later hb, (hb.block _ (lt_heap q.act)).trans q.act, q.hx.below (hb.mono q.pl.bel.size) (Nat.le_refl _)⟩
theorem Dq.ints (q : Dq S W w tb s h s' h' i d j d' cs o o' A A' bx kind on k tv x) : Ints w.heap.size w tv x := q.hx.mono q.pl.bel.size
theorem Dq.acts (q : Dq S W w tb s h s' h' i d j d' cs o o' A A' bx kind on k tv x) : w.cell? ⟨bx, 0, none⟩ = some (.int .i64 kind) ∧ w.cell? ⟨bx, 1, none⟩ = some (.int .i64 on) ∧ w.cell? ⟨bx, 2, none⟩ = some (.int .i64 k) ∧ w.cell? ⟨bx, 3, none⟩ = some tv := by
  refine ⟨?_, ?_, ?_, ?_⟩ <;> (rw [cell_at q.act]; rfl)
end
end Go.Proofs.Ytmjlhmhkbfnccaa
