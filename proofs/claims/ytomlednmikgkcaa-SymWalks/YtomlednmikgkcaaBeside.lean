/- What a put leaves of the variables beside a table, and that a table stands while a loop over a function keeps its books. -/
import Derived.Test.YtomlednmikgkcaaStands
namespace Go.Proofs.Ytomlednmikgkcaa
open Go.RowKit Go.Shelf

section
variable {W W' : World} {base tb hb mb : Nat} {a a' : Option Addr} {cap cap' : Nat} {xs xs' : List ByteArray}

/-- A type that no block of a table has. -/
def Plain (t : TypeId) : Prop := t ≠ 50 ∧ t ≠ 58 ∧ t ≠ 9
theorem box_not_mine (hT : Tab W base tb hb mb a cap xs) {B : Nat} {t : TypeId} {v : Value} (h : Boxed W B t v) (ht : Plain t) : ¬ (B = tb ∨ mine hb mb a B) := by
  have hk : W.heap[B]? = some (.cells #[v] t (0, 0)) := h
  obtain ⟨es, clock, hmb⟩ := hT.mb_obj
  rintro (e | e | e | e)
  · subst e; have := hT.tab; rw [hk] at this; simp at this; exact ht.1 this.2
  · subst e; have := hT.held; rw [hk] at this; simp at this
  · subst e; rw [hk] at hmb; cases hmb
  · obtain ⟨cur2, hc⟩ := hT.row.obj _ e; rw [hk] at hc; simp at hc; exact ht.2.2 hc.2
theorem box_left (hT : Tab W base tb hb mb a cap xs) (L : Left W W' base tb hb mb a xs xs' a' cap') {B : Nat} {t : TypeId} {v : Value} (h : Boxed W B t v) (ht : Plain t) : Boxed W' B t v :=
  (L.turn.block B h.lt (fun e => box_not_mine hT h ht (.inr e))).trans h
theorem tab_set (hT : Tab W base tb hb mb a cap xs) {B : Nat} {t : TypeId} {v : Value} (h : Boxed W B t v) (ht : Plain t) (u : Value) : Tab (W.setCell ⟨B, 0, none⟩ u) base tb hb mb a cap xs :=
  hT.stays (S := fun k => k = B) (Turn.setCell (S := fun k => k = B) W ⟨B, 0, none⟩ u rfl) (fun k e e2 => by subst e2; exact box_not_mine hT h ht e)
/-- A put keeps what a loop over a function has laid for itself. -/
theorem keeps_left (hT : Tab W base tb hb mb a cap xs) (L : Left W W' base tb hb mb a xs xs' a' cap') {B : Nat} (hm : mb < B) : KeepsFrom B W W' :=
  ⟨L.turn.size, fun k o hB hk ho => (L.turn.block k (lt_of_heap hk) (fun e => by
    rcases e with e | e | e
    · subst e; rw [hT.held] at hk; cases hk; cases ho
    · omega
    · obtain ⟨cur, hc⟩ := hT.row.obj k e; rw [hc] at hk; cases hk; cases ho)).trans hk⟩
/-- A table stands while other blocks, that are no cells and lie behind its map, turn. -/
theorem tab_grown (hT : Tab W base tb hb mb a cap xs) {B : Nat} (hm : mb < B) {row : Option Nat} (hg : W.grownBy W' row) (hr : ∀ r, row = some r → B ≤ r ∧ ∃ o : Obj, W.heap[r]? = some o ∧ o.isCells = false) : Tab W' base tb hb mb a cap xs :=
  hT.stays (S := fun k => row = some k) (Turn.of_grownBy hg (fun k e => e)) (fun k e e2 => by
    obtain ⟨hB, o, ho, hc⟩ := hr k e2
    rcases e with e | e | e | e
    · subst e; rw [hT.tab] at ho; cases ho; cases hc
    · subst e; rw [hT.held] at ho; cases ho; cases hc
    · omega
    · obtain ⟨cur, h1⟩ := hT.row.obj k e; rw [h1] at ho; cases ho; cases hc)

theorem put_boxes (h : Only W base tb hb mb xs) (s : ByteArray) (hs : s.size ≤ 281474976710656) :
    Calls Try.prog 13 #[.pointer (some ⟨tb, 0, none⟩), .string s] W fun e w' => e = .returned (.tuple #[.int .i64 (ansN xs s : Int), .int .i64 (ansE xs s)]) ∧ Only w' base tb hb mb (put xs s) ∧ Below base W w' ∧ ∀ B t v, Boxed W B t v → Plain t → Boxed w' B t v := by
  obtain ⟨a, cap, h1⟩ := h
  exact (put_any h1 s hs).mono fun e w' ⟨he, a', cap', l⟩ => ⟨he, ⟨a', cap', l.tab⟩, l.below h1, fun B t v hb ht => box_left h1 l hb ht⟩
end
end Go.Proofs.Ytomlednmikgkcaa
