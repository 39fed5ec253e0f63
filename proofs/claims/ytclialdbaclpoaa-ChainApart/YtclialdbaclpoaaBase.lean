/- Memory: blocks that stay, rows of numbers, places that are written. -/
import Derived.RangeFuncOwn
import Derived.RangeFuncBox
import Derived.Shelf.Abstract
import Derived.Laws.AppendOwn
import Derived.Maps.AppendAt
import Derived.Deep.RegionWith
import Derived.StillTailTactics
import Derived.Lib.SliceRun
import Derived.OwnWalk
import Derived.Test.YtclialdbaclpoaaMem
import Derived.Test.YtclialdbaclpoaaSearch
namespace Go.Proofs.Ytclialdbaclpoaa
open Go.RowKit Go.Shelf Go.Maps


theorem Ints.nat {B : Nat} {w : World} {a : Option Addr} {n cap : Nat} {l : List Int} (h : Ints B w (.slice a n cap) l) {k : Nat} (hk : k < l.length) :
    ∃ b off, a = some ⟨b, off, none⟩ ∧ w.cell? ⟨b, off + k, none⟩ = some (.int .i64 l[k]) := by
  obtain ⟨a', cap', e, _, _, h4⟩ := h
  simp only [Value.slice.injEq] at e
  obtain ⟨rfl, rfl, rfl⟩ := e
  obtain ⟨b, off, e1, _, e2⟩ := h4 k l[k] (by simp [hk])
  exact ⟨b, off, e1, e2⟩


theorem lt_heap {w : World} {b : Nat} {o : Obj} (h : w.heap[b]? = some o) : b < w.heap.size := (Array.getElem?_eq_some_iff.1 h).1

/-- All blocks but these lie as they lay. -/
structure Keeps (O : Nat → Prop) (A B : World) : Prop where
  os : B.os = A.os
  tape : B.tape = A.tape
  output : B.output = A.output
  size : A.heap.size ≤ B.heap.size
  same : ∀ b o, A.heap[b]? = some o → ¬ O b → B.heap[b]? = some o
theorem Keeps.refl (O : Nat → Prop) (A : World) : Keeps O A A := ⟨rfl, rfl, rfl, Nat.le_refl _, fun _ _ h _ => h⟩
theorem Keeps.trans {O O' : Nat → Prop} {A B C : World} (h : Keeps O A B) (k : Keeps O' B C) (hO : ∀ b, b < A.heap.size → O' b → O b) : Keeps O A C :=
  ⟨k.os.trans h.os, k.tape.trans h.tape, k.output.trans h.output, Nat.le_trans h.size k.size, fun b o hb ho => k.same b o (h.same b o hb ho) (fun e => ho (hO b (lt_heap hb) e))⟩
theorem Keeps.of_below {O : Nat → Prop} {A B : World} (h : Below A.heap.size A B) : Keeps O A B := ⟨h.os, h.tape, h.output, h.size, fun b _ hb _ => (h.block b (lt_heap hb)).trans hb⟩
theorem Keeps.alloc {O : Nat → Prop} {A B : World} (h : Keeps O A B) (o : Obj) : Keeps O A (B.alloc o) := h.trans (Keeps.of_below (O := O) ((Below.refl _ B).alloc (Nat.le_refl _) o)) (fun _ _ e => e)
theorem Keeps.drewN {O : Nat → Prop} {A B : World} (h : Keeps O A B) (n : Nat) : Keeps O A (B.drewN n) := h.trans (⟨rfl, rfl, rfl, Nat.le_refl _, fun _ _ h _ => h⟩ : Keeps O B (B.drewN n)) (fun _ _ e => e)
theorem Keeps.drew {O : Nat → Prop} {A B : World} (h : Keeps O A B) : Keeps O A B.drew := h.trans (⟨rfl, rfl, rfl, Nat.le_refl _, fun _ _ h _ => h⟩ : Keeps O B B.drew) (fun _ _ e => e)
theorem Keeps.setCell {O : Nat → Prop} {A B : World} (h : Keeps O A B) (p : Addr) (hp : O p.block) (u : Value) : Keeps O A (B.setCell p u) :=
  h.trans (⟨rfl, rfl, rfl, by simp [World.setCell], fun b o hb ho => (Below.heap_setCell B p u b (fun e => ho (e ▸ hp))).trans hb⟩ : Keeps O B (B.setCell p u)) (fun _ _ e => e)
theorem Keeps.mono {O O' : Nat → Prop} {A B : World} (h : Keeps O A B) (hO : ∀ b, O b → O' b) : Keeps O' A B := ⟨h.os, h.tape, h.output, h.size, fun b o hb ho => h.same b o hb (fun e => ho (hO b e))⟩
theorem Keeps.below {O : Nat → Prop} {A B : World} {n : Nat} (h : Keeps O A B) (hn : n ≤ A.heap.size) (hO : ∀ b, O b → n ≤ b) : Below n A B :=
  ⟨h.os, h.tape, h.output, h.size, fun k hk => by
    have hl : k < A.heap.size := by omega
    rw [Array.getElem?_eq_getElem hl]
    exact h.same k _ (Array.getElem?_eq_getElem hl) (fun e => by have := hO k e; omega)⟩
theorem Keeps.cell {O : Nat → Prop} {A B : World} (h : Keeps O A B) {a : Addr} {v : Value} (hc : A.cell? a = some v) (hO : ¬ O a.block) : B.cell? a = some v := by
  obtain ⟨o, ho, _⟩ := cells_of_cell hc
  exact (World.cell?_of_block ((h.same _ o ho hO).trans ho.symm)).trans hc
theorem Keeps.box {O : Nat → Prop} {A B : World} (h : Keeps O A B) {b : Nat} {t : TypeId} {v : Value} (hc : Boxed A b t v) (hO : ¬ O b) : Boxed B b t v := h.same _ _ hc hO

/-- The cells of these blocks lie as they lay. -/
structure Stays (S : Nat → Prop) (A B : World) : Prop where
  size : A.heap.size ≤ B.heap.size
  same : ∀ b o, A.heap[b]? = some o → o.isCells = true → S b → B.heap[b]? = some o
theorem Stays.refl (S : Nat → Prop) (A : World) : Stays S A A := ⟨Nat.le_refl _, fun _ _ h _ _ => h⟩
theorem Stays.trans {S : Nat → Prop} {A B C : World} (h : Stays S A B) (k : Stays S B C) : Stays S A C := ⟨Nat.le_trans h.size k.size, fun b o hb hc hs => k.same b o (h.same b o hb hc hs) hc hs⟩
theorem Keeps.stays {O S : Nat → Prop} {A B : World} (h : Keeps O A B) (hS : ∀ b, b < A.heap.size → S b → ¬ O b) : Stays S A B := ⟨h.size, fun b o hb _ hs => h.same b o hb (hS b (lt_heap hb) hs)⟩
theorem Stays.of_below {S : Nat → Prop} {A B : World} (h : Below A.heap.size A B) : Stays S A B := ⟨h.size, fun b _ hb _ _ => (h.block b (lt_heap hb)).trans hb⟩
theorem Stays.mono {S S' : Nat → Prop} {A B : World} (h : Stays S A B) (hS : ∀ b, S' b → S b) : Stays S' A B := ⟨h.size, fun b o hb hc hs => h.same b o hb hc (hS b hs)⟩
theorem Stays.cell {S : Nat → Prop} {A B : World} (h : Stays S A B) {a : Addr} {v : Value} (hc : A.cell? a = some v) (hS : S a.block) : B.cell? a = some v := by
  obtain ⟨o, ho, hi⟩ := cells_of_cell hc
  exact (World.cell?_of_block ((h.same _ o ho hi hS).trans ho.symm)).trans hc
theorem Stays.box {S : Nat → Prop} {A B : World} (h : Stays S A B) {b : Nat} {t : TypeId} {v : Value} (hc : Boxed A b t v) (hS : S b) : Boxed B b t v := h.same _ _ hc rfl hS


/-- A slice of n cells that are these, in blocks of S. -/
def Row (S : Nat → Prop) (w : World) (v : Value) (n : Nat) (f : Nat → Value) : Prop :=
  ∃ (a : Option Addr) (cap : Nat), v = .slice a n cap ∧ n ≤ cap ∧ cap ≤ 9223372036854775807 ∧ ∀ j, j < n → ∃ b off, a = some ⟨b, off, none⟩ ∧ S b ∧ w.cell? ⟨b, off + j, none⟩ = some (f j)
theorem Row.stays {S : Nat → Prop} {w w' : World} {v : Value} {n : Nat} {f : Nat → Value} (h : Row S w v n f) (hs : Stays S w w') : Row S w' v n f := by
  obtain ⟨a, cap, h1, h2, h3, h4⟩ := h
  refine ⟨a, cap, h1, h2, h3, fun j hj => ?_⟩
  obtain ⟨b, off, e, hb, hc⟩ := h4 j hj
  exact ⟨b, off, e, hb, hs.cell hc hb⟩
theorem Row.later {S : Nat → Prop} {w w' : World} {v : Value} {n : Nat} {f : Nat → Value} (h : Row S w v n f) (hs : Below w.heap.size w w') : Row S w' v n f := h.stays (Stays.of_below hs)
theorem Row.mono {S S' : Nat → Prop} {w : World} {v : Value} {n : Nat} {f : Nat → Value} (h : Row S w v n f) (hs : ∀ b, b < w.heap.size → S b → S' b) : Row S' w v n f := by
  obtain ⟨a, cap, h1, h2, h3, h4⟩ := h
  refine ⟨a, cap, h1, h2, h3, fun j hj => ?_⟩
  obtain ⟨b, off, e, hb, hc⟩ := h4 j hj
  obtain ⟨o, ho, _⟩ := cells_of_cell hc
  exact ⟨b, off, e, hs b (lt_heap ho) hb, hc⟩
theorem Row.congr {S : Nat → Prop} {w : World} {v : Value} {n : Nat} {f g : Nat → Value} (h : Row S w v n f) (hs : ∀ j, j < n → f j = g j) : Row S w v n g := by
  obtain ⟨a, cap, h1, h2, h3, h4⟩ := h
  refine ⟨a, cap, h1, h2, h3, fun j hj => ?_⟩
  rw [← hs j hj]
  exact h4 j hj
theorem Row.nil (S : Nat → Prop) (w : World) (f : Nat → Value) : Row S w (.slice none 0 0) 0 f := ⟨none, 0, rfl, Nat.le_refl _, by omega, fun j hj => by omega⟩
/-- A part of it, from i to k. -/
theorem Row.cut {S : Nat → Prop} {w : World} {a : Option Addr} {n cap : Nat} {f : Nat → Value} (h : Row S w (.slice a n cap) n f) {k : Nat} (hk : k ≤ n) : Row S w (.slice a k cap) k f := by
  obtain ⟨a', cap', h1, h2, h3, h4⟩ := h
  cases h1
  exact ⟨a, cap, rfl, by omega, h3, fun j hj => h4 j (by omega)⟩
theorem Row.tail {S : Nat → Prop} {w : World} {b off n cap : Nat} {f : Nat → Value} (h : Row S w (.slice (some ⟨b, off, none⟩) n cap) n f) {i : Nat} (hi : i ≤ n) : Row S w (.slice (some ⟨b, off + i, none⟩) (n - i) (cap - i)) (n - i) (fun j => f (i + j)) := by
  obtain ⟨a', cap', h1, h2, h3, h4⟩ := h
  cases h1
  refine ⟨_, _, rfl, by omega, by omega, fun j hj => ?_⟩
  obtain ⟨b', off', e, hb, hc⟩ := h4 (i + j) (by omega)
  cases e
  exact ⟨b, off + i, rfl, hb, by rw [Nat.add_assoc]; exact hc⟩
/-- Of an own row. -/
theorem Row.of_own {base : Nat} {w : World} {e : TypeId} {v : Value} {n : Nat} {f : Nat → Value} (h : w.ownsRow base e 1 v n ((List.range n).map f)) : Row (fun b => base ≤ b) w v n f := by
  rcases h.2 with ⟨rfl, h0⟩ | ⟨g, cap, cur, rfl, hb, hg, hn, hm, hs, ht⟩
  · subst h0; exact Row.nil _ _ _
  · refine ⟨_, cap, rfl, hn, by unfold maxLen at hm; omega, fun j hj => ⟨g, 0, rfl, hb, ?_⟩⟩
    have := World.ownsRow.cellAt h j (by omega)
    rw [Nat.zero_add, this, List.getElem?_map, List.getElem?_range (by omega)]
    rfl

/-- Numbers. -/
def IntsS (S : Nat → Prop) (w : World) (v : Value) (l : List Int) : Prop := Row S w v l.length (fun j => .int .i64 (l.getD j 0))
theorem IntsS.ints {S : Nat → Prop} {w : World} {v : Value} {l : List Int} (h : IntsS S w v l) : Ints w.heap.size w v l := by
  obtain ⟨a, cap, h1, h2, h3, h4⟩ := h
  refine ⟨a, cap, h1, h2, h3, fun j x hj => ?_⟩
  obtain ⟨b, off, e, _, hc⟩ := h4 j (List.getElem?_eq_some_iff.1 hj).1
  obtain ⟨o, ho, _⟩ := cells_of_cell hc
  exact ⟨b, off, e, lt_heap ho, by rw [hc]; simp [hj]⟩
theorem IntsS.of_ints {B : Nat} {S : Nat → Prop} {w : World} {v : Value} {l : List Int} (h : Ints B w v l) (hS : ∀ b, b < B → S b) : IntsS S w v l := by
  obtain ⟨a, cap, h1, h2, h3, h4⟩ := h
  refine ⟨a, cap, h1, h2, h3, fun j hj => ?_⟩
  obtain ⟨b, off, e, hB, hc⟩ := h4 j l[j] (by simp [hj])
  exact ⟨b, off, e, hS b hB, by rw [hc]; simp [hj]⟩
theorem IntsS.stays {S : Nat → Prop} {w w' : World} {v : Value} {l : List Int} (h : IntsS S w v l) (hs : Stays S w w') : IntsS S w' v l := Row.stays h hs
theorem IntsS.later {S : Nat → Prop} {w w' : World} {v : Value} {l : List Int} (h : IntsS S w v l) (hs : Below w.heap.size w w') : IntsS S w' v l := Row.later h hs
theorem IntsS.mono {S S' : Nat → Prop} {w : World} {v : Value} {l : List Int} (h : IntsS S w v l) (hs : ∀ b, b < w.heap.size → S b → S' b) : IntsS S' w v l := Row.mono h hs
theorem IntsS.nil (S : Nat → Prop) (w : World) : IntsS S w (.slice none 0 0) [] := Row.nil S w _
/-- A row of numbers that was made since. -/
def OwnI (base : Nat) (w : World) (v : Value) (l : List Int) : Prop := w.ownsRow base 3 1 v l.length (l.map (Value.int .i64))
theorem map_range (l : List Int) : (List.range l.length).map (fun j => Value.int .i64 (l.getD j 0)) = l.map (Value.int .i64) := by
  apply List.ext_getElem
  · simp
  · intro i h1 h2
    simp at h1
    simp [h1]
theorem OwnI.intsS {base : Nat} {w : World} {v : Value} {l : List Int} (h : OwnI base w v l) : IntsS (fun b => base ≤ b) w v l := by
  unfold OwnI at h
  rw [← map_range] at h
  exact Row.of_own h

theorem infoI : ∃ i, Try.prog.info? 3 = some i ∧ i.zero = some (.int .i64 0) ∧ i.size = 1 ∧ i.bytes = 8 := by
  have h : (Try.prog.info? 3).map (fun i => (i.zero, i.size, i.bytes)) = some (some (.int .i64 0), 1, 8) := by kernel_rfl
  cases e : Try.prog.info? 3 with
  | none => rw [e] at h; cases h
  | some i => rw [e] at h; simp at h; exact ⟨i, rfl, h.1, h.2.1, h.2.2⟩
theorem infoT : ∃ i, Try.prog.info? 22 = some i ∧ i.zero = some (.slice none 0 0) ∧ i.size = 1 ∧ i.bytes = 24 := by
  have h : (Try.prog.info? 22).map (fun i => (i.zero, i.size, i.bytes)) = some (some (.slice none 0 0), 1, 24) := by kernel_rfl
  cases e : Try.prog.info? 22 with
  | none => rw [e] at h; cases h
  | some i => rw [e] at h; simp at h; exact ⟨i, rfl, h.1, h.2.1, h.2.2⟩

theorem three_cells {w : World} {b : Nat} {x y z : Value} {t : TypeId} (h : w.heap[b]? = some (.cells #[x, y, z] t (0, 0))) :
    w.cell? ⟨b, 0, none⟩ = some x ∧ w.cell? ⟨b, 1, none⟩ = some y ∧ w.cell? ⟨b, 2, none⟩ = some z ∧ w.frozen? ⟨b, 0, none⟩ = false ∧ w.frozen? ⟨b, 1, none⟩ = false ∧ w.frozen? ⟨b, 2, none⟩ = false := by simp [World.cell?, World.frozen?, h]


theorem set_heap {w : World} {b : Nat} {cur : Array Value} {t : TypeId} {f : Nat × Nat} (h : w.heap[b]? = some (.cells cur t f)) (i : Nat) (v : Value) : (w.setCell ⟨b, i, none⟩ v).heap[b]? = some (.cells (cur.setIfInBounds i v) t f) := by
  obtain ⟨hlt, hk⟩ := Array.getElem?_eq_some_iff.1 h
  show (w.heap.modify b _)[b]? = _
  rw [Array.getElem?_eq_getElem (by rw [Array.size_modify]; exact hlt), Array.getElem_modify_self, hk]
  rfl

theorem cell_at {w : World} {b : Nat} {Z : Array Value} {t : TypeId} {f : Nat × Nat} (h : w.heap[b]? = some (.cells Z t f)) (j : Nat) : w.cell? ⟨b, j, none⟩ = Z[j]? := by simp [World.cell?, h]

theorem map_set (l : List Int) (k : Nat) (x : Int) : (l.map (Value.int .i64)).set k (.int .i64 x) = (l.set k x).map (Value.int .i64) := by rw [List.map_set]

theorem OwnI.stored {base : Nat} {w : World} {g cap : Nat} {l : List Int} {n : Nat} (h : OwnI base w (.slice (some ⟨g, 0, none⟩) n cap) l) (hn : n = l.length) (j : Nat) (x : Int) : OwnI base (w.setCell ⟨g, j, none⟩ (.int .i64 x)) (.slice (some ⟨g, 0, none⟩) n cap) (l.set j x) := by
  subst hn
  have := (World.ownsRow.stored h j (.int .i64 x)).1
  unfold OwnI
  rw [List.length_set, ← map_set]
  exact this

theorem OwnI.cell {base : Nat} {w : World} {g cap n : Nat} {l : List Int} (h : OwnI base w (.slice (some ⟨g, 0, none⟩) n cap) l) {j : Nat} (hj : j < l.length) : w.cell? ⟨g, j, none⟩ = some (.int .i64 l[j]) ∧ w.frozen? ⟨g, j, none⟩ = false := by
  have hn : n = l.length := by
    rcases h.2 with ⟨h', _⟩ | ⟨g', cap', cur, h', _⟩
    · simp at h'
    · simp only [Value.slice.injEq] at h'; exact h'.2.1
  subst hn
  refine ⟨?_, World.ownsRow.frozenAt h j⟩
  rw [World.ownsRow.cellAt h j (by omega), List.getElem?_map, List.getElem?_eq_getElem hj]
  rfl


theorem OwnI.keeps {base : Nat} {O : Nat → Prop} {A B : World} {v : Value} {l : List Int} (h : OwnI base A v l) (hk : Keeps O A B) (hn : ∀ b, some b = v.ownBlock → ¬ O b) : OwnI base B v l := by
  refine ⟨h.1, ?_⟩
  rcases h.2 with h | ⟨g, cap, cur, h1, h2, h3, h4⟩
  · exact .inl h
  · exact .inr ⟨g, cap, cur, h1, h2, hk.same _ _ h3 (hn g (by rw [h1]; rfl)), h4⟩

theorem OwnI.block {base : Nat} {A : World} {v : Value} {l : List Int} (h : OwnI base A v l) : ∀ b, some b = v.ownBlock → base ≤ b ∧ b < A.heap.size := fun b hb => by
  rcases h.2 with ⟨rfl, _⟩ | ⟨g, cap, cur, rfl, h2, h3, _⟩
  · simp [Value.ownBlock] at hb
  · simp only [Value.ownBlock, Option.some.injEq] at hb
    rw [hb]
    exact ⟨h2, lt_heap h3⟩


theorem keeps_grown {A B : World} {row : Option Nat} {O : Nat → Prop} (h : A.grownBy B row) (hO : ∀ b, some b = row → O b) : Keeps O A B := ⟨h.os, h.tape, h.output, h.size, fun b _ hb hn => (h.block b (lt_heap hb) (fun e => hn (hO b e))).trans hb⟩

def ListAt (B : Nat → Prop) (w : World) (v : Value) (xs : List (List Int)) : Prop := ∃ f : Nat → Value, Row B w v xs.length f ∧ ∀ j, j < xs.length → IntsS B w (f j) (xs.getD j [])

theorem ListAt.stays {B : Nat → Prop} {w w' : World} {v : Value} {xs : List (List Int)} (h : ListAt B w v xs) (hs : Stays B w w') : ListAt B w' v xs := by
  obtain ⟨f, h1, h2⟩ := h
  exact ⟨f, h1.stays hs, fun j hj => (h2 j hj).stays hs⟩

theorem ListAt.later {B : Nat → Prop} {w w' : World} {v : Value} {xs : List (List Int)} (h : ListAt B w v xs) (hs : Below w.heap.size w w') : ListAt B w' v xs := h.stays (Stays.of_below hs)

theorem ListAt.mono {B B' : Nat → Prop} {w : World} {v : Value} {xs : List (List Int)} (h : ListAt B w v xs) (hs : ∀ b, b < w.heap.size → B b → B' b) : ListAt B' w v xs := by
  obtain ⟨f, h1, h2⟩ := h
  exact ⟨f, h1.mono hs, fun j hj => (h2 j hj).mono hs⟩


theorem wpList_append_run {P : Program} (w : World) {ops : Array Oper} {rest : List Oper} {o : Oper} {a : Act} {Q : Exit → Act → World → Prop}
    (hg : o.guard = none) (s x : Operand) (t : TypeId) (hop : o.op = Op.call { callee := Callee.builtin Builtin.append, args := #[s, x], argTypes := #[t, t] })
    (v u : Value) (hs : a.eval s = v) (hx : a.eval x = u) (v' : Value) (w' : World) (hrun : (Builtin.append_ #[t, t] o.type #[v, u]).run P w = .ok v' w')
    (hK : wpList P ops Q rest (a.put o.dst v') w') : wpList P ops Q (o :: rest) a w := by
  refine wpList_plain hg fun K hK' => ?_
  unfold Oper.wp
  simp [execOp, hop, resolve, invoke, builtin, hs, hx, hrun, Result.andThen]
  exact hK' _ _ hK

theorem app_nilI (w : World) (c : Nat) : (Builtin.append_ #[22, 22] 22 #[.slice none 0 0, .slice none 0 c]).run Try.prog w = .ok (.slice none 0 0) w := by kernel_rfl

theorem appI_run (w : World) (xv : Value) (x : List Int) (hx : Ints w.heap.size w xv x) (hn : x.length * 8 ≤ 140737488355328) : ∃ r w', (Builtin.append_ #[22, 22] 22 #[.slice none 0 0, xv]).run Try.prog w = .ok r w' ∧ OwnI w.heap.size w' r x ∧ Below w.heap.size w w' := by
  obtain ⟨a, cap, rfl, hc1, hc2, hcell⟩ := hx
  obtain ⟨i, h1, h2, h3, h4⟩ := infoI
  have ht : Try.prog.underlying 22 = some (.slice 3) := by kernel_rfl
  cases a with
  | none =>
    have hx0 : x = [] := by
      cases x with
      | nil => rfl
      | cons y r =>
        obtain ⟨b, off, e, _⟩ := hcell 0 y rfl
        cases e
    subst hx0
    exact ⟨_, w, app_nilI w cap, World.ownsRow_nil _ _ _ _, Below.refl _ _⟩
  | some ad =>
    obtain ⟨v', w', hr, ho, hg, _⟩ := run_append_own (P := Try.prog) w w.heap.size 22 22 3 i (.int .i64 0) 1 8 ht h1 h2 h3 h4 rfl (by decide) (.slice none 0 0) 0 [] (World.ownsRow_nil _ _ _ _) ad x.length cap (x.map (Value.int .i64)) (by simp) (fun j u hj => by
      rw [List.getElem?_map, Option.map_eq_some_iff] at hj
      obtain ⟨y, hy, rfl⟩ := hj
      obtain ⟨b, off, e, _, hc⟩ := hcell j y hy
      cases e
      rw [Addr.add_lit]
      exact hc) (fun u hu => by obtain ⟨y, _, rfl⟩ := List.mem_map.1 hu; rfl) (by unfold maxLen; omega) (by omega) (Nat.le_refl _)
    refine ⟨v', w', hr, ?_, (Below.refl _ w).grown hg (Nat.le_refl _) (fun k e => by cases e)⟩
    unfold OwnI
    simpa using ho



/-- One more number behind an own row. -/
theorem app1_run {base : Nat} (w : World) (v : Value) (l : List Int) (x : Int) (h : OwnI base w v l) (hb : base ≤ w.heap.size) (hn : l.length ≤ 2000) :
    ∃ r w', (Builtin.append_ #[22, 22] 22 #[v, .slice (some ⟨w.heap.size, 0, none⟩) 1 1]).run Try.prog (w.alloc (.cells #[.int .i64 x] 3)) = .ok r w' ∧ OwnI base w' r (l ++ [x]) ∧ Keeps (fun b => some b = v.ownBlock) w w' ∧ ∀ b, some b = r.ownBlock → some b = v.ownBlock ∨ w.heap.size ≤ b := by
  obtain ⟨i, h1, h2, h3, h4⟩ := infoI
  have ht : Try.prog.underlying 22 = some (.slice 3) := by kernel_rfl
  obtain ⟨r, w', hr, ho, hg, _, hat⟩ := run_append_own_at (P := Try.prog) (w.alloc (.cells #[.int .i64 x] 3)) base 22 22 3 i (.int .i64 0) 1 8 ht h1 h2 h3 h4 rfl (by decide) v l.length (l.map (Value.int .i64)) (World.ownsRow.alloc h _) ⟨w.heap.size, 0, none⟩ 1 1 [.int .i64 x] rfl (fun j u hj => by
    cases j with
    | zero =>
      simp only [List.getElem?_cons_zero, Option.some.injEq] at hj
      subst hj
      rw [Addr.add_lit]
      exact (cell_at (World.alloc_heap_new _ _) _).trans rfl
    | succ j => simp at hj) (fun u hu => by simp at hu; subst hu; rfl) (by unfold maxLen; omega) (by omega) (by simp; omega)
  refine ⟨r, w', hr, ?_, ((Keeps.refl _ w).alloc _).trans (keeps_grown (O := fun b => some b = v.ownBlock) hg (fun b hb => hb)) (fun _ _ e => e), fun b hb2 => ?_⟩
  · unfold OwnI
    simpa using ho
  · rcases hat with e | e
    · exact .inl (hb2.trans e)
    · rw [e] at hb2
      simp only [Option.some.injEq, World.size_alloc] at hb2
      exact .inr (by omega)
/-- A place of numbers that may be written. -/
def Arr (w : World) (b n : Nat) (f : Nat → Int) : Prop := ∃ cur, w.heap[b]? = some (.cells cur 3 (0, 0)) ∧ ∀ j, j < n → cur[j]? = some (.int .i64 (f j))
theorem Arr.lt {w : World} {b n : Nat} {f : Nat → Int} (h : Arr w b n f) : b < w.heap.size := by
  obtain ⟨cur, h, _⟩ := h
  exact lt_heap h
theorem Arr.cell {w : World} {b n : Nat} {f : Nat → Int} (h : Arr w b n f) {j : Nat} (hj : j < n) : w.cell? ⟨b, j, none⟩ = some (.int .i64 (f j)) ∧ w.frozen? ⟨b, j, none⟩ = false := by
  obtain ⟨cur, h1, h2⟩ := h
  exact ⟨(cell_at h1 j).trans (h2 j hj), by simp [World.frozen?, h1]⟩
theorem Arr.keeps {O : Nat → Prop} {w w' : World} {b n : Nat} {f : Nat → Int} (h : Arr w b n f) (hk : Keeps O w w') (hO : ¬ O b) : Arr w' b n f := by
  obtain ⟨cur, h1, h2⟩ := h
  exact ⟨cur, hk.same _ _ h1 hO, h2⟩
theorem Arr.later {w w' : World} {b n : Nat} {f : Nat → Int} (h : Arr w b n f) (hb : Below w.heap.size w w') : Arr w' b n f := h.keeps (O := fun _ => False) (Keeps.of_below hb) (fun e => e)
theorem Arr.set {w : World} {b n : Nat} {f : Nat → Int} (h : Arr w b n f) {k : Nat} (x : Int) (hk : k < n) : Arr (w.setCell ⟨b, k, none⟩ (.int .i64 x)) b n (upd f k x) := by
  obtain ⟨cur, h1, h2⟩ := h
  refine ⟨_, set_heap h1 k _, fun j hj => ?_⟩
  have hkc := (Array.getElem?_eq_some_iff.1 (h2 k hk)).1
  by_cases e : j = k
  · subst e
    rw [upd_self, Array.getElem?_setIfInBounds_self_of_lt hkc]
  · rw [upd_ne f x e, Array.getElem?_setIfInBounds_ne (fun e2 => e e2.symm)]
    exact h2 j hj
theorem Arr.other {w : World} {b n : Nat} {f : Nat → Int} (h : Arr w b n f) (p : Addr) (v : Value) (hp : p.block ≠ b) : Arr (w.setCell p v) b n f :=
  h.keeps (O := fun c => c = p.block) ((Keeps.refl (fun c => c = p.block) w).setCell p rfl v) (fun e => hp e.symm)
theorem Arr.congr {w : World} {b n : Nat} {f g : Nat → Int} (h : Arr w b n f) (e : ∀ j, j < n → f j = g j) : Arr w b n g := by
  obtain ⟨cur, h1, h2⟩ := h
  exact ⟨cur, h1, fun j hj => by rw [← e j hj]; exact h2 j hj⟩
end Go.Proofs.Ytclialdbaclpoaa
