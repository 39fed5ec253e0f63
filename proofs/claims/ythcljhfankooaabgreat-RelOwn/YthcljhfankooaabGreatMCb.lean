/- Memory: blocks that stay, rows of numbers, places that are written. Walks of within and of giveWay. The walk of pair. Walks of bits.Mul, slices.Repeat of one number, and nones. -/
import Derived.Test.YthcljhfankooaabGreatBCmps
import Derived.RangeFuncOwn
import Derived.RangeFuncBox
import Derived.Shelf.Abstract
import Derived.Laws.AppendOwn
import Derived.Maps.AppendAt
import Derived.Deep.RegionWith
import Derived.StillTailTactics
import Derived.Lib.SliceRun
import Derived.OwnWalk
import Derived.Test.YthcljhfankooaabGreatBMem
import Derived.Test.YthcljhfankooaabGreatMCs
import Derived.Laws.BitsAllLaws
import Derived.WalkMore
import Derived.Shelf.Bits.Mul64
import Derived.Laws.CopyRow
import Derived.Laws.OwnMore
import Derived.Shelf.RegionOpenPlain
namespace Go.Proofs.YthcljhfankooaabGreat.C
open Go.RowKit Go.Shelf Go.Maps




theorem lt_heap {w : World} {b : Nat} {o : Obj} (h : w.heap[b]? = some o) : b < w.heap.size := (Array.getElem?_eq_some_iff.1 h).1

/-- All blocks but these lie as they lay. -/
structure Keeps (O : Nat → Prop) (A B : World) : Prop where
  os : B.os = A.os
  tape : B.tape = A.tape
  output : B.output = A.output
  size : A.heap.size ≤ B.heap.size
  same : ∀ b o, A.heap[b]? = some o → ¬ O b → B.heap[b]? = some o
theorem Keeps.refl (O : Nat → Prop) (A : World) : Keeps O A A := ⟨rfl, rfl, rfl, Nat.le_refl _, fun _ _ h _ => h⟩
theorem Keeps.trans {O O' : Nat → Prop} {A B C : World} (h : Keeps O A B) (k : Keeps O' B C) (hO : ∀ b, b < A.heap.size → O' b → O b) : Keeps O A C :=
  ⟨k.os.trans h.os, k.tape.trans h.tape, k.output.trans h.output, Nat.le_trans h.size k.size, fun b o hb ho => k.same b o (h.same b o hb ho) (fun e => ho (hO b (lt_heap hb) e))⟩
theorem Keeps.of_below {O : Nat → Prop} {A B : World} (h : Below A.heap.size A B) : Keeps O A B := ⟨h.os, h.tape, h.output, h.size, fun b _ hb _ => (h.block b (lt_heap hb)).trans hb⟩
theorem Keeps.alloc {O : Nat → Prop} {A B : World} (h : Keeps O A B) (o : Obj) : Keeps O A (B.alloc o) := h.trans (Keeps.of_below (O := O) ((Below.refl _ B).alloc (Nat.le_refl _) o)) (fun _ _ e => e)
theorem Keeps.drewN {O : Nat → Prop} {A B : World} (h : Keeps O A B) (n : Nat) : Keeps O A (B.drewN n) := h.trans (⟨rfl, rfl, rfl, Nat.le_refl _, fun _ _ h _ => h⟩ : Keeps O B (B.drewN n)) (fun _ _ e => e)
theorem Keeps.drew {O : Nat → Prop} {A B : World} (h : Keeps O A B) : Keeps O A B.drew := h.trans (⟨rfl, rfl, rfl, Nat.le_refl _, fun _ _ h _ => h⟩ : Keeps O B B.drew) (fun _ _ e => e)
theorem Keeps.setCell {O : Nat → Prop} {A B : World} (h : Keeps O A B) (p : Addr) (hp : O p.block) (u : Value) : Keeps O A (B.setCell p u) :=
  h.trans (⟨rfl, rfl, rfl, by simp [World.setCell], fun b o hb ho => (Below.heap_setCell B p u b (fun e => ho (e ▸ hp))).trans hb⟩ : Keeps O B (B.setCell p u)) (fun _ _ e => e)
theorem Keeps.mono {O O' : Nat → Prop} {A B : World} (h : Keeps O A B) (hO : ∀ b, O b → O' b) : Keeps O' A B := ⟨h.os, h.tape, h.output, h.size, fun b o hb ho => h.same b o hb (fun e => ho (hO b e))⟩
theorem Keeps.below {O : Nat → Prop} {A B : World} {n : Nat} (h : Keeps O A B) (hn : n ≤ A.heap.size) (hO : ∀ b, O b → n ≤ b) : Below n A B :=
  ⟨h.os, h.tape, h.output, h.size, fun k hk => by
    have hl : k < A.heap.size := by omega
    rw [Array.getElem?_eq_getElem hl]
    exact h.same k _ (Array.getElem?_eq_getElem hl) (fun e => by have := hO k e; omega)⟩
theorem Keeps.cell {O : Nat → Prop} {A B : World} (h : Keeps O A B) {a : Addr} {v : Value} (hc : A.cell? a = some v) (hO : ¬ O a.block) : B.cell? a = some v := by
  obtain ⟨o, ho, _⟩ := cells_of_cell hc
  exact (World.cell?_of_block ((h.same _ o ho hO).trans ho.symm)).trans hc
theorem Keeps.box {O : Nat → Prop} {A B : World} (h : Keeps O A B) {b : Nat} {t : TypeId} {v : Value} (hc : Boxed A b t v) (hO : ¬ O b) : Boxed B b t v := h.same _ _ hc hO

/-- The cells of these blocks lie as they lay. -/
structure Stays (S : Nat → Prop) (A B : World) : Prop where
  size : A.heap.size ≤ B.heap.size
  same : ∀ b o, A.heap[b]? = some o → o.isCells = true → S b → B.heap[b]? = some o
theorem Stays.refl (S : Nat → Prop) (A : World) : Stays S A A := ⟨Nat.le_refl _, fun _ _ h _ _ => h⟩
theorem Stays.trans {S : Nat → Prop} {A B C : World} (h : Stays S A B) (k : Stays S B C) : Stays S A C := ⟨Nat.le_trans h.size k.size, fun b o hb hc hs => k.same b o (h.same b o hb hc hs) hc hs⟩
theorem Keeps.stays {O S : Nat → Prop} {A B : World} (h : Keeps O A B) (hS : ∀ b, b < A.heap.size → S b → ¬ O b) : Stays S A B := ⟨h.size, fun b o hb _ hs => h.same b o hb (hS b (lt_heap hb) hs)⟩
theorem Stays.of_below {S : Nat → Prop} {A B : World} (h : Below A.heap.size A B) : Stays S A B := ⟨h.size, fun b _ hb _ _ => (h.block b (lt_heap hb)).trans hb⟩
theorem Stays.mono {S S' : Nat → Prop} {A B : World} (h : Stays S A B) (hS : ∀ b, S' b → S b) : Stays S' A B := ⟨h.size, fun b o hb hc hs => h.same b o hb hc (hS b hs)⟩
theorem Stays.cell {S : Nat → Prop} {A B : World} (h : Stays S A B) {a : Addr} {v : Value} (hc : A.cell? a = some v) (hS : S a.block) : B.cell? a = some v := by
  obtain ⟨o, ho, hi⟩ := cells_of_cell hc
  exact (World.cell?_of_block ((h.same _ o ho hi hS).trans ho.symm)).trans hc
theorem Stays.box {S : Nat → Prop} {A B : World} (h : Stays S A B) {b : Nat} {t : TypeId} {v : Value} (hc : Boxed A b t v) (hS : S b) : Boxed B b t v := h.same _ _ hc rfl hS


/-- A slice of n cells that are these, in blocks of S. -/
def Row (S : Nat → Prop) (w : World) (v : Value) (n : Nat) (f : Nat → Value) : Prop :=
  ∃ (a : Option Addr) (cap : Nat), v = .slice a n cap ∧ n ≤ cap ∧ cap ≤ 9223372036854775807 ∧ ∀ j, j < n → ∃ b off, a = some ⟨b, off, none⟩ ∧ S b ∧ w.cell? ⟨b, off + j, none⟩ = some (f j)
theorem Row.stays {S : Nat → Prop} {w w' : World} {v : Value} {n : Nat} {f : Nat → Value} (h : Row S w v n f) (hs : Stays S w w') : Row S w' v n f := by
  obtain ⟨a, cap, h1, h2, h3, h4⟩ := h
  refine ⟨a, cap, h1, h2, h3, fun j hj => ?_⟩
  obtain ⟨b, off, e, hb, hc⟩ := h4 j hj
  exact ⟨b, off, e, hb, hs.cell hc hb⟩
theorem Row.later {S : Nat → Prop} {w w' : World} {v : Value} {n : Nat} {f : Nat → Value} (h : Row S w v n f) (hs : Below w.heap.size w w') : Row S w' v n f := h.stays (Stays.of_below hs)
theorem Row.mono {S S' : Nat → Prop} {w : World} {v : Value} {n : Nat} {f : Nat → Value} (h : Row S w v n f) (hs : ∀ b, b < w.heap.size → S b → S' b) : Row S' w v n f := by
  obtain ⟨a, cap, h1, h2, h3, h4⟩ := h
  refine ⟨a, cap, h1, h2, h3, fun j hj => ?_⟩
  obtain ⟨b, off, e, hb, hc⟩ := h4 j hj
  obtain ⟨o, ho, _⟩ := cells_of_cell hc
  exact ⟨b, off, e, hs b (lt_heap ho) hb, hc⟩
theorem Row.congr {S : Nat → Prop} {w : World} {v : Value} {n : Nat} {f g : Nat → Value} (h : Row S w v n f) (hs : ∀ j, j < n → f j = g j) : Row S w v n g := by
  obtain ⟨a, cap, h1, h2, h3, h4⟩ := h
  refine ⟨a, cap, h1, h2, h3, fun j hj => ?_⟩
  rw [← hs j hj]
  exact h4 j hj
theorem Row.nil (S : Nat → Prop) (w : World) (f : Nat → Value) : Row S w (.slice none 0 0) 0 f := ⟨none, 0, rfl, Nat.le_refl _, by omega, fun j hj => by omega⟩
/-- A part of it, from i to k. -/
theorem Row.cut {S : Nat → Prop} {w : World} {a : Option Addr} {n cap : Nat} {f : Nat → Value} (h : Row S w (.slice a n cap) n f) {k : Nat} (hk : k ≤ n) : Row S w (.slice a k cap) k f := by
  obtain ⟨a', cap', h1, h2, h3, h4⟩ := h
  cases h1
  exact ⟨a, cap, rfl, by omega, h3, fun j hj => h4 j (by omega)⟩
theorem Row.tail {S : Nat → Prop} {w : World} {b off n cap : Nat} {f : Nat → Value} (h : Row S w (.slice (some ⟨b, off, none⟩) n cap) n f) {i : Nat} (hi : i ≤ n) : Row S w (.slice (some ⟨b, off + i, none⟩) (n - i) (cap - i)) (n - i) (fun j => f (i + j)) := by
  obtain ⟨a', cap', h1, h2, h3, h4⟩ := h
  cases h1
  refine ⟨_, _, rfl, by omega, by omega, fun j hj => ?_⟩
  obtain ⟨b', off', e, hb, hc⟩ := h4 (i + j) (by omega)
  cases e
  exact ⟨b, off + i, rfl, hb, by rw [Nat.add_assoc]; exact hc⟩
/-- Of an own row. -/
theorem Row.of_own {base : Nat} {w : World} {e : TypeId} {v : Value} {n : Nat} {f : Nat → Value} (h : w.ownsRow base e 1 v n ((List.range n).map f)) : Row (fun b => base ≤ b) w v n f := by
  rcases h.2 with ⟨rfl, h0⟩ | ⟨g, cap, cur, rfl, hb, hg, hn, hm, hs, ht⟩
  · subst h0; exact Row.nil _ _ _
  · refine ⟨_, cap, rfl, hn, by unfold maxLen at hm; omega, fun j hj => ⟨g, 0, rfl, hb, ?_⟩⟩
    have := World.ownsRow.cellAt h j (by omega)
    rw [Nat.zero_add, this, List.getElem?_map, List.getElem?_range (by omega)]
    rfl

/-- Numbers. -/
def IntsS (S : Nat → Prop) (w : World) (v : Value) (l : List Int) : Prop := Row S w v l.length (fun j => .int .i64 (l.getD j 0))
theorem IntsS.ints {S : Nat → Prop} {w : World} {v : Value} {l : List Int} (h : IntsS S w v l) : Ints w.heap.size w v l := by
  obtain ⟨a, cap, h1, h2, h3, h4⟩ := h
  refine ⟨a, cap, h1, h2, h3, fun j x hj => ?_⟩
  obtain ⟨b, off, e, _, hc⟩ := h4 j (List.getElem?_eq_some_iff.1 hj).1
  obtain ⟨o, ho, _⟩ := cells_of_cell hc
  exact ⟨b, off, e, lt_heap ho, by rw [hc]; simp [hj]⟩
theorem IntsS.of_ints {B : Nat} {S : Nat → Prop} {w : World} {v : Value} {l : List Int} (h : Ints B w v l) (hS : ∀ b, b < B → S b) : IntsS S w v l := by
  obtain ⟨a, cap, h1, h2, h3, h4⟩ := h
  refine ⟨a, cap, h1, h2, h3, fun j hj => ?_⟩
  obtain ⟨b, off, e, hB, hc⟩ := h4 j l[j] (by simp [hj])
  exact ⟨b, off, e, hS b hB, by rw [hc]; simp [hj]⟩
theorem IntsS.stays {S : Nat → Prop} {w w' : World} {v : Value} {l : List Int} (h : IntsS S w v l) (hs : Stays S w w') : IntsS S w' v l := Row.stays h hs
theorem IntsS.later {S : Nat → Prop} {w w' : World} {v : Value} {l : List Int} (h : IntsS S w v l) (hs : Below w.heap.size w w') : IntsS S w' v l := Row.later h hs
theorem IntsS.mono {S S' : Nat → Prop} {w : World} {v : Value} {l : List Int} (h : IntsS S w v l) (hs : ∀ b, b < w.heap.size → S b → S' b) : IntsS S' w v l := Row.mono h hs
theorem IntsS.nil (S : Nat → Prop) (w : World) : IntsS S w (.slice none 0 0) [] := Row.nil S w _
/-- A row of numbers that was made since. -/
def OwnI (base : Nat) (w : World) (v : Value) (l : List Int) : Prop := w.ownsRow base 3 1 v l.length (l.map (Value.int .i64))
theorem map_range (l : List Int) : (List.range l.length).map (fun j => Value.int .i64 (l.getD j 0)) = l.map (Value.int .i64) := by
  apply List.ext_getElem
  · simp
  · intro i h1 h2
    simp at h1
    simp [h1]
theorem OwnI.intsS {base : Nat} {w : World} {v : Value} {l : List Int} (h : OwnI base w v l) : IntsS (fun b => base ≤ b) w v l := by
  unfold OwnI at h
  rw [← map_range] at h
  exact Row.of_own h

theorem infoI : ∃ i, Tryz.prog.info? 3 = some i ∧ i.zero = some (.int .i64 0) ∧ i.size = 1 ∧ i.bytes = 8 := by
  have h : (Tryz.prog.info? 3).map (fun i => (i.zero, i.size, i.bytes)) = some (some (.int .i64 0), 1, 8) := by kernel_rfl
  cases e : Tryz.prog.info? 3 with
  | none => rw [e] at h; cases h
  | some i => rw [e] at h; simp at h; exact ⟨i, rfl, h.1, h.2.1, h.2.2⟩
theorem infoT : ∃ i, Tryz.prog.info? 32 = some i ∧ i.zero = some (.slice none 0 0) ∧ i.size = 1 ∧ i.bytes = 24 := by
  have h : (Tryz.prog.info? 32).map (fun i => (i.zero, i.size, i.bytes)) = some (some (.slice none 0 0), 1, 24) := by kernel_rfl
  cases e : Tryz.prog.info? 32 with
  | none => rw [e] at h; cases h
  | some i => rw [e] at h; simp at h; exact ⟨i, rfl, h.1, h.2.1, h.2.2⟩

theorem three_cells {w : World} {b : Nat} {x y z : Value} {t : TypeId} (h : w.heap[b]? = some (.cells #[x, y, z] t (0, 0))) :
    w.cell? ⟨b, 0, none⟩ = some x ∧ w.cell? ⟨b, 1, none⟩ = some y ∧ w.cell? ⟨b, 2, none⟩ = some z ∧ w.frozen? ⟨b, 0, none⟩ = false ∧ w.frozen? ⟨b, 1, none⟩ = false ∧ w.frozen? ⟨b, 2, none⟩ = false := by simp [World.cell?, World.frozen?, h]


theorem set_heap {w : World} {b : Nat} {cur : Array Value} {t : TypeId} {f : Nat × Nat} (h : w.heap[b]? = some (.cells cur t f)) (i : Nat) (v : Value) : (w.setCell ⟨b, i, none⟩ v).heap[b]? = some (.cells (cur.setIfInBounds i v) t f) := by
  obtain ⟨hlt, hk⟩ := Array.getElem?_eq_some_iff.1 h
  show (w.heap.modify b _)[b]? = _
  rw [Array.getElem?_eq_getElem (by rw [Array.size_modify]; exact hlt), Array.getElem_modify_self, hk]
  rfl

theorem cell_at {w : World} {b : Nat} {Z : Array Value} {t : TypeId} {f : Nat × Nat} (h : w.heap[b]? = some (.cells Z t f)) (j : Nat) : w.cell? ⟨b, j, none⟩ = Z[j]? := by simp [World.cell?, h]

theorem map_set (l : List Int) (k : Nat) (x : Int) : (l.map (Value.int .i64)).set k (.int .i64 x) = (l.set k x).map (Value.int .i64) := by rw [List.map_set]

theorem OwnI.stored {base : Nat} {w : World} {g cap : Nat} {l : List Int} {n : Nat} (h : OwnI base w (.slice (some ⟨g, 0, none⟩) n cap) l) (hn : n = l.length) (j : Nat) (x : Int) : OwnI base (w.setCell ⟨g, j, none⟩ (.int .i64 x)) (.slice (some ⟨g, 0, none⟩) n cap) (l.set j x) := by
  subst hn
  have := (World.ownsRow.stored h j (.int .i64 x)).1
  unfold OwnI
  rw [List.length_set, ← map_set]
  exact this

theorem OwnI.cell {base : Nat} {w : World} {g cap n : Nat} {l : List Int} (h : OwnI base w (.slice (some ⟨g, 0, none⟩) n cap) l) {j : Nat} (hj : j < l.length) : w.cell? ⟨g, j, none⟩ = some (.int .i64 l[j]) ∧ w.frozen? ⟨g, j, none⟩ = false := by
  have hn : n = l.length := by
    rcases h.2 with ⟨h', _⟩ | ⟨g', cap', cur, h', _⟩
    · simp at h'
    · simp only [Value.slice.injEq] at h'; exact h'.2.1
  subst hn
  refine ⟨?_, World.ownsRow.frozenAt h j⟩
  rw [World.ownsRow.cellAt h j (by omega), List.getElem?_map, List.getElem?_eq_getElem hj]
  rfl


theorem OwnI.keeps {base : Nat} {O : Nat → Prop} {A B : World} {v : Value} {l : List Int} (h : OwnI base A v l) (hk : Keeps O A B) (hn : ∀ b, some b = v.ownBlock → ¬ O b) : OwnI base B v l := by
  refine ⟨h.1, ?_⟩
  rcases h.2 with h | ⟨g, cap, cur, h1, h2, h3, h4⟩
  · exact .inl h
  · exact .inr ⟨g, cap, cur, h1, h2, hk.same _ _ h3 (hn g (by rw [h1]; rfl)), h4⟩

theorem OwnI.block {base : Nat} {A : World} {v : Value} {l : List Int} (h : OwnI base A v l) : ∀ b, some b = v.ownBlock → base ≤ b ∧ b < A.heap.size := fun b hb => by
  rcases h.2 with ⟨rfl, _⟩ | ⟨g, cap, cur, rfl, h2, h3, _⟩
  · simp [Value.ownBlock] at hb
  · simp only [Value.ownBlock, Option.some.injEq] at hb
    rw [hb]
    exact ⟨h2, lt_heap h3⟩


theorem keeps_grown {A B : World} {row : Option Nat} {O : Nat → Prop} (h : A.grownBy B row) (hO : ∀ b, some b = row → O b) : Keeps O A B := ⟨h.os, h.tape, h.output, h.size, fun b _ hb hn => (h.block b (lt_heap hb) (fun e => hn (hO b e))).trans hb⟩

def ListAt (B : Nat → Prop) (w : World) (v : Value) (xs : List (List Int)) : Prop := ∃ f : Nat → Value, Row B w v xs.length f ∧ ∀ j, j < xs.length → IntsS B w (f j) (xs.getD j [])

theorem ListAt.stays {B : Nat → Prop} {w w' : World} {v : Value} {xs : List (List Int)} (h : ListAt B w v xs) (hs : Stays B w w') : ListAt B w' v xs := by
  obtain ⟨f, h1, h2⟩ := h
  exact ⟨f, h1.stays hs, fun j hj => (h2 j hj).stays hs⟩

theorem ListAt.later {B : Nat → Prop} {w w' : World} {v : Value} {xs : List (List Int)} (h : ListAt B w v xs) (hs : Below w.heap.size w w') : ListAt B w' v xs := h.stays (Stays.of_below hs)

theorem ListAt.mono {B B' : Nat → Prop} {w : World} {v : Value} {xs : List (List Int)} (h : ListAt B w v xs) (hs : ∀ b, b < w.heap.size → B b → B' b) : ListAt B' w v xs := by
  obtain ⟨f, h1, h2⟩ := h
  exact ⟨f, h1.mono hs, fun j hj => (h2 j hj).mono hs⟩


theorem wpList_append_run {P : Program} (w : World) {ops : Array Oper} {rest : List Oper} {o : Oper} {a : Act} {Q : Exit → Act → World → Prop}
    (hg : o.guard = none) (s x : Operand) (t : TypeId) (hop : o.op = Op.call { callee := Callee.builtin Builtin.append, args := #[s, x], argTypes := #[t, t] })
    (v u : Value) (hs : a.eval s = v) (hx : a.eval x = u) (v' : Value) (w' : World) (hrun : (Builtin.append_ #[t, t] o.type #[v, u]).run P w = .ok v' w')
    (hK : wpList P ops Q rest (a.put o.dst v') w') : wpList P ops Q (o :: rest) a w := by
  refine wpList_plain hg fun K hK' => ?_
  unfold Oper.wp
  simp [execOp, hop, resolve, invoke, builtin, hs, hx, hrun, Result.andThen]
  exact hK' _ _ hK

theorem app_nilI (w : World) (c : Nat) : (Builtin.append_ #[32, 32] 32 #[.slice none 0 0, .slice none 0 c]).run Tryz.prog w = .ok (.slice none 0 0) w := by kernel_rfl

theorem appI_run (w : World) (xv : Value) (x : List Int) (hx : Ints w.heap.size w xv x) (hn : x.length * 8 ≤ 140737488355328) : ∃ r w', (Builtin.append_ #[32, 32] 32 #[.slice none 0 0, xv]).run Tryz.prog w = .ok r w' ∧ OwnI w.heap.size w' r x ∧ Below w.heap.size w w' := by
  obtain ⟨a, cap, rfl, hc1, hc2, hcell⟩ := hx
  obtain ⟨i, h1, h2, h3, h4⟩ := infoI
  have ht : Tryz.prog.underlying 32 = some (.slice 3) := by kernel_rfl
  cases a with
  | none =>
    have hx0 : x = [] := by
      cases x with
      | nil => rfl
      | cons y r =>
        obtain ⟨b, off, e, _⟩ := hcell 0 y rfl
        cases e
    subst hx0
    exact ⟨_, w, app_nilI w cap, World.ownsRow_nil _ _ _ _, Below.refl _ _⟩
  | some ad =>
    obtain ⟨v', w', hr, ho, hg, _⟩ := run_append_own (P := Tryz.prog) w w.heap.size 32 32 3 i (.int .i64 0) 1 8 ht h1 h2 h3 h4 rfl (by decide) (.slice none 0 0) 0 [] (World.ownsRow_nil _ _ _ _) ad x.length cap (x.map (Value.int .i64)) (by simp) (fun j u hj => by
      rw [List.getElem?_map, Option.map_eq_some_iff] at hj
      obtain ⟨y, hy, rfl⟩ := hj
      obtain ⟨b, off, e, _, hc⟩ := hcell j y hy
      cases e
      rw [Addr.add_lit]
      exact hc) (fun u hu => by obtain ⟨y, _, rfl⟩ := List.mem_map.1 hu; rfl) (by unfold maxLen; omega) (by omega) (Nat.le_refl _)
    refine ⟨v', w', hr, ?_, (Below.refl _ w).grown hg (Nat.le_refl _) (fun k e => by cases e)⟩
    unfold OwnI
    simpa using ho



/-- One more number behind an own row. -/
theorem app1_run {base : Nat} (w : World) (v : Value) (l : List Int) (x : Int) (h : OwnI base w v l) (hb : base ≤ w.heap.size) (hn : l.length ≤ 2000) :
    ∃ r w', (Builtin.append_ #[32, 32] 32 #[v, .slice (some ⟨w.heap.size, 0, none⟩) 1 1]).run Tryz.prog (w.alloc (.cells #[.int .i64 x] 3)) = .ok r w' ∧ OwnI base w' r (l ++ [x]) ∧ Keeps (fun b => some b = v.ownBlock) w w' ∧ ∀ b, some b = r.ownBlock → some b = v.ownBlock ∨ w.heap.size ≤ b := by
  obtain ⟨i, h1, h2, h3, h4⟩ := infoI
  have ht : Tryz.prog.underlying 32 = some (.slice 3) := by kernel_rfl
  obtain ⟨r, w', hr, ho, hg, _, hat⟩ := run_append_own_at (P := Tryz.prog) (w.alloc (.cells #[.int .i64 x] 3)) base 32 32 3 i (.int .i64 0) 1 8 ht h1 h2 h3 h4 rfl (by decide) v l.length (l.map (Value.int .i64)) (World.ownsRow.alloc h _) ⟨w.heap.size, 0, none⟩ 1 1 [.int .i64 x] rfl (fun j u hj => by
    cases j with
    | zero =>
      simp only [List.getElem?_cons_zero, Option.some.injEq] at hj
      subst hj
      rw [Addr.add_lit]
      exact (cell_at (World.alloc_heap_new _ _) _).trans rfl
    | succ j => simp at hj) (fun u hu => by simp at hu; subst hu; rfl) (by unfold maxLen; omega) (by omega) (by simp; omega)
  refine ⟨r, w', hr, ?_, ((Keeps.refl _ w).alloc _).trans (keeps_grown (O := fun b => some b = v.ownBlock) hg (fun b hb => hb)) (fun _ _ e => e), fun b hb2 => ?_⟩
  · unfold OwnI
    simpa using ho
  · rcases hat with e | e
    · exact .inl (hb2.trans e)
    · rw [e] at hb2
      simp only [Option.some.injEq, World.size_alloc] at hb2
      exact .inr (by omega)
/-- A place of numbers that may be written. -/
def Arr (w : World) (b n : Nat) (f : Nat → Int) : Prop := ∃ cur, w.heap[b]? = some (.cells cur 3 (0, 0)) ∧ ∀ j, j < n → cur[j]? = some (.int .i64 (f j))
theorem Arr.lt {w : World} {b n : Nat} {f : Nat → Int} (h : Arr w b n f) : b < w.heap.size := by
  obtain ⟨cur, h, _⟩ := h
  exact lt_heap h
theorem Arr.cell {w : World} {b n : Nat} {f : Nat → Int} (h : Arr w b n f) {j : Nat} (hj : j < n) : w.cell? ⟨b, j, none⟩ = some (.int .i64 (f j)) ∧ w.frozen? ⟨b, j, none⟩ = false := by
  obtain ⟨cur, h1, h2⟩ := h
  exact ⟨(cell_at h1 j).trans (h2 j hj), by simp [World.frozen?, h1]⟩
theorem Arr.keeps {O : Nat → Prop} {w w' : World} {b n : Nat} {f : Nat → Int} (h : Arr w b n f) (hk : Keeps O w w') (hO : ¬ O b) : Arr w' b n f := by
  obtain ⟨cur, h1, h2⟩ := h
  exact ⟨cur, hk.same _ _ h1 hO, h2⟩
theorem Arr.later {w w' : World} {b n : Nat} {f : Nat → Int} (h : Arr w b n f) (hb : Below w.heap.size w w') : Arr w' b n f := h.keeps (O := fun _ => False) (Keeps.of_below hb) (fun e => e)
theorem Arr.set {w : World} {b n : Nat} {f : Nat → Int} (h : Arr w b n f) {k : Nat} (x : Int) (hk : k < n) : Arr (w.setCell ⟨b, k, none⟩ (.int .i64 x)) b n (upd f k x) := by
  obtain ⟨cur, h1, h2⟩ := h
  refine ⟨_, set_heap h1 k _, fun j hj => ?_⟩
  have hkc := (Array.getElem?_eq_some_iff.1 (h2 k hk)).1
  by_cases e : j = k
  · subst e
    rw [upd_self, Array.getElem?_setIfInBounds_self_of_lt hkc]
  · rw [upd_ne f x e, Array.getElem?_setIfInBounds_ne (fun e2 => e e2.symm)]
    exact h2 j hj
theorem Arr.other {w : World} {b n : Nat} {f : Nat → Int} (h : Arr w b n f) (p : Addr) (v : Value) (hp : p.block ≠ b) : Arr (w.setCell p v) b n f :=
  h.keeps (O := fun c => c = p.block) ((Keeps.refl (fun c => c = p.block) w).setCell p rfl v) (fun e => hp e.symm)
theorem Arr.congr {w : World} {b n : Nat} {f g : Nat → Int} (h : Arr w b n f) (e : ∀ j, j < n → f j = g j) : Arr w b n g := by
  obtain ⟨cur, h1, h2⟩ := h
  exact ⟨cur, h1, fun j hj => by rw [← e j hj]; exact h2 j hj⟩
end Go.Proofs.YthcljhfankooaabGreat.C

namespace Go.Proofs.YthcljhfankooaabGreat.C
open Go.RowKit Go.Shelf Go.Maps

theorem andNot_nat (a b : Nat) (ha : a < 4611686018427387904) (hb : b < 4611686018427387904) : bits .andNot .i64 (a : Int) (b : Int) = ((a &&& (18446744073709551615 - b) : Nat) : Int) := by
  have hx : a &&& (18446744073709551615 - b) ≤ a := Nat.and_le_left
  show IntKind.i64.wrap ((BitVec.ofInt 64 (a : Int) &&& ~~~BitVec.ofInt 64 (b : Int)).toNat : Int) = _
  rw [BitVec.toNat_and, BitVec.toNat_not, ofInt_u64 a (by omega), ofInt_u64 b (by omega), IntKind.wrap_i64]
  have e : 2 ^ 64 - 1 - b = 18446744073709551615 - b := by omega
  rw [e]
  omega
theorem andNot_bit (a b i : Nat) (ha : a < 4611686018427387904) (hb : b < 4611686018427387904) : (a &&& (18446744073709551615 - b)).testBit i = (a.testBit i && !b.testBit i) := by
  have e : 18446744073709551615 - b = 2 ^ 64 - (b + 1) := by omega
  rw [Nat.testBit_and, e, Nat.testBit_two_pow_sub_succ (by omega)]
  by_cases h : i < 64
  · simp [h]
  · have : a.testBit i = false := Nat.testBit_lt_two_pow (Nat.lt_of_lt_of_le ha (Nat.le_trans (by decide : (4611686018427387904 : Nat) ≤ 2 ^ 64) (Nat.pow_le_pow_right (by omega) (by omega))))
    simp [this]
theorem andNot_zero (a b : Int) (h0 : 0 ≤ a) (h1 : a < 256) (h2 : 0 ≤ b) (h3 : b < 256) : (bits .andNot .i64 a b == 0) = sub a b := by
  obtain ⟨A, rfl⟩ := Int.eq_ofNat_of_zero_le h0
  obtain ⟨B, rfl⟩ := Int.eq_ofNat_of_zero_le h2
  rw [andNot_nat A B (by omega) (by omega), Bool.eq_iff_iff, sub_iff, beq_iff_eq]
  simp only [Int.toNat_natCast]
  constructor
  · intro h i hi
    have h4 : A &&& (18446744073709551615 - B) = 0 := by omega
    have h5 := andNot_bit A B i (by omega) (by omega)
    rw [h4, Nat.zero_testBit, hi] at h5
    simpa using h5
  · intro h
    have h4 : A &&& (18446744073709551615 - B) = 0 := Nat.eq_of_testBit_eq fun i => by
      rw [andNot_bit A B i (by omega) (by omega), Nat.zero_testBit]
      cases hi : A.testBit i with
      | false => rfl
      | true => rw [h i hi]; rfl
    omega

/-- Is one within another one? -/
def inW (f : Nat → Int) (i k : Nat) : Bool := (((i : Int) != (k : Int))) && sub (f i) (f k)
theorem inW_iff {f : Nat → Int} {i k : Nat} : inW f i k = true ↔ In f i k := by
  unfold inW In
  rw [Bool.and_eq_true, bne_iff_ne]
  exact ⟨fun h => ⟨fun e => h.1 (by rw [e]), h.2⟩, fun h => ⟨fun e => h.1 (by omega), h.2⟩⟩
/-- Searches of at most eight columns. -/
def Small (N : Nat) (f : Nat → Int) : Prop := ∀ j, j < N → 0 ≤ f j ∧ f j < 256

set_option maxRecDepth 100000 in
set_option maxHeartbeats 4000000 in
theorem within_any (w : World) (sb N sc : Nat) (av bv : Value) (aa ba : Option Addr) (an ac bn bc : Nat) (ea : av = .slice aa an ac) (eb : bv = .slice ba bn bc) (f : Nat → Int) (h : Arr w sb N f) (hs : Small N f) (lo hi : Nat) (hl : lo < N) (hh : hi < N) :
    Calls Tryz.prog 82 #[.agg #[.slice (some ⟨sb, 0, none⟩) N sc, av, bv], .int .i64 (lo : Int), .int .i64 (hi : Int)] w fun e w' => e = .returned (.bool (inW f lo hi)) ∧ Below w.heap.size w w' := by
  subst ea eb
  obtain ⟨w1, hw1⟩ : ∃ w1, w1 = w.alloc (.cells #[.slice (some ⟨sb, 0, none⟩) N sc, .slice aa an ac, .slice ba bn bc] 94) := ⟨_, rfl⟩
  have b1 : Below w.heap.size w w1 := by rw [hw1]; exact (Below.refl _ w).alloc (Nat.le_refl _) _
  have hnw : w1.heap[w.heap.size]? = some (.cells #[.slice (some ⟨sb, 0, none⟩) N sc, .slice aa an ac, .slice ba bn bc] 94 (0, 0)) := by rw [hw1]; exact World.alloc_heap_new _ _
  obtain ⟨c0, c1, c2, _⟩ := three_cells hnw
  have x1 := ((h.later b1).cell hl).1
  have x2 := ((h.later b1).cell hh).1
  have hz := andNot_zero (f lo) (f hi) (hs lo hl).1 (hs lo hl).2 (hs hi hh).1 (hs hi hh).2
  have HB := hide b1
  clear hs h hnw b1
  cases e1 : ((lo : Int) != (hi : Int)) with
  | false =>
    have E : Hid (inW f lo hi = false) := by show _ = _; rw [inW, e1]; rfl
    generalize f lo = x at x1 hz
    generalize f hi = y at x2 hz
    go_enter Tryz.func82, Tryz.ntmps82
    go_wp2_with fail
    rw [← hw1]
    clear hw1
    go_quiet (fail)
    go_wp2_with fail
    go_ret
    exact ⟨ret_bool (unhide E).symm, below_drewN (unhide HB) _⟩
  | true =>
    have E : Hid (inW f lo hi = sub (f lo) (f hi)) := by show _ = _; rw [inW, e1]; rfl
    rw [← hz] at E
    clear hz
    generalize f lo = x at x1 E
    generalize f hi = y at x2 E
    go_enter Tryz.func82, Tryz.ntmps82
    go_wp2_with fail
    rw [← hw1]
    clear hw1
    go_quiet (fail)
    go_wp2_with fail
    go_ret
    exact ⟨ret_bool (unhide E).symm, below_drewN (unhide HB) _⟩

/-- A struct of three rows, boxed. -/
theorem box3 (w : World) (x y z : Value) (t : TypeId) : Below w.heap.size w (w.alloc (.cells #[x, y, z] t)) ∧ (w.alloc (.cells #[x, y, z] t)).heap[w.heap.size]? = some (.cells #[x, y, z] t (0, 0)) ∧ (w.alloc (.cells #[x, y, z] t)).heap.size = w.heap.size + 1 :=
  ⟨(Below.refl _ w).alloc (Nat.le_refl _) _, World.alloc_heap_new _ _, by simp⟩

/-- While they give way. -/
def GRel (N : Nat) (E : Nat → Nat → Prop) (ab0 be0 asd : Nat → Int) (low : Nat) (rk : Nat → Nat) (A B : Nat → Prop) (w : World) (a b kb : Nat) (hv : Value) (wr : World) : Prop :=
  ∃ ab be, Arr wr a N ab ∧ Arr wr b N be ∧ Arr wr kb N asd ∧ Keeps (fun x => x = a ∨ x = b) w wr ∧ ((hv = .int .i64 (-1) ∧ Done N E ab be (low + 1)) ∨ ∃ k : Nat, hv = .int .i64 (k : Int) ∧ Give N E ab0 be0 asd low rk A B ab be k)
def gMeas (rk : Nat → Nat) (v : Value) : Nat := if intOf v = -1 then 0 else rk (intOf v).toNat + 1

set_option maxRecDepth 100000 in
set_option maxHeartbeats 4000000 in
theorem giveWay_any (w : World) (sv : Value) (sa : Option Addr) (sn sc : Nat) (es : sv = .slice sa sn sc) (a b kb N ac bc kc : Nat) (E : Nat → Nat → Prop) (ab0 be0 asd : Nat → Int) (low : Nat) (rk : Nat → Nat) (A B : Nat → Prop) (k : Nat)
    (ha : Arr w a N ab0) (hb : Arr w b N be0) (hk : Arr w kb N asd) (n1 : a ≠ b) (n2 : kb ≠ a) (n3 : kb ≠ b)
    (g : Give N E ab0 be0 asd low rk A B ab0 be0 k) (hlow : low < N) (p : PM N E ab0 be0) (hD : Dead N E be0 A B) (h3 : ∀ i, i < low → ab0 i = -1 → A i) (h4 : ∀ i, low ≤ i → i < N → ab0 i = -1)
    (hask2 : ∀ h, h < N → asd h ≠ -1 → be0 h ≠ -1 → ∃ v : Nat, v < N ∧ asd h = v ∧ E v h ∧ (v = low ∨ ∃ j : Nat, j < N ∧ be0 j = v ∧ asd j ≠ -1 ∧ rk j < rk h)) :
    Calls Tryz.prog 83 #[.agg #[sv, .slice (some ⟨a, 0, none⟩) N ac, .slice (some ⟨b, 0, none⟩) N bc], .slice (some ⟨kb, 0, none⟩) N kc, .int .i64 (k : Int)] w fun e w' => e = .returned (.tuple #[]) ∧ Keeps (fun x => x = a ∨ x = b) w w' ∧ ∃ ab be, Arr w' a N ab ∧ Arr w' b N be ∧ Done N E ab be (low + 1) := by
  subst es
  obtain ⟨b1, hnw, hs1⟩ := box3 w (.slice sa sn sc) (.slice (some ⟨a, 0, none⟩) N ac) (.slice (some ⟨b, 0, none⟩) N bc) 94
  obtain ⟨w1, hw1⟩ : ∃ w1, w1 = w.alloc (.cells #[.slice sa sn sc, .slice (some ⟨a, 0, none⟩) N ac, .slice (some ⟨b, 0, none⟩) N bc] 94) := ⟨_, rfl⟩
  rw [← hw1] at b1 hnw hs1
  have HS : Hid (GRel N E ab0 be0 asd low rk A B w1 a b kb (.int .i64 (k : Int)) w1) := ⟨ab0, be0, ha.later b1, hb.later b1, hk.later b1, Keeps.refl _ _, .inr ⟨k, rfl, g⟩⟩
  have la := ha.lt
  have lb := hb.lt
  have HX := hide (And.intro p (And.intro hD (And.intro h3 (And.intro h4 hask2))))
  have HB := hide b1
  clear ha hb hk g p hD h3 h4 hask2 b1
  go_enter Tryz.func83, Tryz.ntmps83
  go_wp2_with fail
  rw [← hw1]
  clear hw1
  go_loopw [2] (fun hv wr => GRel N E ab0 be0 asd low rk A B w1 a b kb hv wr) (fun hv _ => gMeas rk hv)
  case atStart => exact unhide HS
  case round =>
    obtain ⟨ab, be, ra, rb, rk2, hK, hcase⟩ := hrel
    have hbx := hK.same _ _ hnw (fun e => by omega)
    obtain ⟨c0, c1, c2, _⟩ := three_cells hbx
    rcases hcase with ⟨rfl, hd⟩ | ⟨q, rfl, hg⟩
    · have HD := hide (And.intro ra (And.intro rb (And.intro hK hd)))
      clear ra rb rk2 hK hd hbx
      go_wp2_with fail
      refine bodyPost_end (results_none rfl _ _ _) rfl ?_
      obtain ⟨ra, rb, hK, hd⟩ := unhide HD
      exact ⟨rfl, (Keeps.of_below (unhide HB)).trans hK (fun _ _ e => e), ab, be, ra, rb, hd⟩
    · obtain ⟨v, v1, v2, v3, v4⟩ := hg.ask
      have hq := hg.lt
      have x1 := (rk2.cell hq).1
      rw [v2] at x1
      have x2 := (ra.cell v1).1
      have x3 := (ra.cell v1).2
      have x4 := (rb.cell hq)
      have hq1 : (((q : Int)) != -1) = true := by simp
      have na : a ≠ w.heap.size := by omega
      have nb : b ≠ w.heap.size := by omega
      obtain ⟨had, hhad⟩ : ∃ had, had = ab v := ⟨_, rfl⟩
      rw [← hhad] at x2
      have HH := hide hhad
      have HG := hide (And.intro ra (And.intro rb (And.intro rk2 (And.intro hK (And.intro hg v2)))))
      obtain ⟨y4, y5⟩ := x4
      generalize be q = bq at y4
      have hvN : (v : Int) < (N : Int) := by omega
      clear ra rb rk2 hK hg v2 hhad v3 v4 hbx
      go_wp2_with fail
      go_region
      go_wp2_with fail
      obtain ⟨ra, rb, rk2, hK, hg, v2⟩ := unhide HG
      obtain ⟨p, hD, h3, h4, hask2⟩ := unhide HX
      have ra2 := ((ra.set (q : Int) v1).other ⟨b, q, none⟩ (.int .i64 (v : Int)) (fun e => n1 e.symm)).keeps (Keeps.drew (Keeps.refl (fun _ => False) _)) (fun e => e)
      have rb2 := ((rb.other ⟨a, v, none⟩ (.int .i64 (q : Int)) n1).set (v : Int) hq).keeps (Keeps.drew (Keeps.refl (fun _ => False) _)) (fun e => e)
      have rk3 := ((rk2.other ⟨a, v, none⟩ (.int .i64 (q : Int)) (fun e => n2 e.symm)).other ⟨b, q, none⟩ (.int .i64 (v : Int)) (fun e => n3 e.symm)).keeps (Keeps.drew (Keeps.refl (fun _ => False) _)) (fun e => e)
      have hK2 := ((hK.setCell ⟨a, v, none⟩ (.inl rfl) (.int .i64 (q : Int))).setCell ⟨b, q, none⟩ (.inr rfl) (.int .i64 (v : Int))).drew
      go_roundw
      case rel =>
        refine ⟨upd ab v q, upd be q v, ra2, rb2, rk3, hK2, ?_⟩
        by_cases hv : v = low
        · subst hv
          refine .inl ⟨?_, hg.last hlow hD h3 h4 v2⟩
          rw [unhide HH, hg.lone]
        · obtain ⟨j, j1, j2, j3, j4⟩ := hg.next p hD (fun h hh ha hn hb => hask2 h hh ha hb) v2 hv
          exact .inr ⟨j, by rw [unhide HH, j2], j4⟩
      case measure =>
        by_cases hv : v = low
        · subst hv
          rw [unhide HH, hg.lone]
          simp [gMeas, intOf] <;> omega
        · obtain ⟨j, j1, j2, j3, j4⟩ := hg.next p hD (fun h hh ha hn hb => hask2 h hh ha hb) v2 hv
          rw [unhide HH, j2]
          simp [gMeas, intOf] <;> omega
end Go.Proofs.YthcljhfankooaabGreat.C

namespace Go.Proofs.YthcljhfankooaabGreat.C
open Go.RowKit Go.Shelf Go.Maps

/-- What nones gives. -/
def NonesC : Prop := ∀ (w : World) (n : Nat), 1 ≤ n → n ≤ 1000 → Calls Tryz.prog 62 #[.int .i64 (n : Int)] w fun e w' => ∃ b c, e = .returned (.slice (some ⟨b, 0, none⟩) n c) ∧ w.heap.size ≤ b ∧ Arr w' b n (fun _ => -1) ∧ Below w.heap.size w w'

def toI (l : List Nat) : List Int := l.map Int.ofNat
theorem toI_snoc (l : List Nat) (x : Nat) : toI (l ++ [x]) = toI l ++ [(x : Int)] := by simp [toI]
theorem toI_len (l : List Nat) : (toI l).length = l.length := by simp [toI]
/-- What was asked, as it lies. -/
def asOf (wr : World) (kb : Nat) : Nat → Int := fun j => intOf ((wr.cell? ⟨kb, j, none⟩).getD undef)
theorem free_asOf {wr : World} {kb N : Nat} {f : Nat → Int} (h : Arr wr kb N f) : free N (asOf wr kb) = free N f := by
  unfold free
  congr 1
  refine List.filter_congr fun j hj => ?_
  have := (h.cell (List.mem_range.1 hj)).1
  simp [asOf, this, intOf]
def lenOf : Value → Nat
  | .slice _ n _ => n
  | _ => 0
theorem OwnI.shape {base : Nat} {w : World} {v : Value} {l : List Int} (h : OwnI base w v l) (hl : l ≠ []) : ∃ g c, v = .slice (some ⟨g, 0, none⟩) l.length c ∧ base ≤ g ∧ g < w.heap.size ∧ l.length ≤ c ∧ c ≤ 9223372036854775807 := by
  rcases h.2 with ⟨_, h0⟩ | ⟨g, cap, cur, h1, h2, h3, h4, h5, _⟩
  · exact absurd (List.eq_nil_of_length_eq_zero h0) hl
  · exact ⟨g, cap, h1, h2, lt_heap h3, h4, by unfold maxLen at h5; omega⟩
theorem OwnI.lenOf {base : Nat} {w : World} {v : Value} {l : List Int} (h : OwnI base w v l) : lenOf v = l.length := by
  rcases h.2 with ⟨h1, h0⟩ | ⟨g, cap, cur, h1, _⟩
  · rw [h1, h0]; rfl
  · rw [h1]; rfl
/-- The last one is left out. -/
theorem OwnI.cut {base : Nat} {w : World} {g n c : Nat} {l : List Int} {x : Int} (h : OwnI base w (.slice (some ⟨g, 0, none⟩) n c) (l ++ [x])) : OwnI base w (.slice (some ⟨g, 0, none⟩) l.length c) l := by
  refine ⟨by simp, .inr ?_⟩
  rcases h.2 with ⟨h', _⟩ | ⟨g', cap, cur, h1, h2, h3, h4, h5, h6, h7⟩
  · simp at h'
  · simp only [Value.slice.injEq, Option.some.injEq, Addr.mk.injEq] at h1
    obtain ⟨⟨rfl, _⟩, rfl, rfl⟩ := h1
    simp only [List.length_append, List.length_cons, List.length_nil] at h4 h7
    refine ⟨g, c, cur, rfl, h2, h3, by omega, h5, h6, ?_⟩
    have : cur.toList.take (l.length * 1) = (cur.toList.take ((l.length + (0 + 1)) * 1)).take l.length := by rw [List.take_take]; congr 1; omega
    rw [this, h7]
    simp

/-- While one is sought. -/
def PRel (N : Nat) (f ab be : Nat → Int) (low pb kb : Nat) (w3 : World) (v : Value) (wr : World) : Prop :=
  ∃ (path : List Nat) (asd : Nat → Int) (rk : Nat → Nat) (t : Nat), OwnI pb wr v (toI path) ∧ Arr wr kb N asd ∧ Seek N (In f) ab be asd low rk t path ∧ path.length + free N asd ≤ N + 1 ∧ Keeps (fun x => x = kb ∨ pb ≤ x) w3 wr
/-- While one asks. -/
def ARel (N : Nat) (f asd : Nat → Int) (last : Nat) (wr : World) (i : Value) (wr2 : World) : Prop :=
  ∃ k : Nat, k ≤ N ∧ i = .int .i64 (k : Int) ∧ (∀ h, h < k → In f last h → asd h ≠ -1) ∧ Below wr.heap.size wr wr2
theorem ARel.next {f asd : Nat → Int} {last k : Nat} (h : ∀ h, h < k → In f last h → asd h ≠ -1) (h1 : asd k ≠ -1 ∨ inW f last k = false) : ∀ h, h < k + 1 → In f last h → asd h ≠ -1 := fun j hj hi => by
  by_cases e : j = k
  · subst e
    rcases h1 with g | g
    · exact g
    · rw [inW_iff.2 hi] at g; cases g
  · exact h j (by omega) hi

theorem Seek.asks {N : Nat} {E : Nat → Nat → Prop} {ab be asd : Nat → Int} {low : Nat} {rk : Nat → Nat} {t : Nat} {path : List Nat} (s : Seek N E ab be asd low rk t path) {k : Nat} (hk : asd k = -1) (hb : be k = -1) (x : Int) :
    ∀ h, h < N → upd asd k x h ≠ -1 → be h ≠ -1 → ∃ v : Nat, v < N ∧ upd asd k x h = v ∧ E v h ∧ (v = low ∨ ∃ j : Nat, j < N ∧ be j = v ∧ upd asd k x j ≠ -1 ∧ (if j = k then t else rk j) < (if h = k then t else rk h)) := by
  intro h hh h1 h2
  have e : h ≠ k := fun e => h2 (e ▸ hb)
  rw [upd_ne asd x e] at h1 ⊢
  obtain ⟨v, v1, v2, v3, v4, _⟩ := (s.asked h hh).resolve_left h1
  refine ⟨v, v1, v2, v3, v4.imp id fun ⟨j, j1, j2, j3, j4⟩ => ?_⟩
  have ej : j ≠ k := fun e => j3 (e ▸ hk)
  exact ⟨j, j1, j2, by rw [upd_ne asd x ej]; exact j3, by rw [if_neg ej, if_neg e]; exact j4⟩

set_option maxRecDepth 100000 in
set_option maxHeartbeats 8000000 in
theorem pair_any (HN : Hid NonesC) (w : World) (sb a b N sc ac bc : Nat) (f ab be : Nat → Int) (low : Nat) (hs : Arr w sb N f) (hsm : Small N f) (ha : Arr w a N ab) (hb : Arr w b N be) (n1 : a ≠ b) (hN : N ≤ 300) (hlow : low < N) (hd : Done N (In f) ab be low) :
    Calls Tryz.prog 63 #[.agg #[.slice (some ⟨sb, 0, none⟩) N sc, .slice (some ⟨a, 0, none⟩) N ac, .slice (some ⟨b, 0, none⟩) N bc], .int .i64 (low : Int)] w fun e w' => e = .returned (.tuple #[]) ∧ Keeps (fun x => x = a ∨ x = b) w w' ∧ ∃ ab be, Arr w' a N ab ∧ Arr w' b N be ∧ Done N (In f) ab be (low + 1) := by
  obtain ⟨b1, hnw, hs1⟩ := box3 w (.slice (some ⟨sb, 0, none⟩) N sc) (.slice (some ⟨a, 0, none⟩) N ac) (.slice (some ⟨b, 0, none⟩) N bc) 94
  obtain ⟨w1, hw1⟩ : ∃ w1, w1 = w.alloc (.cells #[.slice (some ⟨sb, 0, none⟩) N sc, .slice (some ⟨a, 0, none⟩) N ac, .slice (some ⟨b, 0, none⟩) N bc] 94) := ⟨_, rfl⟩
  rw [← hw1] at b1 hnw hs1
  have hnn := unhide HN w1 N (by omega) (by omega)
  obtain ⟨c0, c1, c2, d0, d1, d2⟩ := three_cells hnw
  have ls := hs.lt
  have la := ha.lt
  have lb := hb.lt
  have HS := hide (And.intro (hs.later b1) (And.intro (ha.later b1) (And.intro (hb.later b1) (And.intro hsm hd))))
  have HB := hide b1
  clear hs ha hb hsm hd b1
  go_enter Tryz.func63, Tryz.ntmps63
  go_wp2_with fail
  rw [← hw1]
  clear hw1
  go_step3
  go_wp2_with fail
  refine hnn.mono ?_
  clear hnn
  rintro e w2 ⟨kb, kc, rfl, hkb, hka, b2⟩
  have hs2 := b2.size
  have hkl := hka.lt
  obtain ⟨w3, hw3⟩ : ∃ w3, w3 = w2.alloc (.cells #[.int .i64 (low : Int)] 3) := ⟨_, rfl⟩
  have b3 : Below w2.heap.size w2 w3 := by rw [hw3]; exact (Below.refl _ w2).alloc (Nat.le_refl _) _
  have hs3 : w3.heap.size = w2.heap.size + 1 := by rw [hw3]; simp
  have hown : OwnI w2.heap.size w3 (.slice (some ⟨w2.heap.size, 0, none⟩) 1 1) (toI [low]) := by
    refine ⟨rfl, .inr ⟨w2.heap.size, 1, #[.int .i64 (low : Int)], rfl, Nat.le_refl _, ?_, Nat.le_refl _, by unfold maxLen; omega, rfl, rfl⟩⟩
    rw [hw3]
    exact World.alloc_heap_new _ _
  have HP : Hid (PRel N f ab be low w2.heap.size kb w3 (.slice (some ⟨w2.heap.size, 0, none⟩) 1 1) w3) :=
    ⟨[low], fun _ => -1, fun _ => 0, 0, hown, hka.later b3, Seek.start hlow, by rw [free_none]; simp; omega, Keeps.refl _ _⟩
  have hnw3 := (b3.block _ (by omega)).trans ((b2.block _ (by omega)).trans hnw)
  have HK := hide (And.intro ((unhide HB).trans (b2.mono (by omega))) b3)
  have HS3 := hide (And.intro (((unhide HS).1.later b2).later b3) (And.intro (((unhide HS).2.1.later b2).later b3) (((unhide HS).2.2.1.later b2).later b3)))
  obtain ⟨P, hP⟩ : ∃ P, P = w2.heap.size := ⟨_, rfl⟩
  rw [← hP] at HP hs3 hkl hs2
  have HPP := hide hP
  clear hown hka b2 b3 hnw c0 c1 c2 d0 d1 d2
  go_wp2_with fail
  rw [← hw3, ← hP]
  clear hw3 hP
  go_step3
  go_wp2_with fail
  go_loopw [5] (fun v wr => PRel N f ab be low P kb w3 v wr) (fun v wr => 2 * free N (asOf wr kb) + lenOf v)
  case atStart => exact unhide HP
  case round =>
    rename World => Wo
    obtain ⟨path, asd, rk, t, hown, hka, hseek, hcnt, hK⟩ := hrel
    have hbx := hK.same _ _ hnw3 (fun e => by omega)
    obtain ⟨c0, c1, c2, d0, d1, d2⟩ := three_cells hbx
    have hsa := (unhide HS3).1.keeps hK (fun e => by omega)
    have haa := (unhide HS3).2.1.keeps hK (fun e => by omega)
    have hba := (unhide HS3).2.2.keeps hK (fun e => by omega)
    have hws : w3.heap.size ≤ Wo.heap.size := hK.size
    have HBX := hide hbx
    have HD := hide (unhide HS).2.2.2.2
    have hKw : Keeps (fun x => x = a ∨ x = b) w Wo := (Keeps.of_below (O := fun x => x = a ∨ x = b) ((unhide HK).1.trans ((unhide HK).2.mono (by have := unhide HPP; omega)))).trans hK (fun x hx e => by omega)
    rcases List.eq_nil_or_concat path with hpe | ⟨p1, last, hpe⟩
    · subst hpe
      obtain ⟨va, vc, ev⟩ : ∃ va vc, u5 = .slice va 0 vc := by
        rcases hown.2 with ⟨h1, _⟩ | ⟨g, cap, cur, h1, _⟩
        · exact ⟨none, 0, h1⟩
        · exact ⟨_, cap, h1⟩
      subst ev
      have HF := hide (And.intro hKw (And.intro haa (And.intro hba ((unhide HD).fail hseek))))
      clear hown hka hseek hcnt hK hbx hsa haa hba hKw
      go_wp2_with fail
      simp only [Exit.noGoto]
      refine bodyPost_end (results_none rfl _ _ _) rfl ?_
      exact ⟨rfl, (unhide HF).1, ab, be, (unhide HF).2.1, (unhide HF).2.2.1, (unhide HF).2.2.2⟩
    · rw [List.concat_eq_append] at hpe
      subst hpe
      have hlen : (toI (p1 ++ [last])).length = p1.length + 1 := by rw [toI_len]; simp
      obtain ⟨g, c, ev, hg1, hg2, hg3, hg4⟩ := hown.shape (by rw [toI_snoc]; simp)
      rw [hlen] at ev hg3
      subst ev
      obtain ⟨hlastN, _⟩ := hseek.row last (by simp)
      obtain ⟨y0, _⟩ := hown.cell (j := p1.length) (by rw [hlen]; omega)
      have y1 : (toI (p1 ++ [last]))[p1.length]'(by rw [hlen]; omega) = (last : Int) := by simp [toI]
      rw [y1] at y0
      clear y1
      obtain ⟨n, hn⟩ : ∃ n, n = p1.length := ⟨_, rfl⟩
      rw [← hn] at y0 hg3
      have HF := hide (And.intro hown (And.intro hka (And.intro hseek (And.intro hcnt (And.intro hK (And.intro hsa (And.intro haa (And.intro hba hKw))))))))
      have hn2 : n ≤ 1000 := by
        rw [List.length_append] at hcnt
        simp only [List.length_cons, List.length_nil] at hcnt
        omega
      have HN1 := hide hn
      clear hown hka hseek hcnt hK hbx hsa haa hba hKw hlen
      rw [← hn]
      clear hn
      go_wp2_with fail
      go_loopw [5, 26] (fun v i wr => v = .slice (some ⟨g, 0, none⟩) (n + 1) c ∧ ARel N f asd last Wo i wr) (fun _ i _ => N - (intOf i).toNat)
      case atStart => exact ⟨rfl, 0, Nat.zero_le _, rfl, fun h hh => by omega, Below.refl _ _⟩
      case round =>
        obtain ⟨rfl, k, hk, rfl, hno, hb2⟩ := hrel
        obtain ⟨hown, hka, hseek, hcnt, hK, hsa, haa, hba, hKw⟩ := unhide HF
        have hws2 := hb2.size
        have hbx := (hb2.block _ (by omega)).trans (unhide HBX)
        obtain ⟨c0, c1, c2, d0, d1, d2⟩ := three_cells hbx
        have HBX2 := hide hbx
        by_cases hkN : k < N
        · obtain ⟨x0, x1⟩ := (hka.later hb2).cell hkN
          by_cases hask : asd k = -1
          · rw [hask] at x0
            have hwi := within_any wr sb N sc _ _ (some ⟨a, 0, none⟩) (some ⟨b, 0, none⟩) N ac N bc rfl rfl f (hsa.later hb2) (unhide HS).2.2.2.1 last k hlastN hkN
            have HI := hide (And.intro hno (And.intro hb2 hask))
            clear hown hka hseek hcnt hK hsa haa hba hKw hno hb2 hask hbx
            go_wp2_with fail
            refine hwi.mono ?_
            clear hwi
            rintro e w5 ⟨rfl, b5⟩
            obtain ⟨hno, hb2, hask⟩ := unhide HI
            obtain ⟨hown, hka, hseek, hcnt, hK, hsa, haa, hba, hKw⟩ := unhide HF
            have hb5 := hb2.trans (b5.mono hws2)
            have hws5 := hb5.size
            cases hin : inW f last k with
            | false =>
              have HI2 := hide (And.intro (ARel.next hno (.inr hin)) hb5)
              clear hown hka hseek hcnt hK hsa haa hba hKw hno hb2 hask b5 hb5 hin HI
              go_wp2_with fail
              go_roundw
              case rel => exact ⟨rfl, k + 1, by omega, by go_num, (unhide HI2).1, (unhide HI2).2⟩
              case measure => simp [intOf]; omega
            | true =>
              obtain ⟨w6, hw6⟩ : ∃ w6, w6 = w5.setCell ⟨kb, k, none⟩ (.int .i64 (last : Int)) := ⟨_, rfl⟩
              have hK6 : Keeps (fun x => x = kb) w5 w6 := by rw [hw6]; exact (Keeps.refl (fun x => x = kb) w5).setCell ⟨kb, k, none⟩ rfl _
              have hka5 := hka.later hb5
              obtain ⟨z0, z1⟩ := hka5.cell hkN
              rw [hask] at z0
              have hka6 : Arr w6 kb N (upd asd k last) := by rw [hw6]; exact hka5.set _ hkN
              have hba6 := (hba.later hb5).keeps hK6 (fun e => by omega)
              have haa6 := (haa.later hb5).keeps hK6 (fun e => by omega)
              have hown6 : OwnI P w6 (.slice (some ⟨g, 0, none⟩) (n + 1) c) (toI (p1 ++ [last])) := by
                rw [unhide HN1]
                exact ((hown.keeps (O := fun _ => False) (Keeps.of_below hb5) (fun _ _ e => e))).keeps hK6 (fun x hx e => by simp only [Value.ownBlock, Option.some.injEq] at hx; omega)
              obtain ⟨e0, e1, e2, q0, q1, q2⟩ := three_cells ((hb5.block _ (by omega)).trans (unhide HBX))
              obtain ⟨f0, f1⟩ := (hba.later hb5).cell hkN
              have k1 : kb ≠ w.heap.size := by omega
              have k2 : kb ≠ b := by omega
              have hE : In f last k := inW_iff.1 hin
              have hKw6 : Keeps (fun x => x = a ∨ x = b) w w6 := (hKw.trans (Keeps.of_below (O := fun x => x = a ∨ x = b) hb5) (fun _ _ e => e)).trans hK6 (fun x hx e => by omega)
              have hK36 : Keeps (fun x => x = kb ∨ P ≤ x) w3 w6 := (hK.trans (Keeps.of_below (O := fun x => x = kb ∨ P ≤ x) hb5) (fun _ _ e => e)).trans hK6 (fun x hx e => .inl e)
              have hs6 := hK6.size
              by_cases hbe : be k = -1
              · rw [hbe] at f0
                obtain ⟨A, B, hD, hA3, hG⟩ := (unhide HD).found hseek hlow (by simp) hkN hask hE hbe
                have hgw := giveWay_any w6 (.slice (some ⟨sb, 0, none⟩) N sc) (some ⟨sb, 0, none⟩) N sc rfl a b kb N ac bc kc (In f) ab be (upd asd k last) low _ A B k haa6 hba6 hka6 n1 (by omega) (by omega) hG hlow (unhide HD).1 hD hA3 (unhide HD).2.2 (hseek.asks hask hbe last)
                have HE := hide hKw6
                clear hown hka hseek hcnt hK hsa haa hba hKw hno hb2 hask b5 hb5 hin HI hK6 hka5 hka6 hba6 haa6 hown6 hE hKw6 hK36 hD hA3 hG
                subst hw6
                go_wp2_with fail
                refine hgw.mono ?_
                clear hgw
                rintro e w8 ⟨rfl, hK8, ab', be', h1, h2, h3⟩
                have HE8 := hide (And.intro hK8 (And.intro h1 (And.intro h2 h3)))
                clear hK8 h1 h2 h3
                go_wp2_with fail
                simp only [Exit.noGoto]
                refine bodyPost_ret (results_none rfl _ _ _) rfl ?_
                exact ⟨rfl, (unhide HE).trans (unhide HE8).1 (fun _ _ e => e), ab', be', (unhide HE8).2⟩
              · obtain ⟨u, hu, hbu⟩ : ∃ u : Nat, u < N ∧ be k = u := by
                  obtain ⟨i, i1, i2, _⟩ := ((unhide HD).1.dn k hkN).resolve_left hbe
                  exact ⟨i, i1, i2⟩
                rw [hbu] at f0
                have hpush := hseek.push (last := last) (by simp) hkN hask hE hu hbu
                obtain ⟨r, w7, hrun, hown7, hK7, hr7⟩ := app1_run w6 _ _ (u : Int) hown6 (by omega) (by rw [toI_len]; simp; have := unhide HN1; omega)
                have hz : w6.heap.size = w5.heap.size := by rw [hw6]; simp [World.setCell]
                rw [hz] at hrun
                have HRUN := hide hrun
                have HE := hide (And.intro hK36 (And.intro hpush (And.intro hown7 (And.intro hK7 (And.intro hka6 hcnt)))))
                have hfr : Hid (free N (upd asd k last) + 1 = free N asd ∧ free N (asOf Wo kb) = free N asd) := ⟨free_upd hkN hask (by omega), free_asOf hka⟩
                clear hown hka hseek hcnt hK hsa haa hba hKw hno hb2 hask b5 hb5 hin HI hK6 hka5 hka6 hba6 haa6 hown6 hE hKw6 hK36 hpush hown7 hK7 hr7 hrun hbe
                subst hw6
                go_wp2_with (at_builtin; refine wpList_append_run _ rfl _ _ 32 rfl _ _ rfl rfl _ _ (unhide HRUN) ?_)
                obtain ⟨hK36, hpush, hown7, hK7, hka6, hcnt⟩ := unhide HE
                have hka7 := hka6.keeps hK7 (fun e => by simp only [Value.ownBlock, Option.some.injEq] at e; omega)
                have hl7 := hown7.lenOf
                rw [List.length_append, toI_len] at hl7
                simp only [List.length_append, List.length_cons, List.length_nil] at hl7 hcnt
                have hnp := unhide HN1
                have hf7 := free_asOf hka7
                obtain ⟨hfr1, hfr2⟩ := unhide hfr
                refine ⟨⟨p1 ++ [last] ++ [u], upd asd k last, _, t + 1, by rw [toI_snoc]; exact hown7, hka7, hpush, ?_, hK36.trans hK7 (fun x _ e => ?_)⟩, ?_⟩
                · simp only [List.length_append, List.length_cons, List.length_nil]
                  omega
                · simp only [Value.ownBlock, Option.some.injEq] at e
                  exact .inr (by omega)
                · rw [hf7, hfr2, hl7]
                  simp only [lenOf]
                  omega
          · have hask2 : (asd k != -1) = true := by simpa using hask
            have HI := hide (And.intro (ARel.next hno (.inl hask)) hb2)
            generalize asd k = ak at x0 hask2
            clear hown hka hseek hcnt hK hsa haa hba hKw hno hb2 hask hbx
            go_wp2_with fail
            go_roundw
            case rel => exact ⟨rfl, k + 1, by omega, by go_num, (unhide HI).1, (unhide HI).2⟩
            case measure => simp [intOf]; omega
        · have hkN2 : k = N := by omega
          subst hkN2
          have HI := hide (And.intro hno hb2)
          clear hown hka hseek hcnt hK hsa haa hba hKw hno hb2 hbx
          go_wp2_with fail
          obtain ⟨hown, hka, hseek, hcnt, hK, hsa, haa, hba, hKw⟩ := unhide HF
          obtain ⟨hno, hb2⟩ := unhide HI
          have hka7 := hka.later hb2
          have hnp := unhide HN1
          rw [List.length_append] at hcnt
          simp only [List.length_cons, List.length_nil] at hcnt
          refine ⟨⟨p1, asd, rk, t, ?_, hka7, hseek.pop hno, by omega, hK.trans (Keeps.of_below (O := fun x => x = kb ∨ P ≤ x) hb2) (fun _ _ e => e)⟩, ?_⟩
          · have h1 := hown.keeps (O := fun _ => False) (Keeps.of_below hb2) (fun _ _ e => e)
            rw [toI_snoc] at h1
            have h2 := h1.cut
            rw [toI_len, ← hnp] at h2
            exact h2
          · rw [free_asOf hka7, free_asOf hka]
            simp only [lenOf]
            omega
end Go.Proofs.YthcljhfankooaabGreat.C

namespace Go.Proofs.YthcljhfankooaabGreat.C
open Go.RowKit Go.Shelf Go.Maps Go.Lib

set_option maxRecDepth 100000 in
set_option maxHeartbeats 2000000 in
theorem mul64_any (x y : Nat) (hx : x < 18446744073709551616) (hy : y < 18446744073709551616) (w : World) :
    Calls Tryz.prog 140 #[.int .u64 x, .int .u64 y] w fun e w' => e = .returned (.tuple #[.int .u64 ((x * y / 18446744073709551616 : Nat) : Int), .int .u64 ((x * y % 18446744073709551616 : Nat) : Int)]) ∧ w' = w := by
  obtain ⟨bd, bt, bw, hhi⟩ := Lib.mul64_hi x y hx hy
  have ba := Lib.half_mul_le (a := x / 4294967296) (b := y / 4294967296) (by omega) (by omega)
  have bb := Lib.half_mul_le (a := x / 4294967296) (b := y % 4294967296) (by omega) (by omega)
  have bc := Lib.half_mul_le (a := x % 4294967296) (b := y / 4294967296) (by omega) (by omega)
  have ba' : x / 4294967296 * (y / 4294967296) < 18446744073709551616 := by omega
  have bb' : x / 4294967296 * (y % 4294967296) < 18446744073709551616 := by omega
  have bc' : x % 4294967296 * (y / 4294967296) < 18446744073709551616 := by omega
  have bh1 : x / 4294967296 * (y / 4294967296) + (x / 4294967296 * (y % 4294967296) + x % 4294967296 * (y % 4294967296) / 4294967296) / 4294967296 < 18446744073709551616 := by omega
  have bh : x / 4294967296 * (y / 4294967296) + (x / 4294967296 * (y % 4294967296) + x % 4294967296 * (y % 4294967296) / 4294967296) / 4294967296 + ((x / 4294967296 * (y % 4294967296) + x % 4294967296 * (y % 4294967296) / 4294967296) % 4294967296 + x % 4294967296 * (y / 4294967296)) / 4294967296 < 18446744073709551616 := by omega
  go_enter Tryz.func140, Tryz.ntmps140
  go_wp2_with fail
  simp only [Mul64.maskN x hx, Mul64.maskN y hy, Mul64.divN, Mul64.mulN, Mul64.addN, Mul64.wrapN _ bd, Mul64.wrapN _ bb', Mul64.wrapN _ bt, Mul64.maskN _ bt, Mul64.wrapN _ bc', Mul64.wrapN _ bw, Mul64.wrapN _ ba', Mul64.wrapN _ bh1, Mul64.wrapN _ bh, Mul64.wrapM (x * y)]
  rw [hhi]
  go_ret2
  exact ⟨rfl, rfl⟩

set_option maxRecDepth 100000 in
set_option maxHeartbeats 2000000 in
theorem mul_any (x y : Nat) (hx : x < 18446744073709551616) (hy : y < 18446744073709551616) (w : World) :
    Calls Tryz.prog 117 #[.int .u64 x, .int .u64 y] w fun e w' => e = .returned (.tuple #[.int .u64 ((x * y / 18446744073709551616 : Nat) : Int), .int .u64 ((x * y % 18446744073709551616 : Nat) : Int)]) ∧ w' = w := by
  have c64 := mul64_any x y hx hy w
  go_enter Tryz.func117, Tryz.ntmps117
  go_wp2_with fail
  refine c64.mono ?_
  rintro e w' ⟨rfl, hw⟩
  rw [hw]
  go_wp2_with fail
  go_ret2
  exact ⟨rfl, rfl⟩

/-- A row that is being filled. -/
def FillR (w : World) (g n : Nat) (i : Value) (wr : World) : Prop := ∃ (k : Nat) (cur : Array Value), 1 ≤ k ∧ k ≤ n ∧ i = .int .i64 (k : Int) ∧ wr.heap[g]? = some (.cells cur 3 (0, 0)) ∧ cur.size = n ∧ (∀ j, j < k → cur[j]? = some (.int .i64 (-1))) ∧ Below w.heap.size w wr

theorem fill_at {cur : Array Value} {k c n : Nat} (hs : cur.size = n) (hk : k + c ≤ n) (h : ∀ j, j < k → cur[j]? = some (.int .i64 (-1))) :
    (cur.toList.take k ++ List.replicate c (Value.int .i64 (-1)) ++ cur.toList.drop (k + (List.replicate c (Value.int .i64 (-1))).length)).toArray.size = n ∧ ∀ j, j < k + c → (cur.toList.take k ++ List.replicate c (Value.int .i64 (-1)) ++ cur.toList.drop (k + (List.replicate c (Value.int .i64 (-1))).length)).toArray[j]? = some (.int .i64 (-1)) := by
  refine ⟨by simp; omega, fun j hj => ?_⟩
  rw [List.getElem?_toArray, List.getElem?_append_left (by simp; omega)]
  by_cases h1 : j < k
  · rw [List.getElem?_append_left (by simp; omega), List.getElem?_take_of_lt h1]
    simpa using h j h1
  · rw [List.getElem?_append_right (by simp; omega), List.getElem?_replicate, if_pos (by simp; omega)]
/-- 'copy' within the row. -/
theorem copy_fill (w : World) (g k n : Nat) (cur : Array Value) (c1 c2 : Nat) (hg : w.heap[g]? = some (.cells cur 3 (0, 0))) (hs : cur.size = n) (hk : k ≤ n) (h : ∀ j, j < k → cur[j]? = some (.int .i64 (-1))) :
    ∃ w' cur', (Builtin.copy_ #[32, 32] 3 #[.slice (some ⟨g, k, none⟩) (n - k) c1, .slice (some ⟨g, 0, none⟩) k c2]).run Tryz.prog w = .ok (.int .i64 ((Nat.min k (n - k) : Nat) : Int)) w' ∧ w'.heap[g]? = some (.cells cur' 3 (0, 0)) ∧ cur'.size = n ∧ (∀ j, j < k + Nat.min k (n - k) → cur'[j]? = some (.int .i64 (-1))) ∧ Keeps (fun b => b = g) w w' := by
  have hu : Tryz.prog.underlying 32 = some (.slice 3) := by kernel_rfl
  have hsz : (Tryz.prog.info? 3).map (·.size) = some 1 := by kernel_rfl
  have hm1 : Nat.min k (n - k) ≤ k := Nat.min_le_left _ _
  have hm2 : Nat.min k (n - k) ≤ n - k := Nat.min_le_right _ _
  have hr := run_copy_row (P := Tryz.prog) w 32 32 3 3 g k (n - k) c1 ⟨g, 0, none⟩ k c2 cur 3 (List.replicate (Nat.min k (n - k)) (.int .i64 (-1))) hu hsz hg (by simp) (fun j v hj => by
    rw [List.getElem?_replicate] at hj
    split at hj
    · rename_i hlt
      cases hj
      rw [Addr.add_lit, cell_at hg, Nat.zero_add]
      exact h j (by omega)
    · cases hj) (by simp; omega) (fun v hv => by rw [List.eq_of_mem_replicate hv]; rfl)
  obtain ⟨f1, f2⟩ := fill_at (c := Nat.min k (n - k)) hs (by omega) h
  refine ⟨_, _, hr.trans ?_, setRow_heap w g cur _ _ _ hg, f1, f2, ⟨rfl, rfl, rfl, by simp [World.setRow], fun b o hb hn => (setRow_other w g b _ hn).trans hb⟩⟩
  rw [List.length_replicate]
  rfl
theorem copy_step {w : World} {ops : Array Oper} {rest : List Oper} {o : Oper} {a : Act} {Q : Exit → Act → World → Prop} (hgd : o.guard = none) (d s : Operand) (t : TypeId)
    (ho : o.op = .call { callee := .builtin .copy, args := #[d, s], argTypes := #[t, t] }) (v u : Value) (hd : a.eval d = v) (hs : a.eval s = u) {v' : Value} {w' : World}
    (hr : (Builtin.copy_ #[t, t] o.type #[v, u]).run Tryz.prog w = .ok v' w') (h : wpList Tryz.prog ops Q rest (a.put o.dst v') w') : wpList Tryz.prog ops Q (o :: rest) a w := by
  refine wpList_plain hgd fun _ hK => ?_
  unfold Oper.wp execOp
  simp only [ho, resolve, invoke, builtin, Sem.run_bind, Sem.run_pure, Result.andThen_ok, List.map_toArray, List.map_cons, List.map_nil, hd, hs, hr]
  exact hK _ _ h
theorem copy_drawn {ops : Array Oper} {o : Oper} {a : Act} {w : World} {K : Act → World → Prop} {Q : Exit → Act → World → Prop} {E : Prop}
    (hg : o.guard = none) (d x : Operand) (t : TypeId) (hop : o.op = Op.call { callee := Callee.builtin Builtin.copy, args := #[d, x], argTypes := #[t, t] })
    (v u : Value) (hd : a.eval d = v) (hx : a.eval x = u) {v' : Value} {w' : World} (hr : (Builtin.copy_ #[t, t] o.type #[v, u]).run Tryz.prog w = .ok v' w') (hK : K (a.put o.dst v') w') :
    if Region.wanted o (yielded ops a.tmps) = true then Oper.wp Tryz.prog o a w K Q else E := by
  have hw : Region.wanted o (yielded ops a.tmps) = true := by simp [Region.wanted, hg]
  rw [if_pos hw]
  unfold Oper.wp
  simp [execOp, hop, resolve, invoke, builtin, hd, hx, hr, Result.andThen]
  exact hK

/-- The first 'copy'. -/
theorem copy_first (w : World) (g xb n : Nat) (cur : Array Value) (c1 : Nat) (hg : w.heap[g]? = some (.cells cur 3 (0, 0))) (hs : cur.size = n) (hn : 1 ≤ n) (hx : w.cell? ⟨xb, 0, none⟩ = some (.int .i64 (-1))) :
    ∃ w' cur', (Builtin.copy_ #[32, 32] 3 #[.slice (some ⟨g, 0, none⟩) n c1, .slice (some ⟨xb, 0, none⟩) 1 1]).run Tryz.prog w = .ok (.int .i64 1) w' ∧ w'.heap[g]? = some (.cells cur' 3 (0, 0)) ∧ cur'.size = n ∧ (∀ j, j < 1 → cur'[j]? = some (.int .i64 (-1))) ∧ Keeps (fun b => b = g) w w' := by
  have hu : Tryz.prog.underlying 32 = some (.slice 3) := by kernel_rfl
  have hsz : (Tryz.prog.info? 3).map (·.size) = some 1 := by kernel_rfl
  have hm : Nat.min 1 n = 1 := Nat.min_eq_left hn
  have hr := run_copy_row (P := Tryz.prog) w 32 32 3 3 g 0 n c1 ⟨xb, 0, none⟩ 1 1 cur 3 (List.replicate 1 (.int .i64 (-1))) hu hsz hg (by rw [hm]; rfl) (fun j v hj => by
    rw [List.getElem?_replicate] at hj
    split at hj
    · rename_i hlt
      cases hj
      have : j = 0 := by omega
      subst this
      rw [Addr.add_lit]
      exact hx
    · cases hj) (by simp; omega) (fun v hv => by rw [List.eq_of_mem_replicate hv]; rfl)
  obtain ⟨f1, f2⟩ := fill_at (k := 0) (c := 1) hs (by omega) (fun j hj => by omega)
  exact ⟨_, _, hr, setRow_heap w g cur _ _ _ hg, f1, fun j hj => f2 j (by omega), ⟨rfl, rfl, rfl, by simp [World.setRow], fun b o hb hn => (setRow_other w g b _ hn).trans hb⟩⟩

set_option maxRecDepth 100000 in
set_option maxHeartbeats 4000000 in
theorem repeat_any (w : World) (n xb : Nat) (h1 : 1 ≤ n) (h2 : n ≤ 1000) (hx : w.cell? ⟨xb, 0, none⟩ = some (.int .i64 (-1))) :
    Calls Tryz.prog 81 #[.slice (some ⟨xb, 0, none⟩) 1 1, .int .i64 (n : Int)] w fun e w' => ∃ b c, e = .returned (.slice (some ⟨b, 0, none⟩) n c) ∧ w.heap.size ≤ b ∧ Arr w' b n (fun _ => -1) ∧ Below w.heap.size w w' := by
  have hm := mul_any 1 n (by omega) (by omega) w
  have e1 : 1 * n / 18446744073709551616 = 0 := by omega
  have e2 : 1 * n % 18446744073709551616 = n := by omega
  rw [e1, e2] at hm
  clear e1 e2
  have hxl : xb < w.heap.size := by obtain ⟨_, h, _⟩ := cells_of_cell hx; exact lt_heap h
  obtain ⟨i0, hi0, hz0, hz1, hz2⟩ := infoI
  have ht : Tryz.prog.underlying 32 = some (.slice 3) := by kernel_rfl
  obtain ⟨w1, hmk, hown, hgr⟩ := run_make_full (P := Tryz.prog) w w.heap.size 32 3 i0 (.int .i64 0) 1 ht hi0 hz0 hz1 .i64 .i64 n (by rw [hz2]; omega) (by unfold maxLen; omega) (Nat.le_refl _)
  obtain ⟨cur, hh, hcs⟩ : ∃ cur, w1.heap[w.heap.size]? = some (.cells cur 3 (0, 0)) ∧ cur.size = n := by
    rcases hown.2 with ⟨h', _⟩ | ⟨g, cap, cur, h', _, h3, _, _, h5, _⟩
    · simp at h'
    · simp only [Value.slice.injEq, Option.some.injEq, Addr.mk.injEq] at h'
      obtain ⟨⟨rfl, _⟩, _, rfl⟩ := h'
      exact ⟨cur, h3, by omega⟩
  have b1 : Below w.heap.size w w1 := ⟨hgr.os, hgr.tape, hgr.output, hgr.size, fun k hk => hgr.block k hk (fun e => by cases e)⟩
  obtain ⟨w2, cur2, hcp, hh2, hs2, hf2, hK2⟩ := copy_first w1 w.heap.size xb n cur n hh hcs h1 ((b1.cell (p := ⟨xb, 0, none⟩) hxl).trans hx)
  have b2 : Below w.heap.size w w2 := b1.trans (hK2.below hgr.size (fun b e => by omega))
  have HF : Hid (FillR w w.heap.size n (.int .i64 1) w2) := ⟨1, cur2, Nat.le_refl _, h1, rfl, hh2, hs2, hf2, b2⟩
  have hnn : ¬ ((n : Int) < 0) := by omega
  have hnb : ¬ ((9223372036854775807 : Int) < (n : Int)) := by omega
  have mixed : Tryz.prog.follows .mixedOrders = true := by kernel_rfl
  clear hown hgr hh hcs b1 hh2 hs2 hf2 hK2 b2 hi0 hz0 hz1 hz2 ht hx
  go_enter Tryz.func81, Tryz.ntmps81
  go_wp2_with fail
  refine hm.mono ?_
  clear hm
  rintro e w' ⟨rfl, hw⟩
  subst hw
  obtain ⟨G, hG⟩ : ∃ G, G = w'.heap.size := ⟨_, rfl⟩
  have HG := hide hG
  rw [← hG] at hmk hcp HF
  clear hG
  go_wp2_with (at_builtin; refine copy_step rfl _ _ 32 rfl _ _ rfl rfl hcp ?_)
  go_loopw [8] (fun i wr => FillR w' G n i wr) (fun i _ => n - (intOf i).toNat)
  case atStart => exact unhide HF
  case round =>
    obtain ⟨k, cur, hk1, hk2, rfl, hh, hs, hf, hb⟩ := hrel
    by_cases hkn : k < n
    · obtain ⟨w5, cur5, hcp5, hh5, hs5, hf5, hK5⟩ := copy_fill wr.drew G k n cur (n - k) n hh hs hk2 hf
      have HN : Hid (FillR w' G n (.int .i64 ((k + Nat.min k (n - k) : Nat) : Int)) w5) := ⟨k + Nat.min k (n - k), cur5, by omega, by have : Nat.min k (n - k) ≤ n - k := Nat.min_le_right _ _; omega, rfl, hh5, hs5, hf5, hb.drew.trans (hK5.below hb.size (fun b e => by have := unhide HG; omega))⟩
      have hmin : 1 ≤ Nat.min k (n - k) := Nat.le_min.2 ⟨hk1, by omega⟩
      have hmx : Nat.min k (n - k) ≤ n - k := Nat.min_le_right _ _
      generalize Nat.min k (n - k) = c at hcp5 HN hmin hmx
      clear hh hs hf hb hh5 hs5 hf5 hK5
      have hci : ¬ (n = k) := by omega
      have hb3 : (k : Int) ≤ (n : Int) := by omega
      go_wp2_with fail
      go_region_law_o (refine copy_drawn rfl _ _ 32 rfl _ _ (by simp [Act.eval, Act.put]) (by simp [Act.eval, Act.put]) hcp5 ?_)
      have hwr : IntKind.i64.wrap ((k : Int) + (c : Int)) = ((k + c : Nat) : Int) := by rw [IntKind.wrap_i64]; omega
      simp [Act.put, Array.setIfInBounds]
      rw [hwr]
      go_wp2_with fail
      go_roundw
      case rel =>
        have := unhide HN
        rw [Int.natCast_add] at this
        exact this
      case measure => simp [intOf]; omega
    · have hkn2 : k = n := by omega
      subst hkn2
      have HE : Hid (Arr wr G k (fun _ => -1) ∧ Below w'.heap.size w' wr) := ⟨⟨cur, hh, hf⟩, hb⟩
      clear hh hs hf hb
      go_wp2_with fail
      go_ret
      exact ⟨_, _, rfl, by rw [unhide HG]; exact Nat.le_refl _, unhide HE⟩

set_option maxRecDepth 100000 in
set_option maxHeartbeats 4000000 in
theorem nones_any : NonesC := by
  intro w n h1 h2
  have hr := repeat_any (w.alloc (.cells #[.int .i64 (-1)] 3)) n w.heap.size h1 h2 ((cell_at (World.alloc_heap_new _ _) 0).trans rfl)
  have b1 : Below w.heap.size w (w.alloc (.cells #[.int .i64 (-1)] 3)) := (Below.refl _ w).alloc (Nat.le_refl _) _
  have HB := hide b1
  clear b1
  go_enter Tryz.func62, Tryz.ntmps62
  go_wp2_with fail
  refine hr.mono ?_
  clear hr
  rintro e w2 ⟨b, c, rfl, hb, ha, hb2⟩
  have HE := hide (And.intro hb (And.intro ha hb2))
  clear hb ha hb2
  go_wp2_with fail
  go_ret
  have hs := (unhide HB).size
  exact ⟨b, c, rfl, Nat.le_trans hs (unhide HE).1, (unhide HE).2.1, (unhide HB).trans ((unhide HE).2.2.mono hs)⟩
end Go.Proofs.YthcljhfankooaabGreat.C
