/- A number back to its value: back of a Num and of a Sym. -/
import Derived.Test.YtpiehfjgokfdeaaDoorBackMN
import Derived.Test.YtpiehfjgokfdeaaDoorAlive
namespace Go.Proofs.YtpiehfjgokfdeaaDoor
open Go.RowKit

/-- All numbers in a value have 64 bits, its lengths are lengths. -/
def V.Small : V → Prop
  | .none => True
  | .mk k n s _ l _ f => (-9223372036854775808 ≤ k ∧ k ≤ 9223372036854775807 ∧ -9223372036854775808 ≤ n ∧ n ≤ 9223372036854775807 ∧ s.size ≤ 9223372036854775807) ∧ ∀ i, i < l → (f i).Small
theorem V.Small.top {v : V} (h : v.Small) : -9223372036854775808 ≤ v.kind ∧ v.kind ≤ 9223372036854775807 ∧ -9223372036854775808 ≤ v.num ∧ v.num ≤ 9223372036854775807 ∧ v.str.size ≤ 9223372036854775807 := by
  cases v with
  | none => exact ⟨by decide, by decide, by decide, by decide, by decide⟩
  | mk k n s a l c f => exact h.1
theorem V.Small.kid {v : V} (h : v.Small) : ∀ i, i < v.len → (v.kid i).Small := by
  cases v with
  | none => exact fun i hi => absurd hi (Nat.not_lt_zero i)
  | mk k n s a l c f => exact h.2
theorem V.Small.of {v : V} (h : -9223372036854775808 ≤ v.kind ∧ v.kind ≤ 9223372036854775807 ∧ -9223372036854775808 ≤ v.num ∧ v.num ≤ 9223372036854775807 ∧ v.str.size ≤ 9223372036854775807) (hk : ∀ i, i < v.len → (v.kid i).Small) : v.Small := by
  cases v with
  | none => trivial
  | mk k n s a l c f => exact ⟨h, hk⟩
theorem V.At.small {B : Nat} {w : World} : ∀ v : V, v.At B w → v.Small := by
  refine V.ind fun v ih h => ?_
  have hf := h.flat
  exact V.Small.of ⟨hf.k0, hf.k1, hf.n0, hf.n1, hf.s⟩ (fun i hi => ih i hi (h.kid i hi))

/-- What came back: a value like it, in memory that was made since. -/
def Got (W w' : World) (v : V) (r : Value) : Prop := ∃ u : V, r = u.val ∧ u.At w'.heap.size w' ∧ u.ord v = 0 ∧ ∀ k, u.uses k → W.heap.size ≤ k

def BackC (v : V) : Prop := ∀ (W : World) (p : SP) (S : SS) (d : Nat) (m : Int), Sto W p S → (∀ l ∈ S.ns, l.length = 18) → v.may d = true → v.Small → v.IsIn S m →
  Calls Tryd.prog 42 #[.pointer (some ⟨p.hb, 0, none⟩), .int .i64 v.kind, .int .i64 m] W fun e w' => ∃ r, e = .returned (.tuple #[r, .bool true]) ∧ Got W w' v r ∧ Below W.heap.size W w'

/-- A value without Args. -/
def bare (k n : Int) (s : ByteArray) : V := .mk k n s .none 0 0 fun _ => .none
theorem bare_at {k n : Int} {s : ByteArray} {B : Nat} {w : World} (h1 : -9223372036854775808 ≤ k ∧ k ≤ 9223372036854775807) (h2 : -9223372036854775808 ≤ n ∧ n ≤ 9223372036854775807) (h3 : s.size ≤ 9223372036854775807) : (bare k n s).At B w :=
  V.At.of ⟨h1.1, h1.2, h2.1, h2.2, h3, Nat.zero_le _, fun i hi => absurd hi (Nat.not_lt_zero i)⟩ (fun i hi => absurd hi (Nat.not_lt_zero i))
theorem bare_uses {k n : Int} {s : ByteArray} (j : Nat) : ¬ (bare k n s).uses j := fun h => by
  rcases (V.uses_eq _ _).1 h with h | ⟨i, hi, _⟩
  · exact absurd h.1 (Nat.lt_irrefl 0)
  · exact absurd hi (Nat.not_lt_zero i)

set_option maxRecDepth 100000 in
set_option maxHeartbeats 4000000 in
theorem back_num (v : V) (W : World) (p : SP) (S : SS) (d : Nat) (m : Int) (hm : v.may d = true) (hs : v.Small) (hin : v.IsIn S m) (hk : v.kind = 1) :
    Calls Tryd.prog 42 #[.pointer (some ⟨p.hb, 0, none⟩), .int .i64 v.kind, .int .i64 m] W fun e w' => ∃ r, e = .returned (.tuple #[r, .bool true]) ∧ Got W w' v r ∧ Below W.heap.size W w' := by
  have HG : Hid (∀ w', Got W w' v (.agg #[.int .i64 1, .int .i64 m, .string ⟨#[]⟩, .slice none 0 0])) := fun w' => by
    rw [isIn_num hk] at hin
    subst hin
    have a := may_num0 hm hk
    have t := hs.top
    refine ⟨bare 1 v.num ⟨#[]⟩, rfl, bare_at (by omega) ⟨t.2.2.1, t.2.2.2.1⟩ (by decide), ?_, fun j hj => absurd hj (bare_uses j)⟩
    rw [ord_zero]
    exact ⟨hk.symm, rfl, str_nil rfl a.1, a.2.symm, fun i hi => absurd hi (Nat.not_lt_zero i)⟩
  rw [hk]
  clear hk hin hs hm
  have b1 := below_box W V.none.obj
  go_enter Tryd.func42, Tryd.ntmps42
  go_wp2_with fail
  refine bodyPost_ret (v := .tuple #[.agg #[.int .i64 1, .int .i64 m, .string ⟨#[]⟩, .slice none 0 0], .bool true]) (by simp [results, Tryd.results42, go_sem]) rfl ?_
  exact ⟨_, rfl, unhide HG _, below_box W _⟩

theorem sym_at {xs : List ByteArray} {j : Nat} {s : ByteArray} (h : xs[j]? = some s) : Sym.textAt xs (j : Int) = s ∧ Sym.isNum xs (j : Int) = true := by
  have hj := (List.getElem?_eq_some_iff.1 h).1
  unfold Sym.textAt Sym.isNum
  refine ⟨?_, by simp; omega⟩
  rw [if_pos (by omega)]
  simp [h]

set_option maxRecDepth 100000 in
set_option maxHeartbeats 4000000 in
theorem backSym_any (W : World) (p : SP) (S : SS) (j : Nat) (s : ByteArray) (h : Sto W p S) (hj : S.xs[j]? = some s) :
    Calls Tryd.prog 64 #[.pointer (some ⟨p.hb, 0, none⟩), .int .i64 (j : Int)] W fun e w' => e = .returned (.tuple #[.agg #[.int .i64 2, .int .i64 0, .string s, .slice none 0 0], .bool true]) ∧ Below W.heap.size W w' := by
  have b1 := below_box W (.cells #[.int .i64 0, .int .i64 0, .string ⟨#[]⟩, .slice none 0 0] 24)
  have h1 := h.later b1
  have d0 := h1.d0
  have C := Sym.text_any h1.T1 (j : Int)
  rw [(sym_at hj).1, (sym_at hj).2] at C
  have HC := hide C
  clear C h h1 hj b1
  go_enter Tryd.func64, Tryd.ntmps64
  go_wp2_with fail
  refine (unhide HC).mono ?_
  rintro e w' ⟨rfl, rfl⟩
  go_wp2_with fail
  refine bodyPost_ret (v := .tuple #[.agg #[.int .i64 2, .int .i64 0, .string s, .slice none 0 0], .bool true]) (by simp [results, Tryd.results64, go_sem]) rfl ?_
  exact ⟨rfl, below_box W _⟩

set_option maxRecDepth 100000 in
set_option maxHeartbeats 4000000 in
theorem back_sym (v : V) (W : World) (p : SP) (S : SS) (d : Nat) (m : Int) (h : Sto W p S) (hm : v.may d = true) (hs : v.Small) (hin : v.IsIn S m) (hk : v.kind = 2) :
    Calls Tryd.prog 42 #[.pointer (some ⟨p.hb, 0, none⟩), .int .i64 v.kind, .int .i64 m] W fun e w' => ∃ r, e = .returned (.tuple #[r, .bool true]) ∧ Got W w' v r ∧ Below W.heap.size W w' := by
  rw [isIn_sym hk] at hin
  obtain ⟨j, rfl, hj⟩ := hin
  have HG : Hid (∀ w', Got W w' v (.agg #[.int .i64 2, .int .i64 0, .string v.str, .slice none 0 0])) := fun w' => by
    have a := may_sym0 hm hk
    have t := hs.top
    refine ⟨bare 2 0 v.str, rfl, bare_at (by omega) (by omega) t.2.2.2.2, ?_, fun j hj => absurd hj (bare_uses j)⟩
    rw [ord_zero]
    exact ⟨hk.symm, a.1.symm, rfl, a.2.symm, fun i hi => absurd hi (Nat.not_lt_zero i)⟩
  rw [hk]
  clear hk hs hm
  have b1 := below_box W (.cells #[.int .i64 0, .int .i64 0, .string ⟨#[]⟩, .slice none 0 0] 24)
  have HC := hide (backSym_any _ p S j v.str (h.later b1) hj)
  clear h hj
  go_enter Tryd.func42, Tryd.ntmps42
  go_wp2_with fail
  refine (unhide HC).mono ?_
  rintro e w2 ⟨rfl, b2⟩
  have hbx : CellsAt w2 W.heap.size 0 V.none := (boxed W V.none).below b2 (by simp)
  have hob : w2.heap[W.heap.size]? = some V.none.obj := (b2.block W.heap.size (by simp)).trans (World.alloc_heap_new W _)
  have f0 : ∀ o, w2.frozen? ⟨W.heap.size, o, none⟩ = false := fun o => by simp [World.frozen?, hob, V.obj]
  have x0 := hbx.z.1
  have x1 := hbx.z.2.1
  have x2 := hbx.z.2.2.1
  have x3 := hbx.z.2.2.2
  have bw : Below W.heap.size W w2 := b1.trans (b2.mono (by simp))
  clear HC b1 b2 hbx
  go_wp2_with fail
  refine bodyPost_ret (v := .tuple #[.agg #[.int .i64 2, .int .i64 0, .string v.str, .slice none 0 0], .bool true]) (by simp [results, Tryd.results42, go_sem, x0, x1, x2, x3]) rfl ?_
  exact ⟨_, rfl, unhide HG _, (((bw.setCell (Nat.le_refl _) _).setCell (Nat.le_refl _) _).setCell (Nat.le_refl _) _).setCell (Nat.le_refl _) _⟩

theorem turn_four (w : World) (g : Nat) (q0 q1 q2 q3 : Value) : Turn (· = g) w ((((w.setCell ⟨g, 0, none⟩ q0).setCell ⟨g, 1, none⟩ q1).setCell ⟨g, 2, none⟩ q2).setCell ⟨g, 3, none⟩ q3) := by
  have h := (((Below.refl 0 w).setCell (p := ⟨g, 0, none⟩) (Nat.zero_le _) q0).setCell (p := ⟨g, 1, none⟩) (Nat.zero_le _) q1).setCell (p := ⟨g, 2, none⟩) (Nat.zero_le _) q2 |>.setCell (p := ⟨g, 3, none⟩) (Nat.zero_le _) q3
  exact ⟨h.os, h.tape, h.output, h.size, fun k _ hk => by
    rw [Below.heap_setCell _ _ _ _ hk, Below.heap_setCell _ _ _ _ hk, Below.heap_setCell _ _ _ _ hk, Below.heap_setCell _ _ _ _ hk]⟩

/-- What is asked of backCon. -/
def BackConC (v : V) : Prop := ∀ (W : World) (p : SP) (S : SS) (d : Nat) (m : Int), Sto W p S → (∀ l ∈ S.ns, l.length = 18) → v.may d = true → v.Small → v.IsIn S m →
  Calls Tryd.prog 65 #[.pointer (some ⟨p.hb, 0, none⟩), .int .i64 m] W fun e w' => ∃ r, e = .returned (.tuple #[r, .bool true]) ∧ Got W w' v r ∧ Below W.heap.size W w'

set_option maxRecDepth 100000 in
set_option maxHeartbeats 4000000 in
theorem back_con (v : V) (hc : BackConC v) (W : World) (p : SP) (S : SS) (d : Nat) (m : Int) (h : Sto W p S) (h18 : ∀ l ∈ S.ns, l.length = 18) (hm : v.may d = true) (hs : v.Small) (hin : v.IsIn S m) (hk : v.kind = 3) :
    Calls Tryd.prog 42 #[.pointer (some ⟨p.hb, 0, none⟩), .int .i64 v.kind, .int .i64 m] W fun e w' => ∃ r, e = .returned (.tuple #[r, .bool true]) ∧ Got W w' v r ∧ Below W.heap.size W w' := by
  rw [hk]
  have b1 := below_box W (.cells #[.int .i64 0, .int .i64 0, .string ⟨#[]⟩, .slice none 0 0] 24)
  have HC := hide (hc _ p S d m (h.later b1) h18 hm hs hin)
  clear h hin hk hs hm hc h18
  go_enter Tryd.func42, Tryd.ntmps42
  go_wp2_with fail
  refine (unhide HC).mono ?_
  rintro e w2 ⟨r, rfl, ⟨u, rfl, hu, hlike, hfar⟩, b2⟩
  have hbx : CellsAt w2 W.heap.size 0 V.none := (boxed W V.none).below b2 (by simp)
  have hob : w2.heap[W.heap.size]? = some V.none.obj := (b2.block W.heap.size (by simp)).trans (World.alloc_heap_new W _)
  have f0 : ∀ o, w2.frozen? ⟨W.heap.size, o, none⟩ = false := fun o => by simp [World.frozen?, hob, V.obj]
  have x0 := hbx.z.1
  have x1 := hbx.z.2.1
  have x2 := hbx.z.2.2.1
  have x3 := hbx.z.2.2.2
  have bw : Below W.heap.size W w2 := b1.trans (b2.mono (by simp))
  have HG : Hid (∀ q0 q1 q2 q3, Got W ((((w2.setCell ⟨W.heap.size, 0, none⟩ q0).setCell ⟨W.heap.size, 1, none⟩ q1).setCell ⟨W.heap.size, 2, none⟩ q2).setCell ⟨W.heap.size, 3, none⟩ q3) v u.val) := fun q0 q1 q2 q3 => by
    refine ⟨u, rfl, ?_, hlike, fun k hk => ?_⟩
    · have t : Turn (· = W.heap.size) w2 ((((w2.setCell ⟨W.heap.size, 0, none⟩ q0).setCell ⟨W.heap.size, 1, none⟩ q1).setCell ⟨W.heap.size, 2, none⟩ q2).setCell ⟨W.heap.size, 3, none⟩ q3) := turn_four _ _ _ _ _ _
      have := V.At.turn' t u hu (fun k hk e => by have := hfar k hk; simp at this; omega)
      exact this.more t.size _
    · have := hfar k hk
      simp at this
      omega
  clear HC b1 b2 hbx hu hlike hfar
  go_wp2_with fail
  refine bodyPost_ret (v := .tuple #[u.val, .bool true]) (by simp [results, Tryd.results42, go_sem, x0, x1, x2, x3, V.val]) rfl ?_
  exact ⟨_, rfl, unhide HG _ _ _ _, (((bw.setCell (Nat.le_refl _) _).setCell (Nat.le_refl _) _).setCell (Nat.le_refl _) _).setCell (Nat.le_refl _) _⟩

theorem back_any (hcon : ∀ v : V, (∀ i, i < v.len → BackC (v.kid i)) → v.kind = 3 → BackConC v) : ∀ v : V, BackC v := by
  refine V.ind fun v ih W p S d m h h18 hm hs hin => ?_
  rcases kinds_of hm with hk | hk | hk
  · exact back_num v W p S d m hm hs hin hk
  · exact back_sym v W p S d m h hm hs hin hk
  · exact back_con v (hcon v ih hk) W p S d m h h18 hm hs hin hk
end Go.Proofs.YtpiehfjgokfdeaaDoor
