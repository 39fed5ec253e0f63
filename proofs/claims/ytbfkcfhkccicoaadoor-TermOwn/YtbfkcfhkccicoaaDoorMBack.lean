/- A number back to its value: back of a Num and of a Sym. A node is read in the store's row, and written into a new block, in one step. backCon: what stands in memory before its loop and between two rounds. backCon's loop: an Arg that came back is appended. backCon: what it answers, behind its loop. -/
import Derived.Test.YtbfkcfhkccicoaaDoorBackMN
import Derived.Test.YtbfkcfhkccicoaaDoorAlive
import Derived.Deep.MidRow
import Derived.Deep.WholeRow
import Derived.Test.YtbfkcfhkccicoaaDoorNodeSl
import Derived.Deep.RegionWith
import Derived.Maps.AppendAt
namespace Go.Proofs.YtbfkcfhkccicoaaDoor
open Go.RowKit

/-- All numbers in a value have 64 bits, its lengths are lengths. -/
def V.Small : V → Prop
  | .none => True
  | .mk k n s _ l _ f => (-9223372036854775808 ≤ k ∧ k ≤ 9223372036854775807 ∧ -9223372036854775808 ≤ n ∧ n ≤ 9223372036854775807 ∧ s.size ≤ 9223372036854775807) ∧ ∀ i, i < l → (f i).Small
theorem V.Small.top {v : V} (h : v.Small) : -9223372036854775808 ≤ v.kind ∧ v.kind ≤ 9223372036854775807 ∧ -9223372036854775808 ≤ v.num ∧ v.num ≤ 9223372036854775807 ∧ v.str.size ≤ 9223372036854775807 := by
  cases v with
  | none => exact ⟨by decide, by decide, by decide, by decide, by decide⟩
  | mk k n s a l c f => exact h.1
theorem V.Small.kid {v : V} (h : v.Small) : ∀ i, i < v.len → (v.kid i).Small := by
  cases v with
  | none => exact fun i hi => absurd hi (Nat.not_lt_zero i)
  | mk k n s a l c f => exact h.2
theorem V.Small.of {v : V} (h : -9223372036854775808 ≤ v.kind ∧ v.kind ≤ 9223372036854775807 ∧ -9223372036854775808 ≤ v.num ∧ v.num ≤ 9223372036854775807 ∧ v.str.size ≤ 9223372036854775807) (hk : ∀ i, i < v.len → (v.kid i).Small) : v.Small := by
  cases v with
  | none => trivial
  | mk k n s a l c f => exact ⟨h, hk⟩
theorem V.At.small {B : Nat} {w : World} : ∀ v : V, v.At B w → v.Small := by
  refine V.ind fun v ih h => ?_
  have hf := h.flat
  exact V.Small.of ⟨hf.k0, hf.k1, hf.n0, hf.n1, hf.s⟩ (fun i hi => ih i hi (h.kid i hi))

/-- The Args lie in rows of their own, which may be written. -/
def V.Pl (w : World) : V → Prop
  | .none => True
  | .mk _ _ _ a l _ f => (0 < l → ∃ b cur, a = some ⟨b, 0, .none⟩ ∧ w.heap[b]? = some (.cells cur 32 (0, 0))) ∧ ∀ i, i < l → (f i).Pl w
theorem V.Pl.row {w : World} : ∀ {v : V}, v.Pl w → 0 < v.len → ∃ b cur, v.addr = some ⟨b, 0, .none⟩ ∧ w.heap[b]? = some (.cells cur 32 (0, 0))
  | .none, _, h => absurd h (Nat.lt_irrefl 0)
  | .mk _ _ _ _ _ _ _, h, h0 => h.1 h0
theorem V.Pl.kid {w : World} : ∀ {v : V}, v.Pl w → ∀ i, i < v.len → (v.kid i).Pl w
  | .none, _, i, hi => absurd hi (Nat.not_lt_zero i)
  | .mk _ _ _ _ _ _ _, h, i, hi => h.2 i hi
theorem V.Pl.of {w : World} : ∀ {v : V}, (0 < v.len → ∃ b cur, v.addr = some ⟨b, 0, .none⟩ ∧ w.heap[b]? = some (.cells cur 32 (0, 0))) → (∀ i, i < v.len → (v.kid i).Pl w) → v.Pl w
  | .none, _, _ => trivial
  | .mk _ _ _ _ _ _ _, h, k => ⟨h, k⟩
theorem V.Pl.same {w w' : World} : ∀ v : V, v.Pl w → (∀ k, v.uses k → k < w.heap.size → w'.heap[k]? = w.heap[k]?) → v.Pl w' := by
  refine V.ind fun v ih h hu => ?_
  refine V.Pl.of (fun h0 => ?_) (fun i hi => ih i hi (h.kid i hi) (fun k hk hl => hu k ((V.uses_eq _ _).2 (.inr ⟨i, hi, hk⟩)) hl))
  obtain ⟨b, cur, e, hb⟩ := h.row h0
  exact ⟨b, cur, e, (hu b ((V.uses_eq _ _).2 (.inl ⟨h0, by rw [e]; rfl⟩)) (Array.getElem?_eq_some_iff.1 hb).1).trans hb⟩
theorem V.Pl.turn {O : Nat → Prop} {w w' : World} (t : Turn O w w') (v : V) (h : v.Pl w) (hu : ∀ k, v.uses k → ¬ O k) : v.Pl w' := V.Pl.same v h (fun k hk hl => t.block k hl (hu k hk))
theorem V.Pl.below {w w' : World} {v : V} (h : v.Pl w) (b : Below w.heap.size w w') : v.Pl w' := V.Pl.same v h (fun k _ hl => b.block k hl)
/-- What came back: a value like it, in memory that was made since. -/
def Got (W w' : World) (v : V) (r : Value) : Prop := ∃ u : V, r = u.val ∧ u.At w'.heap.size w' ∧ u.ord v = 0 ∧ (∀ k, u.uses k → W.heap.size ≤ k) ∧ u.Pl w'

def BackC (v : V) : Prop := ∀ (W : World) (p : SP) (S : SS) (d : Nat) (m : Int), Sto W p S → (∀ l ∈ S.ns, l.length = 18) → v.may d = true → v.Small → v.IsIn S m →
  Calls Tryd.prog 25 #[.pointer (some ⟨p.hb, 0, none⟩), .int .i64 v.kind, .int .i64 m] W fun e w' => ∃ r, e = .returned (.tuple #[r, .bool true]) ∧ Got W w' v r ∧ Below W.heap.size W w'

/-- A value without Args. -/
def bare (k n : Int) (s : ByteArray) : V := .mk k n s .none 0 0 fun _ => .none
theorem bare_at {k n : Int} {s : ByteArray} {B : Nat} {w : World} (h1 : -9223372036854775808 ≤ k ∧ k ≤ 9223372036854775807) (h2 : -9223372036854775808 ≤ n ∧ n ≤ 9223372036854775807) (h3 : s.size ≤ 9223372036854775807) : (bare k n s).At B w :=
  V.At.of ⟨h1.1, h1.2, h2.1, h2.2, h3, Nat.zero_le _, fun i hi => absurd hi (Nat.not_lt_zero i)⟩ (fun i hi => absurd hi (Nat.not_lt_zero i))
theorem bare_pl {k n : Int} {s : ByteArray} {w : World} : (bare k n s).Pl w := ⟨fun h => absurd h (Nat.lt_irrefl 0), fun i hi => absurd hi (Nat.not_lt_zero i)⟩
theorem bare_uses {k n : Int} {s : ByteArray} (j : Nat) : ¬ (bare k n s).uses j := fun h => by
  rcases (V.uses_eq _ _).1 h with h | ⟨i, hi, _⟩
  · exact absurd h.1 (Nat.lt_irrefl 0)
  · exact absurd hi (Nat.not_lt_zero i)

set_option maxRecDepth 100000 in
set_option maxHeartbeats 4000000 in
theorem back_num (v : V) (W : World) (p : SP) (S : SS) (d : Nat) (m : Int) (hm : v.may d = true) (hs : v.Small) (hin : v.IsIn S m) (hk : v.kind = 1) :
    Calls Tryd.prog 25 #[.pointer (some ⟨p.hb, 0, none⟩), .int .i64 v.kind, .int .i64 m] W fun e w' => ∃ r, e = .returned (.tuple #[r, .bool true]) ∧ Got W w' v r ∧ Below W.heap.size W w' := by
  have HG : Hid (∀ w', Got W w' v (.agg #[.int .i64 1, .int .i64 m, .string ⟨#[]⟩, .slice none 0 0])) := fun w' => by
    rw [isIn_num hk] at hin
    subst hin
    have a := may_num0 hm hk
    have t := hs.top
    refine ⟨bare 1 v.num ⟨#[]⟩, rfl, bare_at (by omega) ⟨t.2.2.1, t.2.2.2.1⟩ (by decide), ?_, fun j hj => absurd hj (bare_uses j), bare_pl⟩
    rw [ord_zero]
    exact ⟨hk.symm, rfl, str_nil rfl a.1, a.2.symm, fun i hi => absurd hi (Nat.not_lt_zero i)⟩
  rw [hk]
  clear hk hin hs hm
  have b1 := below_box W V.none.obj
  go_enter Tryd.func25, Tryd.ntmps25
  go_wp2_with fail
  refine bodyPost_ret (v := .tuple #[.agg #[.int .i64 1, .int .i64 m, .string ⟨#[]⟩, .slice none 0 0], .bool true]) (by simp [results, Tryd.results25, go_sem]) rfl ?_
  exact ⟨_, rfl, unhide HG _, below_box W _⟩

theorem sym_at {xs : List ByteArray} {j : Nat} {s : ByteArray} (h : xs[j]? = some s) : Sym.textAt xs (j : Int) = s ∧ Sym.isNum xs (j : Int) = true := by
  have hj := (List.getElem?_eq_some_iff.1 h).1
  unfold Sym.textAt Sym.isNum
  refine ⟨?_, by simp; omega⟩
  rw [if_pos (by omega)]
  simp [h]

set_option maxRecDepth 100000 in
set_option maxHeartbeats 4000000 in
theorem backSym_any (W : World) (p : SP) (S : SS) (j : Nat) (s : ByteArray) (h : Sto W p S) (hj : S.xs[j]? = some s) :
    Calls Tryd.prog 36 #[.pointer (some ⟨p.hb, 0, none⟩), .int .i64 (j : Int)] W fun e w' => e = .returned (.tuple #[.agg #[.int .i64 2, .int .i64 0, .string s, .slice none 0 0], .bool true]) ∧ Below W.heap.size W w' := by
  have b1 := below_box W (.cells #[.int .i64 0, .int .i64 0, .string ⟨#[]⟩, .slice none 0 0] 32)
  have h1 := h.later b1
  have d0 := h1.d0
  have C := Sym.text_any h1.T1 (j : Int)
  rw [(sym_at hj).1, (sym_at hj).2] at C
  have HC := hide C
  clear C h h1 hj b1
  go_enter Tryd.func36, Tryd.ntmps36
  go_wp2_with fail
  refine (unhide HC).mono ?_
  rintro e w' ⟨rfl, rfl⟩
  go_wp2_with fail
  refine bodyPost_ret (v := .tuple #[.agg #[.int .i64 2, .int .i64 0, .string s, .slice none 0 0], .bool true]) (by simp [results, Tryd.results36, go_sem]) rfl ?_
  exact ⟨rfl, below_box W _⟩

set_option maxRecDepth 100000 in
set_option maxHeartbeats 4000000 in
theorem back_sym (v : V) (W : World) (p : SP) (S : SS) (d : Nat) (m : Int) (h : Sto W p S) (hm : v.may d = true) (hs : v.Small) (hin : v.IsIn S m) (hk : v.kind = 2) :
    Calls Tryd.prog 25 #[.pointer (some ⟨p.hb, 0, none⟩), .int .i64 v.kind, .int .i64 m] W fun e w' => ∃ r, e = .returned (.tuple #[r, .bool true]) ∧ Got W w' v r ∧ Below W.heap.size W w' := by
  rw [isIn_sym hk] at hin
  obtain ⟨j, rfl, hj⟩ := hin
  have HG : Hid (∀ w', Got W w' v (.agg #[.int .i64 2, .int .i64 0, .string v.str, .slice none 0 0])) := fun w' => by
    have a := may_sym0 hm hk
    have t := hs.top
    refine ⟨bare 2 0 v.str, rfl, bare_at (by omega) (by omega) t.2.2.2.2, ?_, fun j hj => absurd hj (bare_uses j), bare_pl⟩
    rw [ord_zero]
    exact ⟨hk.symm, a.1.symm, rfl, a.2.symm, fun i hi => absurd hi (Nat.not_lt_zero i)⟩
  rw [hk]
  clear hk hs hm
  have b1 := below_box W (.cells #[.int .i64 0, .int .i64 0, .string ⟨#[]⟩, .slice none 0 0] 32)
  have HC := hide (backSym_any _ p S j v.str (h.later b1) hj)
  clear h hj
  go_enter Tryd.func25, Tryd.ntmps25
  go_wp2_with fail
  refine (unhide HC).mono ?_
  rintro e w2 ⟨rfl, b2⟩
  have hbx : CellsAt w2 W.heap.size 0 V.none := (boxed W V.none).below b2 (by simp)
  have hob : w2.heap[W.heap.size]? = some V.none.obj := (b2.block W.heap.size (by simp)).trans (World.alloc_heap_new W _)
  have f0 : ∀ o, w2.frozen? ⟨W.heap.size, o, none⟩ = false := fun o => by simp [World.frozen?, hob, V.obj]
  have x0 := hbx.z.1
  have x1 := hbx.z.2.1
  have x2 := hbx.z.2.2.1
  have x3 := hbx.z.2.2.2
  have bw : Below W.heap.size W w2 := b1.trans (b2.mono (by simp))
  clear HC b1 b2 hbx
  go_wp2_with fail
  refine bodyPost_ret (v := .tuple #[.agg #[.int .i64 2, .int .i64 0, .string v.str, .slice none 0 0], .bool true]) (by simp [results, Tryd.results25, go_sem, x0, x1, x2, x3]) rfl ?_
  exact ⟨_, rfl, unhide HG _, (((bw.setCell (Nat.le_refl _) _).setCell (Nat.le_refl _) _).setCell (Nat.le_refl _) _).setCell (Nat.le_refl _) _⟩

theorem turn_four (w : World) (g : Nat) (q0 q1 q2 q3 : Value) : Turn (· = g) w ((((w.setCell ⟨g, 0, none⟩ q0).setCell ⟨g, 1, none⟩ q1).setCell ⟨g, 2, none⟩ q2).setCell ⟨g, 3, none⟩ q3) := by
  have h := (((Below.refl 0 w).setCell (p := ⟨g, 0, none⟩) (Nat.zero_le _) q0).setCell (p := ⟨g, 1, none⟩) (Nat.zero_le _) q1).setCell (p := ⟨g, 2, none⟩) (Nat.zero_le _) q2 |>.setCell (p := ⟨g, 3, none⟩) (Nat.zero_le _) q3
  exact ⟨h.os, h.tape, h.output, h.size, fun k _ hk => by
    rw [Below.heap_setCell _ _ _ _ hk, Below.heap_setCell _ _ _ _ hk, Below.heap_setCell _ _ _ _ hk, Below.heap_setCell _ _ _ _ hk]⟩

/-- What is asked of backCon. -/
def BackConC (v : V) : Prop := ∀ (W : World) (p : SP) (S : SS) (d : Nat) (m : Int), Sto W p S → (∀ l ∈ S.ns, l.length = 18) → v.may d = true → v.Small → v.IsIn S m →
  Calls Tryd.prog 37 #[.pointer (some ⟨p.hb, 0, none⟩), .int .i64 m] W fun e w' => ∃ r, e = .returned (.tuple #[r, .bool true]) ∧ Got W w' v r ∧ Below W.heap.size W w'

set_option maxRecDepth 100000 in
set_option maxHeartbeats 4000000 in
theorem back_con (v : V) (hc : BackConC v) (W : World) (p : SP) (S : SS) (d : Nat) (m : Int) (h : Sto W p S) (h18 : ∀ l ∈ S.ns, l.length = 18) (hm : v.may d = true) (hs : v.Small) (hin : v.IsIn S m) (hk : v.kind = 3) :
    Calls Tryd.prog 25 #[.pointer (some ⟨p.hb, 0, none⟩), .int .i64 v.kind, .int .i64 m] W fun e w' => ∃ r, e = .returned (.tuple #[r, .bool true]) ∧ Got W w' v r ∧ Below W.heap.size W w' := by
  rw [hk]
  have b1 := below_box W (.cells #[.int .i64 0, .int .i64 0, .string ⟨#[]⟩, .slice none 0 0] 32)
  have HC := hide (hc _ p S d m (h.later b1) h18 hm hs hin)
  clear h hin hk hs hm hc h18
  go_enter Tryd.func25, Tryd.ntmps25
  go_wp2_with fail
  refine (unhide HC).mono ?_
  rintro e w2 ⟨r, rfl, ⟨u, rfl, hu, hlike, hfar, hpl⟩, b2⟩
  have hbx : CellsAt w2 W.heap.size 0 V.none := (boxed W V.none).below b2 (by simp)
  have hob : w2.heap[W.heap.size]? = some V.none.obj := (b2.block W.heap.size (by simp)).trans (World.alloc_heap_new W _)
  have f0 : ∀ o, w2.frozen? ⟨W.heap.size, o, none⟩ = false := fun o => by simp [World.frozen?, hob, V.obj]
  have x0 := hbx.z.1
  have x1 := hbx.z.2.1
  have x2 := hbx.z.2.2.1
  have x3 := hbx.z.2.2.2
  have bw : Below W.heap.size W w2 := b1.trans (b2.mono (by simp))
  have HG : Hid (∀ q0 q1 q2 q3, Got W ((((w2.setCell ⟨W.heap.size, 0, none⟩ q0).setCell ⟨W.heap.size, 1, none⟩ q1).setCell ⟨W.heap.size, 2, none⟩ q2).setCell ⟨W.heap.size, 3, none⟩ q3) v u.val) := fun q0 q1 q2 q3 => by
    refine ⟨u, rfl, ?_, hlike, fun k hk => ?_, V.Pl.turn (turn_four _ _ _ _ _ _) u hpl (fun k hk e => by have := hfar k hk; simp at this; omega)⟩
    · have t : Turn (· = W.heap.size) w2 ((((w2.setCell ⟨W.heap.size, 0, none⟩ q0).setCell ⟨W.heap.size, 1, none⟩ q1).setCell ⟨W.heap.size, 2, none⟩ q2).setCell ⟨W.heap.size, 3, none⟩ q3) := turn_four _ _ _ _ _ _
      have := V.At.turn' t u hu (fun k hk e => by have := hfar k hk; simp at this; omega)
      exact this.more t.size _
    · have := hfar k hk
      simp at this
      omega
  clear HC b1 b2 hbx hu hlike hfar hpl
  go_wp2_with fail
  refine bodyPost_ret (v := .tuple #[u.val, .bool true]) (by simp [results, Tryd.results25, go_sem, x0, x1, x2, x3, V.val]) rfl ?_
  exact ⟨_, rfl, unhide HG _ _ _ _, (((bw.setCell (Nat.le_refl _) _).setCell (Nat.le_refl _) _).setCell (Nat.le_refl _) _).setCell (Nat.le_refl _) _⟩

theorem back_any (hcon : ∀ v : V, (∀ i, i < v.len → BackC (v.kid i)) → v.kind = 3 → BackConC v) : ∀ v : V, BackC v := by
  refine V.ind fun v ih W p S d m h h18 hm hs hin => ?_
  rcases kinds_of hm with hk | hk | hk
  · exact back_num v W p S d m hm hs hin hk
  · exact back_sym v W p S d m h hm hs hin hk
  · exact back_con v (hcon v ih hk) W p S d m h h18 hm hs hin hk
end Go.Proofs.YtbfkcfhkccicoaaDoor

namespace Go.Proofs.YtbfkcfhkccicoaaDoor
open Go.RowKit

theorem size98 : (Tryd.prog.info? 81).map (·.size) = some 18 := by kernel_rfl
theorem flat_at {ns : List (List Int)} (h18 : ∀ l ∈ ns, l.length = 18) : ∀ {j : Nat} {l : List Int}, ns[j]? = some l → ∀ q, q < 18 → (ns.flatMap fun l => l.map (Value.int .i64))[j * 18 + q]? = (l[q]?).map (Value.int .i64) := by
  induction ns with
  | nil => intro j l h; simp at h
  | cons x xs ih =>
    intro j l h q hq
    have hx : (x.map (Value.int .i64)).length = 18 := by rw [List.length_map]; exact h18 x (by simp)
    simp only [List.flatMap_cons]
    cases j with
    | zero =>
      simp only [List.getElem?_cons_zero, Option.some.injEq] at h
      subst h
      rw [List.getElem?_append_left (by omega)]
      simp
    | succ j =>
      rw [List.getElem?_append_right (by omega), hx]
      have := ih (fun l hl => h18 l (by simp [hl])) (j := j) (l := l) (by simpa using h) q hq
      rw [← this]
      congr 1
      omega

/-- A new block of a node, written. -/
theorem new_node_store (W : World) (c : Array Value) (hc : c.size = 18) (l : List Int) (hl : l.length = 18) :
    (Instr.storeAt 81 (.pointer (some ⟨W.heap.size, 0, none⟩)) (ndVal l)).run Tryd.prog (W.alloc (.cells c 81)) = .ok () (W.alloc (.cells (l.map (Value.int .i64)).toArray 81)) :=
  run_storeAt_new W 81 c _ (by rw [size98]; simp [hl]) (by simp [hc, hl]) (by
    refine all_oneCell_toArray fun v hv => ?_
    obtain ⟨_, _, rfl⟩ := List.mem_map.1 hv
    rfl)

/-- A node in the store's row, loaded. -/
theorem row_load {W : World} {p : SP} {S : SS} (h : Sto W p S) {j : Nat} {l : List Int} (h18 : ∀ l ∈ S.ns, l.length = 18) (hj : S.ns[j]? = some l) :
    ∃ g, p.na = some ⟨g, 0, none⟩ ∧ (nodeLoad (.pointer (some ⟨g, j * 18, none⟩))).run Tryd.prog W = .ok (ndVal l) W := by
  have hr := h.row
  have hjl := (List.getElem?_eq_some_iff.1 hj).1
  rcases hr.2 with ⟨_, h0⟩ | ⟨g, cap, cur, e, hb, hg, hle, hm, hsz, ht⟩
  · omega
  · injection e with e _ _
    refine ⟨g, e, ?_⟩
    unfold nodeLoad ndVal
    have h18l := h18 l (List.mem_of_getElem? hj)
    refine run_loadAt_mid W g (j * 18) 81 (l.map (Value.int .i64)) _ (fun q v hq => ?_) Tryd.underlying81 rfl (by rw [size98]; simp [h18l])
    have hq18 : q < 18 := by have := (List.getElem?_eq_some_iff.1 hq).1; simp at this; omega
    rw [cell_of_row W g (j * 18 + q) cur 81 (0, 0) hg]
    have h2 := flat_at h18 hj q hq18
    rw [← ht, List.getElem?_take, if_pos (by omega)] at h2
    rw [← Array.getElem?_toList, h2, ← hq, List.getElem?_map]
end Go.Proofs.YtbfkcfhkccicoaaDoor

namespace Go.Proofs.YtbfkcfhkccicoaaDoor
open Go.RowKit Go.Maps

def nodeStore (p v : Value) : Sem Unit := Instr.storeAt 81 p v
theorem storeAt98 (p v : Value) : Instr.storeAt 81 p v = nodeStore p v := rfl

/-- The three blocks that are made first. -/
structure BS0 (W wr : World) (N : Nd) : Prop where
  bw : Below W.heap.size W wr
  res : wr.heap[W.heap.size]? = some (.cells #[.int .i64 0, .int .i64 0, .string ⟨#[]⟩, .slice none 0 0] 32 (0, 0))
  node : NB wr (W.heap.size + 1) N
  val : wr.heap[W.heap.size + 1 + 1]? = some (.cells #[.int .i64 3, .int .i64 0, .string ⟨#[]⟩, .slice none 0 0] 32 (0, 0))
  sz : wr.heap.size = W.heap.size + 3
theorem bs0_start (W : World) (N : Nd) : BS0 W (((W.alloc (.cells #[.int .i64 0, .int .i64 0, .string ⟨#[]⟩, .slice none 0 0] 32)).alloc (.cells (N.list.map (Value.int .i64)).toArray 81)).alloc (.cells #[.int .i64 3, .int .i64 0, .string ⟨#[]⟩, .slice none 0 0] 32)) N := by
  have h1 := World.alloc_heap_new W (.cells #[.int .i64 0, .int .i64 0, .string ⟨#[]⟩, .slice none 0 0] 32)
  have b1 := below_box W (.cells #[.int .i64 0, .int .i64 0, .string ⟨#[]⟩, .slice none 0 0] 32)
  have s1 : (W.alloc (.cells #[.int .i64 0, .int .i64 0, .string ⟨#[]⟩, .slice none 0 0] 32)).heap.size = W.heap.size + 1 := by simp
  generalize W.alloc (.cells #[.int .i64 0, .int .i64 0, .string ⟨#[]⟩, .slice none 0 0] 32) = W1 at *
  have h2 := World.alloc_heap_new W1 (.cells (N.list.map (Value.int .i64)).toArray 81)
  have b2 := below_box W1 (.cells (N.list.map (Value.int .i64)).toArray 81)
  have s2 : (W1.alloc (.cells (N.list.map (Value.int .i64)).toArray 81)).heap.size = W.heap.size + 1 + 1 := by simp [s1]
  rw [s1] at h2 b2
  generalize W1.alloc (.cells (N.list.map (Value.int .i64)).toArray 81) = W2 at *
  have h3 := World.alloc_heap_new W2 (.cells #[.int .i64 3, .int .i64 0, .string ⟨#[]⟩, .slice none 0 0] 32)
  have b3 := below_box W2 (.cells #[.int .i64 3, .int .i64 0, .string ⟨#[]⟩, .slice none 0 0] 32)
  rw [s2] at h3 b3
  refine ⟨b1.trans ((b2.mono (by omega)).trans (b3.mono (by omega))), ?_, ?_, h3, by simp [s2]⟩
  · exact (b3.block _ (by omega)).trans ((b2.block _ (by omega)).trans h1)
  · exact (b3.block _ (by omega)).trans h2

/-- The cells of the first k. -/
def cellsTo (us : Nat → V) : Nat → List Value
  | 0 => []
  | k + 1 => cellsTo us k ++ [.int .i64 (us k).kind, .int .i64 (us k).num, .string (us k).str, .slice (us k).addr (us k).len (us k).cap]

/-- Between two rounds. -/
structure BL (W wr : World) (v : V) (N : Nd) (k : Nat) (us : Nat → V) : Prop where
  bw : Below W.heap.size W wr
  res : wr.heap[W.heap.size]? = some (.cells #[.int .i64 0, .int .i64 0, .string ⟨#[]⟩, .slice none 0 0] 32 (0, 0))
  node : NB wr (W.heap.size + 1) N
  box : ∃ sl, wr.heap[W.heap.size + 1 + 1]? = some (.cells #[.int .i64 3, .int .i64 0, .string v.str, sl] 32 (0, 0)) ∧ wr.ownsRow (W.heap.size + 3) 32 4 sl k (cellsTo us k) ∧ ∀ i, i < k → ∀ q, (us i).uses q → W.heap.size + 3 ≤ q ∧ sl.ownBlock ≠ some q
  sz : W.heap.size + 3 ≤ wr.heap.size
  at_ : ∀ i, i < k → (us i).At wr.heap.size wr
  like : ∀ i, i < k → (us i).ord (v.kid i) = 0
  pl : ∀ i, i < k → (us i).Pl wr

theorem bl_start {W W3 : World} {v : V} {N : Nd} (h : BS0 W W3 N) : BL W ((W3.setCell ⟨W.heap.size + 1 + 1, 2, none⟩ (.string v.str)).drew) v N 0 (fun _ => .none) := by
  have ho : ∀ k, k ≠ W.heap.size + 1 + 1 → (W3.setCell ⟨W.heap.size + 1 + 1, 2, none⟩ (.string v.str)).heap[k]? = W3.heap[k]? := fun k hk => Below.heap_setCell _ _ _ _ hk
  have hs := setCell_eq_setRow W3 (W.heap.size + 1 + 1) 2 _ _ _ (.string v.str) h.val
  refine ⟨(h.bw.setCell (by show _ ≤ W.heap.size + 1 + 1; omega) _).drew, (ho _ (by omega)).trans h.res, (ho _ (by omega)).trans h.node, ⟨.slice none 0 0, ?_, World.ownsRow_nil _ _ _ _, fun i hi => absurd hi (Nat.not_lt_zero i)⟩, ?_, fun i hi => absurd hi (Nat.not_lt_zero i), fun i hi => absurd hi (Nat.not_lt_zero i), fun i hi => absurd hi (Nat.not_lt_zero i)⟩
  · show (W3.setCell _ _).heap[_]? = _
    rw [hs]
    exact setRow_heap W3 _ _ _ _ _ h.val
  · have := (h.bw.setCell (p := ⟨W.heap.size + 1 + 1, 2, none⟩) (by show _ ≤ W.heap.size + 1 + 1; omega) (.string v.str)).size
    have h2 := h.sz
    show _ ≤ (W3.setCell _ _).heap.size
    simp [World.setCell, h2]

end Go.Proofs.YtbfkcfhkccicoaaDoor

namespace Go.Proofs.YtbfkcfhkccicoaaDoor
open Go.RowKit Go.Maps

theorem infoVal : (Tryd.prog.info? 32).map (fun i => (i.zero, i.size, i.bytes)) = some (some (.agg #[.int .i64 0, .int .i64 0, .string ⟨#[]⟩, .slice none 0 0]), 4, 56) := by kernel_rfl

/-- The four cells of a value. -/
def V.row (u : V) : List Value := [.int .i64 u.kind, .int .i64 u.num, .string u.str, .slice u.addr u.len u.cap]
theorem cellsTo_len (us : Nat → V) : ∀ k, (cellsTo us k).length = k * 4
  | 0 => rfl
  | k + 1 => by simp [cellsTo, cellsTo_len us k]; omega
theorem cellsTo_congr {us vs : Nat → V} : ∀ k, (∀ i, i < k → us i = vs i) → cellsTo us k = cellsTo vs k
  | 0, _ => rfl
  | k + 1, h => by simp only [cellsTo]; rw [cellsTo_congr k (fun i hi => h i (by omega)), h k (by omega)]
theorem cellsTo_at (us : Nat → V) : ∀ k i, i < k → ∀ q, q < 4 → (cellsTo us k)[i * 4 + q]? = (us i).row[q]?
  | 0, i, hi, _, _ => by omega
  | k + 1, i, hi, q, hq => by
    have hl := cellsTo_len us k
    simp only [cellsTo]
    by_cases e : i = k
    · subst e
      rw [List.getElem?_append_right (by omega), hl, show i * 4 + q - i * 4 = q by omega]; rfl
    · rw [List.getElem?_append_left (by omega)]
      exact cellsTo_at us k i (by omega) q hq

/-- 'append' of one value to a row that was made since: where the new row lies. -/
theorem wpList_append_val (w : World) {ops : Array Oper} {rest : List Oper} {o : Oper} {a : Act} {Q : Exit → Act → World → Prop} (hgd : o.guard = none) (s x : Operand)
    (ho : o.op = .call { callee := .builtin .append, args := #[s, x], argTypes := #[22, 22] }) (base : Nat)
    (v : Value) (n : Nat) (xs : List Value) (hs : a.eval s = v) (hown : w.ownsRow base 32 4 v n xs) (ad : Addr) (c : Nat) (u : V) (hx : a.eval x = .slice (some ad) 1 c)
    (hc : ∀ j y, u.row[j]? = some y → w.cell? (ad.add j) = some y) (hbytes : (n + 1) * 56 ≤ 140737488355328) (hbase : base ≤ w.heap.size)
    (h : ∀ v' w', w'.ownsRow base 32 4 v' (n + 1) (xs ++ u.row) → w.grownBy w' v.ownBlock → (v'.ownBlock = v.ownBlock ∨ v'.ownBlock = some w.heap.size) → wpList Tryd.prog ops Q rest (a.put o.dst v') w') :
    wpList Tryd.prog ops Q (o :: rest) a w := by
  obtain ⟨i0, hi, hz0, hz1, hz2⟩ := info_parts infoVal
  refine wpList_plain hgd fun K hK => ?_
  obtain ⟨v', w', hr, h2, h3, _, h5⟩ := run_append_own_at (P := Tryd.prog) w base 22 o.type 32 i0 _ 4 56 Tryd.underlying22 hi hz0 hz1 hz2 rfl (by decide) v n _ hown ad 1 c u.row rfl hc
    (fun y hy => by
      simp only [V.row, List.mem_cons, List.not_mem_nil, or_false] at hy
      rcases hy with rfl | rfl | rfl | rfl <;> rfl) (by unfold maxLen; omega) hbytes hbase
  unfold Oper.wp execOp
  simp only [ho, resolve, invoke, builtin, Sem.run_bind, Sem.run_pure, Result.andThen_ok, List.map_toArray, List.map_cons, List.map_nil, hs, hx, hr]
  exact hK _ _ (h v' w' h2 h3 h5)

/-- An Arg came back, into a box of its own. -/
structure Made (wr w3 : World) (g : Nat) (u x : V) : Prop where
  below : Below wr.heap.size wr w3
  box : CellsAt w3 g 0 u
  ge : wr.heap.size ≤ g
  at_ : u.At w3.heap.size w3
  like : u.ord x = 0
  far : ∀ q, u.uses q → wr.heap.size ≤ q
  pl : u.Pl w3

/-- What is written into a new block of four. -/
theorem four_old {w : World} {g : Nat} {z u : V} (h : w.heap[g]? = some z.obj) : CellsAt ((((w.setCell ⟨g, 0, none⟩ (.int .i64 u.kind)).setCell ⟨g, 1, none⟩ (.int .i64 u.num)).setCell ⟨g, 2, none⟩ (.string u.str)).setCell ⟨g, 3, none⟩ (.slice u.addr u.len u.cap)) g 0 u := by
  constructor <;> simp [World.cell?, World.setCell, h, V.obj, Array.getElem?_modify]
theorem four_new (w : World) (u z : V) : CellsAt (((((w.alloc z.obj).setCell ⟨w.heap.size, 0, none⟩ (.int .i64 u.kind)).setCell ⟨w.heap.size, 1, none⟩ (.int .i64 u.num)).setCell ⟨w.heap.size, 2, none⟩ (.string u.str)).setCell ⟨w.heap.size, 3, none⟩ (.slice u.addr u.len u.cap)) w.heap.size 0 u :=
  four_old (World.alloc_heap_new w z.obj)

/-- A box of zeros that was made ahead of a call. -/
theorem box_facts {X w2 : World} (b : Below (X.alloc (.cells #[.int .i64 0, .int .i64 0, .string ⟨#[]⟩, .slice none 0 0] 32)).drew.heap.size (X.alloc (.cells #[.int .i64 0, .int .i64 0, .string ⟨#[]⟩, .slice none 0 0] 32)).drew w2) :
    w2.cell? ⟨X.heap.size, 0, none⟩ = some (.int .i64 0) ∧ w2.cell? ⟨X.heap.size, 1, none⟩ = some (.int .i64 0) ∧ w2.cell? ⟨X.heap.size, 2, none⟩ = some (.string ⟨#[]⟩) ∧ w2.cell? ⟨X.heap.size, 3, none⟩ = some (.slice none 0 0) ∧ ∀ o, w2.frozen? ⟨X.heap.size, o, none⟩ = false := by
  have hob : w2.heap[X.heap.size]? = some V.none.obj := (b.block X.heap.size (by show _ < (X.alloc _).heap.size; simp)).trans (World.alloc_heap_new X _)
  refine ⟨?_, ?_, ?_, ?_, fun o => ?_⟩ <;> simp [World.cell?, World.frozen?, hob, V.obj, V.kind, V.num, V.str, V.addr, V.len, V.cap]
/-- The call first, then the box. -/
theorem made_after {wr w2 : World} {u x : V} (b2 : Below wr.drew.heap.size wr.drew w2) (hu : u.At w2.heap.size w2) (hul : u.ord x = 0) (huf : ∀ k, u.uses k → wr.drew.heap.size ≤ k) (hup : u.Pl w2) :
    Made wr (w2.alloc u.obj) w2.heap.size u x := by
  have b0 : Below wr.heap.size wr w2 := (Below.refl _ wr).drew.trans b2
  exact ⟨b0.alloc b0.size _, boxed w2 u, b0.size, (hu.below (below_box w2 _)).more (by simp) _, hul, huf, hup.below (below_box w2 _)⟩
/-- The box first, then the call. -/
theorem made_before {wr w2 : World} {u x : V} (b2 : Below (wr.alloc (.cells #[.int .i64 0, .int .i64 0, .string ⟨#[]⟩, .slice none 0 0] 32)).drew.heap.size (wr.alloc (.cells #[.int .i64 0, .int .i64 0, .string ⟨#[]⟩, .slice none 0 0] 32)).drew w2) (hu : u.At w2.heap.size w2) (hul : u.ord x = 0) (huf : ∀ k, u.uses k → (wr.alloc (.cells #[.int .i64 0, .int .i64 0, .string ⟨#[]⟩, .slice none 0 0] 32)).drew.heap.size ≤ k) (hup : u.Pl w2) :
    Made wr ((((w2.setCell ⟨wr.heap.size, 0, none⟩ (.int .i64 u.kind)).setCell ⟨wr.heap.size, 1, none⟩ (.int .i64 u.num)).setCell ⟨wr.heap.size, 2, none⟩ (.string u.str)).setCell ⟨wr.heap.size, 3, none⟩ (.slice u.addr u.len u.cap)) wr.heap.size u x := by
  have hsz : (wr.alloc (.cells #[.int .i64 0, .int .i64 0, .string ⟨#[]⟩, .slice none 0 0] 32)).drew.heap.size = wr.heap.size + 1 := by show (wr.alloc _).heap.size = _; simp
  rw [hsz] at huf
  have b0 : Below wr.heap.size wr w2 := (below_box wr _).drew.trans (b2.mono (by rw [hsz]; omega))
  have hob : w2.heap[wr.heap.size]? = some V.none.obj := (b2.block wr.heap.size (by rw [hsz]; omega)).trans (World.alloc_heap_new wr _)
  have t := turn_four w2 wr.heap.size (.int .i64 u.kind) (.int .i64 u.num) (.string u.str) (.slice u.addr u.len u.cap)
  refine ⟨(((b0.setCell (Nat.le_refl _) _).setCell (Nat.le_refl _) _).setCell (Nat.le_refl _) _).setCell (Nat.le_refl _) _, four_old hob, Nat.le_refl _, ?_, hul, fun k hk => by have := huf k hk; omega, V.Pl.turn t u hup (fun k hk e => by have := huf k hk; omega)⟩
  exact (V.At.turn' t u hu (fun k hk e => by have := huf k hk; omega)).more t.size _
/-- Behind the append, ahead of the store. -/
theorem bl_mid {W wr wc w5 : World} {v : V} {sl : Value} {ob : Obj} {k : Nat} {us : Nat → V} (hsz : W.heap.size + 3 ≤ wr.heap.size) (hbx : wr.heap[W.heap.size + 1 + 1]? = some (.cells #[.int .i64 3, .int .i64 0, .string v.str, sl] 32 (0, 0)))
    (hrow : wr.ownsRow (W.heap.size + 3) 32 4 sl k (cellsTo us k)) (hM : Below wr.heap.size wr wc) (g5 : (wc.alloc ob).grownBy w5 sl.ownBlock) :
    w5.heap[W.heap.size + 1 + 1]? = some (.cells #[.int .i64 3, .int .i64 0, .string v.str, sl] 32 (0, 0)) := by
  have b1 : Below wr.heap.size wr (wc.alloc ob) := hM.alloc hM.size _
  have hs := b1.size
  rw [g5.block _ (by omega) (fun e => by have := (World.ownsRow.lt hrow _ e.symm).1; omega), b1.block _ (by omega)]
  exact hbx

theorem bl_next {W wr wc w5 : World} {v u : V} {N : Nd} {k g : Nat} {us : Nat → V} {sl v' : Value} {ob : Obj} (hb : BL W wr v N k us) (hbx : wr.heap[W.heap.size + 1 + 1]? = some (.cells #[.int .i64 3, .int .i64 0, .string v.str, sl] 32 (0, 0)))
    (hrow : wr.ownsRow (W.heap.size + 3) 32 4 sl k (cellsTo us k)) (hsep : ∀ i, i < k → ∀ q, (us i).uses q → W.heap.size + 3 ≤ q ∧ sl.ownBlock ≠ some q) (hM : Made wr wc g u (v.kid k))
    (o5 : w5.ownsRow (W.heap.size + 3) 32 4 v' (k + 1) (cellsTo us k ++ u.row)) (g5 : (wc.alloc ob).grownBy w5 sl.ownBlock) (a5 : v'.ownBlock = sl.ownBlock ∨ v'.ownBlock = some (wc.alloc ob).heap.size) :
    BL W (w5.setCell ⟨W.heap.size + 1 + 1, 3, none⟩ v') v N (k + 1) (fun i => if i = k then u else us i) := by
  have hsz := hb.sz
  have b1 : Below wr.heap.size wr (wc.alloc ob) := hM.below.alloc hM.below.size _
  have hs1 := b1.size
  have hs5 := g5.size
  have hrl : ∀ q, sl.ownBlock = some q → W.heap.size + 3 ≤ q ∧ q < wr.heap.size := fun q e => World.ownsRow.lt hrow q e
  have h5 := bl_mid hsz hbx hrow hM.below g5
  have hoth : ∀ q, q < wr.heap.size → sl.ownBlock ≠ some q → q ≠ W.heap.size + 1 + 1 → (w5.setCell ⟨W.heap.size + 1 + 1, 3, none⟩ v').heap[q]? = wr.heap[q]? := fun q h1 h2 h3 => by
    rw [Below.heap_setCell _ _ _ _ h3, g5.block _ (by omega) (fun e => h2 e.symm), b1.block _ h1]
  have tt : Turn (fun q => sl.ownBlock = some q ∨ q = W.heap.size + 1 + 1) (wc.alloc ob) (w5.setCell ⟨W.heap.size + 1 + 1, 3, none⟩ v') :=
    (Turn.of_grownBy g5 (fun q e => .inl e)).trans (Turn.setCell w5 ⟨W.heap.size + 1 + 1, 3, none⟩ v' (.inr rfl)) (fun _ _ e => e)
  have hsize : (w5.setCell ⟨W.heap.size + 1 + 1, 3, none⟩ v').heap.size = w5.heap.size := by simp [World.setCell]
  have hwc : wc.heap.size ≤ (wc.alloc ob).heap.size := by simp
  have hcs : wc.heap.size + 1 = (wc.alloc ob).heap.size := by simp
  have hmb := hM.below.size
  have b5 : Below W.heap.size W (w5.setCell ⟨W.heap.size + 1 + 1, 3, none⟩ v') := by
    have c1 : Below W.heap.size W (wc.alloc ob) := hb.bw.trans (b1.mono hb.bw.size)
    have c2 : Below W.heap.size W w5 := c1.grown g5 c1.size (fun q e => by have := (hrl q e).1; omega)
    exact c2.setCell (by show _ ≤ W.heap.size + 1 + 1; omega) _
  refine ⟨b5, ?_, ?_, ⟨v', ?_, ?_, ?_⟩, by omega, ?_, ?_, ?_⟩
  · rw [hoth _ (by omega) (fun e => by have := (hrl _ e).1; omega) (by omega)]; exact hb.res
  · have hN : wr.heap[W.heap.size + 1]? = _ := hb.node
    exact (hoth _ (by omega) (fun e => by have := (hrl _ e).1; omega) (by omega)).trans hN
  · rw [setCell_eq_setRow w5 (W.heap.size + 1 + 1) 3 _ _ _ v' h5]
    exact setRow_heap w5 _ _ _ _ _ h5
  · have e1 : cellsTo (fun i => if i = k then u else us i) (k + 1) = cellsTo us k ++ u.row := by
      simp only [cellsTo, if_true]
      rw [cellsTo_congr (vs := us) k (fun i hi => if_neg (by omega))]
      rfl
    rw [e1]
    exact ownsRow_setCell_below o5 (a := ⟨W.heap.size + 1 + 1, 3, none⟩) (by show W.heap.size + 1 + 1 < _; omega) _
  · intro i hi q hq
    by_cases e : i = k
    · simp only [if_pos e] at hq
      have h1 := hM.far q hq
      have h2 := V.uses_lt u hM.at_ q hq
      refine ⟨by omega, fun e2 => ?_⟩
      rcases a5 with a5 | a5
      · rw [a5] at e2; have := (hrl q e2).2; omega
      · rw [a5] at e2; simp only [Option.some.injEq] at e2; omega
    · simp only [if_neg e] at hq
      obtain ⟨h1, h2⟩ := hsep i (by omega) q hq
      have h3 := V.uses_lt (us i) (hb.at_ i (by omega)) q hq
      refine ⟨h1, fun e2 => ?_⟩
      rcases a5 with a5 | a5
      · rw [a5] at e2; exact h2 e2
      · rw [a5] at e2; simp only [Option.some.injEq] at e2; omega
  · intro i hi
    by_cases e : i = k
    · simp only [if_pos e]
      have h1 : u.At wc.heap.size (wc.alloc ob) := hM.at_.below (below_box wc ob)
      refine (V.At.turn' tt u h1 (fun q hq e2 => ?_)).more (by omega) _
      have := hM.far q hq
      rcases e2 with e2 | e2
      · have := (hrl q e2).2; omega
      · omega
    · simp only [if_neg e]
      have h1 : (us i).At wr.heap.size (wc.alloc ob) := (hb.at_ i (by omega)).below b1
      refine (V.At.turn' tt _ h1 (fun q hq e2 => ?_)).more (by omega) _
      obtain ⟨h2, h3⟩ := hsep i (by omega) q hq
      rcases e2 with e2 | e2
      · exact h3 e2
      · omega
  · intro i hi
    by_cases e : i = k
    · simp only [if_pos e]; rw [e]; exact hM.like
    · simp only [if_neg e]; exact hb.like i (by omega)
  · intro i hi
    by_cases e : i = k
    · simp only [if_pos e]
      refine V.Pl.turn tt u (hM.pl.below (below_box wc ob)) (fun q hq e2 => ?_)
      have := hM.far q hq
      rcases e2 with e2 | e2
      · have := (hrl q e2).2; omega
      · omega
    · simp only [if_neg e]
      refine V.Pl.turn tt _ ((hb.pl i (by omega)).below b1) (fun q hq e2 => ?_)
      obtain ⟨h2, h3⟩ := hsep i (by omega) q hq
      rcases e2 with e2 | e2
      · exact h3 e2
      · omega
end Go.Proofs.YtbfkcfhkccicoaaDoor

namespace Go.Proofs.YtbfkcfhkccicoaaDoor
open Go.RowKit Go.Maps

theorem ownsRow_below {w w' : World} {base : Nat} {e : TypeId} {size : Nat} {v : Value} {n : Nat} {xs : List Value} (h : w.ownsRow base e size v n xs) (hb : Below w.heap.size w w') : w'.ownsRow base e size v n xs :=
  World.ownsRow.kept h (row := none) ⟨hb.os, hb.tape, hb.output, hb.size, fun k hk _ => hb.block k hk⟩ (by cases v.ownBlock <;> simp)
theorem row_new (w : World) (u : V) : ∀ j y, u.row[j]? = some y → (w.alloc (.cells #[.int .i64 u.kind, .int .i64 u.num, .string u.str, .slice u.addr u.len u.cap] 32)).cell? ((⟨w.heap.size, 0, none⟩ : Addr).add j) = some y := by
  have hn := World.alloc_heap_new w u.obj
  intro j y hj
  have e1 : (⟨w.heap.size, 0, none⟩ : Addr).add j = ⟨w.heap.size, j, none⟩ := by cases j <;> simp [Addr.add]
  rw [e1]
  simp only [World.cell?]
  rw [show (w.alloc (.cells #[.int .i64 u.kind, .int .i64 u.num, .string u.str, .slice u.addr u.len u.cap] 32)).heap[w.heap.size]? = some u.obj from hn]
  match j, hj with
  | 0, h => exact h
  | 1, h => exact h
  | 2, h => exact h
  | 3, h => exact h
theorem frozen_mid {w5 : World} {g : Nat} {c : Array Value} (h : w5.heap[g]? = some (.cells c 32 (0, 0))) : w5.frozen? ⟨g, 3, none⟩ = false := by simp [World.frozen?, h]
theorem cell_mid {w5 : World} {g : Nat} {a b c d : Value} (h : w5.heap[g]? = some (.cells #[a, b, c, d] 32 (0, 0))) : w5.cell? ⟨g, 3, none⟩ = some d := by simp [World.cell?, h]

theorem own_shape {w : World} {base : Nat} {e : TypeId} {size : Nat} {v : Value} {n : Nat} {xs : List Value} (h : w.ownsRow base e size v n xs) : ∃ a l c, v = .slice a l c := by
  rcases h.2 with ⟨rfl, _⟩ | ⟨g, cap, cur, rfl, _⟩
  · exact ⟨_, _, _, rfl⟩
  · exact ⟨_, _, _, rfl⟩

theorem bl_end {W wr : World} {v : V} {N : Nd} {d : Nat} {us : Nat → V} {sl : Value} (hb : BL W wr v N v.len us) (hm : v.may d = true) (hk : v.kind = 3) (hs : v.Small)
    (hrow : wr.ownsRow (W.heap.size + 3) 32 4 sl v.len (cellsTo us v.len)) (hsep : ∀ i, i < v.len → ∀ q, (us i).uses q → W.heap.size + 3 ≤ q ∧ sl.ownBlock ≠ some q) :
    ∃ a cap, sl = .slice a v.len cap ∧ ∀ q0 q1 q2 q3, Got W ((((wr.setCell ⟨W.heap.size, 0, none⟩ q0).setCell ⟨W.heap.size, 1, none⟩ q1).setCell ⟨W.heap.size, 2, none⟩ q2).setCell ⟨W.heap.size, 3, none⟩ q3) v (.agg #[.int .i64 3, .int .i64 0, .string v.str, .slice a v.len cap]) := by
  obtain ⟨hn0, h8⟩ := may_con_num hm hk
  obtain ⟨a, cap, rfl, hgood⟩ : ∃ a cap, sl = .slice a v.len cap ∧ (0 < v.len → ∃ g, a = some ⟨g, 0, none⟩ ∧ W.heap.size + 3 ≤ g ∧ g < wr.heap.size ∧ (∃ cur, wr.heap[g]? = some (.cells cur 32 (0, 0))) ∧ ∀ i, i < v.len → CellsAt wr g (0 + i * 4) (us i)) := by
    rcases hrow.2 with ⟨rfl, h0⟩ | ⟨g, cap, cur, rfl, hg, hh, _, _, _, _⟩
    · exact ⟨none, 0, by rw [h0], fun h => by omega⟩
    · refine ⟨some ⟨g, 0, none⟩, cap, rfl, fun _ => ⟨g, rfl, hg, (Array.getElem?_eq_some_iff.1 hh).1, ⟨cur, hh⟩, fun i hi => ?_⟩⟩
      have hc : ∀ q, q < 4 → wr.cell? ⟨g, i * 4 + q, none⟩ = (us i).row[q]? := fun q hq => by
        rw [World.ownsRow.cellAt hrow (i * 4 + q) (by omega)]
        exact cellsTo_at us v.len i hi q hq
      rw [Nat.zero_add]
      exact ⟨hc 0 (by omega), hc 1 (by omega), hc 2 (by omega), hc 3 (by omega)⟩
  refine ⟨a, cap, rfl, fun q0 q1 q2 q3 => ?_⟩
  have t := turn_four wr W.heap.size q0 q1 q2 q3
  refine ⟨.mk 3 0 v.str a v.len cap us, rfl, V.At.of ⟨(by show (-9223372036854775808 : Int) ≤ 3; decide), (by show (3 : Int) ≤ 9223372036854775807; decide), (by show (-9223372036854775808 : Int) ≤ 0; decide), (by show (0 : Int) ≤ 9223372036854775807; decide), hs.top.2.2.2.2, by show v.len ≤ _; omega, fun i hi => ?_⟩ (fun i hi => ?_), ?_, fun q hq => ?_, V.Pl.of (fun h0 => ?_) (fun i hi => ?_)⟩
  · have hi' : i < v.len := hi
    obtain ⟨g, e, h3, hlt, _, hc⟩ := hgood (by omega)
    refine ⟨g, 0, e, Nat.lt_of_lt_of_le hlt t.size, (hc i hi').stays fun p u hp hu => ?_⟩
    have : (((((wr.setCell ⟨W.heap.size, 0, none⟩ q0).setCell ⟨W.heap.size, 1, none⟩ q1).setCell ⟨W.heap.size, 2, none⟩ q2).setCell ⟨W.heap.size, 3, none⟩ q3)).cell? p = wr.cell? p := by
      simp only [World.cell?]
      rw [t.block _ (by omega) (by omega)]
    exact this.trans hu
  · have hi' : i < v.len := hi
    refine (V.At.turn' t (us i) (hb.at_ i hi') (fun q hq e => ?_)).more t.size _
    have := (hsep i hi' q hq).1
    omega
  · rw [ord_zero]
    exact ⟨hk.symm, hn0.symm, rfl, rfl, fun i hi => hb.like i hi⟩
  · rcases (V.uses_eq _ _).1 hq with ⟨h1, h2⟩ | ⟨i, hi, h2⟩
    · have h1' : 0 < v.len := h1
      obtain ⟨g, e, h3, _, _, _⟩ := hgood h1'
      have h2' : a.map Addr.block = some q := h2
      rw [e] at h2'
      simp at h2'
      omega
    · have := (hsep i hi q h2).1
      omega
  · have h0' : 0 < v.len := h0
    obtain ⟨g, e, h3, hlt, ⟨cur, hg⟩, _⟩ := hgood h0'
    exact ⟨g, cur, e, (t.block g hlt (by omega)).trans hg⟩
  · have hi' : i < v.len := hi
    exact V.Pl.turn t (us i) (hb.pl i hi') (fun q hq e => by have := (hsep i hi' q hq).1; omega)
end Go.Proofs.YtbfkcfhkccicoaaDoor
