/- A set in memory; what it holds now, whether a tuple is there, and a tuple put in. -/
import Derived.Test.YthcljhfankooaabGreatBGrow
namespace Go.Proofs.YthcljhfankooaabGreat
open Go.RowKit Go.Shelf

/-- A set: its block, what it holds, the order, the tuples. -/
structure SetAt (S : Nat → Prop) (w : World) (sb hb : Nat) (o : List Int) (l : List Item) : Prop where
  s0 : w.cell? ⟨sb, 0, none⟩ = some (.pointer (some ⟨hb, 0, none⟩))
  ss : S sb
  held : ∃ ov p d, w.heap[hb]? = some (.cells #[ov, .pointer p, .int .i64 (l.length : Int)] 102 (0, 0)) ∧ IntsS S w ov o ∧ Tree S w d 15 p l
  ns : ¬ S hb
  ok : right o = true
  rises : Rises o l
  len : l.length ≤ 1024
theorem SetAt.stays {S : Nat → Prop} {w w' : World} {sb hb : Nat} {o : List Int} {l : List Item} (h : SetAt S w sb hb o l) (hs : Stays S w w') (hh : w'.heap[hb]? = w.heap[hb]?) : SetAt S w' sb hb o l := by
  obtain ⟨ov, p, d, h1, h2, h3⟩ := h.held
  exact ⟨hs.cell h.s0 h.ss, h.ss, ⟨ov, p, d, hh.trans h1, h2.stays hs, h3.stays hs⟩, h.ns, h.ok, h.rises, h.len⟩
theorem SetAt.lt {S : Nat → Prop} {w : World} {sb hb : Nat} {o : List Int} {l : List Item} (h : SetAt S w sb hb o l) : hb < w.heap.size := by
  obtain ⟨ov, p, d, h1, _⟩ := h.held
  exact lt_heap h1
theorem SetAt.slt {S : Nat → Prop} {w : World} {sb hb : Nat} {o : List Int} {l : List Item} (h : SetAt S w sb hb o l) : sb < w.heap.size := by
  obtain ⟨_, h, _⟩ := cells_of_cell h.s0
  exact lt_heap h
theorem SetAt.later {S : Nat → Prop} {w w' : World} {sb hb : Nat} {o : List Int} {l : List Item} (h : SetAt S w sb hb o l) (hb' : Below w.heap.size w w') : SetAt S w' sb hb o l := h.stays (Stays.of_below hb') (hb'.block _ h.lt)
theorem SetAt.mono {S S' : Nat → Prop} {w : World} {sb hb : Nat} {o : List Int} {l : List Item} (h : SetAt S w sb hb o l) (hs : ∀ b, b < w.heap.size → S b → S' b) (hn : ¬ S' hb) : SetAt S' w sb hb o l := by
  obtain ⟨ov, p, d, h1, h2, h3⟩ := h.held
  exact ⟨h.s0, hs _ h.slt h.ss, ⟨ov, p, d, h1, h2.mono hs, h3.mono hs⟩, hn, h.ok, h.rises, h.len⟩
theorem three_cells {w : World} {b : Nat} {x y z : Value} {t : TypeId} (h : w.heap[b]? = some (.cells #[x, y, z] t (0, 0))) :
    w.cell? ⟨b, 0, none⟩ = some x ∧ w.cell? ⟨b, 1, none⟩ = some y ∧ w.cell? ⟨b, 2, none⟩ = some z ∧ w.frozen? ⟨b, 0, none⟩ = false ∧ w.frozen? ⟨b, 1, none⟩ = false ∧ w.frozen? ⟨b, 2, none⟩ = false := by simp [World.cell?, World.frozen?, h]

theorem made_any (w : World) (sb hb : Nat) (h : w.cell? ⟨sb, 0, none⟩ = some (.pointer (some ⟨hb, 0, none⟩))) : Calls Tryz.prog 54 #[.pointer (some ⟨sb, 0, none⟩)] w fun e w' => e = .returned (.bool true) ∧ w' = w := by
  go_enter Tryz.func54, Tryz.ntmps54
  go_wp2_with fail
  go_ret
  exact ⟨rfl, rfl⟩

set_option maxRecDepth 100000 in
set_option maxHeartbeats 2000000 in
theorem now_any (w : World) (sb hb : Nat) (ov nv : Value) (p : Option Addr) (oa : Option Addr) (on oc : Nat) (n : Int) (e1 : ov = .slice oa on oc) (e2 : nv = .int .i64 n) (h : w.cell? ⟨sb, 0, none⟩ = some (.pointer (some ⟨hb, 0, none⟩))) (hh : w.heap[hb]? = some (.cells #[ov, .pointer p, nv] 102 (0, 0))) :
    Calls Tryz.prog 89 #[.pointer (some ⟨sb, 0, none⟩)] w fun e w' => e = .returned (.agg #[ov, .pointer p, nv]) ∧ Below w.heap.size w w' := by
  subst e1 e2
  have b1 : Below w.heap.size w (w.alloc (.cells #[.slice none 0 0, .pointer none, .int .i64 0] 102)) := (Below.refl _ w).alloc (Nat.le_refl _) _
  have hs : sb < w.heap.size := by obtain ⟨_, h, _⟩ := cells_of_cell h; exact lt_heap h
  have hm := made_any (w.alloc (.cells #[.slice none 0 0, .pointer none, .int .i64 0] 102)) sb hb ((b1.cell (p := ⟨sb, 0, none⟩) hs).trans h)
  obtain ⟨c0, c1, c2, _⟩ := three_cells hh
  have hlt := lt_heap hh
  go_enter Tryz.func89, Tryz.ntmps89
  go_wp2_with (go_at_call 54; refine hm.mono ?_; clear hm; rintro e w' ⟨rfl, rfl⟩)
  refine bodyPost_ret (v := .agg #[.slice oa on oc, .pointer p, .int .i64 n]) (by simp [results, Tryz.f89, go_sem]) rfl ?_
  exact ⟨rfl, by simpa using (Below.refl w.heap.size w).alloc (Nat.le_refl _) _⟩

def fitB (o x : List Int) : Bool := (x.length : Int) == (o.length : Int)
theorem fitB_true {o x : List Int} : fitB o x = true ↔ x.length = o.length := by simp only [fitB, beq_iff_eq]; omega

set_option maxRecDepth 100000 in
set_option maxHeartbeats 2000000 in
theorem hfits_any (w : World) (oa xa : Option Addr) (o x : List Int) (oc xc : Nat) (p : Option Addr) (n : Int) :
    Calls Tryz.prog 69 #[.agg #[.slice oa o.length oc, .pointer p, .int .i64 n], .slice xa x.length xc] w fun e w' => e = .returned (.bool (fitB o x)) ∧ Below w.heap.size w w' := by
  go_enter Tryz.func69, Tryz.ntmps69
  go_wp2_with fail
  go_ret
  exact ⟨ret_bool (by simp [fitB]), (Below.refl _ w).alloc (Nat.le_refl _) _⟩
end Go.Proofs.YthcljhfankooaabGreat
