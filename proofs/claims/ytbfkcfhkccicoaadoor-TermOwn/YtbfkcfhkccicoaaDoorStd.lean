/- Walks of how two values stand, as the document has it: stand, Order. -/
import Derived.Test.YtbfkcfhkccicoaaDoorOrdD
namespace Go.Proofs.YtbfkcfhkccicoaaDoor
open Go.RowKit

def StdC (a : V) : Prop := ∀ (b : V) (B : Nat) (w : World), a.At B w → b.At B w → B ≤ w.heap.size →
  Calls Tryd.prog 54 #[a.val, b.val] w fun e w' => e = .returned (.int .i64 (a.std b)) ∧ Below w.heap.size w w'

/-- Both boxes, in a world that came later. -/
structure Two (w wr : World) (a b : V) : Prop where
  x : CellsAt wr w.heap.size 0 a
  y : CellsAt wr (w.heap.size + 1) 0 b
  sz : w.heap.size + 2 ≤ wr.heap.size
  bw : Below w.heap.size w wr
theorem two_boxes (w : World) (a b : V) : Two w ((w.alloc a.obj).alloc b.obj) a b :=
  ⟨(boxed w a).below (B := w.heap.size + 1) ((Below.refl _ _).alloc (by simp) _) (by omega), by
    have := boxed (w.alloc a.obj) b
    rwa [show (w.alloc a.obj).heap.size = w.heap.size + 1 by simp] at this, by simp, (below_box w _).alloc (by simp) _⟩
theorem Two.later {w wr w2 : World} {a b : V} (h : Two w wr a b) (hb : Below wr.heap.size wr w2) : Two w w2 a b :=
  ⟨h.x.below hb (by have := h.sz; omega), h.y.below hb (by have := h.sz; omega), Nat.le_trans h.sz hb.size, h.bw.trans (hb.mono (by have := h.sz; omega))⟩

section
variable (a b : V) (w : World)
set_option maxHeartbeats 4000000 in
theorem std_kinds (hk : ¬ a.kind = b.kind) : Calls Tryd.prog 54 #[a.val, b.val] w fun e w' => e = .returned (.int .i64 (a.std b)) ∧ Below w.heap.size w w' := by
  have H := hide (V.std_eq a b)
  have h1 : (a.kind != b.kind) = true := bne_iff_ne.2 hk
  have HK := hide hk
  clear hk
  go_enter Tryd.func54, Tryd.ntmps54
  go_wp2_with fail
  refine (rorder_any _ _ _).mono ?_
  rintro e w2 ⟨rfl, rfl⟩
  go_wp2_with fail
  go_ret
  exact ⟨ret_int (by rw [unhide H, if_neg (unhide HK)]), (two_boxes w a b).bw⟩
set_option maxHeartbeats 4000000 in
theorem std_num (hk : a.kind = b.kind) (h1 : a.kind = 1) : Calls Tryd.prog 54 #[a.val, b.val] w fun e w' => e = .returned (.int .i64 (a.std b)) ∧ Below w.heap.size w w' := by
  have H := hide (V.std_eq a b)
  rw [if_pos hk, if_pos h1] at H
  have h2 : b.kind = 1 := by omega
  have T := hide (two_boxes w a b).bw
  have HK := hide hk
  clear hk
  go_enter Tryd.func54, Tryd.ntmps54
  go_wp2_with fail
  refine (rorder_any _ _ _).mono ?_
  rintro e w2 ⟨rfl, hw⟩
  have T2 := unhide T
  unfold V.obj at T2
  rw [h1, h2, ← hw] at T2
  clear hw
  go_wp2_with fail
  go_ret
  exact ⟨ret_int (by rw [unhide H]), T2⟩
set_option maxHeartbeats 4000000 in
theorem std_sym (hk : a.kind = b.kind) (h1 : a.kind = 2) : Calls Tryd.prog 54 #[a.val, b.val] w fun e w' => e = .returned (.int .i64 (a.std b)) ∧ Below w.heap.size w w' := by
  have H := hide (V.std_eq a b)
  rw [if_pos hk, if_neg (by omega), if_pos h1] at H
  have h2 : b.kind = 2 := by omega
  have T := hide (two_boxes w a b).bw
  have HK := hide hk
  clear hk
  go_enter Tryd.func54, Tryd.ntmps54
  go_wp2_with fail
  refine (rtexts_any _ _ _).mono ?_
  rintro e w2 ⟨rfl, hw⟩
  have T2 := unhide T
  unfold V.obj at T2
  rw [h1, h2, ← hw] at T2
  clear hw
  go_wp2_with fail
  go_ret
  exact ⟨ret_int (by rw [unhide H]), T2⟩
set_option maxHeartbeats 4000000 in
theorem std_not (hk : a.kind = b.kind) (h1 : ¬ a.kind = 1) (h2 : ¬ a.kind = 2) (h3 : ¬ a.kind = 3) : Calls Tryd.prog 54 #[a.val, b.val] w fun e w' => e = .returned (.int .i64 (a.std b)) ∧ Below w.heap.size w w' := by
  have H := hide (V.std_eq a b)
  rw [if_pos hk, if_neg h1, if_neg h2, if_neg h3] at H
  have T := hide (two_boxes w a b).bw
  have e0 : (a.kind != b.kind) = false := by simp [hk]
  have e1 : (a.kind == 1) = false := beq_eq_false_iff_ne.2 h1
  have e2 : (a.kind == 2) = false := beq_eq_false_iff_ne.2 h2
  have e3 : (a.kind == 3) = false := beq_eq_false_iff_ne.2 h3
  clear hk h1 h2 h3
  go_enter Tryd.func54, Tryd.ntmps54
  go_wp2_with fail
  go_ret
  exact ⟨ret_int (by rw [unhide H]), unhide T⟩
end
end Go.Proofs.YtbfkcfhkccicoaaDoor
