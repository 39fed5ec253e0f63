/- TermOrders and TermUnlike, walked. -/
import Derived.Test.YtbcljbbdfmeccaaDoorAliveW
import Derived.Test.YtbcljbbdfmeccaaDoorStdB
import Derived.Test.YtbcljbbdfmeccaaDoorTextY
import Derived.Test.YtbcljbbdfmeccaaDoorTextI
namespace Go.Proofs.YtbcljbbdfmeccaaDoor
open Go.RowKit

open Go.BigFrame in
set_option maxRecDepth 100000 in
set_option maxHeartbeats 4000000 in
theorem orders_walk (a b : V) (w : World) (ha : a.At w.heap.size w) (hb : b.At w.heap.size w) (ht : Tbl w.heap.size w) :
    Calls Tryd.prog 3 #[a.val, b.val] w fun e w' => e = .returned (.bool true) ∧ Below w.heap.size w w' := by
  go_enter Tryd.func3, Tryd.ntmps3
  go_wp2_with fail
  obtain ⟨W, hW⟩ : ∃ W, W = (w.alloc a.obj).alloc b.obj := ⟨_, rfl⟩
  have T : Two w W a b := by rw [hW]; exact two_boxes w a b
  rw [← hW]
  clear hW
  have hi : ∀ i : Later W, Two w i.val a b := fun i => T.later i.h
  have HAI : Hid (∀ i : Later W, a.At w.heap.size i.val) := fun i => ha.below (hi i).bw
  have HBI : Hid (∀ i : Later W, b.At w.heap.size i.val) := fun i => hb.below (hi i).bw
  have HSI : Hid (∀ i : Later W, w.heap.size ≤ i.val.heap.size) := fun i => (hi i).bw.size
  have HTI : Hid (∀ i : Later W, Tbl w.heap.size i.val) := fun i => ht.below (hi i).bw
  have x0 := fun i : Later W => (hi i).x.z.1
  have x1 := fun i : Later W => (hi i).x.z.2.1
  have x2 := fun i : Later W => (hi i).x.z.2.2.1
  have x3 := fun i : Later W => (hi i).x.z.2.2.2
  have y0 := fun i : Later W => (hi i).y.z.1
  have y1 := fun i : Later W => (hi i).y.z.2.1
  have y2 := fun i : Later W => (hi i).y.z.2.2.1
  have y3 := fun i : Later W => (hi i).y.z.2.2.2
  have HI := hide hi
  clear hi T
  refine region_later (by kernel_rfl) (by kernel_rfl) ?_
  repeat (go_big_quiet_step (first
    | (go_at_call 9; exact Calls.later (right_any a _ _ (unhide HAI _) (unhide HSI _)))
    | (go_at_call 10; exact Calls.later (rright_any a _ _ (unhide HAI _) (unhide HSI _)))
    | (go_at_call 11; exact Calls.later (ord_any a b _ _ (unhide HAI _) (unhide HBI _) (unhide HSI _)))
    | (go_at_call 12; exact Calls.later (rord_any a b _ _ (unhide HAI _) (unhide HBI _) (unhide HSI _)))
    | (go_at_call 13; exact Calls.later (same_any a b _ _ (unhide HAI _) (unhide HBI _) (unhide HSI _)))
    | (go_at_call 14; exact Calls.later (alive_any _ _ (unhide HSI _) (unhide HTI _)))))
  refine wpQuiet_nil ?_
  intro w7 hw7
  obtain ⟨i, hw8⟩ := hw7
  subst hw8
  have bw := (unhide HI i).bw
  clear x0 x1 x2 x3 y0 y1 y2 y3 HI
  go_wp2_with fail
  go_ret
  exact ⟨rfl, bw⟩
end Go.Proofs.YtbcljbbdfmeccaaDoor
