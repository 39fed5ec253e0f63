/- The document's Text of any value; TermTexts, walked. -/
import Derived.Test.YtbcljbbdfmeccaaDoorRTxt
import Derived.Test.YtbcljbbdfmeccaaDoorAliveW
import Derived.Test.YtbcljbbdfmeccaaDoorOrdersW
namespace Go.Proofs.YtbcljbbdfmeccaaDoor
open Go.RowKit

theorem right_size {v : V} (h : v.right = true) : v.size ≤ 1024 := by
  unfold V.right at h
  simp only [Bool.and_eq_true, decide_eq_true_eq] at h
  exact h.2

set_option maxHeartbeats 4000000 in
theorem rtext_num (v : V) (B : Nat) (w : World) (hat : v.At B w) (hk : v.kind = 1) :
    Calls Tryd.prog 34 #[v.val] w fun e w' => e = .returned (.string ⟨v.text.toArray⟩) ∧ Below w.heap.size w w' := by
  have HT := hide (V.text_num hk)
  have HF : Hid (Fits v.num) := ⟨hat.flat.n0, hat.flat.n1⟩
  clear hat
  unfold V.val
  rw [hk]
  clear hk
  go_enter Tryd.func34, Tryd.ntmps34
  go_wp2_with fail
  have b1 := below_box w (.cells #[.int .i64 1, .int .i64 v.num, .string v.str, .slice v.addr v.len v.cap] 24)
  refine (rtext_any v.num (unhide HF) _).mono ?_
  rintro e w2 ⟨rfl, b2⟩
  have bw : Below w.heap.size w w2 := b1.trans (b2.mono (by simp))
  clear b1 b2
  go_wp2_with fail
  go_ret
  exact ⟨ret_str (unhide HT).symm, bw⟩

set_option maxHeartbeats 4000000 in
theorem rtext_sym (v : V) (w : World) (hk : v.kind = 2) (hs : v.str.size ≤ 65536) :
    Calls Tryd.prog 34 #[v.val] w fun e w' => e = .returned (.string ⟨v.text.toArray⟩) ∧ Below w.heap.size w w' := by
  have HT := hide (V.text_sym hk)
  have HF := hide hs
  clear hs
  unfold V.val
  rw [hk]
  clear hk
  go_enter Tryd.func34, Tryd.ntmps34
  go_wp2_with fail
  have b1 := below_box w (.cells #[.int .i64 2, .int .i64 v.num, .string v.str, .slice v.addr v.len v.cap] 24)
  refine (quoted_any v.str _ (unhide HF)).mono ?_
  rintro e w2 ⟨rfl, b2⟩
  have bw : Below w.heap.size w w2 := b1.trans (b2.mono (by simp))
  clear b1 b2
  go_wp2_with fail
  go_ret
  exact ⟨ret_str (unhide HT).symm, bw⟩

theorem rtext_all : ∀ v : V, RTxtC v := by
  refine V.ind fun v ih B w d hat hB hm hlen => ?_
  rcases kinds_of hm with hk | hk | hk
  · exact rtext_num v B w hat hk
  · refine rtext_sym v w hk ?_
    rw [V.may_eq, if_neg (by omega), if_pos hk] at hm
    simp only [Bool.and_eq_true, decide_eq_true_eq] at hm
    exact hm.2
  · exact rtext_con v ih B w d hat hB hm hlen hk

set_option maxRecDepth 100000 in
set_option maxHeartbeats 4000000 in
theorem rtextAll_any (v : V) (B : Nat) (w : World) (hat : v.At B w) (hB : B ≤ w.heap.size) :
    Calls Tryd.prog 16 #[v.val] w fun e w' => e = .returned (.string ⟨(textAll v).toArray⟩) ∧ Below w.heap.size w w' := by
  have b1 := below_box w v.obj
  have hbx := boxed w v
  have HR := hide (rright_any v B (w.alloc v.obj) (hat.below (b1.mono hB)) (by simp; omega))
  go_enter Tryd.func16, Tryd.ntmps16
  go_wp2_with fail
  refine (unhide HR).mono ?_
  rintro e w2 ⟨rfl, b2⟩
  have bw : Below w.heap.size w w2 := b1.trans (b2.mono (by simp))
  obtain ⟨x0, x1, x2, x3⟩ := (hbx.below b2 (by simp)).z
  clear b1 b2 HR hbx
  cases hr : v.right with
  | false =>
    have HT : Hid (textAll v = [63]) := by show _ = _; unfold textAll; rw [hr]; rfl
    clear x0 x1 x2 x3
    go_wp2_with fail
    go_ret
    exact ⟨ret_str (unhide HT).symm, bw⟩
  | true =>
    have HT : Hid (textAll v = v.text) := by show _ = _; unfold textAll; rw [hr]; rfl
    have HC := hide (rtext_all v B w2 32 (hat.below (bw.mono hB)) (Nat.le_trans hB bw.size) (right_may hr) (by have := right_size hr; omega))
    clear hr
    go_wp2_with fail
    refine (unhide HC).mono ?_
    rintro e w3 ⟨rfl, b3⟩
    have bw3 : Below w.heap.size w w3 := bw.trans (b3.mono bw.size)
    clear x0 x1 x2 x3 bw b3 HC
    go_wp2_with fail
    go_ret
    exact ⟨ret_str (unhide HT).symm, bw3⟩

open Go.BigFrame in
set_option maxRecDepth 100000 in
set_option maxHeartbeats 4000000 in
theorem texts_walk (v : V) (w : World) (hv : v.At w.heap.size w) (ht : Tbl w.heap.size w) :
    Calls Tryd.prog 4 #[v.val] w fun e w' => e = .returned (.bool true) ∧ Below w.heap.size w w' := by
  go_enter Tryd.func4, Tryd.ntmps4
  go_wp2_with fail
  obtain ⟨W, hW⟩ : ∃ W, W = w.alloc v.obj := ⟨_, rfl⟩
  have b1 : Below w.heap.size w W := by rw [hW]; exact below_box w v.obj
  have hbx : CellsAt W w.heap.size 0 v := by rw [hW]; exact boxed w v
  have hsz : W.heap.size = w.heap.size + 1 := by rw [hW]; simp
  rw [← hW]
  clear hW
  have hx : ∀ i : Later W, CellsAt i.val w.heap.size 0 v := fun i => hbx.below i.h (by omega)
  have hbw : ∀ i : Later W, Below w.heap.size w i.val := fun i => b1.trans (i.h.mono (by omega))
  have HVI : Hid (∀ i : Later W, v.At w.heap.size i.val) := fun i => hv.below (hbw i)
  have HSI : Hid (∀ i : Later W, w.heap.size ≤ i.val.heap.size) := fun i => (hbw i).size
  have HTI : Hid (∀ i : Later W, Tbl w.heap.size i.val) := fun i => ht.below (hbw i)
  have x0 := fun i : Later W => (hx i).z.1
  have x1 := fun i : Later W => (hx i).z.2.1
  have x2 := fun i : Later W => (hx i).z.2.2.1
  have x3 := fun i : Later W => (hx i).z.2.2.2
  obtain ⟨s, hs⟩ : ∃ s : ByteArray, s = ⟨(textAll v).toArray⟩ := ⟨_, rfl⟩
  have C1 : Hid (∀ i : Later W, Calls Tryd.prog 15 #[v.val] i.val fun e w' => e = .returned (.string s) ∧ ∃ j : Later W, w' = j.val) := fun i => by
    rw [hs]; exact Calls.later (text_any v w.heap.size i.val (unhide HVI i) (unhide HSI i) (unhide HTI i))
  have C2 : Hid (∀ i : Later W, Calls Tryd.prog 16 #[v.val] i.val fun e w' => e = .returned (.string s) ∧ ∃ j : Later W, w' = j.val) := fun i => by
    rw [hs]; exact Calls.later (rtextAll_any v w.heap.size i.val (unhide HVI i) (unhide HSI i))
  have HBW := hide hbw
  clear hx hbw hs hbx hsz b1 hv ht
  refine region_later (by kernel_rfl) (by kernel_rfl) ?_
  repeat (go_big_quiet_step (first
    | (go_at_call 15; exact unhide C1 _)
    | (go_at_call 16; exact unhide C2 _)
    | (go_at_call 14; exact Calls.later (alive_any _ _ (unhide HSI _) (unhide HTI _)))))
  refine wpQuiet_nil ?_
  intro w7 hw7
  obtain ⟨i, hw8⟩ := hw7
  subst hw8
  have bw := unhide HBW i
  clear x0 x1 x2 x3 C1 C2 HBW
  go_wp2_with fail
  go_ret
  exact ⟨rfl, bw⟩
end Go.Proofs.YtbcljbbdfmeccaaDoor
