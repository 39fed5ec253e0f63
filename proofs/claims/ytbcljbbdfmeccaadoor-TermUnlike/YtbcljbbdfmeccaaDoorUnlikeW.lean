/- TermUnlike, walked. -/
import Derived.Test.YtbcljbbdfmeccaaDoorOrdersW
namespace Go.Proofs.YtbcljbbdfmeccaaDoor
open Go.RowKit

theorem textAll_iff {a b : V} (ha : a.right = true) (hb : b.right = true) : ((textAll a).toArray = (textAll b).toArray) ↔ ordAll a b = 0 := by
  unfold textAll ordAll
  rw [ha, hb]
  simp only [if_true, Bool.and_self]
  rw [← text_iff ha hb]
  exact ⟨fun h => by simpa using h, fun h => by rw [h]⟩

open Go.BigFrame in
set_option maxRecDepth 100000 in
set_option maxHeartbeats 4000000 in
theorem unlike_walk (a b : V) (w : World) (ha : a.At w.heap.size w) (hb : b.At w.heap.size w) (ht : Tbl w.heap.size w) :
    Calls Tryd.prog 8 #[a.val, b.val] w fun e w' => e = .returned (.bool true) ∧ Below w.heap.size w w' := by
  go_enter Tryd.func8, Tryd.ntmps8
  go_wp2_with fail
  obtain ⟨W, hW⟩ : ∃ W, W = (w.alloc a.obj).alloc b.obj := ⟨_, rfl⟩
  have T : Two w W a b := by rw [hW]; exact two_boxes w a b
  rw [← hW]
  clear hW
  have hT := hide T
  have x0 := T.x.z.1
  have x1 := T.x.z.2.1
  have x2 := T.x.z.2.2.1
  have x3 := T.x.z.2.2.2
  have HA := hide ha
  have HB := hide hb
  have HT := hide ht
  clear T ha hb ht
  refine (right_any a w.heap.size W ((unhide HA).below (unhide hT).bw) (unhide hT).bw.size).mono ?_
  rintro e w1 ⟨rfl, b1⟩
  have T1 := (unhide hT).later b1
  clear x0 x1 x2 x3 hT b1
  have y0 := T1.y.z.1
  have y1 := T1.y.z.2.1
  have y2 := T1.y.z.2.2.1
  have y3 := T1.y.z.2.2.2
  have hT := hide T1
  clear T1
  cases hra : a.right
  · go_wp2_with fail
    refine (alive_any w.heap.size w1 (unhide hT).bw.size ((unhide HT).below (unhide hT).bw)).mono ?_
    rintro e w2 ⟨rfl, b2⟩
    have bw := ((unhide hT).later b2).bw
    clear y0 y1 y2 y3 hT b2
    go_wp2_with fail
    go_ret
    exact ⟨rfl, bw⟩
  go_wp2_with fail
  refine (right_any b w.heap.size w1 ((unhide HB).below (unhide hT).bw) (unhide hT).bw.size).mono ?_
  rintro e w2 ⟨rfl, b2⟩
  have T2 := (unhide hT).later b2
  clear y0 y1 y2 y3 hT b2
  have hT := hide T2
  clear T2
  cases hrb : b.right
  · go_wp2_with fail
    refine (alive_any w.heap.size w2 (unhide hT).bw.size ((unhide HT).below (unhide hT).bw)).mono ?_
    rintro e w3 ⟨rfl, b2⟩
    have bw := ((unhide hT).later b2).bw
    clear hT b2
    go_wp2_with fail
    go_ret
    exact ⟨rfl, bw⟩
  have HX := hide (textAll_iff hra hrb)
  obtain ⟨s, hs⟩ : ∃ s, s = (textAll a).toArray := ⟨_, rfl⟩
  obtain ⟨t, ht⟩ : ∃ t, t = (textAll b).toArray := ⟨_, rfl⟩
  obtain ⟨m, hm⟩ : ∃ m, m = ordAll a b := ⟨_, rfl⟩
  have hst : (((ByteArray.mk s).toList == (ByteArray.mk t).toList) == (m == 0)) = true := by
    have := unhide HX
    rw [← hs, ← ht, ← hm] at this
    rw [Lib.toList_data, Lib.toList_data]
    by_cases e : s = t
    · have e2 := this.1 e
      rw [e, e2]; simp
    · have e2 : ¬ m = 0 := fun h => e (this.2 h)
      have e3 : (s.toList == t.toList) = false := beq_eq_false_iff_ne.2 (fun h => e (Array.toList_inj.1 h))
      show ((s.toList == t.toList) == _) = true
      rw [e3]; simp [e2]
  have HS := hide hs
  have HU := hide ht
  have HM := hide hm
  clear hs ht hm hra hrb
  have hi : ∀ i : Later w2, Two w i.val a b := fun i => (unhide hT).later i.h
  have HAI : Hid (∀ i : Later w2, a.At w.heap.size i.val) := fun i => (unhide HA).below (hi i).bw
  have HBI : Hid (∀ i : Later w2, b.At w.heap.size i.val) := fun i => (unhide HB).below (hi i).bw
  have HSI : Hid (∀ i : Later w2, w.heap.size ≤ i.val.heap.size) := fun i => (hi i).bw.size
  have HTI : Hid (∀ i : Later w2, Tbl w.heap.size i.val) := fun i => (unhide HT).below (hi i).bw
  have C1 : Hid (∀ i : Later w2, Calls Tryd.prog 15 #[a.val] i.val fun e w' => e = .returned (.string ⟨s⟩) ∧ ∃ j : Later w2, w' = j.val) := fun i => by
    have := text_any a w.heap.size i.val (unhide HAI i) (unhide HSI i) (unhide HTI i)
    rw [← unhide HS] at this
    exact Calls.later this
  have C2 : Hid (∀ i : Later w2, Calls Tryd.prog 15 #[b.val] i.val fun e w' => e = .returned (.string ⟨t⟩) ∧ ∃ j : Later w2, w' = j.val) := fun i => by
    have := text_any b w.heap.size i.val (unhide HBI i) (unhide HSI i) (unhide HTI i)
    rw [← unhide HU] at this
    exact Calls.later this
  have C3 : Hid (∀ i : Later w2, Calls Tryd.prog 13 #[a.val, b.val] i.val fun e w' => e = .returned (.bool (m == 0)) ∧ ∃ j : Later w2, w' = j.val) := fun i => by
    have := same_any a b w.heap.size i.val (unhide HAI i) (unhide HBI i) (unhide HSI i)
    rw [← unhide HM] at this
    exact Calls.later this
  have x0 := fun i : Later w2 => (hi i).x.z.1
  have x1 := fun i : Later w2 => (hi i).x.z.2.1
  have x2 := fun i : Later w2 => (hi i).x.z.2.2.1
  have x3 := fun i : Later w2 => (hi i).x.z.2.2.2
  have y0 := fun i : Later w2 => (hi i).y.z.1
  have y1 := fun i : Later w2 => (hi i).y.z.2.1
  have y2 := fun i : Later w2 => (hi i).y.z.2.2.1
  have y3 := fun i : Later w2 => (hi i).y.z.2.2.2
  have HI := hide hi
  clear hi hT HS HU HM HX HA HB
  go_wp2_with fail
  refine region_later (by kernel_rfl) (by kernel_rfl) ?_
  repeat (go_big_quiet_step (first
    | (go_at_call_of 15 (V.kind a); exact unhide C1 _)
    | (go_at_call_of 15 (V.kind b); exact unhide C2 _)
    | (go_at_call 13; exact unhide C3 _)
    | (go_at_call 14; exact Calls.later (alive_any _ _ (unhide HSI _) (unhide HTI _)))))
  refine wpQuiet_nil ?_
  intro w7 hw7
  obtain ⟨i, hw8⟩ := hw7
  subst hw8
  have bw := (unhide HI i).bw
  clear x0 x1 x2 x3 y0 y1 y2 y3 HI C1 C2 C3
  go_wp2_with fail
  go_ret
  exact ⟨rfl, bw⟩
end Go.Proofs.YtbcljbbdfmeccaaDoor
