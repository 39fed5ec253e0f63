/- TermSorts, walked. -/
import Derived.Test.YtbcljbbdfmeccaaDoorOrdersW
import Derived.Test.YtbcljbbdfmeccaaDoorSortsM
namespace Go.Proofs.YtbcljbbdfmeccaaDoor
open Go.RowKit

/-- Three boxes, in a world that came later. -/
structure Three (w wr : World) (a b c : V) : Prop where
  x : CellsAt wr w.heap.size 0 a
  y : CellsAt wr (w.heap.size + 1) 0 b
  z : CellsAt wr (w.heap.size + 1 + 1) 0 c
  sz : w.heap.size + 3 ≤ wr.heap.size
  bw : Below w.heap.size w wr
theorem three_boxes (w : World) (a b c : V) : Three w (((w.alloc a.obj).alloc b.obj).alloc c.obj) a b c := by
  have T := two_boxes w a b
  have hs : ((w.alloc a.obj).alloc b.obj).heap.size = w.heap.size + 1 + 1 := by simp
  have hb := below_box ((w.alloc a.obj).alloc b.obj) c.obj
  refine ⟨T.x.below hb (by omega), T.y.below hb (by omega), ?_, by simp, T.bw.trans (hb.mono (by omega))⟩
  have := boxed ((w.alloc a.obj).alloc b.obj) c
  rwa [hs] at this
theorem Three.later {w wr w2 : World} {a b c : V} (h : Three w wr a b c) (hb : Below wr.heap.size wr w2) : Three w w2 a b c :=
  ⟨h.x.below hb (by have := h.sz; omega), h.y.below hb (by have := h.sz; omega), h.z.below hb (by have := h.sz; omega), Nat.le_trans h.sz hb.size, h.bw.trans (hb.mono (by have := h.sz; omega))⟩

open Go.BigFrame in
set_option maxRecDepth 100000 in
set_option maxHeartbeats 4000000 in
theorem sorts_walk (a b c : V) (w : World) (ha : a.At w.heap.size w) (hb : b.At w.heap.size w) (hc : c.At w.heap.size w) (ht : Tbl w.heap.size w) :
    Calls Tryd.prog 6 #[a.val, b.val, c.val] w fun e w' => e = .returned (.bool true) ∧ Below w.heap.size w w' := by
  go_enter Tryd.func6, Tryd.ntmps6
  go_wp2_with fail
  obtain ⟨W, hW⟩ : ∃ W, W = ((w.alloc a.obj).alloc b.obj).alloc c.obj := ⟨_, rfl⟩
  have T : Three w W a b c := by rw [hW]; exact three_boxes w a b c
  rw [← hW]
  clear hW
  have hi : ∀ i : Later W, Three w i.val a b c := fun i => T.later i.h
  have HAI : Hid (∀ i : Later W, a.At w.heap.size i.val) := fun i => ha.below (hi i).bw
  have HBI : Hid (∀ i : Later W, b.At w.heap.size i.val) := fun i => hb.below (hi i).bw
  have HCI : Hid (∀ i : Later W, c.At w.heap.size i.val) := fun i => hc.below (hi i).bw
  have HSI : Hid (∀ i : Later W, w.heap.size ≤ i.val.heap.size) := fun i => (hi i).bw.size
  have HTI : Hid (∀ i : Later W, Tbl w.heap.size i.val) := fun i => ht.below (hi i).bw
  obtain ⟨m, hm⟩ : ∃ m, m = ordAll a b := ⟨_, rfl⟩
  obtain ⟨n, hn⟩ : ∃ n, n = ordAll b c := ⟨_, rfl⟩
  obtain ⟨k, hk⟩ : ∃ k, k = ordAll a c := ⟨_, rfl⟩
  have C1 : Hid (∀ i : Later W, Calls Tryd.prog 11 #[a.val, b.val] i.val fun e w' => e = .returned (.int .i64 m) ∧ ∃ j : Later W, w' = j.val) := fun i => by
    rw [hm]; exact Calls.later (ord_any a b _ _ (unhide HAI _) (unhide HBI _) (unhide HSI _))
  have C2 : Hid (∀ i : Later W, Calls Tryd.prog 11 #[b.val, c.val] i.val fun e w' => e = .returned (.int .i64 n) ∧ ∃ j : Later W, w' = j.val) := fun i => by
    rw [hn]; exact Calls.later (ord_any b c _ _ (unhide HBI _) (unhide HCI _) (unhide HSI _))
  have C3 : Hid (∀ i : Later W, Calls Tryd.prog 11 #[a.val, c.val] i.val fun e w' => e = .returned (.int .i64 k) ∧ ∃ j : Later W, w' = j.val) := fun i => by
    rw [hk]; exact Calls.later (ord_any a c _ _ (unhide HAI _) (unhide HCI _) (unhide HSI _))
  have C4' : Hid (∀ v : World, Below w.heap.size w v → Calls Tryd.prog 11 #[b.val, a.val] v fun e w' => e = .returned (.int .i64 (-m)) ∧ Below v.heap.size v w') := fun v hv => by
    rw [hm, ← ordAll_neg]; exact ord_any b a _ _ (hb.below hv) (ha.below hv) hv.size
  have C5' : Hid (∀ v : World, Below w.heap.size w v → Calls Tryd.prog 11 #[a.val, a.val] v fun e w' => e = .returned (.int .i64 0) ∧ Below v.heap.size v w') := fun v hv => by
    have := ord_any a a _ _ (ha.below hv) (ha.below hv) hv.size
    rw [ordAll_self] at this
    exact this
  have C6' : Hid (∀ v : World, Below w.heap.size w v → Calls Tryd.prog 14 #[] v fun e w' => e = .returned (.bool true) ∧ Below v.heap.size v w') := fun v hv =>
    alive_any _ _ hv.size (ht.below hv)
  have rm := hide (ordAll_range a b)
  have rn := hide (ordAll_range b c)
  have rk := hide (ordAll_range a c)
  have tr := hide (ordAll_tr a b c)
  rw [← hm] at rm tr
  rw [← hn] at rn tr
  rw [← hk] at rk tr
  have x0 := fun i : Later W => (hi i).x.z.1
  have x1 := fun i : Later W => (hi i).x.z.2.1
  have x2 := fun i : Later W => (hi i).x.z.2.2.1
  have x3 := fun i : Later W => (hi i).x.z.2.2.2
  have y0 := fun i : Later W => (hi i).y.z.1
  have y1 := fun i : Later W => (hi i).y.z.2.1
  have y2 := fun i : Later W => (hi i).y.z.2.2.1
  have y3 := fun i : Later W => (hi i).y.z.2.2.2
  have z0 := fun i : Later W => (hi i).z.z.1
  have z1 := fun i : Later W => (hi i).z.z.2.1
  have z2 := fun i : Later W => (hi i).z.z.2.2.1
  have z3 := fun i : Later W => (hi i).z.z.2.2.2
  have HI := hide hi
  clear hi T hm hn hk ha hb hc ht HAI HBI HCI
  refine region_later (by kernel_rfl) (by kernel_rfl) ?_
  repeat (go_big_quiet_step (first
    | (go_at_call_of 11 (V.kind a); go_at_call_of 11 (V.kind b); exact unhide C1 _)
    | (go_at_call_of 11 (V.kind b); go_at_call_of 11 (V.kind c); exact unhide C2 _)
    | (go_at_call_of 11 (V.kind a); go_at_call_of 11 (V.kind c); exact unhide C3 _)))
  refine wpQuiet_nil ?_
  intro w7 hw7
  obtain ⟨i, hw8⟩ := hw7
  subst hw8
  have T1 := unhide HI i
  clear x0 x1 x2 x3 y0 y1 y2 y3 z0 z1 z2 z3 HI HSI HTI C1 C2 C3
  generalize i.val = w1 at *
  have HD : m = 1 ∨ ((m = 0 ∨ m = -1) ∧ (n = 1 ∨ (n = 0 ∧ m = 0 ∧ k = 0) ∨ (n = 0 ∧ m = -1 ∧ k = -1) ∨ (n = -1 ∧ m = 0 ∧ k = -1) ∨ (n = -1 ∧ m = -1 ∧ k = -1))) := by
    have h0 := unhide rm
    have h1 := unhide rn
    have h2 := unhide rk
    have h3 := unhide tr
    unfold Tr at h3
    omega
  clear rm rn rk tr
  have x0 := T1.x.z.1
  have x1 := T1.x.z.2.1
  have x2 := T1.x.z.2.2.1
  have x3 := T1.x.z.2.2.2
  have y0 := T1.y.z.1
  have y1 := T1.y.z.2.1
  have y2 := T1.y.z.2.2.1
  have y3 := T1.y.z.2.2.2
  have D4 := hide (C4'.out w1 T1.bw)
  have HT1 := hide T1
  clear T1 C4'
  rcases HD with rfl | ⟨rfl | rfl, rfl | ⟨rfl, h1, rfl⟩ | ⟨rfl, h1, rfl⟩ | ⟨rfl, h1, rfl⟩ | ⟨rfl, h1, rfl⟩⟩
  all_goals try (cases h1; done)
  all_goals try clear h1
  all_goals
    go_wp2_with fail
    refine (unhide D4).mono ?_
    rintro e w2 ⟨rfl, b2⟩
    have T2 := (unhide HT1).later b2
    clear x0 x1 x2 x3 y0 y1 y2 y3 D4 HT1 b2
    have x0 := T2.x.z.1
    have x1 := T2.x.z.2.1
    have x2 := T2.x.z.2.2.1
    have x3 := T2.x.z.2.2.2
    have D5 := hide (C5'.out w2 T2.bw)
    have HT2 := hide T2
    clear T2
    go_wp2_with fail
    refine (unhide D5).mono ?_
    rintro e w3 ⟨rfl, b3⟩
    have T3 := (unhide HT2).later b3
    have D6 := hide (C6'.out w3 T3.bw)
    have HT3 := hide T3
    clear x0 x1 x2 x3 D5 b3 HT2 T3
    go_wp2_with fail
    refine (unhide D6).mono ?_
    rintro e w4 ⟨rfl, b4⟩
    have bw := ((unhide HT3).later b4).bw
    clear HT3 b4 D6
    go_wp2_with fail
    go_ret
    exact ⟨rfl, bw⟩
end Go.Proofs.YtbcljbbdfmeccaaDoor
