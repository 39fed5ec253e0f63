/- A relation that nobody made. Searches of a relation that nobody made. -/
import Derived.Test.YthcljhfankooaabGreatMSrch
namespace Go.Proofs.YthcljhfankooaabGreat
open Go.RowKit Go.Shelf

/-- Nobody made it. -/
def Unmade (w : World) (rp : Option Addr) : Prop := rp = none ∨ ∃ b, rp = some ⟨b, 0, none⟩ ∧ w.cell? ⟨b, 0, none⟩ = some (.pointer none)
theorem Unmade.later {w w' : World} {rp : Option Addr} (h : Unmade w rp) (hb : Below w.heap.size w w') : Unmade w' rp := by
  rcases h with h | ⟨b, h1, h2⟩
  · exact .inl h
  · obtain ⟨_, hz, _⟩ := cells_of_cell h2
    exact .inr ⟨b, h1, (hb.cell (p := ⟨b, 0, none⟩) (lt_heap hz)).trans h2⟩
set_option maxRecDepth 100000 in
set_option maxHeartbeats 4000000 in
theorem made_no (w : World) (rp : Option Addr) (hu : Unmade w rp) : Calls Tryz.prog 24 #[.pointer rp] w fun e w' => e = .returned (.bool false) ∧ ∃ n, w' = w.drewN n := by
  rcases hu with rfl | ⟨b, rfl, hc⟩
  · go_enter Tryz.func24, Tryz.ntmps24
    go_wp2_with fail
    go_ret
    exact ⟨rfl, 0, rfl⟩
  · go_enter Tryz.func24, Tryz.ntmps24
    go_wp2_with fail
    go_ret
    exact ⟨rfl, 0, rfl⟩
set_option maxRecDepth 100000 in
set_option maxHeartbeats 4000000 in
theorem put_no (w : World) (rp : Option Addr) (hu : Unmade w rp) (x y : Nat) (a : Option Addr) (n cap : Nat) : Calls Tryz.prog 8 #[.pointer rp, .complex .f64 x y, .slice a n cap] w fun e w' => e = .returned (.tuple #[.bool false, .int .i64 5]) ∧ ∃ n, w' = w.drewN n := by
  have hm := made_no w rp hu
  clear hu
  go_enter Tryz.func8, Tryz.ntmps8
  go_wp2_with fail
  refine hm.mono ?_
  clear hm
  rintro e w1 ⟨rfl, n, hw1⟩
  subst hw1
  go_wp2_with fail
  go_ret2
  exact ⟨rfl, n, rfl⟩
set_option maxRecDepth 100000 in
set_option maxHeartbeats 4000000 in
theorem note_no (w : World) (rp : Option Addr) (hu : Unmade w rp) (a : Option Addr) (n cap : Nat) : Calls Tryz.prog 13 #[.pointer rp, .slice a n cap] w fun e w' => e = .returned (.tuple #[.complex .f64 0 0, .bool false]) ∧ ∃ n, w' = w.drewN n := by
  have hm := made_no w rp hu
  clear hu
  go_enter Tryz.func13, Tryz.ntmps13
  go_wp2_with fail
  refine hm.mono ?_
  clear hm
  rintro e w1 ⟨rfl, n, hw1⟩
  subst hw1
  go_wp2_with fail
  go_ret2
  exact ⟨rfl, n, rfl⟩
set_option maxRecDepth 100000 in
set_option maxHeartbeats 4000000 in
theorem len_no (w : World) (rp : Option Addr) (hu : Unmade w rp)  : Calls Tryz.prog 17 #[.pointer rp] w fun e w' => e = .returned (.int .i64 0) ∧ ∃ n, w' = w.drewN n := by
  have hm := made_no w rp hu
  clear hu
  go_enter Tryz.func17, Tryz.ntmps17
  go_wp2_with fail
  refine hm.mono ?_
  clear hm
  rintro e w1 ⟨rfl, n, hw1⟩
  subst hw1
  go_wp2_with fail
  go_ret
  exact ⟨rfl, n, rfl⟩
set_option maxRecDepth 100000 in
set_option maxHeartbeats 4000000 in
theorem width_no (w : World) (rp : Option Addr) (hu : Unmade w rp)  : Calls Tryz.prog 18 #[.pointer rp] w fun e w' => e = .returned (.int .i64 0) ∧ ∃ n, w' = w.drewN n := by
  have hm := made_no w rp hu
  clear hu
  go_enter Tryz.func18, Tryz.ntmps18
  go_wp2_with fail
  refine hm.mono ?_
  clear hm
  rintro e w1 ⟨rfl, n, hw1⟩
  subst hw1
  go_wp2_with fail
  go_ret
  exact ⟨rfl, n, rfl⟩
set_option maxRecDepth 100000 in
set_option maxHeartbeats 4000000 in
theorem clear_no (w : World) (rp : Option Addr) (hu : Unmade w rp)  : Calls Tryz.prog 15 #[.pointer rp] w fun e w' => e = .returned (.tuple #[]) ∧ ∃ n, w' = w.drewN n := by
  have hm := made_no w rp hu
  clear hu
  go_enter Tryz.func15, Tryz.ntmps15
  go_wp2_with fail
  refine hm.mono ?_
  clear hm
  rintro e w1 ⟨rfl, n, hw1⟩
  subst hw1
  go_wp2_with fail
  refine bodyPost_ret (results_none rfl _ _ _) rfl ?_
  exact ⟨rfl, n, rfl⟩
set_option maxRecDepth 100000 in
set_option maxHeartbeats 4000000 in
theorem has_no (w : World) (rp : Option Addr) (hu : Unmade w rp) (a : Option Addr) (n cap : Nat) : Calls Tryz.prog 16 #[.pointer rp, .slice a n cap] w fun e w' => e = .returned (.bool false) ∧ ∃ n, w' = w.drewN n := by
  have hm := note_no w rp hu a n cap
  clear hu
  go_enter Tryz.func16, Tryz.ntmps16
  go_wp2_with fail
  refine hm.mono ?_
  clear hm
  rintro e w1 ⟨rfl, n, hw1⟩
  subst hw1
  go_wp2_with fail
  go_ret
  exact ⟨rfl, n, rfl⟩
set_option maxRecDepth 100000 in
set_option maxHeartbeats 4000000 in
theorem pair_no1 (w : World) (rp op : Option Addr) (hu : Unmade w rp) : Calls Tryz.prog 34 #[.pointer rp, .pointer op] w fun e w' => e = .returned (.int .i64 5) ∧ ∃ n, w' = w.drewN n := by
  have hm := made_no w rp hu
  clear hu
  go_enter Tryz.func34, Tryz.ntmps34
  go_wp2_with fail
  refine hm.mono ?_
  clear hm
  rintro e w1 ⟨rfl, n, hw1⟩
  subst hw1
  go_wp2_with fail
  go_ret
  exact ⟨rfl, n, rfl⟩
set_option maxRecDepth 100000 in
set_option maxHeartbeats 4000000 in
theorem pair_no2 (w : World) (rb hb : Nat) (op : Option Addr) (hc : w.cell? ⟨rb, 0, none⟩ = some (.pointer (some ⟨hb, 0, none⟩))) (hu : Unmade w op) : Calls Tryz.prog 34 #[.pointer (some ⟨rb, 0, none⟩), .pointer op] w fun e w' => e = .returned (.int .i64 5) ∧ ∃ n, w' = w.drewN n := by
  have hm := rmade_any w rb hb hc
  have hm2 := fun n => made_no (w.drewN n) op (hu.later (below_drewN (Below.refl _ w) n))
  clear hu hc
  go_enter Tryz.func34, Tryz.ntmps34
  go_wp2_with fail
  refine hm.mono ?_
  clear hm
  rintro e w1 ⟨rfl, n, hw1⟩
  subst hw1
  go_wp2_with fail
  refine (hm2 n).mono ?_
  clear hm2
  rintro e w2 ⟨rfl, m, hw2⟩
  subst hw2
  go_wp2_with fail
  go_ret
  exact ⟨rfl, n + m, rfl⟩
set_option maxRecDepth 100000 in
set_option maxHeartbeats 4000000 in
theorem swap_no (w : World) (rp op : Option Addr) (hp : Calls Tryz.prog 34 #[.pointer rp, .pointer op] w fun e w' => e = .returned (.int .i64 5) ∧ ∃ n, w' = w.drewN n) : Calls Tryz.prog 19 #[.pointer rp, .pointer op] w fun e w' => e = .returned (.int .i64 5) ∧ ∃ n, w' = w.drewN n := by
  go_enter Tryz.func19, Tryz.ntmps19
  go_wp2_with fail
  refine hp.mono ?_
  clear hp
  rintro e w1 ⟨rfl, n, hw1⟩
  subst hw1
  go_wp2_with fail
  go_ret
  exact ⟨rfl, n, rfl⟩
end Go.Proofs.YthcljhfankooaabGreat

namespace Go.Proofs.YthcljhfankooaabGreat
open Go.RowKit Go.Shelf

set_option maxRecDepth 100000 in
set_option maxHeartbeats 4000000 in
theorem found_nil (w : World) (rp : Option Addr) (hu : Unmade w rp) (t : List Int) (tv : Value) (ht : Ints w.heap.size w tv t) (cols : Int) :
    Calls Tryz.prog 38 #[.pointer rp, .int .i64 cols, tv] w fun e w' => e = .returned (.slice none 0 0) ∧ Below w.heap.size w w' := by
  have mixed : Tryz.prog.follows .mixedOrders = true := by kernel_rfl
  obtain ⟨ta, tc, rfl, _⟩ := id ht
  obtain ⟨W0, hW0⟩ : ∃ W0, W0 = ((w.alloc (.cells #[.pointer rp] 23)).alloc (.cells #[.int .i64 cols] 3)).alloc (.cells #[.slice ta t.length tc] 32) := ⟨_, rfl⟩
  have hz0 : W0.heap.size = w.heap.size + 3 := by rw [hW0]; simp
  have b0 : Below w.heap.size w W0 := by rw [hW0]; exact (((Below.refl _ w).alloc (Nat.le_refl _) _).alloc (by simp) _).alloc (by simp; omega) _
  have k3 : Boxed W0 w.heap.size 23 (.pointer rp) := by rw [hW0]; exact ((Boxed.new w _ _).alloc _).alloc _
  have k4 : Boxed W0 (w.heap.size + 1) 3 (.int .i64 cols) := by
    have := (Boxed.new (w.alloc (.cells #[.pointer rp] 23)) 3 (.int .i64 cols)).alloc (.cells #[.slice ta t.length tc] 32)
    rw [World.size_alloc] at this
    rw [hW0]; exact this
  have k5 : Boxed W0 (w.heap.size + 2) 32 (.slice ta t.length tc) := by
    have := Boxed.new ((w.alloc (.cells #[.pointer rp] 23)).alloc (.cells #[.int .i64 cols] 3)) 32 (.slice ta t.length tc)
    rw [World.size_alloc, World.size_alloc] at this
    rw [hW0]; exact this
  have CELL : Hid (∀ v, Below W0.heap.size W0 v → v.cell? ⟨w.heap.size, 0, none⟩ = some (.pointer rp)) := fun v hv => Boxed.cell ((hv.block _ k3.lt).trans k3)
  have MADE : Hid (∀ v, Below W0.heap.size W0 v → Calls Tryz.prog 24 #[.pointer rp] v fun e w' => e = .returned (.bool false) ∧ Below W0.heap.size W0 w') := fun v hv => (made_no v rp ((hu.later b0).later hv)).mono fun e w' ⟨h1, n, h2⟩ => ⟨h1, by rw [h2]; exact below_drewN hv n⟩
  have HH := hide b0
  have HW := hide hW0
  clear hu b0 hz0 ht hW0 k3 k4 k5
  refine calls_marks Tryz.func38 rfl ?_
  simp only [Tryz.ntmps38, List.size_toArray, List.length_cons, List.length_nil, Nat.reduceAdd, Nat.reduceSub, Array.replicate_succ, Array.replicate_zero, List.push_toArray, List.append_toArray, List.nil_append, List.cons_append]
  go_wp2_with fail
  rw [← unhide HW]
  refine region_mixN (md := [(0, true), (1, false), (2, true), (3, true), (4, true), (5, true), (6, true), (7, true), (8, true), (9, true), (10, true), (11, true), (12, true), (13, true), (14, true), (15, true), (16, true), (17, true), (18, true), (19, true), (20, true), (21, true), (22, true), (23, true)]) (fun w' => Below W0.heap.size W0 w') mixed (by kernel_rfl) rfl (by kernel_rfl) (fun PP hPP => ?_)
  iterate 1 (refine wpMix_take (v := ?_) rfl (by kernel_rfl) (fun w' hw => ?_) ?_; rotate_left; · (have q1 := unhide CELL w' hw; go_simp; try with_reducible rfl))
  refine wpMix_force rfl ((Below.refl _ W0).drew) (fun K hK => ?_)
  go_simp
  refine (unhide MADE _ ((Below.refl _ W0).drew)).mono ?_
  rintro e v1 ⟨rfl, b1⟩
  have B2 := hide b1
  clear b1
  go_wp2_with fail
  iterate 2 (refine wpMix_take (v := ?_) rfl (by kernel_rfl) (fun w' hw => ?_) ?_; rotate_left; · (go_simp; try with_reducible rfl))
  iterate 7 (refine wpMix_pass rfl (by kernel_rfl) ?_)
  iterate 2 (refine wpMix_take (v := ?_) rfl (by kernel_rfl) (fun w' hw => ?_) ?_; rotate_left; · (go_simp; try with_reducible rfl))
  iterate 10 (refine wpMix_pass rfl (by kernel_rfl) ?_)
  iterate 1 (refine wpMix_take (v := ?_) rfl (by kernel_rfl) (fun w' hw => ?_) ?_; rotate_left; · (go_simp; try with_reducible rfl))
  refine wpMix_nil (unhide B2) (hPP _ _ ?_)
  clear hPP
  simp [Act.put, Array.setIfInBounds]
  clear MADE
  go_wp2_with fail
  exact ⟨.slice none 0 0, by simp [results, Tryz.f38, go_sem], rfl, (unhide HH).trans ((unhide B2).mono (by have := (unhide HH).size; omega))⟩

/-- What Find's iterator holds. -/
def FindAtN (W : World) (b3 b4 b7 : Nat) (rp : Option Addr) (cols : Int) (t : List Int) : Prop := Boxed W b3 23 (.pointer rp) ∧ Boxed W b4 3 (.int .i64 cols) ∧ ∃ xa xc, Boxed W b7 32 (.slice xa t.length xc) ∧ IntsS (fun b => b < W.heap.size) W (.slice xa t.length xc) t
theorem FindAtN.step {W W' : World} {b3 b4 b7 base : Nat} {rp : Option Addr} {cols : Int} {t : List Int} (h : FindAtN W b3 b4 b7 rp cols t) (hs : Step base W W') : FindAtN W' b3 b4 b7 rp cols t := by
  obtain ⟨h1, h2, xa, xc, h3, h4⟩ := h
  exact ⟨hs.box h1, hs.box h2, xa, xc, hs.box h3, (h4.stays hs.stays).mono (fun b _ hb => by have := hs.size; omega)⟩
def FindOkN (w : World) (rp : Option Addr) (cols : Int) (t : List Int) (e : Ending) (w' : World) : Prop := ∃ b3 b4 b7, e = .returned (.func (.func 37) #[] #[.pointer (some ⟨b3, 0, none⟩), .pointer (some ⟨b4, 0, none⟩), .pointer (some ⟨b7, 0, none⟩)]) ∧ FindAtN w' b3 b4 b7 rp cols t ∧ Below w.heap.size w w'
set_option maxRecDepth 100000 in
set_option maxHeartbeats 4000000 in
theorem rfind_nil (w : World) (rp : Option Addr) (cols : Int) (t : List Int) (tv : Value) (ht : Ints w.heap.size w tv t) (hn : t.length * 8 ≤ 140737488355328) :
    Calls Tryz.prog 20 #[.pointer rp, .int .i64 cols, tv] w fun e w' => FindOkN w rp cols t e w' := by
  obtain ⟨W, hW⟩ : ∃ W, W = (w.alloc (.cells #[.pointer rp] 23)).alloc (.cells #[.int .i64 cols] 3) := ⟨_, rfl⟩
  have hb2 : Below w.heap.size w W := by rw [hW]; exact ((Below.refl _ w).alloc (Nat.le_refl _) _).alloc (by simp) _
  have k1 : Boxed W w.heap.size 23 (.pointer rp) := by rw [hW]; exact (Boxed.new w _ _).alloc _
  have k2 : Boxed W (w.heap.size + 1) 3 (.int .i64 cols) := by
    have := Boxed.new (w.alloc (.cells #[.pointer rp] 23)) 3 (.int .i64 cols)
    rw [World.size_alloc] at this
    rw [hW]; exact this
  have hcl := cloneL_any (fun b => b < w.heap.size) W tv t (IntsS.of_ints (ht.below hb2 (Nat.le_refl _)) (fun _ h => h)) hn
  obtain ⟨xa, xc, rfl, _⟩ := id ht
  have HH := hide (And.intro hb2 (And.intro k1 k2))
  have HW := hide hW
  clear hb2 k1 k2 ht hW
  go_enter Tryz.func20, Tryz.ntmps20
  go_wp2_with fail
  rw [← unhide HW]
  refine hcl.mono ?_
  clear hcl
  rintro e w3 ⟨r, rfl, hown, hb3⟩
  obtain ⟨ra, rc, rfl, _⟩ := id hown.intsS
  have HO := hide (And.intro hown hb3)
  clear hown hb3
  go_wp2_with fail
  go_ret
  obtain ⟨hb2, k1, k2⟩ := unhide HH
  obtain ⟨hown, hb3⟩ := unhide HO
  obtain ⟨w4, hw4⟩ : ∃ w4, w4 = w3.alloc (.cells #[.slice ra t.length rc] 32) := ⟨_, rfl⟩
  rw [← hw4]
  have hb4 : Below w3.heap.size w3 w4 := by rw [hw4]; exact (Below.refl _ w3).alloc (Nat.le_refl _) _
  have k3 : Boxed w4 w3.heap.size 32 (.slice ra t.length rc) := by rw [hw4]; exact Boxed.new w3 _ _
  have b24 : Below W.heap.size W w4 := hb3.trans (hb4.mono hb3.size)
  exact ⟨w.heap.size, w.heap.size + 1, w3.heap.size, rfl, ⟨(b24.block _ k1.lt).trans k1, (b24.block _ k2.lt).trans k2, ra, rc, k3, (hown.intsS.later hb4).mono (fun b hb _ => hb)⟩, hb2.trans (b24.mono hb2.size)⟩

theorem find1_no (W : World) (rp : Option Addr) (hu : Unmade W rp) (t : List Int) (cols : Int) (b3 b4 b7 : Nat) (hF : FindAtN W b3 b4 b7 rp cols t) :
    GoesAtP 37 #[.pointer (some ⟨b3, 0, none⟩), .pointer (some ⟨b4, 0, none⟩), .pointer (some ⟨b7, 0, none⟩)] 0 (HandsP []) (fun _ => False) W := by
  obtain ⟨k3, k4, xa, xc, k7, hx⟩ := hF
  exact find1_nil W _ cols xa t.length xc b3 b4 b7 k3 k4 k7 (found_nil W rp hu t _ hx.ints cols)
set_option maxRecDepth 100000 in
set_option maxHeartbeats 4000000 in
theorem rall_nil (w : World) (rp : Option Addr) (hu : Unmade w rp) : Calls Tryz.prog 11 #[.pointer rp] w fun e w' => FindOkN w rp 0 [] e w' := by
  have hwd := width_no w rp hu
  obtain ⟨Z, hZ, hmk⟩ := zeros_run 0 (by omega)
  have HF : Hid (∀ n, Calls Tryz.prog 20 #[.pointer rp, .int .i64 0, .slice (some ⟨w.heap.size, 0, none⟩) 0 0] ((w.drewN n).alloc (.cells Z 3)) fun e w' => FindOkN w rp 0 [] e w') := fun n => by
    refine (rfind_nil _ rp 0 [] _ (zeros_own hZ (by omega) (w.drewN n)).ints (by simp)).mono ?_
    rintro e w' ⟨b3, b4, b7, rfl, hF, b⟩
    exact ⟨b3, b4, b7, rfl, hF, ((below_drewN (Below.refl _ w) n).alloc (Nat.le_refl _) _).trans (b.mono (by simp))⟩
  clear hu hZ
  go_enter Tryz.func11, Tryz.ntmps11
  go_wp2_with fail
  refine hwd.mono ?_
  clear hwd
  rintro e w1 ⟨rfl, n, hw1⟩
  subst hw1
  have hmk : (Instr.makeSlice 32 (.int .i64 0) (.int .i64 0)).run Tryz.prog (w.drewN n) = .ok (.slice (some ⟨w.heap.size, 0, none⟩) 0 0) ((w.drewN n).alloc (.cells Z 3)) := hmk (w.drewN n)
  go_wp2_with fail
  refine (unhide HF n).mono ?_
  rintro e w' ⟨b3, b4, b7, rfl, hF, b⟩
  have H := hide (And.intro hF b)
  clear hF b
  go_wp2_with fail
  go_ret
  exact ⟨b3, b4, b7, rfl, (unhide H).1, (unhide H).2⟩

set_option maxRecDepth 100000 in
set_option maxHeartbeats 4000000 in
theorem merge_no (w : World) (rp op : Option Addr) (hp : ∀ v, Below w.heap.size w v → Calls Tryz.prog 34 #[.pointer rp, .pointer op] v fun e w' => e = .returned (.int .i64 5) ∧ ∃ n, w' = v.drewN n) : Calls Tryz.prog 14 #[.pointer rp, .pointer op] w fun e w' => e = .returned (.tuple #[.int .i64 0, .int .i64 5]) ∧ Below w.heap.size w w' := by
  obtain ⟨W, hW⟩ : ∃ W, W = ((w.alloc (.cells #[.pointer rp] 23)).alloc (.cells #[.int .i64 0] 3)).alloc (.cells #[.int .i64 0] 24) := ⟨_, rfl⟩
  have b0 : Below w.heap.size w W := by rw [hW]; exact (((Below.refl _ w).alloc (Nat.le_refl _) _).alloc (by simp) _).alloc (by simp; omega) _
  have hpw := hp W b0
  have k4 : Boxed W (w.heap.size + 1) 3 (.int .i64 0) := by
    have := (Boxed.new (w.alloc (.cells #[.pointer rp] 23)) 3 (.int .i64 0)).alloc (.cells #[.int .i64 0] 24)
    rw [World.size_alloc] at this
    rw [hW]; exact this
  have k5 : Boxed W (w.heap.size + 1 + 1) 24 (.int .i64 0) := by
    have := Boxed.new ((w.alloc (.cells #[.pointer rp] 23)).alloc (.cells #[.int .i64 0] 3)) 24 (.int .i64 0)
    rw [World.size_alloc, World.size_alloc] at this
    rw [hW]; exact this
  have HB := hide (And.intro b0 (And.intro k4 k5))
  clear hp b0 k4 k5
  go_enter Tryz.func14, Tryz.ntmps14
  go_wp2_with fail
  rw [← hW]
  clear hW
  refine hpw.mono ?_
  clear hpw
  rintro e w2 ⟨rfl, n, hw2⟩
  obtain ⟨b0, k4', k5'⟩ := unhide HB
  have k4 : Boxed w2 (w.heap.size + 1) 3 (.int .i64 0) := by rw [hw2]; exact k4'
  have k5 : Boxed w2 (w.heap.size + 1 + 1) 24 (.int .i64 0) := by rw [hw2]; exact k5'
  have b2 : Below w.heap.size w w2 := by rw [hw2]; exact below_drewN b0 n
  obtain ⟨b5, e5⟩ : ∃ b, b = w.heap.size + 1 + 1 := ⟨_, rfl⟩
  obtain ⟨b4, e4⟩ : ∃ b, b = w.heap.size + 1 := ⟨_, rfl⟩
  rw [← e5] at k5
  rw [← e4] at k4
  have q4 := k4.cell
  have q5 := k5.cell
  have f4 := k4.frozen
  have f5 := k5.frozen
  have n45 : b4 ≠ b5 := by omega
  have n54 : b5 ≠ b4 := by omega
  have HK := hide (And.intro k4 (And.intro k5 (And.intro b2 (And.intro e4 e5))))
  rw [← e5, ← e4]
  clear k4 k5 b2 e4 e5 b0 k4' k5' hw2
  go_wp2_with fail
  obtain ⟨k4, k5, b2, e4, e5⟩ := unhide HK
  have hK4 : Keeps (fun q => q = b4) w2 (w2.setCell ⟨b4, 0, none⟩ (.int .i64 0)) := (Keeps.refl (fun q => q = b4) w2).setCell ⟨b4, 0, none⟩ rfl _
  have hK5 : Keeps (fun q => q = b4 ∨ q = b5) w2 ((w2.setCell ⟨b4, 0, none⟩ (.int .i64 0)).setCell ⟨b5, 0, none⟩ (.int .i64 5)) := (hK4.mono (fun _ e => .inl e)).setCell ⟨b5, 0, none⟩ (.inr rfl) _
  have k4s := (Boxed.set (.int .i64 0) k4)
  have k5s := Boxed.set (.int .i64 5) (hK4.box k5 (by omega))
  have hK45 : Keeps (fun q => q = b5) (w2.setCell ⟨b4, 0, none⟩ (.int .i64 0)) ((w2.setCell ⟨b4, 0, none⟩ (.int .i64 0)).setCell ⟨b5, 0, none⟩ (.int .i64 5)) := (Keeps.refl (fun q => q = b5) _).setCell ⟨b5, 0, none⟩ rfl _
  have k4t := hK45.box k4s (by omega)
  have b03 := b2.trans (hK5.below b2.size (fun b e => by omega))
  exact bodyPost_ret (v := .tuple #[.int .i64 0, .int .i64 5]) (by simp [results, Tryz.f14, go_sem, k4t.cell, k5s.cell]) rfl ⟨rfl, b03⟩
end Go.Proofs.YthcljhfankooaabGreat
