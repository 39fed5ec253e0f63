/- Width and All. Searches that find nothing. The iterator of a search that finds nothing. What a search finds, as a list; and the rows that are gone over. -/
import Derived.Test.YthcljhfankooaabGreatMAliv
namespace Go.Proofs.YthcljhfankooaabGreat
open Go.RowKit Go.Shelf

set_option maxRecDepth 100000 in
set_option maxHeartbeats 4000000 in
theorem rwidth_any [Xt] (w : World) (rb hb mb wd : Nat) (sh : List (Nat × Nat)) (os : List (List Int)) (ns : List Nrow) (h : RelAt w rb hb mb sh wd os ns) : Calls Tryz.prog 18 #[.pointer (some ⟨rb, 0, none⟩)] w fun e w' => e = .returned (.int .i64 (wd : Int)) ∧ ∃ n, w' = w.drewN n := by
  obtain ⟨c1, c2, c3⟩ := h.cells w (Below.refl _ w)
  have hm := rmade_any w rb hb c1
  clear h c3
  go_enter Tryz.func18, Tryz.ntmps18
  go_wp2_with fail
  refine hm.mono ?_
  clear hm
  rintro e w1 ⟨rfl, n, hw1⟩
  subst hw1
  have c1' : (w.drewN n).cell? ⟨rb, 0, none⟩ = some (.pointer (some ⟨hb, 0, none⟩)) := c1
  have c2' : (w.drewN n).cell? ⟨hb, 0, none⟩ = some (.int .i64 (wd : Int)) := c2
  go_wp2_with fail
  go_ret
  exact ⟨rfl, n, rfl⟩

set_option maxRecDepth 100000 in
set_option maxHeartbeats 4000000 in
theorem rall_any [Xt] (w : World) (rb hb mb wd : Nat) (sh : List (Nat × Nat)) (os : List (List Int)) (ns : List Nrow) (h : RelAt w rb hb mb sh wd os ns) : Calls Tryz.prog 11 #[.pointer (some ⟨rb, 0, none⟩)] w fun e w' => FindOk w rb 0 (List.replicate wd 0) e w' := by
  have hwd := rwidth_any w rb hb mb wd sh os ns h
  obtain ⟨Z, hZ, hmk⟩ := zeros_run wd h.held.wd8
  have HF : Hid (∀ n, Calls Tryz.prog 20 #[.pointer (some ⟨rb, 0, none⟩), .int .i64 0, .slice (some ⟨w.heap.size, 0, none⟩) wd wd] ((w.drewN n).alloc (.cells Z 3)) fun e w' => FindOk w rb 0 (List.replicate wd 0) e w') := fun n => by
    refine (rfind_any _ rb 0 (List.replicate wd 0) _ (zeros_own hZ h.held.wd8 (w.drewN n)).ints (by have := h.held.wd8; simp; omega)).mono ?_
    rintro e w' ⟨b3, b4, b7, rfl, hF, b⟩
    exact ⟨b3, b4, b7, rfl, hF, ((below_drewN (Below.refl _ w) n).alloc (Nat.le_refl _) _).trans (b.mono (by simp))⟩
  clear h hZ
  go_enter Tryz.func11, Tryz.ntmps11
  go_wp2_with fail
  refine hwd.mono ?_
  clear hwd
  rintro e w1 ⟨rfl, n, hw1⟩
  subst hw1
  have hmk := hmk (w.drewN n)
  go_wp2_with fail
  refine (unhide HF n).mono ?_
  rintro e w' ⟨b3, b4, b7, rfl, hF, b⟩
  have H := hide (And.intro hF b)
  clear hF b
  go_wp2_with fail
  go_ret
  exact ⟨b3, b4, b7, rfl, (unhide H).1, (unhide H).2⟩

/-- Nothing is found. -/
def FoundNo [Xt] (w : World) (rb wd : Nat) (cols : Int) (t : List Int) : Prop := (∃ hb mb sh os ns, RelAt w rb hb mb sh wd os ns) ∧ (t.length ≠ wd ∨ ¬ (0 ≤ cols ∧ cols < ((2 ^ wd : Nat) : Int)))
end Go.Proofs.YthcljhfankooaabGreat

namespace Go.Proofs.YthcljhfankooaabGreat
open Go.RowKit Go.Shelf

set_option maxRecDepth 100000 in
set_option maxHeartbeats 4000000 in
theorem found_len [Xt] (w : World) (rb hb mb wd : Nat) (sh : List (Nat × Nat)) (os : List (List Int)) (ns : List Nrow) (h : RelAt w rb hb mb sh wd os ns) (t : List Int) (tv : Value) (ht : Ints w.heap.size w tv t) (cols : Int) (hl : t.length ≠ wd) :
    Calls Tryz.prog 38 #[.pointer (some ⟨rb, 0, none⟩), .int .i64 cols, tv] w fun e w' => e = .returned (.slice none 0 0) ∧ Below w.heap.size w w' := by
  have mixed : Tryz.prog.follows .mixedOrders = true := by kernel_rfl
  obtain ⟨ta, tc, rfl, _⟩ := id ht
  obtain ⟨W0, hW0⟩ : ∃ W0, W0 = ((w.alloc (.cells #[.pointer (some ⟨rb, 0, none⟩)] 23)).alloc (.cells #[.int .i64 cols] 3)).alloc (.cells #[.slice ta t.length tc] 32) := ⟨_, rfl⟩
  have hz0 : W0.heap.size = w.heap.size + 3 := by rw [hW0]; simp
  have b0 : Below w.heap.size w W0 := by rw [hW0]; exact (((Below.refl _ w).alloc (Nat.le_refl _) _).alloc (by simp) _).alloc (by simp; omega) _
  have k3 : Boxed W0 w.heap.size 23 (.pointer (some ⟨rb, 0, none⟩)) := by rw [hW0]; exact ((Boxed.new w _ _).alloc _).alloc _
  have k4 : Boxed W0 (w.heap.size + 1) 3 (.int .i64 cols) := by
    have := (Boxed.new (w.alloc (.cells #[.pointer (some ⟨rb, 0, none⟩)] 23)) 3 (.int .i64 cols)).alloc (.cells #[.slice ta t.length tc] 32)
    rw [World.size_alloc] at this
    rw [hW0]; exact this
  have k5 : Boxed W0 (w.heap.size + 2) 32 (.slice ta t.length tc) := by
    have := Boxed.new ((w.alloc (.cells #[.pointer (some ⟨rb, 0, none⟩)] 23)).alloc (.cells #[.int .i64 cols] 3)) 32 (.slice ta t.length tc)
    rw [World.size_alloc, World.size_alloc] at this
    rw [hW0]; exact this
  have hR0 := h.later b0
  have CELL : Hid (∀ v, Below W0.heap.size W0 v → v.cell? ⟨w.heap.size, 0, none⟩ = some (.pointer (some ⟨rb, 0, none⟩)) ∧ v.cell? ⟨w.heap.size + 1, 0, none⟩ = some (.int .i64 cols) ∧ v.cell? ⟨w.heap.size + 2, 0, none⟩ = some (.slice ta t.length tc) ∧ v.cell? ⟨rb, 0, none⟩ = some (.pointer (some ⟨hb, 0, none⟩)) ∧ v.cell? ⟨hb, 0, none⟩ = some (.int .i64 wd) ∧ v.cell? ⟨hb, 3, none⟩ = some (.map (some mb))) := fun v hv => by
    obtain ⟨c1, c2, c3⟩ := hR0.cells v hv
    exact ⟨Boxed.cell ((hv.block _ k3.lt).trans k3), Boxed.cell ((hv.block _ k4.lt).trans k4), Boxed.cell ((hv.block _ k5.lt).trans k5), c1, c2, c3⟩
  have MADE : Hid (∀ v, Below W0.heap.size W0 v → Calls Tryz.prog 24 #[.pointer (some ⟨rb, 0, none⟩)] v fun e w' => e = .returned (.bool true) ∧ Below W0.heap.size W0 w') := fun v hv => (rmade_any v rb hb (unhide CELL v hv).2.2.2.1).mono fun e w' ⟨h1, n, h2⟩ => ⟨h1, by rw [h2]; exact below_drewN hv n⟩
  have FITS : Hid (∀ v, Below W0.heap.size W0 v → Calls Tryz.prog 25 #[.pointer (some ⟨hb, 0, none⟩), .slice ta t.length tc] v fun e w' => e = .returned (.bool false) ∧ Below W0.heap.size W0 w') := fun v hv => (rfits_any v hb wd t.length tc ta (unhide CELL v hv).2.2.2.2.1).mono fun e w' ⟨h1, n, h2⟩ => ⟨by rw [h1, decide_eq_false hl], by rw [h2]; exact below_drewN hv n⟩
  have HH := hide b0
  have HW := hide hW0
  clear h hR0 b0 hz0 ht hl hW0 k3 k4 k5
  refine calls_marks Tryz.func38 rfl ?_
  simp only [Tryz.ntmps38, List.size_toArray, List.length_cons, List.length_nil, Nat.reduceAdd, Nat.reduceSub, Array.replicate_succ, Array.replicate_zero, List.push_toArray, List.append_toArray, List.nil_append, List.cons_append]
  go_wp2_with fail
  rw [← unhide HW]
  refine region_mixN (md := [(0, true), (1, false), (2, true), (3, true), (4, true), (5, true), (6, true), (7, true), (8, true), (9, false), (10, true), (11, true), (12, true), (13, true), (14, true), (15, true), (16, true), (17, true), (18, true), (19, true), (20, true), (21, true), (22, true), (23, true)]) (fun w' => Below W0.heap.size W0 w') mixed (by kernel_rfl) rfl (by kernel_rfl) (fun PP hPP => ?_)
  iterate 1 (refine wpMix_take (v := ?_) rfl (by kernel_rfl) (fun w' hw => ?_) ?_; rotate_left; · (obtain ⟨q1, q2, q3, q4, q5, q6⟩ := unhide CELL w' hw; go_simp; try with_reducible rfl))
  refine wpMix_force rfl ((Below.refl _ W0).drew) (fun K hK => ?_)
  go_simp
  refine (unhide MADE _ ((Below.refl _ W0).drew)).mono ?_
  rintro e v1 ⟨rfl, b1⟩
  have B1 := hide b1
  clear b1
  go_wp2_with fail
  iterate 7 (refine wpMix_take (v := ?_) rfl (by kernel_rfl) (fun w' hw => ?_) ?_; rotate_left; · (obtain ⟨q1, q2, q3, q4, q5, q6⟩ := unhide CELL w' hw; go_simp; try with_reducible rfl))
  refine wpMix_force rfl (unhide B1) (fun K hK => ?_)
  go_simp
  refine (unhide FITS _ (unhide B1)).mono ?_
  rintro e v2 ⟨rfl, b2⟩
  have B2 := hide b2
  clear b2
  go_wp2_with fail
  iterate 3 (refine wpMix_take (v := ?_) rfl (by kernel_rfl) (fun w' hw => ?_) ?_; rotate_left; · (obtain ⟨q1, q2, q3, q4, q5, q6⟩ := unhide CELL w' hw; go_simp; try with_reducible rfl))
  iterate 10 (refine wpMix_pass rfl (by kernel_rfl) ?_)
  iterate 1 (refine wpMix_take (v := ?_) rfl (by kernel_rfl) (fun w' hw => ?_) ?_; rotate_left; · (obtain ⟨q1, q2, q3, q4, q5, q6⟩ := unhide CELL w' hw; go_simp; try with_reducible rfl))
  refine wpMix_nil (unhide B2) (hPP _ _ ?_)
  clear hPP
  simp [Act.put, Array.setIfInBounds]
  clear MADE FITS
  go_wp2_with fail
  exact ⟨.slice none 0 0, by simp [results, Tryz.f38, go_sem], rfl, (unhide HH).trans ((unhide B2).mono (by have := (unhide HH).size; omega))⟩

set_option maxRecDepth 100000 in
set_option maxHeartbeats 4000000 in
theorem found_cols [Xt] (w : World) (rb hb mb wd : Nat) (sh : List (Nat × Nat)) (os : List (List Int)) (ns : List Nrow) (h : RelAt w rb hb mb sh wd os ns) (t : List Int) (tv : Value) (ht : Ints w.heap.size w tv t) (cols : Int) (hl : t.length = wd) (hc : ¬ (0 ≤ cols ∧ cols < ((2 ^ wd : Nat) : Int))) :
    Calls Tryz.prog 38 #[.pointer (some ⟨rb, 0, none⟩), .int .i64 cols, tv] w fun e w' => e = .returned (.slice none 0 0) ∧ Below w.heap.size w w' := by
  have mixed : Tryz.prog.follows .mixedOrders = true := by kernel_rfl
  obtain ⟨ta, tc, rfl, _⟩ := id ht
  obtain ⟨W0, hW0⟩ : ∃ W0, W0 = ((w.alloc (.cells #[.pointer (some ⟨rb, 0, none⟩)] 23)).alloc (.cells #[.int .i64 cols] 3)).alloc (.cells #[.slice ta t.length tc] 32) := ⟨_, rfl⟩
  have hz0 : W0.heap.size = w.heap.size + 3 := by rw [hW0]; simp
  have b0 : Below w.heap.size w W0 := by rw [hW0]; exact (((Below.refl _ w).alloc (Nat.le_refl _) _).alloc (by simp) _).alloc (by simp; omega) _
  have k3 : Boxed W0 w.heap.size 23 (.pointer (some ⟨rb, 0, none⟩)) := by rw [hW0]; exact ((Boxed.new w _ _).alloc _).alloc _
  have k4 : Boxed W0 (w.heap.size + 1) 3 (.int .i64 cols) := by
    have := (Boxed.new (w.alloc (.cells #[.pointer (some ⟨rb, 0, none⟩)] 23)) 3 (.int .i64 cols)).alloc (.cells #[.slice ta t.length tc] 32)
    rw [World.size_alloc] at this
    rw [hW0]; exact this
  have k5 : Boxed W0 (w.heap.size + 2) 32 (.slice ta t.length tc) := by
    have := Boxed.new ((w.alloc (.cells #[.pointer (some ⟨rb, 0, none⟩)] 23)).alloc (.cells #[.int .i64 cols] 3)) 32 (.slice ta t.length tc)
    rw [World.size_alloc, World.size_alloc] at this
    rw [hW0]; exact this
  have hR0 := h.later b0
  have CELL : Hid (∀ v, Below W0.heap.size W0 v → v.cell? ⟨w.heap.size, 0, none⟩ = some (.pointer (some ⟨rb, 0, none⟩)) ∧ v.cell? ⟨w.heap.size + 1, 0, none⟩ = some (.int .i64 cols) ∧ v.cell? ⟨w.heap.size + 2, 0, none⟩ = some (.slice ta t.length tc) ∧ v.cell? ⟨rb, 0, none⟩ = some (.pointer (some ⟨hb, 0, none⟩)) ∧ v.cell? ⟨hb, 0, none⟩ = some (.int .i64 wd) ∧ v.cell? ⟨hb, 3, none⟩ = some (.map (some mb))) := fun v hv => by
    obtain ⟨c1, c2, c3⟩ := hR0.cells v hv
    exact ⟨Boxed.cell ((hv.block _ k3.lt).trans k3), Boxed.cell ((hv.block _ k4.lt).trans k4), Boxed.cell ((hv.block _ k5.lt).trans k5), c1, c2, c3⟩
  have MADE : Hid (∀ v, Below W0.heap.size W0 v → Calls Tryz.prog 24 #[.pointer (some ⟨rb, 0, none⟩)] v fun e w' => e = .returned (.bool true) ∧ Below W0.heap.size W0 w') := fun v hv => (rmade_any v rb hb (unhide CELL v hv).2.2.2.1).mono fun e w' ⟨h1, n, h2⟩ => ⟨h1, by rw [h2]; exact below_drewN hv n⟩
  have FITS : Hid (∀ v, Below W0.heap.size W0 v → Calls Tryz.prog 25 #[.pointer (some ⟨hb, 0, none⟩), .slice ta t.length tc] v fun e w' => e = .returned (.bool true) ∧ Below W0.heap.size W0 w') := fun v hv => (rfits_any v hb wd t.length tc ta (unhide CELL v hv).2.2.2.2.1).mono fun e w' ⟨h1, n, h2⟩ => ⟨by rw [h1, decide_eq_true hl], by rw [h2]; exact below_drewN hv n⟩
  have hw8 := h.held.wd8
  have hsh : ¬ (cols / 2 ^ wd = 0) := fun e => hc (by
    have hp : (0 : Int) < 2 ^ wd := Int.pow_pos (by omega)
    have h1 := Int.emod_add_mul_ediv cols (2 ^ wd)
    have h2 := Int.emod_nonneg cols (Int.ne_of_gt hp)
    have h3 := Int.emod_lt_of_pos cols hp
    rw [e, Int.mul_zero, Int.add_zero] at h1
    rw [Int.natCast_pow]
    exact ⟨by omega, by simpa using (h1 ▸ h3)⟩)
  have HH := hide b0
  have HW := hide hW0
  clear h hR0 b0 hz0 ht hl hW0 k3 k4 k5 hc
  refine calls_marks Tryz.func38 rfl ?_
  simp only [Tryz.ntmps38, List.size_toArray, List.length_cons, List.length_nil, Nat.reduceAdd, Nat.reduceSub, Array.replicate_succ, Array.replicate_zero, List.push_toArray, List.append_toArray, List.nil_append, List.cons_append]
  go_wp2_with fail
  rw [← unhide HW]
  refine region_mixN (md := [(0, true), (1, false), (2, true), (3, true), (4, true), (5, true), (6, true), (7, true), (8, true), (9, false), (10, true), (11, true), (12, true), (13, true), (14, true), (15, true), (16, true), (17, true), (18, true), (19, true), (20, true), (21, true), (22, true), (23, true)]) (fun w' => Below W0.heap.size W0 w') mixed (by kernel_rfl) rfl (by kernel_rfl) (fun PP hPP => ?_)
  iterate 1 (refine wpMix_take (v := ?_) rfl (by kernel_rfl) (fun w' hw => ?_) ?_; rotate_left; · (obtain ⟨q1, q2, q3, q4, q5, q6⟩ := unhide CELL w' hw; go_simp; try with_reducible rfl))
  refine wpMix_force rfl ((Below.refl _ W0).drew) (fun K hK => ?_)
  go_simp
  refine (unhide MADE _ ((Below.refl _ W0).drew)).mono ?_
  rintro e v1 ⟨rfl, b1⟩
  have B1 := hide b1
  clear b1
  go_wp2_with fail
  iterate 7 (refine wpMix_take (v := ?_) rfl (by kernel_rfl) (fun w' hw => ?_) ?_; rotate_left; · (obtain ⟨q1, q2, q3, q4, q5, q6⟩ := unhide CELL w' hw; go_simp; try with_reducible rfl))
  refine wpMix_force rfl (unhide B1) (fun K hK => ?_)
  go_simp
  refine (unhide FITS _ (unhide B1)).mono ?_
  rintro e v2 ⟨rfl, b2⟩
  have B2 := hide b2
  clear b2
  go_wp2_with fail
  iterate 14 (refine wpMix_take (v := ?_) rfl (by kernel_rfl) (fun w' hw => ?_) ?_; rotate_left; · (obtain ⟨q1, q2, q3, q4, q5, q6⟩ := unhide CELL w' hw; go_simp; try with_reducible rfl))
  refine wpMix_nil (unhide B2) (hPP _ _ ?_)
  clear hPP
  simp [Act.put, Array.setIfInBounds]
  clear MADE FITS
  go_wp2_with fail
  exact ⟨.slice none 0 0, by simp [results, Tryz.f38, go_sem], rfl, (unhide HH).trans ((unhide B2).mono (by have := (unhide HH).size; omega))⟩
end Go.Proofs.YthcljhfankooaabGreat

namespace Go.Proofs.YthcljhfankooaabGreat
open Go.RowKit Go.Shelf
attribute [local go_sem] Oper.semAt_some

set_option maxRecDepth 100000 in
set_option maxHeartbeats 4000000 in
theorem find1_nil (W : World) (rp : Option Addr) (cols : Int) (xa : Option Addr) (xn xc : Nat) (b3 b4 b7 : Nat) (k3 : Boxed W b3 23 (.pointer rp)) (k4 : Boxed W b4 3 (.int .i64 cols)) (k7 : Boxed W b7 32 (.slice xa xn xc))
    (hfd : Calls Tryz.prog 38 #[.pointer rp, .int .i64 cols, .slice xa xn xc] W fun e w' => e = .returned (.slice none 0 0) ∧ Below W.heap.size W w') :
    GoesAtP 37 #[.pointer (some ⟨b3, 0, none⟩), .pointer (some ⟨b4, 0, none⟩), .pointer (some ⟨b7, 0, none⟩)] 0 (HandsP []) (fun _ => False) W := by
  intro lp J Jx O hSO hO hJ hJx hY h0
  have c3 := k3.cell
  have c4 := k4.cell
  have c7 := k7.cell
  have HY := hide (And.intro hJ (And.intro h0 hO))
  clear k3 k4 k7 hSO hO hJ hJx hY h0
  obtain ⟨PO, hPO⟩ : ∃ PO : Ending → World → Prop, PO = fun e W' => (∃ v, e = .returned v) ∧ ((∃ O', J 0 O' W' ∧ (∀ b, O' b → (O b ∨ W.heap.size ≤ b) ∧ b < W'.heap.size)) ∨ ∃ k, k ≤ 0 ∧ Jx k W') := ⟨_, rfl⟩
  rw [← hPO]
  have HPO := hide hPO
  clear hPO
  go_enter Tryz.func37, Tryz.ntmps37
  go_wp2_with fail
  refine hfd.mono ?_
  clear hfd
  rintro e w1 ⟨rfl, b1⟩
  have HR := hide b1
  clear b1 c3 c4 c7
  go_wp2_with fail
  go_loopw [12] (fun i wr => i = .int .i64 0 ∧ wr = w1) (fun _ _ => 0)
  case atStart => exact ⟨rfl, rfl⟩
  case round =>
    obtain ⟨rfl, rfl⟩ := hrel
    go_wp2_with fail
    go_end0
    rw [unhide HPO]
    obtain ⟨hJ, h0, hO⟩ := unhide HY
    exact ⟨⟨_, rfl⟩, .inl ⟨O, hJ _ _ _ _ h0 (Step.of_below (unhide HR)), fun b hb => ⟨.inl hb, by have := hO b hb; have := (unhide HR).size; omega⟩⟩⟩
/-- A search that may be none: nothing is gone over. -/
theorem find1_none [Xt] (W : World) (rb hb mb wd : Nat) (sh : List (Nat × Nat)) (os : List (List Int)) (ns : List Nrow) (h : RelAt W rb hb mb sh wd os ns) (t : List Int) (cols : Int) (hno : t.length ≠ wd ∨ ¬ (0 ≤ cols ∧ cols < ((2 ^ wd : Nat) : Int))) (b3 b4 b7 : Nat) (hF : FindAt W b3 b4 b7 rb cols t) :
    GoesAtP 37 #[.pointer (some ⟨b3, 0, none⟩), .pointer (some ⟨b4, 0, none⟩), .pointer (some ⟨b7, 0, none⟩)] 0 (HandsP []) (fun _ => False) W := by
  obtain ⟨k3, k4, xa, xc, k7, hx⟩ := hF
  refine find1_nil W _ cols xa t.length xc b3 b4 b7 k3 k4 k7 ?_
  by_cases hl : t.length = wd
  · exact found_cols W rb hb mb wd sh os ns h t _ hx.ints cols hl (hno.resolve_left (fun e => e hl))
  · exact found_len W rb hb mb wd sh os ns h t _ hx.ints cols hl
end Go.Proofs.YthcljhfankooaabGreat

namespace Go.Proofs.YthcljhfankooaabGreat
open Go.RowKit Go.Shelf

def leR (p q : Nrow) : Bool := decide (lexC p.1 q.1 ≤ 0)
theorem lexC_le_trans {x y z : List Int} (h1 : lexC x y ≤ 0) (h2 : lexC y z ≤ 0) : lexC x z ≤ 0 := by
  by_cases e1 : lexC x y = 0
  · rw [lexC_eq e1]; exact h2
  · by_cases e2 : lexC y z = 0
    · rw [← lexC_eq e2]; exact h1
    · exact Int.le_of_lt (lexC_lt_trans (by omega : lexC x y < 0) (by omega))
/-- The search may be one. -/
def colsOk (wd : Nat) (cols : Int) (t : List Int) : Prop := t.length = wd ∧ 0 ≤ cols ∧ cols < ((2 ^ wd : Nat) : Int)
instance (wd : Nat) (cols : Int) (t : List Int) : Decidable (colsOk wd cols t) := by unfold colsOk; infer_instance
/-- What is found, rising. -/
def foundL (wd : Nat) (cols : Int) (t : List Int) (ns : List Nrow) : List Nrow := if colsOk wd cols t then (ns.filter fun p => likeB cols p.1 t).mergeSort leR else []
theorem found_is {wd : Nat} {cols : Int} {t : List Int} {ns : List Nrow} (hn : (nKeys ns).Nodup) (hc : colsOk wd cols t) : IsFound cols t ns (foundL wd cols t ns) := by
  unfold foundL
  rw [if_pos hc]
  have hp := List.mergeSort_perm (ns.filter fun p => likeB cols p.1 t) leR
  have hs : ((ns.filter fun p => likeB cols p.1 t).mergeSort leR).Pairwise (fun p q => leR p q = true) := List.pairwise_mergeSort (fun a b c h1 h2 => by
    simp only [leR, decide_eq_true_eq] at *
    exact lexC_le_trans h1 h2) (fun a b => by
    simp only [leR, Bool.or_eq_true, decide_eq_true_eq]
    have := lexC_swap a.1 b.1
    omega) _
  have hk : (((ns.filter fun p => likeB cols p.1 t).mergeSort leR).map (·.1)).Nodup := by
    refine (hp.map (·.1)).nodup_iff.2 ?_
    exact List.Nodup.sublist (List.filter_sublist.map _) hn
  refine ⟨?_, fun p => by rw [hp.mem_iff, List.mem_filter]⟩
  have hne : ((ns.filter fun p => likeB cols p.1 t).mergeSort leR).Pairwise (fun p q => p.1 ≠ q.1) := by
    rw [List.Nodup, List.pairwise_map] at hk
    exact hk
  refine (hs.and hne).imp (fun {p q} h => ?_)
  have h1 := h.1
  simp only [leR, decide_eq_true_eq] at h1
  have h2 : lexC p.1 q.1 ≠ 0 := fun e => h.2 (lexC_eq e)
  omega
theorem found_sub {wd : Nat} {cols : Int} {t : List Int} {ns : List Nrow} : ∀ p ∈ foundL wd cols t ns, p ∈ ns ∧ likeB cols p.1 t = true := fun p hp => by
  unfold foundL at hp
  split at hp
  · rw [(List.mergeSort_perm _ _).mem_iff, List.mem_filter] at hp
    exact hp
  · cases hp
theorem found_len_le {wd : Nat} {cols : Int} {t : List Int} {ns : List Nrow} : (foundL wd cols t ns).length ≤ ns.length := by
  unfold foundL
  split
  · rw [List.length_mergeSort]; exact List.length_filter_le _ _
  · exact Nat.zero_le _

/-- Find's iterator goes over what is found. -/
theorem find1_all [Xt] (W : World) (rb hb mb wd : Nat) (sh : List (Nat × Nat)) (os : List (List Int)) (ns : List Nrow) (h : RelAt W rb hb mb sh wd os ns) (t : List Int) (cols : Int) (b3 b4 b7 : Nat) (hF : FindAt W b3 b4 b7 rb cols t) :
    GoesAtP 37 #[.pointer (some ⟨b3, 0, none⟩), .pointer (some ⟨b4, 0, none⟩), .pointer (some ⟨b7, 0, none⟩)] (foundL wd cols t ns).length (HandsP (foundL wd cols t ns)) (fun _ => False) W := by
  by_cases hc : colsOk wd cols t
  · have hR := found_is h.held.keys.1 hc
    obtain ⟨h1, h2, h3⟩ := hc
    obtain ⟨c, rfl⟩ : ∃ c : Nat, cols = (c : Int) := ⟨cols.toNat, by omega⟩
    exact find1_goes W rb hb mb wd sh os ns h t h1 c (by exact_mod_cast h3) b3 b4 b7 hF _ hR
  · have e : foundL wd cols t ns = [] := if_neg hc
    rw [e]
    refine find1_none W rb hb mb wd sh os ns h t cols ?_ b3 b4 b7 hF
    by_cases hl : t.length = wd
    · exact .inr (fun h => hc ⟨hl, h⟩)
    · exact .inl hl
theorem nsOk_found [Xt] {w : World} {rb hb mb wd : Nat} {sh : List (Nat × Nat)} {os : List (List Int)} {ns : List Nrow} (h : RelAt w rb hb mb sh wd os ns) (cols : Int) (t : List Int) : NsOk (foundL wd cols t ns) := fun p hp => (h.held.keys.2 p (found_sub p hp).1).2.2
/-- The rows of a search. -/
theorem rows_iw (w W : World) (rb wd : Nat) (ns : List Nrow) (h : RelIW w rb wd ns W) (hlen : ns.length ≤ 1024) (cols : Int) (t : List Int) (b3 b4 b7 : Nat) (hF : FindAt W b3 b4 b7 rb cols t) :
    Calls Tryz.prog 31 #[.func (.func 37) #[] #[.pointer (some ⟨b3, 0, none⟩), .pointer (some ⟨b4, 0, none⟩), .pointer (some ⟨b7, 0, none⟩)]] W fun e w' => RowsOk W (foundL wd cols t ns) e w' := by
  obtain ⟨hb, mb, sh, os, h5, h6, h7⟩ := h
  exact rows_any W 37 _ _ (fun W' hs => find1_all W' rb hb mb wd sh os ns (h5.later (hs.below (Nat.le_refl _) (Nat.le_refl _))) t cols b3 b4 b7 (hF.step hs)) eg_find1 (Nat.le_trans found_len_le hlen) (nsOk_found h5 cols t)
theorem find_iw (w W : World) (rb wd : Nat) (ns : List Nrow) (h : RelIW w rb wd ns W) (cols : Int) (tv : Value) (t : List Int) (ht : Ints W.heap.size W tv t) (hn : t.length * 8 ≤ 140737488355328) :
    Calls Tryz.prog 20 #[.pointer (some ⟨rb, 0, none⟩), .int .i64 cols, tv] W fun e w' => FindOk W rb cols t e w' ∧ RelIW w rb wd ns w' := by
  refine (rfind_any W rb cols t tv ht hn).mono ?_
  rintro e w' ⟨b3, b4, b7, rfl, hF, b⟩
  exact ⟨⟨b3, b4, b7, rfl, hF, b⟩, h.later b⟩
theorem all_iw (w W : World) (rb wd : Nat) (ns : List Nrow) (h : RelIW w rb wd ns W) :
    Calls Tryz.prog 11 #[.pointer (some ⟨rb, 0, none⟩)] W fun e w' => FindOk W rb 0 (List.replicate wd 0) e w' ∧ RelIW w rb wd ns w' := by
  obtain ⟨hb, mb, sh, os, h5, h6, h7⟩ := id h
  refine (rall_any W rb hb mb wd sh os ns h5).mono ?_
  rintro e w' ⟨b3, b4, b7, rfl, hF, b⟩
  exact ⟨⟨b3, b4, b7, rfl, hF, b⟩, h.later b⟩
end Go.Proofs.YthcljhfankooaabGreat
