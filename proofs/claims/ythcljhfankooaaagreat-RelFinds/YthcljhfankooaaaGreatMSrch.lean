/- Width and All. Searches that find nothing. The iterator of a search that finds nothing. What a search finds, as a list; and the rows that are gone over. RelRefuses: the walk. What a slice of pairs of numbers that came in gives to a walk. RelBest: the walk. RelFinds: what is found. -/
import Derived.Test.YthcljhfankooaaaGreatMAliv
import Derived.Test.YthcljhfankooaaaGreatMFrame
namespace Go.Proofs.YthcljhfankooaaaGreat
open Go.RowKit Go.Shelf

set_option maxRecDepth 100000 in
set_option maxHeartbeats 4000000 in
theorem rwidth_any (w : World) (rb hb mb wd : Nat) (sh : List (Nat × Nat)) (os : List (List Int)) (ns : List Nrow) (h : RelAt w rb hb mb sh wd os ns) : Calls Tryz.prog 13 #[.pointer (some ⟨rb, 0, none⟩)] w fun e w' => e = .returned (.int .i64 (wd : Int)) ∧ ∃ n, w' = w.drewN n := by
  obtain ⟨c1, c2, c3⟩ := h.cells w (Below.refl _ w)
  have hm := rmade_any w rb hb c1
  clear h c3
  go_enter Tryz.func13, Tryz.ntmps13
  go_wp2_with fail
  refine hm.mono ?_
  clear hm
  rintro e w1 ⟨rfl, n, hw1⟩
  subst hw1
  have c1' : (w.drewN n).cell? ⟨rb, 0, none⟩ = some (.pointer (some ⟨hb, 0, none⟩)) := c1
  have c2' : (w.drewN n).cell? ⟨hb, 0, none⟩ = some (.int .i64 (wd : Int)) := c2
  go_wp2_with fail
  go_ret
  exact ⟨rfl, n, rfl⟩

set_option maxRecDepth 100000 in
set_option maxHeartbeats 4000000 in
theorem rall_any (w : World) (rb hb mb wd : Nat) (sh : List (Nat × Nat)) (os : List (List Int)) (ns : List Nrow) (h : RelAt w rb hb mb sh wd os ns) : Calls Tryz.prog 15 #[.pointer (some ⟨rb, 0, none⟩)] w fun e w' => FindOk w rb 0 (List.replicate wd 0) e w' := by
  have hwd := rwidth_any w rb hb mb wd sh os ns h
  obtain ⟨Z, hZ, hmk⟩ := zeros_run wd h.held.wd8
  have HF : Hid (∀ n, Calls Tryz.prog 25 #[.pointer (some ⟨rb, 0, none⟩), .int .i64 0, .slice (some ⟨w.heap.size, 0, none⟩) wd wd] ((w.drewN n).alloc (.cells Z 3)) fun e w' => FindOk w rb 0 (List.replicate wd 0) e w') := fun n => by
    refine (rfind_any _ rb 0 (List.replicate wd 0) _ (zeros_own hZ h.held.wd8 (w.drewN n)).ints (by have := h.held.wd8; simp; omega)).mono ?_
    rintro e w' ⟨b3, b4, b7, rfl, hF, b⟩
    exact ⟨b3, b4, b7, rfl, hF, ((below_drewN (Below.refl _ w) n).alloc (Nat.le_refl _) _).trans (b.mono (by simp))⟩
  clear h hZ
  go_enter Tryz.func15, Tryz.ntmps15
  go_wp2_with fail
  refine hwd.mono ?_
  clear hwd
  rintro e w1 ⟨rfl, n, hw1⟩
  subst hw1
  have hmk := hmk (w.drewN n)
  go_wp2_with fail
  refine (unhide HF n).mono ?_
  rintro e w' ⟨b3, b4, b7, rfl, hF, b⟩
  have H := hide (And.intro hF b)
  clear hF b
  go_wp2_with fail
  go_ret
  exact ⟨b3, b4, b7, rfl, (unhide H).1, (unhide H).2⟩

/-- Nothing is found. -/
def FoundNo (w : World) (rb wd : Nat) (cols : Int) (t : List Int) : Prop := (∃ hb mb sh os ns, RelAt w rb hb mb sh wd os ns) ∧ (t.length ≠ wd ∨ ¬ (0 ≤ cols ∧ cols < ((2 ^ wd : Nat) : Int)))
end Go.Proofs.YthcljhfankooaaaGreat

namespace Go.Proofs.YthcljhfankooaaaGreat
open Go.RowKit Go.Shelf

set_option maxRecDepth 100000 in
set_option maxHeartbeats 4000000 in
theorem found_len (w : World) (rb hb mb wd : Nat) (sh : List (Nat × Nat)) (os : List (List Int)) (ns : List Nrow) (h : RelAt w rb hb mb sh wd os ns) (t : List Int) (tv : Value) (ht : Ints w.heap.size w tv t) (cols : Int) (hl : t.length ≠ wd) :
    Calls Tryz.prog 47 #[.pointer (some ⟨rb, 0, none⟩), .int .i64 cols, tv] w fun e w' => e = .returned (.slice none 0 0) ∧ Below w.heap.size w w' := by
  have mixed : Tryz.prog.follows .mixedOrders = true := by kernel_rfl
  obtain ⟨ta, tc, rfl, _⟩ := id ht
  obtain ⟨W0, hW0⟩ : ∃ W0, W0 = ((w.alloc (.cells #[.pointer (some ⟨rb, 0, none⟩)] 33)).alloc (.cells #[.int .i64 cols] 3)).alloc (.cells #[.slice ta t.length tc] 23) := ⟨_, rfl⟩
  have hz0 : W0.heap.size = w.heap.size + 3 := by rw [hW0]; simp
  have b0 : Below w.heap.size w W0 := by rw [hW0]; exact (((Below.refl _ w).alloc (Nat.le_refl _) _).alloc (by simp) _).alloc (by simp; omega) _
  have k3 : Boxed W0 w.heap.size 33 (.pointer (some ⟨rb, 0, none⟩)) := by rw [hW0]; exact ((Boxed.new w _ _).alloc _).alloc _
  have k4 : Boxed W0 (w.heap.size + 1) 3 (.int .i64 cols) := by
    have := (Boxed.new (w.alloc (.cells #[.pointer (some ⟨rb, 0, none⟩)] 33)) 3 (.int .i64 cols)).alloc (.cells #[.slice ta t.length tc] 23)
    rw [World.size_alloc] at this
    rw [hW0]; exact this
  have k5 : Boxed W0 (w.heap.size + 2) 23 (.slice ta t.length tc) := by
    have := Boxed.new ((w.alloc (.cells #[.pointer (some ⟨rb, 0, none⟩)] 33)).alloc (.cells #[.int .i64 cols] 3)) 23 (.slice ta t.length tc)
    rw [World.size_alloc, World.size_alloc] at this
    rw [hW0]; exact this
  have hR0 := h.later b0
  have CELL : Hid (∀ v, Below W0.heap.size W0 v → v.cell? ⟨w.heap.size, 0, none⟩ = some (.pointer (some ⟨rb, 0, none⟩)) ∧ v.cell? ⟨w.heap.size + 1, 0, none⟩ = some (.int .i64 cols) ∧ v.cell? ⟨w.heap.size + 2, 0, none⟩ = some (.slice ta t.length tc) ∧ v.cell? ⟨rb, 0, none⟩ = some (.pointer (some ⟨hb, 0, none⟩)) ∧ v.cell? ⟨hb, 0, none⟩ = some (.int .i64 wd) ∧ v.cell? ⟨hb, 3, none⟩ = some (.map (some mb))) := fun v hv => by
    obtain ⟨c1, c2, c3⟩ := hR0.cells v hv
    exact ⟨Boxed.cell ((hv.block _ k3.lt).trans k3), Boxed.cell ((hv.block _ k4.lt).trans k4), Boxed.cell ((hv.block _ k5.lt).trans k5), c1, c2, c3⟩
  have MADE : Hid (∀ v, Below W0.heap.size W0 v → Calls Tryz.prog 36 #[.pointer (some ⟨rb, 0, none⟩)] v fun e w' => e = .returned (.bool true) ∧ Below W0.heap.size W0 w') := fun v hv => (rmade_any v rb hb (unhide CELL v hv).2.2.2.1).mono fun e w' ⟨h1, n, h2⟩ => ⟨h1, by rw [h2]; exact below_drewN hv n⟩
  have FITS : Hid (∀ v, Below W0.heap.size W0 v → Calls Tryz.prog 43 #[.pointer (some ⟨hb, 0, none⟩), .slice ta t.length tc] v fun e w' => e = .returned (.bool false) ∧ Below W0.heap.size W0 w') := fun v hv => (rfits_any v hb wd t.length tc ta (unhide CELL v hv).2.2.2.2.1).mono fun e w' ⟨h1, n, h2⟩ => ⟨by rw [h1, decide_eq_false hl], by rw [h2]; exact below_drewN hv n⟩
  have HH := hide b0
  have HW := hide hW0
  clear h hR0 b0 hz0 ht hl hW0 k3 k4 k5
  refine calls_marks Tryz.func47 rfl ?_
  simp only [Tryz.ntmps47, List.size_toArray, List.length_cons, List.length_nil, Nat.reduceAdd, Nat.reduceSub, Array.replicate_succ, Array.replicate_zero, List.push_toArray, List.append_toArray, List.nil_append, List.cons_append]
  go_wp2_with fail
  rw [← unhide HW]
  refine region_mixN (md := [(0, true), (1, false), (2, true), (3, true), (4, true), (5, true), (6, true), (7, true), (8, true), (9, false), (10, true), (11, true), (12, true), (13, true), (14, true), (15, true), (16, true), (17, true), (18, true), (19, true), (20, true), (21, true), (22, true), (23, true)]) (fun w' => Below W0.heap.size W0 w') mixed (by kernel_rfl) rfl (by kernel_rfl) (fun PP hPP => ?_)
  iterate 1 (refine wpMix_take (v := ?_) rfl (by kernel_rfl) (fun w' hw => ?_) ?_; rotate_left; · (obtain ⟨q1, q2, q3, q4, q5, q6⟩ := unhide CELL w' hw; go_simp; try with_reducible rfl))
  refine wpMix_force rfl ((Below.refl _ W0).drew) (fun K hK => ?_)
  go_simp
  refine (unhide MADE _ ((Below.refl _ W0).drew)).mono ?_
  rintro e v1 ⟨rfl, b1⟩
  have B1 := hide b1
  clear b1
  go_wp2_with fail
  iterate 7 (refine wpMix_take (v := ?_) rfl (by kernel_rfl) (fun w' hw => ?_) ?_; rotate_left; · (obtain ⟨q1, q2, q3, q4, q5, q6⟩ := unhide CELL w' hw; go_simp; try with_reducible rfl))
  refine wpMix_force rfl (unhide B1) (fun K hK => ?_)
  go_simp
  refine (unhide FITS _ (unhide B1)).mono ?_
  rintro e v2 ⟨rfl, b2⟩
  have B2 := hide b2
  clear b2
  go_wp2_with fail
  iterate 3 (refine wpMix_take (v := ?_) rfl (by kernel_rfl) (fun w' hw => ?_) ?_; rotate_left; · (obtain ⟨q1, q2, q3, q4, q5, q6⟩ := unhide CELL w' hw; go_simp; try with_reducible rfl))
  iterate 10 (refine wpMix_pass rfl (by kernel_rfl) ?_)
  iterate 1 (refine wpMix_take (v := ?_) rfl (by kernel_rfl) (fun w' hw => ?_) ?_; rotate_left; · (obtain ⟨q1, q2, q3, q4, q5, q6⟩ := unhide CELL w' hw; go_simp; try with_reducible rfl))
  refine wpMix_nil (unhide B2) (hPP _ _ ?_)
  clear hPP
  simp [Act.put, Array.setIfInBounds]
  clear MADE FITS
  go_wp2_with fail
  exact ⟨.slice none 0 0, by simp [results, Tryz.f47, go_sem], rfl, (unhide HH).trans ((unhide B2).mono (by have := (unhide HH).size; omega))⟩

set_option maxRecDepth 100000 in
set_option maxHeartbeats 4000000 in
theorem found_cols (w : World) (rb hb mb wd : Nat) (sh : List (Nat × Nat)) (os : List (List Int)) (ns : List Nrow) (h : RelAt w rb hb mb sh wd os ns) (t : List Int) (tv : Value) (ht : Ints w.heap.size w tv t) (cols : Int) (hl : t.length = wd) (hc : ¬ (0 ≤ cols ∧ cols < ((2 ^ wd : Nat) : Int))) :
    Calls Tryz.prog 47 #[.pointer (some ⟨rb, 0, none⟩), .int .i64 cols, tv] w fun e w' => e = .returned (.slice none 0 0) ∧ Below w.heap.size w w' := by
  have mixed : Tryz.prog.follows .mixedOrders = true := by kernel_rfl
  obtain ⟨ta, tc, rfl, _⟩ := id ht
  obtain ⟨W0, hW0⟩ : ∃ W0, W0 = ((w.alloc (.cells #[.pointer (some ⟨rb, 0, none⟩)] 33)).alloc (.cells #[.int .i64 cols] 3)).alloc (.cells #[.slice ta t.length tc] 23) := ⟨_, rfl⟩
  have hz0 : W0.heap.size = w.heap.size + 3 := by rw [hW0]; simp
  have b0 : Below w.heap.size w W0 := by rw [hW0]; exact (((Below.refl _ w).alloc (Nat.le_refl _) _).alloc (by simp) _).alloc (by simp; omega) _
  have k3 : Boxed W0 w.heap.size 33 (.pointer (some ⟨rb, 0, none⟩)) := by rw [hW0]; exact ((Boxed.new w _ _).alloc _).alloc _
  have k4 : Boxed W0 (w.heap.size + 1) 3 (.int .i64 cols) := by
    have := (Boxed.new (w.alloc (.cells #[.pointer (some ⟨rb, 0, none⟩)] 33)) 3 (.int .i64 cols)).alloc (.cells #[.slice ta t.length tc] 23)
    rw [World.size_alloc] at this
    rw [hW0]; exact this
  have k5 : Boxed W0 (w.heap.size + 2) 23 (.slice ta t.length tc) := by
    have := Boxed.new ((w.alloc (.cells #[.pointer (some ⟨rb, 0, none⟩)] 33)).alloc (.cells #[.int .i64 cols] 3)) 23 (.slice ta t.length tc)
    rw [World.size_alloc, World.size_alloc] at this
    rw [hW0]; exact this
  have hR0 := h.later b0
  have CELL : Hid (∀ v, Below W0.heap.size W0 v → v.cell? ⟨w.heap.size, 0, none⟩ = some (.pointer (some ⟨rb, 0, none⟩)) ∧ v.cell? ⟨w.heap.size + 1, 0, none⟩ = some (.int .i64 cols) ∧ v.cell? ⟨w.heap.size + 2, 0, none⟩ = some (.slice ta t.length tc) ∧ v.cell? ⟨rb, 0, none⟩ = some (.pointer (some ⟨hb, 0, none⟩)) ∧ v.cell? ⟨hb, 0, none⟩ = some (.int .i64 wd) ∧ v.cell? ⟨hb, 3, none⟩ = some (.map (some mb))) := fun v hv => by
    obtain ⟨c1, c2, c3⟩ := hR0.cells v hv
    exact ⟨Boxed.cell ((hv.block _ k3.lt).trans k3), Boxed.cell ((hv.block _ k4.lt).trans k4), Boxed.cell ((hv.block _ k5.lt).trans k5), c1, c2, c3⟩
  have MADE : Hid (∀ v, Below W0.heap.size W0 v → Calls Tryz.prog 36 #[.pointer (some ⟨rb, 0, none⟩)] v fun e w' => e = .returned (.bool true) ∧ Below W0.heap.size W0 w') := fun v hv => (rmade_any v rb hb (unhide CELL v hv).2.2.2.1).mono fun e w' ⟨h1, n, h2⟩ => ⟨h1, by rw [h2]; exact below_drewN hv n⟩
  have FITS : Hid (∀ v, Below W0.heap.size W0 v → Calls Tryz.prog 43 #[.pointer (some ⟨hb, 0, none⟩), .slice ta t.length tc] v fun e w' => e = .returned (.bool true) ∧ Below W0.heap.size W0 w') := fun v hv => (rfits_any v hb wd t.length tc ta (unhide CELL v hv).2.2.2.2.1).mono fun e w' ⟨h1, n, h2⟩ => ⟨by rw [h1, decide_eq_true hl], by rw [h2]; exact below_drewN hv n⟩
  have hw8 := h.held.wd8
  have hsh : ¬ (cols / 2 ^ wd = 0) := fun e => hc (by
    have hp : (0 : Int) < 2 ^ wd := Int.pow_pos (by omega)
    have h1 := Int.emod_add_mul_ediv cols (2 ^ wd)
    have h2 := Int.emod_nonneg cols (Int.ne_of_gt hp)
    have h3 := Int.emod_lt_of_pos cols hp
    rw [e, Int.mul_zero, Int.add_zero] at h1
    rw [Int.natCast_pow]
    exact ⟨by omega, by simpa using (h1 ▸ h3)⟩)
  have HH := hide b0
  have HW := hide hW0
  clear h hR0 b0 hz0 ht hl hW0 k3 k4 k5 hc
  refine calls_marks Tryz.func47 rfl ?_
  simp only [Tryz.ntmps47, List.size_toArray, List.length_cons, List.length_nil, Nat.reduceAdd, Nat.reduceSub, Array.replicate_succ, Array.replicate_zero, List.push_toArray, List.append_toArray, List.nil_append, List.cons_append]
  go_wp2_with fail
  rw [← unhide HW]
  refine region_mixN (md := [(0, true), (1, false), (2, true), (3, true), (4, true), (5, true), (6, true), (7, true), (8, true), (9, false), (10, true), (11, true), (12, true), (13, true), (14, true), (15, true), (16, true), (17, true), (18, true), (19, true), (20, true), (21, true), (22, true), (23, true)]) (fun w' => Below W0.heap.size W0 w') mixed (by kernel_rfl) rfl (by kernel_rfl) (fun PP hPP => ?_)
  iterate 1 (refine wpMix_take (v := ?_) rfl (by kernel_rfl) (fun w' hw => ?_) ?_; rotate_left; · (obtain ⟨q1, q2, q3, q4, q5, q6⟩ := unhide CELL w' hw; go_simp; try with_reducible rfl))
  refine wpMix_force rfl ((Below.refl _ W0).drew) (fun K hK => ?_)
  go_simp
  refine (unhide MADE _ ((Below.refl _ W0).drew)).mono ?_
  rintro e v1 ⟨rfl, b1⟩
  have B1 := hide b1
  clear b1
  go_wp2_with fail
  iterate 7 (refine wpMix_take (v := ?_) rfl (by kernel_rfl) (fun w' hw => ?_) ?_; rotate_left; · (obtain ⟨q1, q2, q3, q4, q5, q6⟩ := unhide CELL w' hw; go_simp; try with_reducible rfl))
  refine wpMix_force rfl (unhide B1) (fun K hK => ?_)
  go_simp
  refine (unhide FITS _ (unhide B1)).mono ?_
  rintro e v2 ⟨rfl, b2⟩
  have B2 := hide b2
  clear b2
  go_wp2_with fail
  iterate 14 (refine wpMix_take (v := ?_) rfl (by kernel_rfl) (fun w' hw => ?_) ?_; rotate_left; · (obtain ⟨q1, q2, q3, q4, q5, q6⟩ := unhide CELL w' hw; go_simp; try with_reducible rfl))
  refine wpMix_nil (unhide B2) (hPP _ _ ?_)
  clear hPP
  simp [Act.put, Array.setIfInBounds]
  clear MADE FITS
  go_wp2_with fail
  exact ⟨.slice none 0 0, by simp [results, Tryz.f47, go_sem], rfl, (unhide HH).trans ((unhide B2).mono (by have := (unhide HH).size; omega))⟩
end Go.Proofs.YthcljhfankooaaaGreat

namespace Go.Proofs.YthcljhfankooaaaGreat
open Go.RowKit Go.Shelf
attribute [local go_sem] Oper.semAt_some

set_option maxRecDepth 100000 in
set_option maxHeartbeats 4000000 in
theorem find1_nil (W : World) (rp : Option Addr) (cols : Int) (xa : Option Addr) (xn xc : Nat) (b3 b4 b7 : Nat) (k3 : Boxed W b3 33 (.pointer rp)) (k4 : Boxed W b4 3 (.int .i64 cols)) (k7 : Boxed W b7 23 (.slice xa xn xc))
    (hfd : Calls Tryz.prog 47 #[.pointer rp, .int .i64 cols, .slice xa xn xc] W fun e w' => e = .returned (.slice none 0 0) ∧ Below W.heap.size W w') :
    GoesAtP 46 #[.pointer (some ⟨b3, 0, none⟩), .pointer (some ⟨b4, 0, none⟩), .pointer (some ⟨b7, 0, none⟩)] 0 (HandsP []) (fun _ => False) W := by
  intro lp J Jx O hSO hO hJ hJx hY h0
  have c3 := k3.cell
  have c4 := k4.cell
  have c7 := k7.cell
  have HY := hide (And.intro hJ (And.intro h0 hO))
  clear k3 k4 k7 hSO hO hJ hJx hY h0
  obtain ⟨PO, hPO⟩ : ∃ PO : Ending → World → Prop, PO = fun e W' => (∃ v, e = .returned v) ∧ ((∃ O', J 0 O' W' ∧ (∀ b, O' b → (O b ∨ W.heap.size ≤ b) ∧ b < W'.heap.size)) ∨ ∃ k, k ≤ 0 ∧ Jx k W') := ⟨_, rfl⟩
  rw [← hPO]
  have HPO := hide hPO
  clear hPO
  go_enter Tryz.func46, Tryz.ntmps46
  go_wp2_with fail
  refine hfd.mono ?_
  clear hfd
  rintro e w1 ⟨rfl, b1⟩
  have HR := hide b1
  clear b1 c3 c4 c7
  go_wp2_with fail
  go_loopw [12] (fun i wr => i = .int .i64 0 ∧ wr = w1) (fun _ _ => 0)
  case atStart => exact ⟨rfl, rfl⟩
  case round =>
    obtain ⟨rfl, rfl⟩ := hrel
    go_wp2_with fail
    go_end0
    rw [unhide HPO]
    obtain ⟨hJ, h0, hO⟩ := unhide HY
    exact ⟨⟨_, rfl⟩, .inl ⟨O, hJ _ _ _ _ h0 (Step.of_below (unhide HR)), fun b hb => ⟨.inl hb, by have := hO b hb; have := (unhide HR).size; omega⟩⟩⟩
/-- A search that may be none: nothing is gone over. -/
theorem find1_none (W : World) (rb hb mb wd : Nat) (sh : List (Nat × Nat)) (os : List (List Int)) (ns : List Nrow) (h : RelAt W rb hb mb sh wd os ns) (t : List Int) (cols : Int) (hno : t.length ≠ wd ∨ ¬ (0 ≤ cols ∧ cols < ((2 ^ wd : Nat) : Int))) (b3 b4 b7 : Nat) (hF : FindAt W b3 b4 b7 rb cols t) :
    GoesAtP 46 #[.pointer (some ⟨b3, 0, none⟩), .pointer (some ⟨b4, 0, none⟩), .pointer (some ⟨b7, 0, none⟩)] 0 (HandsP []) (fun _ => False) W := by
  obtain ⟨k3, k4, xa, xc, k7, hx⟩ := hF
  refine find1_nil W _ cols xa t.length xc b3 b4 b7 k3 k4 k7 ?_
  by_cases hl : t.length = wd
  · exact found_cols W rb hb mb wd sh os ns h t _ hx.ints cols hl (hno.resolve_left (fun e => e hl))
  · exact found_len W rb hb mb wd sh os ns h t _ hx.ints cols hl
end Go.Proofs.YthcljhfankooaaaGreat

namespace Go.Proofs.YthcljhfankooaaaGreat
open Go.RowKit Go.Shelf

def leR (p q : Nrow) : Bool := decide (lexC p.1 q.1 ≤ 0)
theorem lexC_le_trans {x y z : List Int} (h1 : lexC x y ≤ 0) (h2 : lexC y z ≤ 0) : lexC x z ≤ 0 := by
  by_cases e1 : lexC x y = 0
  · rw [lexC_eq e1]; exact h2
  · by_cases e2 : lexC y z = 0
    · rw [← lexC_eq e2]; exact h1
    · exact Int.le_of_lt (lexC_lt_trans (by omega : lexC x y < 0) (by omega))
/-- The search may be one. -/
def colsOk (wd : Nat) (cols : Int) (t : List Int) : Prop := t.length = wd ∧ 0 ≤ cols ∧ cols < ((2 ^ wd : Nat) : Int)
instance (wd : Nat) (cols : Int) (t : List Int) : Decidable (colsOk wd cols t) := by unfold colsOk; infer_instance
/-- What is found, rising. -/
def foundL (wd : Nat) (cols : Int) (t : List Int) (ns : List Nrow) : List Nrow := if colsOk wd cols t then (ns.filter fun p => likeB cols p.1 t).mergeSort leR else []
theorem found_is {wd : Nat} {cols : Int} {t : List Int} {ns : List Nrow} (hn : (nKeys ns).Nodup) (hc : colsOk wd cols t) : IsFound cols t ns (foundL wd cols t ns) := by
  unfold foundL
  rw [if_pos hc]
  have hp := List.mergeSort_perm (ns.filter fun p => likeB cols p.1 t) leR
  have hs : ((ns.filter fun p => likeB cols p.1 t).mergeSort leR).Pairwise (fun p q => leR p q = true) := List.pairwise_mergeSort (fun a b c h1 h2 => by
    simp only [leR, decide_eq_true_eq] at *
    exact lexC_le_trans h1 h2) (fun a b => by
    simp only [leR, Bool.or_eq_true, decide_eq_true_eq]
    have := lexC_swap a.1 b.1
    omega) _
  have hk : (((ns.filter fun p => likeB cols p.1 t).mergeSort leR).map (·.1)).Nodup := by
    refine (hp.map (·.1)).nodup_iff.2 ?_
    exact List.Nodup.sublist (List.filter_sublist.map _) hn
  refine ⟨?_, fun p => by rw [hp.mem_iff, List.mem_filter]⟩
  have hne : ((ns.filter fun p => likeB cols p.1 t).mergeSort leR).Pairwise (fun p q => p.1 ≠ q.1) := by
    rw [List.Nodup, List.pairwise_map] at hk
    exact hk
  refine (hs.and hne).imp (fun {p q} h => ?_)
  have h1 := h.1
  simp only [leR, decide_eq_true_eq] at h1
  have h2 : lexC p.1 q.1 ≠ 0 := fun e => h.2 (lexC_eq e)
  omega
theorem found_sub {wd : Nat} {cols : Int} {t : List Int} {ns : List Nrow} : ∀ p ∈ foundL wd cols t ns, p ∈ ns ∧ likeB cols p.1 t = true := fun p hp => by
  unfold foundL at hp
  split at hp
  · rw [(List.mergeSort_perm _ _).mem_iff, List.mem_filter] at hp
    exact hp
  · cases hp
theorem found_len_le {wd : Nat} {cols : Int} {t : List Int} {ns : List Nrow} : (foundL wd cols t ns).length ≤ ns.length := by
  unfold foundL
  split
  · rw [List.length_mergeSort]; exact List.length_filter_le _ _
  · exact Nat.zero_le _

/-- Find's iterator goes over what is found. -/
theorem find1_all (W : World) (rb hb mb wd : Nat) (sh : List (Nat × Nat)) (os : List (List Int)) (ns : List Nrow) (h : RelAt W rb hb mb sh wd os ns) (t : List Int) (cols : Int) (b3 b4 b7 : Nat) (hF : FindAt W b3 b4 b7 rb cols t) :
    GoesAtP 46 #[.pointer (some ⟨b3, 0, none⟩), .pointer (some ⟨b4, 0, none⟩), .pointer (some ⟨b7, 0, none⟩)] (foundL wd cols t ns).length (HandsP (foundL wd cols t ns)) (fun _ => False) W := by
  by_cases hc : colsOk wd cols t
  · have hR := found_is h.held.keys.1 hc
    obtain ⟨h1, h2, h3⟩ := hc
    obtain ⟨c, rfl⟩ : ∃ c : Nat, cols = (c : Int) := ⟨cols.toNat, by omega⟩
    exact find1_goes W rb hb mb wd sh os ns h t h1 c (by exact_mod_cast h3) b3 b4 b7 hF _ hR
  · have e : foundL wd cols t ns = [] := if_neg hc
    rw [e]
    refine find1_none W rb hb mb wd sh os ns h t cols ?_ b3 b4 b7 hF
    by_cases hl : t.length = wd
    · exact .inr (fun h => hc ⟨hl, h⟩)
    · exact .inl hl
theorem nsOk_found {w : World} {rb hb mb wd : Nat} {sh : List (Nat × Nat)} {os : List (List Int)} {ns : List Nrow} (h : RelAt w rb hb mb sh wd os ns) (cols : Int) (t : List Int) : NsOk (foundL wd cols t ns) := fun p hp => (h.held.keys.2 p (found_sub p hp).1).2.2
/-- The rows of a search. -/
theorem rows_iw (w W : World) (rb wd : Nat) (ns : List Nrow) (h : RelIW w rb wd ns W) (hlen : ns.length ≤ 1024) (cols : Int) (t : List Int) (b3 b4 b7 : Nat) (hF : FindAt W b3 b4 b7 rb cols t) :
    Calls Tryz.prog 24 #[.func (.func 46) #[] #[.pointer (some ⟨b3, 0, none⟩), .pointer (some ⟨b4, 0, none⟩), .pointer (some ⟨b7, 0, none⟩)]] W fun e w' => RowsOk W (foundL wd cols t ns) e w' := by
  obtain ⟨hb, mb, sh, os, h5, h6, h7⟩ := h
  exact rows_any W 46 _ _ (fun W' hs => find1_all W' rb hb mb wd sh os ns (h5.later (hs.below (Nat.le_refl _) (Nat.le_refl _))) t cols b3 b4 b7 (hF.step hs)) eg_find1 (Nat.le_trans found_len_le hlen) (nsOk_found h5 cols t)
theorem find_iw (w W : World) (rb wd : Nat) (ns : List Nrow) (h : RelIW w rb wd ns W) (cols : Int) (tv : Value) (t : List Int) (ht : Ints W.heap.size W tv t) (hn : t.length * 8 ≤ 140737488355328) :
    Calls Tryz.prog 25 #[.pointer (some ⟨rb, 0, none⟩), .int .i64 cols, tv] W fun e w' => FindOk W rb cols t e w' ∧ RelIW w rb wd ns w' := by
  refine (rfind_any W rb cols t tv ht hn).mono ?_
  rintro e w' ⟨b3, b4, b7, rfl, hF, b⟩
  exact ⟨⟨b3, b4, b7, rfl, hF, b⟩, h.later b⟩
theorem all_iw (w W : World) (rb wd : Nat) (ns : List Nrow) (h : RelIW w rb wd ns W) :
    Calls Tryz.prog 15 #[.pointer (some ⟨rb, 0, none⟩)] W fun e w' => FindOk W rb 0 (List.replicate wd 0) e w' ∧ RelIW w rb wd ns w' := by
  obtain ⟨hb, mb, sh, os, h5, h6, h7⟩ := id h
  refine (rall_any W rb hb mb wd sh os ns h5).mono ?_
  rintro e w' ⟨b3, b4, b7, rfl, hF, b⟩
  exact ⟨⟨b3, b4, b7, rfl, hF, b⟩, h.later b⟩
end Go.Proofs.YthcljhfankooaaaGreat

namespace Go.Proofs.YthcljhfankooaaaGreat
open Go.RowKit Go.Shelf

theorem ordE_wide {n : Nat} (h : 8 < n) (l : List Int) : C.ordE (n : Int) l = 1 := if_pos (by omega)
theorem lookE_none (n : Nat) : C.lookE n [] = 0 := rfl

set_option maxRecDepth 100000 in
set_option maxHeartbeats 4000000 in
theorem refs_walk (w : World) (re im : Nat) (hr : W64 re) (hi : W64 im) (tv : Value) (t : List Int) (ht : IntsS (fun b => b < w.heap.size) w tv t) (hB : Bnd t) : Calls Tryz.prog 5 #[.float .f64 re, .float .f64 im, tv] w fun e w' => e = .returned (.bool true) ∧ Below w.heap.size w w' := by
  obtain ⟨ta, tc, etv, _⟩ := id ht
  subst etv
  by_cases hw : t.length ≤ 8
  · have hnew := new_iw w t.length (.slice none 0 0) [] (Ints.nil _ _) hw (lookE_none _)
    have hput := fun W rb h => put_iw w W rb t.length [] h _ t ht hB re im hr hi (.inr (by decide))
    have hhas := fun W rb ns h => has_iw w W rb t.length ns h _ t ht
    have hlen := fun W rb ns h => len_iw w W rb t.length ns h
    have hal := fun W rb ns h => alive_iw w W rb t.length ns h
    have hrh := fun w => rheight_any re im w
    cases c : hgtB re im with
    | false =>
      have E : rputB re im t t.length [] = false ∧ rputE re im t t.length [] = 1 ∧ rputTo re im t t.length [] = [] := ⟨by unfold rputB; simp [c], by unfold rputE; simp [c], by unfold rputTo; simp [c]⟩
      rw [E.1, E.2.1, E.2.2] at hput
      rw [c] at hrh
      generalize hgtN re im re = A at hrh
      generalize hgtN re im im = B at hrh
      clear hhas c E ht hB hr hi hw
      go_enter Tryz.func5, Tryz.ntmps5
      go_wp2_with fail
      refine hnew.mono ?_
      clear hnew
      rintro e w1 ⟨rb, rfl, h1⟩
      have hput := hput w1 rb h1
      clear h1
      go_wp2_with fail
      refine hput.mono ?_
      clear hput
      rintro e w2 ⟨rfl, h2⟩
      go_wp2_with fail
      refine (hrh _).mono ?_
      clear hrh
      rintro e w3 ⟨rfl, hw3⟩
      subst hw3
      have hlen := hlen _ rb _ h2
      clear h2
      go_wp2_with fail
      refine hlen.mono ?_
      clear hlen
      rintro e w4 ⟨rfl, h4⟩
      have hal := hal _ rb _ h4
      clear h4
      go_wp2_with fail
      refine hal.mono ?_
      clear hal
      rintro e w5 ⟨rfl, h5⟩
      have H5 := hide h5.below
      clear h5
      go_wp2_with fail
      go_ret
      exact ⟨rfl, unhide H5⟩
    | true =>
      have E : rputB re im t t.length [] = true ∧ rputE re im t t.length [] = 0 ∧ rputTo re im t t.length [] = [(t, partN re, partN im)] := ⟨by unfold rputB; simp [c, putB, getN], by unfold rputE; simp [c, putE, getN], by unfold rputTo; simp [c, putTo, getN]⟩
      have F : ntcB t t.length [(t, partN re, partN im)] = true := by unfold ntcB; simp [getN]
      rw [E.1, E.2.1, E.2.2] at hput
      rw [c] at hrh
      generalize hgtN re im re = A at hrh
      generalize hgtN re im im = B at hrh
      clear hlen c E ht hB hr hi hw
      go_enter Tryz.func5, Tryz.ntmps5
      go_wp2_with fail
      refine hnew.mono ?_
      clear hnew
      rintro e w1 ⟨rb, rfl, h1⟩
      have hput := hput w1 rb h1
      clear h1
      go_wp2_with fail
      refine hput.mono ?_
      clear hput
      rintro e w2 ⟨rfl, h2⟩
      go_wp2_with fail
      refine (hrh _).mono ?_
      clear hrh
      rintro e w3 ⟨rfl, hw3⟩
      subst hw3
      have hhas := hhas _ rb [(t, partN re, partN im)] h2
      rw [F] at hhas
      clear h2 F
      go_wp2_with fail
      refine hhas.mono ?_
      clear hhas
      rintro e w4 ⟨rfl, h4⟩
      have hal := hal _ rb _ h4
      clear h4
      go_wp2_with fail
      refine hal.mono ?_
      clear hal
      rintro e w5 ⟨rfl, h5⟩
      have H5 := hide h5.below
      clear h5
      go_wp2_with fail
      go_ret
      exact ⟨rfl, unhide H5⟩
  · have hw : 8 < t.length := by omega
    have hno := relnew_no w (t.length : Int) (.slice none 0 0) [] (Ints.nil _ _) (by rw [ordE_wide hw]; decide)
    rw [ordE_wide hw] at hno
    have hg : (8 : Int) < (t.length : Int) := by omega
    have hal := fun W => alive_any W
    clear ht hB hr hi hw
    go_enter Tryz.func5, Tryz.ntmps5
    go_wp2_with fail
    refine hno.mono ?_
    clear hno
    rintro e w1 ⟨rfl, hw1⟩
    subst hw1
    go_wp2_with fail
    refine (hal _).mono ?_
    clear hal
    rintro e w5 ⟨rfl, h5⟩
    have H5 := hide h5
    clear h5
    go_wp2_with fail
    go_ret
    exact ⟨rfl, unhide H5⟩
end Go.Proofs.YthcljhfankooaaaGreat

namespace Go.Proofs.YthcljhfankooaaaGreat
open Go.ChangeShapes Go.WideShapes Go.ChangeAt Go.RowKit

theorem cellsPr : Tryz.prog.cellsOf 22 = 2 := by kernel_rfl

set_option maxRecDepth 100000 in
/-- One pair. -/
theorem pair_of {H : Type} {enc : TypeId × Value → H} {W : World} {fuel : Nat} {cs : List Value} {x : DataW H × List MemPlace} (h : DataW.trod enc Tryz.prog W 0 (fun _ => true) true fuel 22 cs = some x) : ∃ (a b : Int), cs = [.int .i64 a, .int .i64 b] := by
  obtain ⟨xs, m, _, hx, hl, hlen, hk⟩ := DataW.trod_array Tryz.underlying22 h
  rw [cellsPr] at hl
  rw [cells3] at hk
  match cs, hl, xs, hlen with
  | [u, v], _, [y0, y1], _ =>
    have h0 := hk 0 (by omega)
    have h1 := hk 1 (by omega)
    simp at h0 h1
    obtain ⟨a, e0, _, _⟩ := DataW.trod_int Tryz.underlying3 h0
    obtain ⟨b, e1, _, _⟩ := DataW.trod_int Tryz.underlying3 h1
    injection e0 with e0 _
    injection e1 with e1 _
    subst e0 e1
    exact ⟨a, b, rfl⟩

/-- The j-th pair lies where it lay. -/
def PairsIn (W : World) (a : Option Addr) (n : Nat) (f : Nat → Int × Int) : Prop := ∀ j, j < n → ∃ b off, a = some ⟨b, off, none⟩ ∧ b < W.heap.size ∧
  W.cell? ⟨b, off + j * 2, none⟩ = some (.int .i64 (f j).1) ∧ W.cell? ⟨b, off + j * 2 + 1, none⟩ = some (.int .i64 (f j).2)

set_option maxRecDepth 100000 in
theorem pairs_of {H : Type} {enc : TypeId × Value → H} {W : World} {v : Value} {d : DataW H} {p : List MemPlace} (h : DataW.Trod enc Tryz.prog W 0 (fun _ => true) true 74 v d p) (h1 : v.cells.toList = [v]) :
    ∃ a n cap f, v = .slice a n cap ∧ n ≤ cap ∧ cap ≤ 9223372036854775807 ∧ PairsIn W a n f := by
  obtain ⟨fuel, hf⟩ := h
  rw [h1] at hf
  rcases DataW.trod_slice Tryz.underlying74 hf with ⟨e, _⟩ | ⟨a, len, cap, elems, rest, n, _, e, ex, hb, hl, hm, hlen, hel, hsp, hns⟩
  · injection e with e _
    exact ⟨none, 0, 0, fun _ => (0, 0), e, Nat.le_refl _, by omega, fun j hj => by omega⟩
  · injection e with e _
    subst e
    obtain ⟨rfl, rfl⟩ := Prod.mk.inj ex
    rw [cellsPr] at hel
    have each : ∀ i, ∃ q : Int × Int, i < len → W.cells? 0 (a.add (i * 2)) 2 = some [.int .i64 q.1, .int .i64 q.2] := fun i => by
      by_cases hi : i < len
      · have hi2 : i < elems.length := by omega
        have g1 := hel i hi
        rw [List.getElem?_eq_getElem hi2] at g1
        obtain ⟨cs, g2, g3⟩ := Option.bind_eq_some_iff.1 g1
        obtain ⟨x, y, rfl⟩ := pair_of g3
        exact ⟨(x, y), fun _ => g2⟩
      · exact ⟨(0, 0), fun h => absurd h hi⟩
    obtain ⟨f, hfq⟩ := Classical.axiomOfChoice each
    refine ⟨some a, len, cap, f, rfl, hl, by unfold maxLen at hm; omega, fun j hj => ?_⟩
    obtain ⟨b, off, spot⟩ := a
    have one : ∀ j, j < len → ∀ i, i < 2 → W.cell? ((⟨b, off, spot⟩ : Addr).add (j * 2) |>.add i) = [Value.int .i64 (f j).1, .int .i64 (f j).2][i]? := fun j hj i hi => (World.cells?_some (hfq j hj)).2.2 i hi
    have hspot : spot = none := by
      have h0 := one 0 (by omega) 0 (by omega)
      have h0' : W.cell? ⟨b, off, spot⟩ = some (.int .i64 (f 0).1) := by simpa [Addr.add] using h0
      simpa using World.cell?_spot h0'
    subst hspot
    have e1 : ∀ i, (⟨b, off, none⟩ : Addr).add i = ⟨b, off + i, none⟩ := fun i => by cases i <;> simp [Addr.add]
    have e2 : ∀ o i, (⟨b, o, none⟩ : Addr).add i = ⟨b, o + i, none⟩ := fun o i => by cases i <;> simp [Addr.add]
    have g0 := one j hj 0 (by omega)
    have g1 := one j hj 1 (by omega)
    rw [e1, e2] at g0 g1
    obtain ⟨_, hz, _⟩ := cells_of_cell g0
    exact ⟨b, off, rfl, lt_heap hz, g0, g1⟩
end Go.Proofs.YthcljhfankooaaaGreat

namespace Go.Proofs.YthcljhfankooaaaGreat
open Go.RowKit Go.Shelf

set_option maxRecDepth 100000 in
set_option maxHeartbeats 4000000 in
theorem lnote_any (a k : Int) (ha : inN a = true) (hk : inN k = true) (w : World) : Calls Tryz.prog 23 #[.int .i64 a, .int .i64 k] w fun e w' => e = .returned (noteV a k) ∧ w' = w := by
  have h := note_any a k w
  have E : ntV a k = noteV a k := by unfold ntV; rw [ha, hk]; rfl
  rw [E] at h
  have HE : Hid (noteV a k = .complex .f64 (floatOfInt .f64 a) (floatOfInt .f64 k)) := rfl
  have h : Calls Tryz.prog 18 #[.int .i64 a, .int .i64 k] w fun e w' => e = .returned (.tuple #[.complex .f64 (floatOfInt .f64 a) (floatOfInt .f64 k), .int .i64 (ntE a k)]) ∧ w' = w := h
  generalize ntE a k = n at h
  clear ha hk E
  go_enter Tryz.func23, Tryz.ntmps23
  go_wp2_with fail
  refine h.mono ?_
  clear h
  rintro e w' ⟨rfl, hw'⟩
  subst hw'
  go_wp2_with fail
  go_ret
  exact ⟨by rw [unhide HE]; rfl, rfl⟩

/-- Put, with what was made meanwhile. -/
theorem put_iw2 (w wr W : World) (rb wd : Nat) (ns : List Nrow) (h : RelIW w rb wd ns wr) (hbW : Below wr.heap.size wr W) (tv : Value) (t : List Int) (ht : IntsS (fun b => b < w.heap.size) w tv t) (hB : Bnd t) (x y : Nat) (hx : W64 x) (hy : W64 y) (hroom : (getN t ns).isSome = true ∨ ns.length < 1024) :
    Calls Tryz.prog 21 #[.pointer (some ⟨rb, 0, none⟩), .complex .f64 x y, tv] W fun e w' => e = .returned (.tuple #[.bool (rputB x y t wd ns), .int .i64 (rputE x y t wd ns)]) ∧ RelIW w rb wd (rputTo x y t wd ns) w' ∧ ∀ q o, wr.heap.size ≤ q → W.heap[q]? = some o → w'.heap[q]? = some o := by
  obtain ⟨hb, mb, sh, os, g5, h6, g7⟩ := h
  have h5 := g5.later hbW
  have h7 := g7.trans (hbW.mono g7.size)
  refine (rput_any _ rb hb mb wd sh os ns h5 t tv ((ht.later h7).mono (fun b _ hlt hn => by have := h6 b hn; omega)) hB x y hx hy hroom).mono ?_
  rintro e w' ⟨rfl, r1, r2⟩
  exact ⟨rfl, ⟨hb, mb, sh, os, r1, h6, h7.trans (r2.below h7.size (fun q hq => h6 q hq))⟩, fun q o hq ho => r2.same q o ho (fun hn => by have := g5.held.lt q hn; omega)⟩

/-- The better one of two. -/
def lessB (a b h k : Int) : Bool := decide (a < h) || (decide (a = h) && decide (b < k))
def stepH (a b h k : Int) : Int := if lessB a b h k = true then a else h
def stepK (a b h k : Int) : Int := if lessB a b h k = true then b else k
theorem less_bet (a b h k : Int) : betB a b h k = lessB a b h k := by
  unfold betB lessB
  by_cases e : a = h
  · rw [if_pos e, decide_eq_true e, (decide_eq_false (by omega) : decide (a < h) = false)]; simp
  · rw [if_neg e, decide_eq_false e]; simp
/-- How far the relation is. -/
def BestN (t : List Int) (i : Nat) (h k : Int) (ns : List Nrow) : Prop := (i = 0 ∧ ns = [] ∧ h = 1125899906842624 ∧ k = 1125899906842624) ∨ (0 < i ∧ ns = [(t, h, k)] ∧ inN h = true ∧ inN k = true)
theorem BestN.room {t : List Int} {i : Nat} {h k : Int} {ns : List Nrow} (H : BestN t i h k ns) : (getN t ns).isSome = true ∨ ns.length < 1024 := by
  rcases H with ⟨_, rfl, _⟩ | ⟨_, rfl, _⟩
  · exact .inr (by decide)
  · exact .inr (by simp)
theorem BestN.step {t : List Int} {i : Nat} {h k : Int} {ns : List Nrow} (H : BestN t i h k ns) {a b : Int} (ha : inN a = true) (hb : inN b = true) :
    BestN t (i + 1) (stepH a b h k) (stepK a b h k) (rputTo (floatOfInt .f64 a) (floatOfInt .f64 b) t t.length ns) := by
  obtain ⟨p1, p2⟩ := partB_int (inN_abs ha)
  obtain ⟨q1, q2⟩ := partB_int (inN_abs hb)
  have hB : hgtB (floatOfInt .f64 a) (floatOfInt .f64 b) = true := by unfold hgtB; rw [p1, q1]; rfl
  have e : rputTo (floatOfInt .f64 a) (floatOfInt .f64 b) t t.length ns = putTo t a b ns := by
    unfold rputTo
    rw [if_pos ⟨rfl, hB⟩, p2, q2]
  rw [e]
  refine .inr ⟨by omega, ?_⟩
  rcases H with ⟨_, rfl, rfl, rfl⟩ | ⟨_, rfl, hh, hk⟩
  · have e2 : putTo t a b [] = [(t, a, b)] := by simp [putTo, getN]
    rw [e2]
    have hs : stepH a b 1125899906842624 1125899906842624 = a ∧ stepK a b 1125899906842624 1125899906842624 = b := by
      simp only [inN, Bool.and_eq_true, decide_eq_true_eq] at ha hb
      unfold stepH stepK lessB
      by_cases c : a < 1125899906842624
      · simp [c]
      · have : a = 1125899906842624 := by omega
        subst this
        by_cases c2 : b < 1125899906842624
        · simp [c2]
        · have : b = 1125899906842624 := by omega
          subst this
          simp
    rw [hs.1, hs.2]
    exact ⟨rfl, ha, hb⟩
  · have e2 : putTo t a b [(t, h, k)] = [(t, stepH a b h k, stepK a b h k)] := by
      have e3 : getN t [(t, h, k)] = some (h, k) := by simp [getN]
      unfold putTo
      rw [e3]
      simp only [less_bet]
      unfold stepH stepK
      cases lessB a b h k <;> simp [setN]
    rw [e2]
    refine ⟨rfl, ?_, ?_⟩
    · unfold stepH; split <;> assumption
    · unfold stepK; split <;> assumption

/-- The loop. -/
def BestR (w : World) (rb : Nat) (t : List Int) (n : Nat) (i h k : Value) (wr : World) : Prop := ∃ j hh kk ns, j ≤ n ∧ i = .int .i64 ((j : Nat) : Int) ∧ h = .int .i64 hh ∧ k = .int .i64 kk ∧ BestN t j hh kk ns ∧ RelIW w rb t.length ns wr
end Go.Proofs.YthcljhfankooaaaGreat

namespace Go.Proofs.YthcljhfankooaaaGreat
open Go.RowKit Go.Shelf

theorem like_zero (a b : List Int) : likeB 0 a b = true := by
  unfold likeB
  rw [List.all_eq_true]
  intro c _
  simp
theorem like_self (cols : Int) (a : List Int) : likeB cols a a = true := by
  unfold likeB
  rw [List.all_eq_true]
  intro c _
  simp
theorem like_bit {cols : Int} {a b : List Int} (h : likeB cols a b = true) {c : Nat} (hc : c < a.length) (hb : cols.toNat.testBit c = true) : a.getD c 0 = b.getD c 0 := by
  unfold likeB at h
  rw [List.all_eq_true] at h
  have := h c (List.mem_range.2 hc)
  rw [hb] at this
  simpa using this
theorem cols_zero {wd : Nat} {t : List Int} (h : t.length = wd) : colsOk wd 0 t := ⟨h, Int.le_refl _, by have := Nat.two_pow_pos wd; omega⟩
theorem cols_full {wd : Nat} {t : List Int} (h : t.length = wd) : colsOk wd (((2 ^ wd - 1 : Nat) : Nat) : Int) t := ⟨h, by omega, by have := Nat.two_pow_pos wd; omega⟩
theorem found_zero_mem {wd : Nat} {t : List Int} {ns : List Nrow} (h : t.length = wd) (hn : (nKeys ns).Nodup) (p : Nrow) : p ∈ foundL wd 0 t ns ↔ p ∈ ns := by
  rw [(found_is hn (cols_zero h)).2]
  simp [like_zero]
theorem found_zero_len {wd : Nat} {t : List Int} {ns : List Nrow} (h : t.length = wd) : (foundL wd 0 t ns).length = ns.length := by
  unfold foundL
  rw [if_pos (cols_zero h), List.length_mergeSort, List.filter_eq_self.2 (fun p _ => like_zero _ _)]
theorem found_zero_eq {wd : Nat} {t u : List Int} {ns : List Nrow} (h : t.length = wd) (hu : u.length = wd) : foundL wd 0 t ns = foundL wd 0 u ns := by
  unfold foundL
  rw [if_pos (cols_zero h), if_pos (cols_zero hu), List.filter_eq_self.2 (fun p _ => like_zero _ _), List.filter_eq_self.2 (fun p _ => like_zero _ _)]
theorem full_bit {wd c : Nat} (h : c < wd) : (((2 ^ wd - 1 : Nat) : Nat) : Int).toNat.testBit c = true := by
  rw [Int.toNat_natCast, Nat.testBit_two_pow_sub_one]
  simpa using h
theorem key_one {ns : List Nrow} (hn : (nKeys ns).Nodup) {p q : Nrow} (hp : p ∈ ns) (hq : q ∈ ns) (e : p.1 = q.1) : p = q := by
  have h1 := getN_of_mem hn hp
  have h2 := getN_of_mem hn hq
  rw [e, h2] at h1
  exact Prod.ext e (Option.some.inj h1).symm
theorem found_self {wd : Nat} {ns : List Nrow} (hn : (nKeys ns).Nodup) (hl : ∀ p ∈ ns, p.1.length = wd) {x : Nrow} (hx : x ∈ ns) : foundL wd (((2 ^ wd - 1 : Nat) : Nat) : Int) x.1 ns = [x] := by
  refine found_one (found_is hn (cols_full (hl x hx))) ⟨List.pairwise_singleton _ _, fun p => ?_⟩
  rw [List.mem_singleton]
  refine ⟨fun e => by rw [e]; exact ⟨hx, like_self _ _⟩, fun ⟨hp, hk⟩ => key_one hn hp hx ?_⟩
  have lp := hl p hp
  have lx := hl x hx
  apply List.ext_getElem (by rw [lp, lx])
  intro i h1 h2
  have := like_bit hk h1 (full_bit (by omega))
  rw [List.getD_eq_getElem?_getD, List.getD_eq_getElem?_getD, List.getElem?_eq_getElem h1, List.getElem?_eq_getElem h2] at this
  exact this
theorem found_some {wd : Nat} {cols : Int} {ns : List Nrow} (hn : (nKeys ns).Nodup) {x : Nrow} (hx : x ∈ ns) (hc : colsOk wd cols x.1) : x ∈ foundL wd cols x.1 ns := ((found_is hn hc).2 x).2 ⟨hx, like_self _ _⟩
theorem len_iw2 (w W : World) (rb wd : Nat) (ns : List Nrow) (h : RelIW w rb wd ns W) :
    Calls Tryz.prog 12 #[.pointer (some ⟨rb, 0, none⟩)] W fun e w' => e = .returned (.int .i64 (ns.length : Int)) ∧ RelIW w rb wd ns w' ∧ Below W.heap.size W w' := by
  obtain ⟨hb, mb, sh, os, h5, h6, h7⟩ := id h
  refine (rlen_any _ rb hb mb wd sh os ns h5).mono ?_
  rintro e w' ⟨rfl, n, rfl⟩
  exact ⟨rfl, h.later (below_drewN (Below.refl _ W) n), below_drewN (Below.refl _ W) n⟩
/-- The rows of the law, on the way. -/
def BelR (w8 : World) (n : Nat) (i : Value) (wr : World) : Prop := ∃ j : Nat, j ≤ n ∧ i = .int .i64 (j : Int) ∧ Below w8.heap.size w8 wr
/-- What loop 1 keeps. -/
theorem rput_len (x y : Nat) (t : List Int) (wd : Nat) (ns : List Nrow) : (rputTo x y t wd ns).length ≤ ns.length + 1 := by
  have hs : ∀ (a k : Int) (l : List Nrow), (setN t a k l).length ≤ l.length + 1 := fun a k l => by
    induction l with
    | nil => simp [setN]
    | cons p r ih => unfold setN; split <;> simp <;> omega
  unfold rputTo
  split
  · unfold putTo
    split
    · split
      · exact hs _ _ _
      · omega
    · split <;> simp
  · omega
end Go.Proofs.YthcljhfankooaaaGreat
