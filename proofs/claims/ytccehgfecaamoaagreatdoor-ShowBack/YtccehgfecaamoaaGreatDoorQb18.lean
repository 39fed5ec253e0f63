/- syn: item, what it comes to; too many items. syn: item, one of the types. syn: item, one of the decls. syn: item, one of the inits. syn: item, one of the clauses. -/
import Derived.Test.YtccehgfecaamoaaGreatDoorQb15
import Derived.Test.YtccehgfecaamoaaGreatDoorQb16
import Derived.Test.YtccehgfecaamoaaGreatDoorQb17
set_option maxRecDepth 100000
set_option maxHeartbeats 32000000
namespace Go.Proofs.YtccehgfecaamoaaGreatDoor
section
open Go.RowKit Go.Maps
def ItA (rb e dp pb base : Nat) (wr : World) (r : Rs Pg) (en : Ending) (w' : World) : Prop := match r with
 | .bad why at_ _ => en = .panicked [{ v := stopV why at_, recovered := false }] ∧ KB rb pb base wr w'
 | .ok p' l' i' => en = .returned (.tuple #[]) ∧ (∃ u0 u1 u2 u3 u4, P5 pb base w' u0 u1 u2 u3 u4 p') ∧ Rd rb e w' l' i' dp ∧ KB rb pb base wr w'
theorem mixedO : Tryz.prog.follows .mixedOrders = true := by kernel_rfl
theorem Rd.more {rb e : Nat} {w : World} {l : List Tok} {it dp : Nat} (h : Rd rb e w l it dp) : Rd rb e (w.setCell ⟨rb, 2, none⟩ (.int .i64 ((it : Int) + 1))) l (it + 1) dp := by
 obtain ⟨v, hbx, hT⟩ := h.box
 exact ⟨⟨v, by have := Qad hbx 2 (.int .i64 ((it : Int) + 1)); exact this.trans (by rw [Int.natCast_add]; rfl), hT.kp (Kp.set rb w 2 _)⟩, h.num, h.len, h.end_⟩
theorem Qwp {rb e dp pb base : Nat} {wr : World} {l : List Tok} (h : Rd rb e wr l 96 dp) (hb : base ≤ wr.heap.size) :
  Calls Tryz.prog 61 #[.pointer (some ⟨rb, 0, none⟩), .pointer (some ⟨pb, 0, none⟩)] wr fun en w' => en = .panicked [{ v := stopV 3 (ahd e 0 l).at_, recovered := false }] ∧ KB rb pb base wr w' := by
 obtain ⟨a, cap, c0, c1, c2, c3, cf⟩ := h.cells
 have hr := Qbr h 3
 have HB := hide hb
 clear h c0 c1 c3
 generalize (ahd e 0 l).at_ = at0 at hr
 go_enter Tryz.func61, Tryz.ntmps61
 go_wp2_with fail
 refine hr.mono ?_
 clear hr
 rintro en w4 ⟨rfl, b4⟩
 have H4 := hide b4
 clear b4
 go_wp2_with fail
 exact ⟨rfl, rfl, KB.of_kp (Kp.of_below (Qa H4)) (Qa HB)⟩
end
section
open Go.RowKit Go.Maps
theorem Qtj {rb e dp pb base : Nat} {d : Nat} {C : Pr Cp} {wr : World} {l : List Tok} {it : Nat} {v0 v1 v2 v3 v4 : Value} {p : Pg} (h : Rd rb e wr l it dp) (h5 : P5 pb base wr v0 v1 v2 v3 v4 p) (hb : base ≤ wr.heap.size) (hrp : rb < pb) (hf : p.types.length ≤ 65536) (hi : it < 96) (hs : sgn e l = [46, 116, 121, 112, 101]) :
  Calls Tryz.prog 61 #[.pointer (some ⟨rb, 0, none⟩), .pointer (some ⟨pb, 0, none⟩)] wr fun en w' => ItA rb e dp pb base wr (itemP e d C p l it) en w' := by
 obtain ⟨a, cap, _, _, hcell, _, cf⟩ := h.cells
 have h96 : ¬ it = 96 := by omega
 have hz : ((it : Int) == 96) = false := by simp; omega
 obtain ⟨w1, hw1⟩ : ∃ w1, w1 = wr.setCell ⟨rb, 2, none⟩ (.int .i64 ((it : Int) + 1)) := ⟨_, rfl⟩
 have hR1 : Rd rb e w1 l (it + 1) dp := by rw [hw1]; exact h.more
 have k1 : Kp rb wr w1 := by rw [hw1]; exact Kp.set rb wr 2 _
 obtain ⟨a0, c0, rfl⟩ := h5.r0.slice
 obtain ⟨a1, c1, rfl⟩ := h5.r1.slice
 obtain ⟨a2, c2, rfl⟩ := h5.r2.slice
 obtain ⟨a3, c3, rfl⟩ := h5.r3.slice
 obtain ⟨a4, c4, rfl⟩ := h5.r4.slice
 obtain ⟨t, l1, rfl, -⟩ := Qci hs (by decide)
 have hg := Qdv hR1
 rw [hs] at hg
 have HC : Hid (∀ v, Below w1.heap.size w1 v → Calls Tryz.prog 93 #[.pointer (some ⟨rb, 0, none⟩)] v fun en w' => Ans rb e dp v (fun w2 v2 x => VTy (fun b => v.heap.size ≤ b) w2 v2 x) (typeP e (t :: l1) (it + 1)) en w') := fun v hv => Qob (hR1.later hv)
 have E : itemP e d C p (t :: l1) it = (typeP e (t :: l1) (it + 1)).map fun x => .mk (p.types ++ [x]) p.decls p.comps p.inits p.clauses := by
  unfold itemP
  rw [if_neg h96, if_pos hs]
 clear hs
 obtain ⟨PO, hPO⟩ : ∃ PO : Ending → World → Prop, PO = fun en w' => ItA rb e dp pb base wr (itemP e d C p (t :: l1) it) en w' := ⟨_, rfl⟩
 rw [← hPO]
 rw [E] at hPO
 have HPO := hide hPO
 have hpl := h5.lt
 have hlb := Qag h5.box
 generalize hn0 : p.types.length = n0 at h5
 generalize hn1 : p.decls.length = n1 at h5
 generalize hn2 : p.comps.length = n2 at h5
 generalize hn3 : p.inits.length = n3 at h5
 generalize hn4 : p.clauses.length = n4 at h5
 have H1 := hide (Ya h5 (Ya k1 (Ya hb (Ya hf hn0))))
 have HW1 := hide hw1
 clear h hR1 k1 hw1 E hPO h5 h96 hb hf hn0 hn1 hn2 hn3 hn4
 go_enter Tryz.func61, Tryz.ntmps61
 go_wp2_with fail
 rw [← Qa HW1]
 clear HW1 hcell cf hz hi
 refine hg.mono ?_
 clear hg
 rintro en w2 ⟨rfl, b2⟩
 have k2 : Kp rb wr w2.drew := ((Qa H1).2.1.trans (Kp.of_below b2)).trans (Kp.of_below ((Below.refl _ w2).drew))
 have h52 := (Qa H1).1.kp k2 hrp
 have hcl := Qa HC w2.drew b2.drew
 have H2 := hide (Ya k2 (Ya h52.box h52))
 clear b2 k2 h52 HC
 cases hq : typeP e (t :: l1) (it + 1) with
 | bad why at1 l4 =>
  rw [hq] at hcl HPO
  clear hq
  go_wp2_with fail
  refine Qax (m := 11) (ml := [(0, 1), (1, 1), (2, 1), (3, 1), (4, 2), (5, 1), (6, 0), (7, 0), (8, 0), (9, 1), (10, 1), (11, 0)]) (fun f w' => f = false → w'.heap[pb]? = some (.cells #[.slice a0 n0 c0, .slice a1 n1 c1, .slice a2 n2 c2, .slice a3 n3 c3, .slice a4 n4 c4] 28 (0, 0))) mixedO (by kernel_rfl) rfl (by rfl) (by kernel_rfl) (fun c a d v w h => by cases d <;> exact h) (fun PP PQ hPP hPQ => ?_)
  refine Qac rfl (by kernel_rfl) (fun _ _ _ => by go_simp <;> rfl) ?_
  refine Qac rfl (by kernel_rfl) (fun _ _ _ => by go_simp <;> rfl) ?_
  refine Qac rfl (by kernel_rfl) (fun _ _ _ => by go_simp <;> rfl) ?_
  refine Qac rfl (by kernel_rfl) (fun _ _ _ => by go_simp <;> rfl) ?_
  refine Qbl (v := ?_) rfl (by kernel_rfl) (fun w' hw => ?_) ?_
  rotate_left
  · (obtain ⟨z0, z1, z2, z3, z4, zf⟩ := cl5 (hw rfl); go_simp <;> rfl)
  refine Qac rfl (by kernel_rfl) (fun _ _ _ => by go_simp <;> rfl) ?_
  refine Qaf rfl (fun _ => (Qa H2).2.1) (fun K hK => ?_)
  go_simp
  refine hcl.mono ?_
  clear hcl
  rintro en w3 ⟨rfl, k3⟩
  have H3 := hide ((Qa H2).1.trans k3)
  clear k3
  go_wp2_with fail
  show PQ _ _ _
  refine hPQ _ _ _ ⟨rfl, ?_⟩
  rw [Qa HPO]
  exact ⟨rfl, KB.of_kp (Qa H3) (Qa H1).2.2.1⟩
 | ok x l4 i4 =>
  rw [hq] at hcl HPO
  clear hq
  go_wp2_with fail
  refine Qax (m := 11) (ml := [(0, 1), (1, 1), (2, 1), (3, 1), (4, 2), (5, 1), (6, 0), (7, 0), (8, 0), (9, 1), (10, 1), (11, 0)]) (fun f w' => f = false → w'.heap[pb]? = some (.cells #[.slice a0 n0 c0, .slice a1 n1 c1, .slice a2 n2 c2, .slice a3 n3 c3, .slice a4 n4 c4] 28 (0, 0))) mixedO (by kernel_rfl) rfl (by rfl) (by kernel_rfl) (fun c a d v w h => by cases d <;> exact h) (fun PP PQ hPP hPQ => ?_)
  refine Qac rfl (by kernel_rfl) (fun _ _ _ => by go_simp <;> rfl) ?_
  refine Qac rfl (by kernel_rfl) (fun _ _ _ => by go_simp <;> rfl) ?_
  refine Qac rfl (by kernel_rfl) (fun _ _ _ => by go_simp <;> rfl) ?_
  refine Qac rfl (by kernel_rfl) (fun _ _ _ => by go_simp <;> rfl) ?_
  refine Qbl (v := ?_) rfl (by kernel_rfl) (fun w' hw => ?_) ?_
  rotate_left
  · (obtain ⟨z0, z1, z2, z3, z4, zf⟩ := cl5 (hw rfl); go_simp <;> rfl)
  refine Qac rfl (by kernel_rfl) (fun _ _ _ => by go_simp <;> rfl) ?_
  refine Qaf rfl (fun _ => (Qa H2).2.1) (fun K hK => ?_)
  go_simp
  refine hcl.mono ?_
  clear hcl
  rintro en w3 ⟨_, rfl, ⟨xa, xn, xc, rfl, hX⟩, hR3, k3⟩
  obtain ⟨w4, hw4⟩ : ∃ w4, w4 = w3.alloc (.cells #[str x.name, str x.sub, .slice xa xn xc, .int .i64 x.at_] 94) := ⟨_, rfl⟩
  have b4 : Below w3.heap.size w3 w4 := bnw hw4
  have z4 : w4.heap[w3.heap.size]? = some (.cells #[str x.name, str x.sub, .slice xa xn xc, .int .i64 x.at_] 94 (0, 0)) := nnw hw4
  have k34 : Kp rb w2.drew w4 := k3.trans (Kp.of_below b4)
  have hbx3 := k3.keep (Qa H2).2.1 (by omega)
  have hbx4 := (b4.block _ (Qag hbx3)).trans hbx3
  have hb2 : base ≤ w2.drew.heap.size := by have := (Qa H1).2.2.1; have := (Qa H2).1.size; omega
  obtain ⟨r, w8, hrun, ⟨gg, gc, er, gb, gl⟩, hbx8, h59, hR9, kb9⟩ := (Qa H2).2.2.add0 hb2 hrp k34 (hR3.later b4) (cs := [str x.name, str x.sub, .slice xa xn xc, .int .i64 x.at_]) rfl (by simp [Value.oneCell', str]) (S := fun b => w2.drew.heap.size ≤ b) ⟨xa, xn, xc, rfl, (hX.same Qex b4.size (fun b _ hl => b4.block b hl))⟩ (fun b hb => hb) (Qa H1).2.2.2.1 w3.heap.size z4
  have kb : KB rb pb base wr (w8.setCell ⟨pb, 0, none⟩ r) := (KB.of_kp (Qa H2).1 (Qa H1).2.2.1).trans kb9
  have HF := hide (Ya h59 (Ya hR9 kb))
  have HX3 := hide hbx3
  have HX4 := hide hbx4
  have HX8 := hide hbx8
  obtain ⟨z0, z1, z2, z3, z4', zf⟩ := cl5 hbx8
  subst er
  have HW4 := hide hw4
  clear hX hR3 k3 hw4 b4 z4 k34 hbx3 hbx4 hb2 gb gl hbx8 h59 hR9 kb9 kb
  go_wp2_with fail
  refine Qaf rfl (fun _ => Qa HX3) (fun K hK => ?_)
  go_simp
  rw [← Qa HW4]
  clear HW4
  refine hK _ _ ?_
  clear hK K
  refine Qaf rfl (fun _ => Qa HX4) (fun K hK => Qcj rfl _ _ 22 rfl _ _ rfl rfl hrun (hK _ _ ?_))
  clear hK K hrun
  refine Qac rfl (by kernel_rfl) (fun _ _ _ => by go_simp <;> rfl) ?_
  refine Qac rfl (by kernel_rfl) (fun _ _ _ => by go_simp <;> rfl) ?_
  refine Qaf rfl (fun _ => Qa HX8) (fun K hK => ?_)
  go_simp
  refine hK _ _ ?_
  clear hK K
  refine Qbx (fun h => by cases h) (hPP _ _ ?_)
  clear hPP hPQ
  go_wp2_with fail
  go_end0
  rw [Qa HPO]
  exact ⟨rfl, ⟨_, _, _, _, _, (Qa HF).1⟩, (Qa HF).2⟩
end
section
open Go.RowKit Go.Maps
theorem Qth {rb e dp pb base : Nat} {d : Nat} {C : Pr Cp} {wr : World} {l : List Tok} {it : Nat} {v0 v1 v2 v3 v4 : Value} {p : Pg} (h : Rd rb e wr l it dp) (h5 : P5 pb base wr v0 v1 v2 v3 v4 p) (hb : base ≤ wr.heap.size) (hrp : rb < pb) (hf : p.decls.length ≤ 65536) (hi : it < 96) (hs : sgn e l = [46, 100, 101, 99, 108]) :
  Calls Tryz.prog 61 #[.pointer (some ⟨rb, 0, none⟩), .pointer (some ⟨pb, 0, none⟩)] wr fun en w' => ItA rb e dp pb base wr (itemP e d C p l it) en w' := by
 obtain ⟨a, cap, _, _, hcell, _, cf⟩ := h.cells
 have h96 : ¬ it = 96 := by omega
 have hz : ((it : Int) == 96) = false := by simp; omega
 obtain ⟨w1, hw1⟩ : ∃ w1, w1 = wr.setCell ⟨rb, 2, none⟩ (.int .i64 ((it : Int) + 1)) := ⟨_, rfl⟩
 have hR1 : Rd rb e w1 l (it + 1) dp := by rw [hw1]; exact h.more
 have k1 : Kp rb wr w1 := by rw [hw1]; exact Kp.set rb wr 2 _
 obtain ⟨a0, c0, rfl⟩ := h5.r0.slice
 obtain ⟨a1, c1, rfl⟩ := h5.r1.slice
 obtain ⟨a2, c2, rfl⟩ := h5.r2.slice
 obtain ⟨a3, c3, rfl⟩ := h5.r3.slice
 obtain ⟨a4, c4, rfl⟩ := h5.r4.slice
 obtain ⟨t, l1, rfl, -⟩ := Qci hs (by decide)
 have hg := Qdv hR1
 rw [hs] at hg
 have HC : Hid (∀ v, Below w1.heap.size w1 v → Calls Tryz.prog 94 #[.pointer (some ⟨rb, 0, none⟩)] v fun en w' => Ans rb e dp v (fun w2 v2 x => VDc (fun b => v.heap.size ≤ b) w2 v2 x) (declP e (t :: l1) (it + 1)) en w') := fun v hv => Jab (hR1.later hv)
 have E : itemP e d C p (t :: l1) it = (declP e (t :: l1) (it + 1)).map fun x => .mk p.types (p.decls ++ [x]) p.comps p.inits p.clauses := by
  unfold itemP
  rw [if_neg h96, if_neg (by rw [hs]; decide), if_pos hs]
 clear hs
 obtain ⟨PO, hPO⟩ : ∃ PO : Ending → World → Prop, PO = fun en w' => ItA rb e dp pb base wr (itemP e d C p (t :: l1) it) en w' := ⟨_, rfl⟩
 rw [← hPO]
 rw [E] at hPO
 have HPO := hide hPO
 have hpl := h5.lt
 have hlb := Qag h5.box
 generalize hn0 : p.types.length = n0 at h5
 generalize hn1 : p.decls.length = n1 at h5
 generalize hn2 : p.comps.length = n2 at h5
 generalize hn3 : p.inits.length = n3 at h5
 generalize hn4 : p.clauses.length = n4 at h5
 have H1 := hide (Ya h5 (Ya k1 (Ya hb (Ya hf hn1))))
 have HW1 := hide hw1
 clear h hR1 k1 hw1 E hPO h5 h96 hb hf hn0 hn1 hn2 hn3 hn4
 go_enter Tryz.func61, Tryz.ntmps61
 go_wp2_with fail
 rw [← Qa HW1]
 clear HW1 hcell cf hz hi
 refine hg.mono ?_
 clear hg
 rintro en w2 ⟨rfl, b2⟩
 have k2 : Kp rb wr w2.drew := ((Qa H1).2.1.trans (Kp.of_below b2)).trans (Kp.of_below ((Below.refl _ w2).drew))
 have h52 := (Qa H1).1.kp k2 hrp
 have hcl := Qa HC w2.drew b2.drew
 have H2 := hide (Ya k2 (Ya h52.box h52))
 clear b2 k2 h52 HC
 cases hq : declP e (t :: l1) (it + 1) with
 | bad why at1 l4 =>
  rw [hq] at hcl HPO
  clear hq
  go_wp2_with fail
  refine Qax (m := 11) (ml := [(0, 1), (1, 1), (2, 1), (3, 1), (4, 2), (5, 1), (6, 0), (7, 0), (8, 0), (9, 1), (10, 1), (11, 0)]) (fun f w' => f = false → w'.heap[pb]? = some (.cells #[.slice a0 n0 c0, .slice a1 n1 c1, .slice a2 n2 c2, .slice a3 n3 c3, .slice a4 n4 c4] 28 (0, 0))) mixedO (by kernel_rfl) rfl (by rfl) (by kernel_rfl) (fun c a d v w h => by cases d <;> exact h) (fun PP PQ hPP hPQ => ?_)
  refine Qac rfl (by kernel_rfl) (fun _ _ _ => by go_simp <;> rfl) ?_
  refine Qac rfl (by kernel_rfl) (fun _ _ _ => by go_simp <;> rfl) ?_
  refine Qac rfl (by kernel_rfl) (fun _ _ _ => by go_simp <;> rfl) ?_
  refine Qac rfl (by kernel_rfl) (fun _ _ _ => by go_simp <;> rfl) ?_
  refine Qbl (v := ?_) rfl (by kernel_rfl) (fun w' hw => ?_) ?_
  rotate_left
  · (obtain ⟨z0, z1, z2, z3, z4, zf⟩ := cl5 (hw rfl); go_simp <;> rfl)
  refine Qac rfl (by kernel_rfl) (fun _ _ _ => by go_simp <;> rfl) ?_
  refine Qaf rfl (fun _ => (Qa H2).2.1) (fun K hK => ?_)
  go_simp
  refine hcl.mono ?_
  clear hcl
  rintro en w3 ⟨rfl, k3⟩
  have H3 := hide ((Qa H2).1.trans k3)
  clear k3
  go_wp2_with fail
  show PQ _ _ _
  refine hPQ _ _ _ ⟨rfl, ?_⟩
  rw [Qa HPO]
  exact ⟨rfl, KB.of_kp (Qa H3) (Qa H1).2.2.1⟩
 | ok x l4 i4 =>
  rw [hq] at hcl HPO
  clear hq
  go_wp2_with fail
  refine Qax (m := 11) (ml := [(0, 1), (1, 1), (2, 1), (3, 1), (4, 2), (5, 1), (6, 0), (7, 0), (8, 0), (9, 1), (10, 1), (11, 0)]) (fun f w' => f = false → w'.heap[pb]? = some (.cells #[.slice a0 n0 c0, .slice a1 n1 c1, .slice a2 n2 c2, .slice a3 n3 c3, .slice a4 n4 c4] 28 (0, 0))) mixedO (by kernel_rfl) rfl (by rfl) (by kernel_rfl) (fun c a d v w h => by cases d <;> exact h) (fun PP PQ hPP hPQ => ?_)
  refine Qac rfl (by kernel_rfl) (fun _ _ _ => by go_simp <;> rfl) ?_
  refine Qac rfl (by kernel_rfl) (fun _ _ _ => by go_simp <;> rfl) ?_
  refine Qac rfl (by kernel_rfl) (fun _ _ _ => by go_simp <;> rfl) ?_
  refine Qac rfl (by kernel_rfl) (fun _ _ _ => by go_simp <;> rfl) ?_
  refine Qbl (v := ?_) rfl (by kernel_rfl) (fun w' hw => ?_) ?_
  rotate_left
  · (obtain ⟨z0, z1, z2, z3, z4, zf⟩ := cl5 (hw rfl); go_simp <;> rfl)
  refine Qac rfl (by kernel_rfl) (fun _ _ _ => by go_simp <;> rfl) ?_
  refine Qaf rfl (fun _ => (Qa H2).2.1) (fun K hK => ?_)
  go_simp
  refine hcl.mono ?_
  clear hcl
  rintro en w3 ⟨_, rfl, ⟨xa, xn, xc, rfl, hX⟩, hR3, k3⟩
  obtain ⟨w4, hw4⟩ : ∃ w4, w4 = w3.alloc (.cells #[str x.name, .slice xa xn xc, .bool x.input, .bool x.output, .int .i64 x.at_] 99) := ⟨_, rfl⟩
  have b4 : Below w3.heap.size w3 w4 := bnw hw4
  have z4 : w4.heap[w3.heap.size]? = some (.cells #[str x.name, .slice xa xn xc, .bool x.input, .bool x.output, .int .i64 x.at_] 99 (0, 0)) := nnw hw4
  have k34 : Kp rb w2.drew w4 := k3.trans (Kp.of_below b4)
  have hbx3 := k3.keep (Qa H2).2.1 (by omega)
  have hbx4 := (b4.block _ (Qag hbx3)).trans hbx3
  have hb2 : base ≤ w2.drew.heap.size := by have := (Qa H1).2.2.1; have := (Qa H2).1.size; omega
  obtain ⟨r, w8, hrun, ⟨gg, gc, er, gb, gl⟩, hbx8, h59, hR9, kb9⟩ := (Qa H2).2.2.add1 hb2 hrp k34 (hR3.later b4) (cs := [str x.name, .slice xa xn xc, .bool x.input, .bool x.output, .int .i64 x.at_]) rfl (by simp [Value.oneCell', str]) (S := fun b => w2.drew.heap.size ≤ b) ⟨xa, xn, xc, rfl, (hX.same Qbv b4.size (fun b _ hl => b4.block b hl))⟩ (fun b hb => hb) (Qa H1).2.2.2.1 w3.heap.size z4
  have kb : KB rb pb base wr (w8.setCell ⟨pb, 1, none⟩ r) := (KB.of_kp (Qa H2).1 (Qa H1).2.2.1).trans kb9
  have HF := hide (Ya h59 (Ya hR9 kb))
  have HX3 := hide hbx3
  have HX4 := hide hbx4
  have HX8 := hide hbx8
  obtain ⟨z0, z1, z2, z3, z4', zf⟩ := cl5 hbx8
  subst er
  have HW4 := hide hw4
  clear hX hR3 k3 hw4 b4 z4 k34 hbx3 hbx4 hb2 gb gl hbx8 h59 hR9 kb9 kb
  go_wp2_with fail
  refine Qaf rfl (fun _ => Qa HX3) (fun K hK => ?_)
  go_simp
  rw [← Qa HW4]
  clear HW4
  refine hK _ _ ?_
  clear hK K
  refine Qaf rfl (fun _ => Qa HX4) (fun K hK => Qcj rfl _ _ 23 rfl _ _ rfl rfl hrun (hK _ _ ?_))
  clear hK K hrun
  refine Qac rfl (by kernel_rfl) (fun _ _ _ => by go_simp <;> rfl) ?_
  refine Qac rfl (by kernel_rfl) (fun _ _ _ => by go_simp <;> rfl) ?_
  refine Qaf rfl (fun _ => Qa HX8) (fun K hK => ?_)
  go_simp
  refine hK _ _ ?_
  clear hK K
  refine Qbx (fun h => by cases h) (hPP _ _ ?_)
  clear hPP hPQ
  go_wp2_with fail
  go_end0
  rw [Qa HPO]
  exact ⟨rfl, ⟨_, _, _, _, _, (Qa HF).1⟩, (Qa HF).2⟩
end
section
open Go.RowKit Go.Maps
theorem Qti {rb e dp pb base : Nat} {d : Nat} {C : Pr Cp} {wr : World} {l : List Tok} {it : Nat} {v0 v1 v2 v3 v4 : Value} {p : Pg} (h : Rd rb e wr l it dp) (h5 : P5 pb base wr v0 v1 v2 v3 v4 p) (hb : base ≤ wr.heap.size) (hrp : rb < pb) (hf : p.inits.length ≤ 65536) (hi : it < 96) (hs : sgn e l = [46, 105, 110, 105, 116]) :
  Calls Tryz.prog 61 #[.pointer (some ⟨rb, 0, none⟩), .pointer (some ⟨pb, 0, none⟩)] wr fun en w' => ItA rb e dp pb base wr (itemP e d C p l it) en w' := by
 obtain ⟨a, cap, _, _, hcell, _, cf⟩ := h.cells
 have h96 : ¬ it = 96 := by omega
 have hz : ((it : Int) == 96) = false := by simp; omega
 obtain ⟨w1, hw1⟩ : ∃ w1, w1 = wr.setCell ⟨rb, 2, none⟩ (.int .i64 ((it : Int) + 1)) := ⟨_, rfl⟩
 have hR1 : Rd rb e w1 l (it + 1) dp := by rw [hw1]; exact h.more
 have k1 : Kp rb wr w1 := by rw [hw1]; exact Kp.set rb wr 2 _
 obtain ⟨a0, c0, rfl⟩ := h5.r0.slice
 obtain ⟨a1, c1, rfl⟩ := h5.r1.slice
 obtain ⟨a2, c2, rfl⟩ := h5.r2.slice
 obtain ⟨a3, c3, rfl⟩ := h5.r3.slice
 obtain ⟨a4, c4, rfl⟩ := h5.r4.slice
 obtain ⟨t, l1, rfl, -⟩ := Qci hs (by decide)
 have hg := Qdv hR1
 rw [hs] at hg
 have HC : Hid (∀ v, Below w1.heap.size w1 v → Calls Tryz.prog 96 #[.pointer (some ⟨rb, 0, none⟩)] v fun en w' => Ans rb e dp v (fun w2 v2 x => v2 = .agg #[str x.name, str x.comp, .int .i64 x.at_]) (initP e (t :: l1) (it + 1)) en w') := fun v hv => Qmv (hR1.later hv)
 have E : itemP e d C p (t :: l1) it = (initP e (t :: l1) (it + 1)).map fun x => .mk p.types p.decls p.comps (p.inits ++ [x]) p.clauses := by
  unfold itemP
  rw [if_neg h96, if_neg (by rw [hs]; decide), if_neg (by rw [hs]; decide), if_neg (by rw [hs]; decide), if_pos hs]
 clear hs
 obtain ⟨PO, hPO⟩ : ∃ PO : Ending → World → Prop, PO = fun en w' => ItA rb e dp pb base wr (itemP e d C p (t :: l1) it) en w' := ⟨_, rfl⟩
 rw [← hPO]
 rw [E] at hPO
 have HPO := hide hPO
 have hpl := h5.lt
 have hlb := Qag h5.box
 generalize hn0 : p.types.length = n0 at h5
 generalize hn1 : p.decls.length = n1 at h5
 generalize hn2 : p.comps.length = n2 at h5
 generalize hn3 : p.inits.length = n3 at h5
 generalize hn4 : p.clauses.length = n4 at h5
 have H1 := hide (Ya h5 (Ya k1 (Ya hb (Ya hf hn3))))
 have HW1 := hide hw1
 clear h hR1 k1 hw1 E hPO h5 h96 hb hf hn0 hn1 hn2 hn3 hn4
 go_enter Tryz.func61, Tryz.ntmps61
 go_wp2_with fail
 rw [← Qa HW1]
 clear HW1 hcell cf hz hi
 refine hg.mono ?_
 clear hg
 rintro en w2 ⟨rfl, b2⟩
 have k2 : Kp rb wr w2.drew := ((Qa H1).2.1.trans (Kp.of_below b2)).trans (Kp.of_below ((Below.refl _ w2).drew))
 have h52 := (Qa H1).1.kp k2 hrp
 have hcl := Qa HC w2.drew b2.drew
 have H2 := hide (Ya k2 (Ya h52.box h52))
 clear b2 k2 h52 HC
 cases hq : initP e (t :: l1) (it + 1) with
 | bad why at1 l4 =>
  rw [hq] at hcl HPO
  clear hq
  go_wp2_with fail
  refine Qax (m := 11) (ml := [(0, 1), (1, 1), (2, 1), (3, 1), (4, 2), (5, 1), (6, 0), (7, 0), (8, 0), (9, 1), (10, 1), (11, 0)]) (fun f w' => f = false → w'.heap[pb]? = some (.cells #[.slice a0 n0 c0, .slice a1 n1 c1, .slice a2 n2 c2, .slice a3 n3 c3, .slice a4 n4 c4] 28 (0, 0))) mixedO (by kernel_rfl) rfl (by rfl) (by kernel_rfl) (fun c a d v w h => by cases d <;> exact h) (fun PP PQ hPP hPQ => ?_)
  refine Qac rfl (by kernel_rfl) (fun _ _ _ => by go_simp <;> rfl) ?_
  refine Qac rfl (by kernel_rfl) (fun _ _ _ => by go_simp <;> rfl) ?_
  refine Qac rfl (by kernel_rfl) (fun _ _ _ => by go_simp <;> rfl) ?_
  refine Qac rfl (by kernel_rfl) (fun _ _ _ => by go_simp <;> rfl) ?_
  refine Qbl (v := ?_) rfl (by kernel_rfl) (fun w' hw => ?_) ?_
  rotate_left
  · (obtain ⟨z0, z1, z2, z3, z4, zf⟩ := cl5 (hw rfl); go_simp <;> rfl)
  refine Qac rfl (by kernel_rfl) (fun _ _ _ => by go_simp <;> rfl) ?_
  refine Qaf rfl (fun _ => (Qa H2).2.1) (fun K hK => ?_)
  go_simp
  refine hcl.mono ?_
  clear hcl
  rintro en w3 ⟨rfl, k3⟩
  have H3 := hide ((Qa H2).1.trans k3)
  clear k3
  go_wp2_with fail
  show PQ _ _ _
  refine hPQ _ _ _ ⟨rfl, ?_⟩
  rw [Qa HPO]
  exact ⟨rfl, KB.of_kp (Qa H3) (Qa H1).2.2.1⟩
 | ok x l4 i4 =>
  rw [hq] at hcl HPO
  clear hq
  go_wp2_with fail
  refine Qax (m := 11) (ml := [(0, 1), (1, 1), (2, 1), (3, 1), (4, 2), (5, 1), (6, 0), (7, 0), (8, 0), (9, 1), (10, 1), (11, 0)]) (fun f w' => f = false → w'.heap[pb]? = some (.cells #[.slice a0 n0 c0, .slice a1 n1 c1, .slice a2 n2 c2, .slice a3 n3 c3, .slice a4 n4 c4] 28 (0, 0))) mixedO (by kernel_rfl) rfl (by rfl) (by kernel_rfl) (fun c a d v w h => by cases d <;> exact h) (fun PP PQ hPP hPQ => ?_)
  refine Qac rfl (by kernel_rfl) (fun _ _ _ => by go_simp <;> rfl) ?_
  refine Qac rfl (by kernel_rfl) (fun _ _ _ => by go_simp <;> rfl) ?_
  refine Qac rfl (by kernel_rfl) (fun _ _ _ => by go_simp <;> rfl) ?_
  refine Qac rfl (by kernel_rfl) (fun _ _ _ => by go_simp <;> rfl) ?_
  refine Qbl (v := ?_) rfl (by kernel_rfl) (fun w' hw => ?_) ?_
  rotate_left
  · (obtain ⟨z0, z1, z2, z3, z4, zf⟩ := cl5 (hw rfl); go_simp <;> rfl)
  refine Qac rfl (by kernel_rfl) (fun _ _ _ => by go_simp <;> rfl) ?_
  refine Qaf rfl (fun _ => (Qa H2).2.1) (fun K hK => ?_)
  go_simp
  refine hcl.mono ?_
  clear hcl
  rintro en w3 ⟨_, rfl, rfl, hR3, k3⟩
  obtain ⟨w4, hw4⟩ : ∃ w4, w4 = w3.alloc (.cells #[str x.name, str x.comp, .int .i64 x.at_] 77) := ⟨_, rfl⟩
  have b4 : Below w3.heap.size w3 w4 := bnw hw4
  have z4 : w4.heap[w3.heap.size]? = some (.cells #[str x.name, str x.comp, .int .i64 x.at_] 77 (0, 0)) := nnw hw4
  have k34 : Kp rb w2.drew w4 := k3.trans (Kp.of_below b4)
  have hbx3 := k3.keep (Qa H2).2.1 (by omega)
  have hbx4 := (b4.block _ (Qag hbx3)).trans hbx3
  have hb2 : base ≤ w2.drew.heap.size := by have := (Qa H1).2.2.1; have := (Qa H2).1.size; omega
  obtain ⟨r, w8, hrun, ⟨gg, gc, er, gb, gl⟩, hbx8, h59, hR9, kb9⟩ := (Qa H2).2.2.add3 hb2 hrp k34 (hR3.later b4) (cs := [str x.name, str x.comp, .int .i64 x.at_]) rfl (by simp [Value.oneCell', str]) (S := fun b => w2.drew.heap.size ≤ b) rfl (fun b hb => hb) (Qa H1).2.2.2.1 w3.heap.size z4
  have kb : KB rb pb base wr (w8.setCell ⟨pb, 3, none⟩ r) := (KB.of_kp (Qa H2).1 (Qa H1).2.2.1).trans kb9
  have HF := hide (Ya h59 (Ya hR9 kb))
  have HX3 := hide hbx3
  have HX4 := hide hbx4
  have HX8 := hide hbx8
  obtain ⟨z0, z1, z2, z3, z4', zf⟩ := cl5 hbx8
  subst er
  have HW4 := hide hw4
  clear hR3 k3 hw4 b4 z4 k34 hbx3 hbx4 hb2 gb gl hbx8 h59 hR9 kb9 kb
  go_wp2_with fail
  refine Qaf rfl (fun _ => Qa HX3) (fun K hK => ?_)
  go_simp
  rw [← Qa HW4]
  clear HW4
  refine hK _ _ ?_
  clear hK K
  refine Qaf rfl (fun _ => Qa HX4) (fun K hK => Qcj rfl _ _ 25 rfl _ _ rfl rfl hrun (hK _ _ ?_))
  clear hK K hrun
  refine Qac rfl (by kernel_rfl) (fun _ _ _ => by go_simp <;> rfl) ?_
  refine Qac rfl (by kernel_rfl) (fun _ _ _ => by go_simp <;> rfl) ?_
  refine Qaf rfl (fun _ => Qa HX8) (fun K hK => ?_)
  go_simp
  refine hK _ _ ?_
  clear hK K
  refine Qbx (fun h => by cases h) (hPP _ _ ?_)
  clear hPP hPQ
  go_wp2_with fail
  go_end0
  rw [Qa HPO]
  exact ⟨rfl, ⟨_, _, _, _, _, (Qa HF).1⟩, (Qa HF).2⟩
end
section
open Go.RowKit Go.Maps
theorem Qmw {rb e dp pb base : Nat} {d : Nat} (hd : dp + d = 32) {C : Pr Cp} {wr : World} {l : List Tok} {it : Nat} {v0 v1 v2 v3 v4 : Value} {p : Pg} (h : Rd rb e wr l it dp) (h5 : P5 pb base wr v0 v1 v2 v3 v4 p) (hb : base ≤ wr.heap.size) (hrp : rb < pb) (hf : p.clauses.length ≤ 65536) (hi : it < 96) (hs0 : ¬ sgn e l = [46, 116, 121, 112, 101]) (hs1 : ¬ sgn e l = [46, 100, 101, 99, 108]) (hs2 : ¬ sgn e l = [46, 99, 111, 109, 112]) (hs3 : ¬ sgn e l = [46, 105, 110, 105, 116]) :
  Calls Tryz.prog 61 #[.pointer (some ⟨rb, 0, none⟩), .pointer (some ⟨pb, 0, none⟩)] wr fun en w' => ItA rb e dp pb base wr (itemP e d C p l it) en w' := by
 obtain ⟨a, cap, _, _, hcell, _, cf⟩ := h.cells
 have h96 : ¬ it = 96 := by omega
 have hz : ((it : Int) == 96) = false := by simp; omega
 obtain ⟨w1, hw1⟩ : ∃ w1, w1 = wr.setCell ⟨rb, 2, none⟩ (.int .i64 ((it : Int) + 1)) := ⟨_, rfl⟩
 have hR1 : Rd rb e w1 l (it + 1) dp := by rw [hw1]; exact h.more
 have k1 : Kp rb wr w1 := by rw [hw1]; exact Kp.set rb wr 2 _
 obtain ⟨a0, c0, rfl⟩ := h5.r0.slice
 obtain ⟨a1, c1, rfl⟩ := h5.r1.slice
 obtain ⟨a2, c2, rfl⟩ := h5.r2.slice
 obtain ⟨a3, c3, rfl⟩ := h5.r3.slice
 obtain ⟨a4, c4, rfl⟩ := h5.r4.slice
 have hg := Qdv hR1
 have HC : Hid (∀ v, Below w1.heap.size w1 v → Calls Tryz.prog 97 #[.pointer (some ⟨rb, 0, none⟩)] v fun en w' => Ans rb e dp v (fun w2 v2 x => VCl (fun b => v.heap.size ≤ b) w2 v2 x) (clauseP e d l (it + 1)) en w') := fun v hv => Qsp hd (hR1.later hv)
 have E : itemP e d C p l it = (clauseP e d l (it + 1)).map fun x => .mk p.types p.decls p.comps p.inits (p.clauses ++ [x]) := by
  unfold itemP
  rw [if_neg h96, if_neg hs0, if_neg hs1, if_neg hs2, if_neg hs3]
 have g0 : (sgn e l == [46, 116, 121, 112, 101]) = false := by simpa using hs0
 have g1 : (sgn e l == [46, 100, 101, 99, 108]) = false := by simpa using hs1
 have g2 : (sgn e l == [46, 99, 111, 109, 112]) = false := by simpa using hs2
 have g3 : (sgn e l == [46, 105, 110, 105, 116]) = false := by simpa using hs3
 generalize sgn e l = sg at hg g0 g1 g2 g3
 clear hs0 hs1 hs2 hs3 hd
 obtain ⟨PO, hPO⟩ : ∃ PO : Ending → World → Prop, PO = fun en w' => ItA rb e dp pb base wr (itemP e d C p l it) en w' := ⟨_, rfl⟩
 rw [← hPO]
 rw [E] at hPO
 have HPO := hide hPO
 have hpl := h5.lt
 have hlb := Qag h5.box
 generalize hn0 : p.types.length = n0 at h5
 generalize hn1 : p.decls.length = n1 at h5
 generalize hn2 : p.comps.length = n2 at h5
 generalize hn3 : p.inits.length = n3 at h5
 generalize hn4 : p.clauses.length = n4 at h5
 have H1 := hide (Ya h5 (Ya k1 (Ya hb (Ya hf hn4))))
 have HW1 := hide hw1
 clear h hR1 k1 hw1 E hPO h5 h96 hb hf hn0 hn1 hn2 hn3 hn4
 go_enter Tryz.func61, Tryz.ntmps61
 go_wp2_with fail
 rw [← Qa HW1]
 clear HW1 hcell cf hz hi
 refine hg.mono ?_
 clear hg
 rintro en w2 ⟨rfl, b2⟩
 have k2 : Kp rb wr w2.drew := ((Qa H1).2.1.trans (Kp.of_below b2)).trans (Kp.of_below ((Below.refl _ w2).drew))
 have h52 := (Qa H1).1.kp k2 hrp
 have hcl := Qa HC w2.drew b2.drew
 have H2 := hide (Ya k2 (Ya h52.box h52))
 clear b2 k2 h52 HC
 cases hq : clauseP e d l (it + 1) with
 | bad why at1 l4 =>
  rw [hq] at hcl HPO
  clear hq
  go_wp2_with fail
  refine Qax (m := 11) (ml := [(0, 1), (1, 1), (2, 1), (3, 1), (4, 2), (5, 1), (6, 0), (7, 0), (8, 0), (9, 1), (10, 1), (11, 0)]) (fun f w' => f = false → w'.heap[pb]? = some (.cells #[.slice a0 n0 c0, .slice a1 n1 c1, .slice a2 n2 c2, .slice a3 n3 c3, .slice a4 n4 c4] 28 (0, 0))) mixedO (by kernel_rfl) rfl (by rfl) (by kernel_rfl) (fun c a d v w h => by cases d <;> exact h) (fun PP PQ hPP hPQ => ?_)
  refine Qac rfl (by kernel_rfl) (fun _ _ _ => by go_simp <;> rfl) ?_
  refine Qac rfl (by kernel_rfl) (fun _ _ _ => by go_simp <;> rfl) ?_
  refine Qac rfl (by kernel_rfl) (fun _ _ _ => by go_simp <;> rfl) ?_
  refine Qac rfl (by kernel_rfl) (fun _ _ _ => by go_simp <;> rfl) ?_
  refine Qbl (v := ?_) rfl (by kernel_rfl) (fun w' hw => ?_) ?_
  rotate_left
  · (obtain ⟨z0, z1, z2, z3, z4, zf⟩ := cl5 (hw rfl); go_simp <;> rfl)
  refine Qac rfl (by kernel_rfl) (fun _ _ _ => by go_simp <;> rfl) ?_
  refine Qaf rfl (fun _ => (Qa H2).2.1) (fun K hK => ?_)
  go_simp
  refine hcl.mono ?_
  clear hcl
  rintro en w3 ⟨rfl, k3⟩
  have H3 := hide ((Qa H2).1.trans k3)
  clear k3
  go_wp2_with fail
  show PQ _ _ _
  refine hPQ _ _ _ ⟨rfl, ?_⟩
  rw [Qa HPO]
  exact ⟨rfl, KB.of_kp (Qa H3) (Qa H1).2.2.1⟩
 | ok x l4 i4 =>
  rw [hq] at hcl HPO
  clear hq
  go_wp2_with fail
  refine Qax (m := 11) (ml := [(0, 1), (1, 1), (2, 1), (3, 1), (4, 2), (5, 1), (6, 0), (7, 0), (8, 0), (9, 1), (10, 1), (11, 0)]) (fun f w' => f = false → w'.heap[pb]? = some (.cells #[.slice a0 n0 c0, .slice a1 n1 c1, .slice a2 n2 c2, .slice a3 n3 c3, .slice a4 n4 c4] 28 (0, 0))) mixedO (by kernel_rfl) rfl (by rfl) (by kernel_rfl) (fun c a d v w h => by cases d <;> exact h) (fun PP PQ hPP hPQ => ?_)
  refine Qac rfl (by kernel_rfl) (fun _ _ _ => by go_simp <;> rfl) ?_
  refine Qac rfl (by kernel_rfl) (fun _ _ _ => by go_simp <;> rfl) ?_
  refine Qac rfl (by kernel_rfl) (fun _ _ _ => by go_simp <;> rfl) ?_
  refine Qac rfl (by kernel_rfl) (fun _ _ _ => by go_simp <;> rfl) ?_
  refine Qbl (v := ?_) rfl (by kernel_rfl) (fun w' hw => ?_) ?_
  rotate_left
  · (obtain ⟨z0, z1, z2, z3, z4, zf⟩ := cl5 (hw rfl); go_simp <;> rfl)
  refine Qac rfl (by kernel_rfl) (fun _ _ _ => by go_simp <;> rfl) ?_
  refine Qaf rfl (fun _ => (Qa H2).2.1) (fun K hK => ?_)
  go_simp
  refine hcl.mono ?_
  clear hcl
  rintro en w3 ⟨_, rfl, ⟨aa, an, ac, ba, bn, bc, rfl, hX⟩, hR3, k3⟩
  obtain ⟨w4, hw4⟩ : ∃ w4, w4 = w3.alloc (.cells #[str x.head.rel, .slice aa an ac, .int .i64 x.head.at_, .slice ba bn bc, .int .i64 x.at_] 64) := ⟨_, rfl⟩
  have b4 : Below w3.heap.size w3 w4 := bnw hw4
  have z4 : w4.heap[w3.heap.size]? = some (.cells #[str x.head.rel, .slice aa an ac, .int .i64 x.head.at_, .slice ba bn bc, .int .i64 x.at_] 64 (0, 0)) := nnw hw4
  have k34 : Kp rb w2.drew w4 := k3.trans (Kp.of_below b4)
  have hbx3 := k3.keep (Qa H2).2.1 (by omega)
  have hbx4 := (b4.block _ (Qag hbx3)).trans hbx3
  have hb2 : base ≤ w2.drew.heap.size := by have := (Qa H1).2.2.1; have := (Qa H2).1.size; omega
  obtain ⟨r, w8, hrun, ⟨gg, gc, er, gb, gl⟩, hbx8, h59, hR9, kb9⟩ := (Qa H2).2.2.add4 hb2 hrp k34 (hR3.later b4) (cs := [str x.head.rel, .slice aa an ac, .int .i64 x.head.at_, .slice ba bn bc, .int .i64 x.at_]) rfl (by simp [Value.oneCell', str]) (S := fun b => w2.drew.heap.size ≤ b) ⟨aa, an, ac, ba, bn, bc, rfl, hX.1.same Qae b4.size (fun b _ hl => b4.block b hl), hX.2.same Qbt b4.size (fun b _ hl => b4.block b hl)⟩ (fun b hb => hb) (Qa H1).2.2.2.1 w3.heap.size z4
  have kb : KB rb pb base wr (w8.setCell ⟨pb, 4, none⟩ r) := (KB.of_kp (Qa H2).1 (Qa H1).2.2.1).trans kb9
  have HF := hide (Ya h59 (Ya hR9 kb))
  have HX3 := hide hbx3
  have HX4 := hide hbx4
  have HX8 := hide hbx8
  obtain ⟨z0, z1, z2, z3, z4', zf⟩ := cl5 hbx8
  subst er
  have HW4 := hide hw4
  clear hX hR3 k3 hw4 b4 z4 k34 hbx3 hbx4 hb2 gb gl hbx8 h59 hR9 kb9 kb
  go_wp2_with fail
  refine Qaf rfl (fun _ => Qa HX3) (fun K hK => ?_)
  go_simp
  rw [← Qa HW4]
  clear HW4
  refine hK _ _ ?_
  clear hK K
  refine Qaf rfl (fun _ => Qa HX4) (fun K hK => Qcj rfl _ _ 26 rfl _ _ rfl rfl hrun (hK _ _ ?_))
  clear hK K hrun
  refine Qac rfl (by kernel_rfl) (fun _ _ _ => by go_simp <;> rfl) ?_
  refine Qac rfl (by kernel_rfl) (fun _ _ _ => by go_simp <;> rfl) ?_
  refine Qaf rfl (fun _ => Qa HX8) (fun K hK => ?_)
  go_simp
  refine hK _ _ ?_
  clear hK K
  refine Qbx (fun h => by cases h) (hPP _ _ ?_)
  clear hPP hPQ
  go_wp2_with fail
  go_end0
  rw [Qa HPO]
  exact ⟨rfl, ⟨_, _, _, _, _, (Qa HF).1⟩, (Qa HF).2⟩
end
end Go.Proofs.YtccehgfecaamoaaGreatDoor
