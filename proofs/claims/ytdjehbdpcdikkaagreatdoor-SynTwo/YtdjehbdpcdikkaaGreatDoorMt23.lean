/- syn: item, one of the comps. syn: items up to an end. syn: what a wrong place carries is caught. -/
import Derived.Test.YtdjehbdpcdikkaaGreatDoorMt22
import Derived.Test.YtdjehbdpcdikkaaGreatDoorMt21
import Derived.Defers
import Derived.Recover
import Derived.Laws.Pointers
namespace Go.Proofs.YtdjehbdpcdikkaaGreatDoor
open Go.RowKit Go.Maps

attribute [local go_sem ↓] storeAt_co loadAt_co
set_option maxRecDepth 100000 in
set_option maxHeartbeats 8000000 in
theorem item_comps {rb e dp pb base : Nat} {d : Nat} {C : Pr Cp} (hC : ∀ w t l it, it ≤ 96 → Rd rb e w (t :: l) it dp → Calls Tryz.prog 136 #[.pointer (some ⟨rb, 0, none⟩)] w fun en w' => Ans rb e dp w (fun w2 v x => VCo (fun b => w.heap.size ≤ b) w2 v x) (C (t :: l) it) en w') {wr : World} {l : List Tok} {it : Nat} {v0 v1 v2 v3 v4 : Value} {p : Pg} (h : Rd rb e wr l it dp) (h5 : P5 pb base wr v0 v1 v2 v3 v4 p) (hb : base ≤ wr.heap.size) (hrp : rb < pb) (hf : p.comps.length ≤ 65536) (hi : it < 96) (hs : sgn e l = [46, 99, 111, 109, 112]) :
  Calls Tryz.prog 108 #[.pointer (some ⟨rb, 0, none⟩), .pointer (some ⟨pb, 0, none⟩)] wr fun en w' => ItA rb e dp pb base wr (itemP e d C p l it) en w' := by
 obtain ⟨a, cap, _, _, hcell, _, cf⟩ := h.cells
 have h96 : ¬ it = 96 := by omega
 have hz : ((it : Int) == 96) = false := by simp; omega
 obtain ⟨w1, hw1⟩ : ∃ w1, w1 = wr.setCell ⟨rb, 2, none⟩ (.int .i64 ((it : Int) + 1)) := ⟨_, rfl⟩
 have hR1 : Rd rb e w1 l (it + 1) dp := by rw [hw1]; exact h.more
 have k1 : Kp rb wr w1 := by rw [hw1]; exact Kp.set rb wr 2 _
 obtain ⟨a0, c0, rfl⟩ := h5.r0.slice
 obtain ⟨a1, c1, rfl⟩ := h5.r1.slice
 obtain ⟨a2, c2, rfl⟩ := h5.r2.slice
 obtain ⟨a3, c3, rfl⟩ := h5.r3.slice
 obtain ⟨a4, c4, rfl⟩ := h5.r4.slice
 obtain ⟨t, l1, rfl, -⟩ := sgn_cons hs (by decide)
 have hg := sign_any hR1
 rw [hs] at hg
 have HC : Hid (∀ v, Kp rb w1 v → Rd rb e v (t :: l1) (it + 1) dp → Calls Tryz.prog 136 #[.pointer (some ⟨rb, 0, none⟩)] v fun en w' => Ans rb e dp v (fun w2 v2 x => VCo (fun b => v.heap.size ≤ b) w2 v2 x) (C (t :: l1) (it + 1)) en w') := fun v _ hv => hC v t l1 (it + 1) (by omega) hv
 have E : itemP e d C p (t :: l1) it = (C (t :: l1) (it + 1)).map fun x => .mk p.types p.decls (p.comps ++ [x]) p.inits p.clauses := by
  unfold itemP
  rw [if_neg h96, if_neg (by rw [hs]; decide), if_neg (by rw [hs]; decide), if_pos hs]
 clear hs hC
 obtain ⟨PO, hPO⟩ : ∃ PO : Ending → World → Prop, PO = fun en w' => ItA rb e dp pb base wr (itemP e d C p (t :: l1) it) en w' := ⟨_, rfl⟩
 rw [← hPO]
 rw [E] at hPO
 have HPO := hide hPO
 have hpl := h5.lt
 have hlb := lt_hp h5.box
 have H1 := hide (And.intro h5 (And.intro k1 (And.intro hb hf)))
 have HW1 := hide hw1
 have HR1 := hide hR1
 clear h hR1 k1 hw1 E hPO h5 h96 hb hf
 go_enter Tryz.func108, Tryz.ntmps108
 go_wp2_with fail
 rw [← unhide HW1]
 clear HW1 hcell cf hz hi
 refine hg.mono ?_
 clear hg
 rintro en w2 ⟨rfl, b2⟩
 have k2 : Kp rb wr w2.drew := ((unhide H1).2.1.trans (Kp.of_below b2)).trans (Kp.of_below ((Below.refl _ w2).drew))
 have h52 := (unhide H1).1.kp k2 hrp
 have hR2 := (unhide HR1).later b2.drew
 have hcl := unhide HC w2.drew (Kp.of_below b2.drew) hR2
 obtain ⟨w2b, hw2b⟩ : ∃ w2b, w2b = w2.drew.alloc coZ := ⟨_, rfl⟩
 have bb : Below w2.drew.heap.size w2.drew w2b := by rw [hw2b]; exact (Below.refl _ w2.drew).alloc (Nat.le_refl _) _
 have zz : w2b.heap[w2.drew.heap.size]? = some coZ := by rw [hw2b]; exact heap_alloc_new w2.drew _
 have hcl2 := unhide HC w2b ((Kp.of_below b2.drew).trans (Kp.of_below bb)) (hR2.later bb)
 have H2 := hide (And.intro k2 (And.intro h52.box h52))
 have HBB := hide (And.intro bb zz)
 have HW2 : Hid (w2b = (w2.alloc (.cells #[.string ⟨#[]⟩, .slice none 0 0, .slice none 0 0, .slice none 0 0, .slice none 0 0, .slice none 0 0, .slice none 0 0, .int .i64 0] 70)).drew) := hw2b
 clear b2 k2 h52 hR2 bb zz hw2b HC HR1
 cases hq : C (t :: l1) (it + 1) with
 | bad why at1 l4 =>
  rw [hq] at hcl hcl2 HPO
  clear hq
  go_wp2_with fail
  refine region_mixT (m := 13) (ml := [(0, 1), (1, 1), (2, 1), (3, 2), (4, 1), (6, 1), (5, 10), (8, 0), (9, 1), (11, 1), (12, 1), (10, 16)]) (fun f w' => f = false → w'.heap[pb]? = some (.cells #[.slice a0 p.types.length c0, .slice a1 p.decls.length c1, .slice a2 p.comps.length c2, .slice a3 p.inits.length c3, .slice a4 p.clauses.length c4] 28 (0, 0))) mixedO (by kernel_rfl) rfl (by rfl) (by kernel_rfl) (fun c a d v w h => by cases d <;> exact h) (fun PP PQ hPP hPQ => ?_)
  iterate 3 (refine wpMixT_take (v := ?_) rfl (by kernel_rfl) (fun f w' hw => ?_) ?_; rotate_left; · (go_simp; try with_reducible rfl))
  refine wpMixT_till (v := ?_) rfl (by kernel_rfl) (fun w' hw => ?_) ?_
  rotate_left
  · (obtain ⟨z0, z1, z2, z3, z4, zf⟩ := cl5 (hw rfl); go_simp; try with_reducible rfl)
  iterate 2 (refine wpMixT_take (v := ?_) rfl (by kernel_rfl) (fun f w' hw => ?_) ?_; rotate_left; · (go_simp; try with_reducible rfl))
  refine wpMixT_two rfl rfl (fun _ => (unhide H2).2.1) (fun K hK => ?_) (fun K hK => ?_)
  ·
   go_simp
   refine hcl.mono ?_
   clear hcl hcl2
   rintro en w3 ⟨rfl, k3⟩
   have H3 := hide ((unhide H2).1.trans k3)
   clear k3
   go_wp2_with fail
   show PQ _ _ _
   refine hPQ _ _ _ ⟨rfl, ?_⟩
   rw [unhide HPO]
   exact ⟨rfl, KB.of_kp (unhide H3) (unhide H1).2.2.1⟩
  ·
   go_simp
   rw [← unhide HW2]
   refine hK _ _ (fun _ => ((unhide HBB).1.block _ (lt_hp (unhide H2).2.1)).trans (unhide H2).2.1) (fun K2 hK2 => ?_)
   clear hK K
   go_simp
   refine hcl2.mono ?_
   clear hcl hcl2
   rintro en w3 ⟨rfl, k3⟩
   have H3 := hide (((unhide H2).1.trans (Kp.of_below (unhide HBB).1)).trans k3)
   clear k3
   go_wp2_with fail
   show PQ _ _ _
   refine hPQ _ _ _ ⟨rfl, ?_⟩
   rw [unhide HPO]
   exact ⟨rfl, KB.of_kp (unhide H3) (unhide H1).2.2.1⟩
 | ok x l4 i4 =>
  rw [hq] at hcl hcl2 HPO
  clear hq
  go_wp2_with fail
  refine region_mixT (m := 13) (ml := [(0, 1), (1, 1), (2, 1), (3, 2), (4, 1), (6, 1), (5, 10), (8, 0), (9, 1), (11, 1), (12, 1), (10, 16)]) (fun f w' => f = false → w'.heap[pb]? = some (.cells #[.slice a0 p.types.length c0, .slice a1 p.decls.length c1, .slice a2 p.comps.length c2, .slice a3 p.inits.length c3, .slice a4 p.clauses.length c4] 28 (0, 0))) mixedO (by kernel_rfl) rfl (by rfl) (by kernel_rfl) (fun c a d v w h => by cases d <;> exact h) (fun PP PQ hPP hPQ => ?_)
  iterate 3 (refine wpMixT_take (v := ?_) rfl (by kernel_rfl) (fun f w' hw => ?_) ?_; rotate_left; · (go_simp; try with_reducible rfl))
  refine wpMixT_till (v := ?_) rfl (by kernel_rfl) (fun w' hw => ?_) ?_
  rotate_left
  · (obtain ⟨z0, z1, z2, z3, z4, zf⟩ := cl5 (hw rfl); go_simp; try with_reducible rfl)
  iterate 2 (refine wpMixT_take (v := ?_) rfl (by kernel_rfl) (fun f w' hw => ?_) ?_; rotate_left; · (go_simp; try with_reducible rfl))
  refine wpMixT_two rfl rfl (fun _ => (unhide H2).2.1) (fun K hK => ?_) (fun K hK => ?_)
  ·
   go_simp
   refine hcl.mono ?_
   clear hcl hcl2
   rintro en w3 ⟨_, rfl, ⟨ba, bn, bc, d0, m0, q0, d1, m1, q1, d2, m2, q2, d3, m3, q3, d4, m4, q4, rfl, hX⟩, hR3, k3⟩
   obtain ⟨w4, hw4⟩ : ∃ w4, w4 = w3.alloc (.cells #[.string ⟨#[]⟩, .slice none 0 0, .slice none 0 0, .slice none 0 0, .slice none 0 0, .slice none 0 0, .slice none 0 0, .int .i64 0] 70) := ⟨_, rfl⟩
   have b4 : Below w3.heap.size w3 w4 := by rw [hw4]; exact (Below.refl _ w3).alloc (Nat.le_refl _) _
   obtain ⟨zb, hzb⟩ : ∃ zb, zb = w3.heap.size := ⟨_, rfl⟩
   have hz4 : w4.heap[zb]? = some coZ := by rw [hw4, hzb]; exact heap_alloc_new w3 _
   have hs3 := k3.size
   have k4 : Kp rb w2.drew w4 := k3.trans (Kp.of_below b4)
   have hR4 := hR3.later b4
   have hX4 : PCo (fun b => w2.drew.heap.size ≤ b ∧ b ≠ zb) w4 [str x.1, .slice ba bn bc, .slice d0 m0 q0, .slice d1 m1 q1, .slice d2 m2 q2, .slice d3 m3 q3, .slice d4 m4 q4, .int .i64 x.2.2.2] x := pco_ok.same _ _ w4 _ _ (pco_ok.mono _ _ _ _ _ hX (fun b hl hb => ⟨hb, by omega⟩)) b4.size (fun b _ hl => b4.block b hl)
   have hb2 : base ≤ w2.drew.heap.size := by have := (unhide H1).2.2.1; have := (unhide H2).1.size; omega
   have HX3 := hide (k3.keep (unhide H2).2.1 (by omega))
   have HW4 := hide hw4
   have HZB := hide hzb
   clear hX hR3 k3 hw4 b4 hs3 hzb
   obtain ⟨g, c, w8, W, hrun, hbx8, ⟨w9, hE1, hbx9, hWW⟩, hE2, hP9, hR9, kb9⟩ := (unhide H2).2.2.addC hb2 hrp k4 hR4 hX4 (fun b hb => hb.1) (unhide H1).2.2.2 zb hz4
   have kb : KB rb pb base wr W := (KB.of_kp (unhide H2).1 (unhide H1).2.2.1).trans kb9
   have HF := hide (And.intro hP9 (And.intro hR9 kb))
   have HX4 := hide (k4.keep (unhide H2).2.1 (by omega))
   have HX8 := hide hbx8
   have HX9 := hide hbx9
   obtain ⟨z0, z1, z2, z3, z4', zf⟩ := cl5 hbx8
   obtain ⟨x0, x1, x2, x3, x4, xf⟩ := cl5 hbx9
   have hfl := (unhide H1).2.2.2
   have HWW := hide hWW
   clear hX4 hR4 k4 hz4 hb2 hbx8 hbx9 hP9 hR9 kb9 kb hWW
   show K _ _
   refine hK _ _ (fun _ => unhide HX3) (fun K2 hK2 => ?_)
   go_simp
   rw [← unhide HW4, ← unhide HZB]
   refine hK2 _ _ ?_
   clear hK K hK2 K2 HW4 HZB
   refine wpMixT_force rfl (fun _ => unhide HX4) (fun K hK => append_drawn rfl _ _ 24 rfl _ _ rfl rfl hrun (hK _ _ ?_))
   clear hK K hrun
   refine wpMixT_take (v := ?_) rfl (by kernel_rfl) (fun f w' hw => ?_) ?_
   rotate_left
   · (go_simp; rw [if_pos (show (p.comps.length : Int) < (p.comps.length : Int) + 1 by omega)]; try with_reducible rfl)
   iterate 2 (refine wpMixT_take (v := ?_) rfl (by kernel_rfl) (fun f w' hw => ?_) ?_; rotate_left; · (go_simp; try with_reducible rfl))
   refine wpMixT_two rfl rfl (fun _ => unhide HX8) (fun K hK => ?_) (fun K hK => ?_)
   ·
    go_simp
    refine hK _ _ (fun _ => unhide HX9) (fun K2 hK2 => ?_)
    go_simp
    rw [unhide HWW]
    refine hK2 _ _ ?_
    clear hK K hK2 K2
    refine wpMixT_nil (fun h => by cases h) (hPP _ _ ?_)
    clear hPP hPQ
    go_wp2_with fail
    go_end0
    rw [unhide HPO]
    exact ⟨rfl, ⟨_, _, _, _, _, (unhide HF).1⟩, (unhide HF).2⟩
   ·
    go_simp
    refine hK _ _ (fun h => by cases h) (fun K2 hK2 => ?_)
    go_simp
    refine hK2 _ _ ?_
    clear hK K hK2 K2
    refine wpMixT_nil (fun h => by cases h) (hPP _ _ ?_)
    clear hPP hPQ
    go_wp2_with fail
    go_end0
    rw [unhide HPO]
    exact ⟨rfl, ⟨_, _, _, _, _, (unhide HF).1⟩, (unhide HF).2⟩
  ·
   go_simp
   rw [← unhide HW2]
   refine hK _ _ (fun _ => ((unhide HBB).1.block _ (lt_hp (unhide H2).2.1)).trans (unhide H2).2.1) (fun K2 hK2 => ?_)
   clear hK K
   go_simp
   refine hcl2.mono ?_
   clear hcl hcl2
   rintro en w4 ⟨_, rfl, ⟨ba, bn, bc, d0, m0, q0, d1, m1, q1, d2, m2, q2, d3, m3, q3, d4, m4, q4, rfl, hX⟩, hR4, k3⟩
   obtain ⟨zb, hzb⟩ : ∃ zb, zb = w2.drew.heap.size := ⟨_, rfl⟩
   have hz2 : w2b.heap[zb]? = some coZ := by rw [hzb]; exact (unhide HBB).2
   have hz4 : w4.heap[zb]? = some coZ := k3.keep hz2 (by have := (unhide H2).1.size; omega)
   have hs3 := lt_hp hz2
   have k4 : Kp rb w2.drew w4 := (Kp.of_below (unhide HBB).1).trans k3
   have hX4 : PCo (fun b => w2.drew.heap.size ≤ b ∧ b ≠ zb) w4 [str x.1, .slice ba bn bc, .slice d0 m0 q0, .slice d1 m1 q1, .slice d2 m2 q2, .slice d3 m3 q3, .slice d4 m4 q4, .int .i64 x.2.2.2] x := pco_ok.mono _ _ _ _ _ hX (fun b hl hb => by have hb' : w2b.heap.size ≤ b := hb; exact ⟨by omega, by omega⟩)
   have hb2 : base ≤ w2.drew.heap.size := by have := (unhide H1).2.2.1; have := (unhide H2).1.size; omega
   have HZB := hide hzb
   clear hX k3 hs3 hzb hz2
   obtain ⟨g, c, w8, W, hrun, hbx8, ⟨w9, hE1, hbx9, hWW⟩, hE2, hP9, hR9, kb9⟩ := (unhide H2).2.2.addC hb2 hrp k4 hR4 hX4 (fun b hb => hb.1) (unhide H1).2.2.2 zb hz4
   have kb : KB rb pb base wr W := (KB.of_kp (unhide H2).1 (unhide H1).2.2.1).trans kb9
   have HF := hide (And.intro hP9 (And.intro hR9 kb))
   have HX4 := hide (k4.keep (unhide H2).2.1 (by omega))
   have HX8 := hide hbx8
   have HX9 := hide hbx9
   obtain ⟨z0, z1, z2, z3, z4', zf⟩ := cl5 hbx8
   obtain ⟨x0, x1, x2, x3, x4, xf⟩ := cl5 hbx9
   have hfl := (unhide H1).2.2.2
   have HWW := hide hWW
   clear hX4 hR4 k4 hz4 hb2 hbx8 hbx9 hP9 hR9 kb9 kb hWW
   show K2 _ _
   refine hK2 _ _ ?_
   clear hK2 K2
   try rw [show w2.heap.size = w2.drew.heap.size from rfl]
   rw [← unhide HZB]
   clear HZB
   refine wpMixT_force rfl (fun _ => unhide HX4) (fun K hK => append_drawn rfl _ _ 24 rfl _ _ rfl rfl hrun (hK _ _ ?_))
   clear hK K hrun
   refine wpMixT_take (v := ?_) rfl (by kernel_rfl) (fun f w' hw => ?_) ?_
   rotate_left
   · (go_simp; rw [if_pos (show (p.comps.length : Int) < (p.comps.length : Int) + 1 by omega)]; try with_reducible rfl)
   iterate 2 (refine wpMixT_take (v := ?_) rfl (by kernel_rfl) (fun f w' hw => ?_) ?_; rotate_left; · (go_simp; try with_reducible rfl))
   refine wpMixT_two rfl rfl (fun _ => unhide HX8) (fun K hK => ?_) (fun K hK => ?_)
   ·
    go_simp
    refine hK _ _ (fun _ => unhide HX9) (fun K2 hK2 => ?_)
    go_simp
    rw [unhide HWW]
    refine hK2 _ _ ?_
    clear hK K hK2 K2
    refine wpMixT_nil (fun h => by cases h) (hPP _ _ ?_)
    clear hPP hPQ
    go_wp2_with fail
    go_end0
    rw [unhide HPO]
    exact ⟨rfl, ⟨_, _, _, _, _, (unhide HF).1⟩, (unhide HF).2⟩
   ·
    go_simp
    refine hK _ _ (fun h => by cases h) (fun K2 hK2 => ?_)
    go_simp
    refine hK2 _ _ ?_
    clear hK K hK2 K2
    refine wpMixT_nil (fun h => by cases h) (hPP _ _ ?_)
    clear hPP hPQ
    go_wp2_with fail
    go_end0
    rw [unhide HPO]
    exact ⟨rfl, ⟨_, _, _, _, _, (unhide HF).1⟩, (unhide HF).2⟩
end Go.Proofs.YtdjehbdpcdikkaaGreatDoor

namespace Go.Proofs.YtdjehbdpcdikkaaGreatDoor
open Go.RowKit Go.Maps

/-- What is asked of a component. -/
def CompOk (rb e dp : Nat) (C : Pr Cp) : Prop := ∀ w t l it, it ≤ 96 → Rd rb e w (t :: l) it dp → Calls Tryz.prog 136 #[.pointer (some ⟨rb, 0, none⟩)] w fun en w' => Ans rb e dp w (fun w2 v x => VCo (fun b => w.heap.size ≤ b) w2 v x) (C (t :: l) it) en w'
theorem item_any {rb e dp d pb base : Nat} (hd : dp + d = 32) {C : Pr Cp} (hC : CompOk rb e dp C) {wr : World} {l : List Tok} {it : Nat} {v0 v1 v2 v3 v4 : Value} {p : Pg} (h : Rd rb e wr l it dp) (h5 : P5 pb base wr v0 v1 v2 v3 v4 p) (hb : base ≤ wr.heap.size) (hrp : rb < pb) (hf : Few p it) (hi : it ≤ 96) :
  Calls Tryz.prog 108 #[.pointer (some ⟨rb, 0, none⟩), .pointer (some ⟨pb, 0, none⟩)] wr fun en w' => ItA rb e dp pb base wr (itemP e d C p l it) en w' := by
 obtain ⟨f0, f1, f2, f3, f4⟩ := hf
 by_cases h96 : it = 96
 ·
  subst h96
  refine (item_many (pb := pb) h hb).mono ?_
  intro en w' ha
  have E : itemP e d C p l 96 = .bad 3 (ahd e 0 l).at_ l := by unfold itemP; rw [if_pos rfl]; rfl
  rw [E]
  exact ha
 ·
  have hi' : it < 96 := by omega
  by_cases s0 : sgn e l = [46, 116, 121, 112, 101]
  · exact item_types h h5 hb hrp (by omega) hi' s0
  ·
   by_cases s1 : sgn e l = [46, 100, 101, 99, 108]
   · exact item_decls h h5 hb hrp (by omega) hi' s1
   ·
    by_cases s2 : sgn e l = [46, 99, 111, 109, 112]
    · exact item_comps hC h h5 hb hrp (by omega) hi' s2
    ·
     by_cases s3 : sgn e l = [46, 105, 110, 105, 116]
     · exact item_inits h h5 hb hrp (by omega) hi' s3
     · exact item_clauses hd h h5 hb hrp (by omega) hi' s0 s1 s2 s3
abbrev pgZ : Obj := .cells #[.slice none 0 0, .slice none 0 0, .slice none 0 0, .slice none 0 0, .slice none 0 0] 28
/-- On the way through the items. -/
structure PI (rb e dp d : Nat) (top : Bool) (C : Pr Cp) (r0 : Rs Pg) (w wr : World) (p : Pg) (l : List Tok) (it f : Nat) : Prop where
 kp : Kp rb w wr
 size : w.heap.size + 2 ≤ wr.heap.size
 res : wr.heap[w.heap.size]? = some pgZ
 p5 : ∃ v0 v1 v2 v3 v4, P5 (w.heap.size + 1) (w.heap.size + 2) wr v0 v1 v2 v3 v4 p
 rd : Rd rb e wr l it dp
 eq : r0 = progL e top d C f p l it
 fuel : l.length + 1 ≤ f
 few : Few p it
 most : it ≤ 96
theorem PI.later {rb e dp d : Nat} {top : Bool} {C : Pr Cp} {r0 : Rs Pg} {w wr w' : World} {p : Pg} {l : List Tok} {it f : Nat} (h : PI rb e dp d top C r0 w wr p l it f) (b : Below wr.heap.size wr w') (hrb : rb < w.heap.size) : PI rb e dp d top C r0 w w' p l it f := by
 obtain ⟨v0, v1, v2, v3, v4, h5⟩ := h.p5
 have hs := h.size
 have hb := b.size
 exact ⟨h.kp.trans (Kp.of_below b), by omega, (b.block _ (by omega)).trans h.res, ⟨v0, v1, v2, v3, v4, h5.kp (rb := rb) (Kp.of_below b) (by omega)⟩, h.rd.later b, h.eq, h.fuel, h.few, h.most⟩
theorem PI.next {rb e dp d : Nat} {top : Bool} {C : Pr Cp} (hC : GrS C) {r0 : Rs Pg} {w wr w' : World} {p q : Pg} {l l' : List Tok} {it it' f : Nat} (h : PI rb e dp d top C r0 w wr p l it (f + 1)) (hE : isEnd e top l = false) (hq : itemP e d C p l it = .ok q l' it') (hrb : rb < w.heap.size)
  (h5 : ∃ u0 u1 u2 u3 u4, P5 (w.heap.size + 1) (w.heap.size + 2) w' u0 u1 u2 u3 u4 q) (hR : Rd rb e w' l' it' dp) (hk : KB rb (w.heap.size + 1) (w.heap.size + 2) wr w') : PI rb e dp d top C r0 w w' q l' it' f := by
 obtain ⟨g1, g2, g3, g4⟩ := item_gr hC hq
 have hs := h.size
 have hs2 := hk.size
 refine ⟨⟨hk.os.trans h.kp.os, hk.tape.trans h.kp.tape, hk.output.trans h.kp.output, by omega, fun k hk1 hn => (hk.block k (by omega) hn (by omega)).trans (h.kp.block k hk1 hn)⟩, by omega, (hk.block _ (by omega) (by omega) (by omega)).trans h.res, h5, hR, ?_, by have := h.fuel; omega, g4 h.few, g3 h.most⟩
 rw [h.eq]
 conv => lhs; unfold progL
 rw [if_neg (by rw [hE]; simp), hq]
 rfl
/-- The program is loaded, and stored in the result. -/
theorem PI.fin {rb e dp d : Nat} {top : Bool} {C : Pr Cp} {r0 : Rs Pg} {w wr : World} {p : Pg} {l : List Tok} {it f : Nat} (h : PI rb e dp d top C r0 w wr p l it f) (hrb : rb < w.heap.size) : ∃ a0 m0 q0 a1 m1 q1 a2 m2 q2 a3 m3 q3 a4 m4 q4, wr.heap[w.heap.size + 1]? = some (.cells #[.slice a0 m0 q0, .slice a1 m1 q1, .slice a2 m2 q2, .slice a3 m3 q3, .slice a4 m4 q4] 28 (0, 0)) ∧
  ∀ c0 c1 c2 c3 c4, VPg (fun b => w.heap.size ≤ b) (((((wr.setCell ⟨w.heap.size, 0, none⟩ c0).setCell ⟨w.heap.size, 1, none⟩ c1).setCell ⟨w.heap.size, 2, none⟩ c2).setCell ⟨w.heap.size, 3, none⟩ c3).setCell ⟨w.heap.size, 4, none⟩ c4) (.agg #[.slice a0 m0 q0, .slice a1 m1 q1, .slice a2 m2 q2, .slice a3 m3 q3, .slice a4 m4 q4]) p ∧ Rd rb e (((((wr.setCell ⟨w.heap.size, 0, none⟩ c0).setCell ⟨w.heap.size, 1, none⟩ c1).setCell ⟨w.heap.size, 2, none⟩ c2).setCell ⟨w.heap.size, 3, none⟩ c3).setCell ⟨w.heap.size, 4, none⟩ c4) l it dp ∧ Kp rb w (((((wr.setCell ⟨w.heap.size, 0, none⟩ c0).setCell ⟨w.heap.size, 1, none⟩ c1).setCell ⟨w.heap.size, 2, none⟩ c2).setCell ⟨w.heap.size, 3, none⟩ c3).setCell ⟨w.heap.size, 4, none⟩ c4) := by
 obtain ⟨v0, v1, v2, v3, v4, h5⟩ := h.p5
 obtain ⟨a0, q0, rfl⟩ := h5.r0.slice
 obtain ⟨a1, q1, rfl⟩ := h5.r1.slice
 obtain ⟨a2, q2, rfl⟩ := h5.r2.slice
 obtain ⟨a3, q3, rfl⟩ := h5.r3.slice
 obtain ⟨a4, q4, rfl⟩ := h5.r4.slice
 refine ⟨_, _, _, _, _, _, _, _, _, _, _, _, _, _, _, h5.box, fun c0 c1 c2 c3 c4 => ?_⟩
 have hsame : ∀ b, b ≠ w.heap.size → (((((wr.setCell ⟨w.heap.size, 0, none⟩ c0).setCell ⟨w.heap.size, 1, none⟩ c1).setCell ⟨w.heap.size, 2, none⟩ c2).setCell ⟨w.heap.size, 3, none⟩ c3).setCell ⟨w.heap.size, 4, none⟩ c4).heap[b]? = wr.heap[b]? := fun b hb => by
  rw [Below.heap_setCell _ _ _ _ hb, Below.heap_setCell _ _ _ _ hb, Below.heap_setCell _ _ _ _ hb, Below.heap_setCell _ _ _ _ hb, Below.heap_setCell _ _ _ _ hb]
 have e2 : (Pg.mk p.types p.decls p.comps p.inits p.clauses) = p := by cases p; rfl
 have hP := pgS_of (h5.r0.ls pty_ok (fun b hs => hs.1)) (h5.r1.ls pdc_ok (fun b hs => hs.1)) (h5.r2.ls pco_ok (fun b hs => hs.1)) (h5.r3.ls pin_ok (fun b hs => hs.1)) (h5.r4.ls pcl_ok (fun b hs => hs.1))
 rw [e2] at hP
 refine ⟨⟨_, _, _, _, _, _, _, _, _, _, _, _, _, _, _, rfl, pgS_ok.mono _ _ _ _ _ (pgS_ok.same _ _ _ _ _ hP (by simp [World.setCell]) (fun b hb _ => hsame b (by have hb' : w.heap.size + 2 ≤ b := hb; omega))) (fun b _ hb => by have hb' : w.heap.size + 2 ≤ b := hb; omega)⟩, ((((h.rd.set2 (by omega)).set2 (by omega)).set2 (by omega)).set2 (by omega)).set2 (by omega), ((((h.kp.set2 (by omega)).set2 (by omega)).set2 (by omega)).set2 (by omega)).set2 (by omega)⟩

set_option maxRecDepth 100000 in
set_option maxHeartbeats 8000000 in
theorem prog_any {rb e dp d : Nat} (hd : dp + d = 32) {C : Pr Cp} (hC : CompOk rb e dp C) (hG : GrS C) (top : Bool) (ek : Int) (et : Txt) (hE : ∀ l, isEnd e top l = (decide ((ahd e 0 l).kind = ek) && decide ((ahd e 0 l).text = et))) {w : World} {l : List Tok} {it : Nat} (hi : it ≤ 96) (h : Rd rb e w l it dp) :
  Calls Tryz.prog 75 #[.pointer (some ⟨rb, 0, none⟩), .int .i64 ek, str et] w fun en w' => Ans rb e dp w (fun w2 v x => VPg (fun b => w.heap.size ≤ b) w2 v x) (progL e top d C (l.length + 1) .none l it) en w' := by
 obtain ⟨r0, hr0⟩ : ∃ r0, r0 = progL e top d C (l.length + 1) .none l it := ⟨_, rfl⟩
 rw [← hr0]
 have hrb := h.lt
 have hst : PI rb e dp d top C r0 w ((w.alloc pgZ).alloc pgZ) .none l it (l.length + 1) := by
  have b1 : Below w.heap.size w ((w.alloc pgZ).alloc pgZ) := ((Below.refl _ w).alloc (Nat.le_refl _) _).alloc (by simp) _
  have hsz : ((w.alloc pgZ).alloc pgZ).heap.size = w.heap.size + 2 := by simp
  have n1 : ((w.alloc pgZ).alloc pgZ).heap[w.heap.size + 1]? = some pgZ := by
   have := heap_alloc_new (w.alloc pgZ) pgZ
   simpa using this
  refine ⟨Kp.of_below b1, by omega, ?_, ⟨.slice none 0 0, .slice none 0 0, .slice none 0 0, .slice none 0 0, .slice none 0 0, n1, by omega, Row.nil _ _, Row.nil _ _, Row.nil _ _, Row.nil _ _, Row.nil _ _, ?_, ?_, ?_, ?_, ?_, ?_, ?_, ?_, ?_, ?_⟩, h.later b1, hr0, Nat.le_refl _, ⟨Nat.zero_le _, Nat.zero_le _, Nat.zero_le _, Nat.zero_le _, Nat.zero_le _⟩, hi⟩
  · rw [Below.heap_alloc _ _ _ (by simp)]; exact heap_alloc_new w _
  all_goals exact fun b e => by cases e
 obtain ⟨PO, hPO⟩ : ∃ PO : Ending → World → Prop, PO = fun en w' => Ans rb e dp w (fun w2 v x => VPg (fun b => w.heap.size ≤ b) w2 v x) r0 en w' := ⟨_, rfl⟩
 rw [← hPO]
 have HPO := hide hPO
 have HST := hide hst
 have HC := hide (And.intro hC (And.intro hG (And.intro hE hd)))
 clear hst hr0 hPO hC hG hE hd h hi
 go_enter Tryz.func75, Tryz.ntmps75
 go_wp2_with fail
 go_loopw [8] (fun _ wr => ∃ p l' it' f, PI rb e dp d top C r0 w wr p l' it' f) (fun _ wr => left rb wr)
 case atStart => exact ⟨_, _, _, _, unhide HST⟩
 case round =>
  obtain ⟨p, l', it', f, hJ⟩ := hrel
  clear HST
  obtain ⟨f', rfl⟩ : ∃ f', f = f' + 1 := ⟨f - 1, by have := hJ.fuel; omega⟩
  have ha := ahead_any hJ.rd 0
  unfold tokV at ha
  have hend := (unhide HC).2.2.1 l'
  have hlf := left_rd hJ.rd
  have HJ := hide hJ
  obtain ⟨tk, htk⟩ : ∃ tk, tk = ahd e 0 l' := ⟨_, rfl⟩
  rw [← htk] at ha hend
  have HLF := hide hlf
  clear hJ htk hlf
  by_cases hk : tk.kind = ek
  ·
   have g1 : (tk.kind == ek) = true := by simpa using hk
   by_cases ht : tk.text = et
   ·
    have g2 : (tk.text == et) = true := by simpa using ht
    have HEN : Hid (isEnd e top l' = true) := by rw [hend, decide_eq_true hk, decide_eq_true ht]; rfl
    clear hk ht hend
    go_wp2_with fail
    refine ha.mono ?_
    clear ha
    rintro en w1 ⟨rfl, b1⟩
    have hJ2 := (unhide HJ).later (b1.alloc b1.size (.cells #[.int .i64 tk.kind, str tk.text, .int .i64 tk.num, .int .i64 (tk.at_ : Int)] 43)) hrb
    obtain ⟨a0, m0, q0, a1, m1, q1, a2, m2, q2, a3, m3, q3, a4, m4, q4, hbx, hfin⟩ := hJ2.fin hrb
    obtain ⟨z0, z1, z2, z3, z4, zf⟩ := cl5 hbx
    obtain ⟨y0, y1, y2, y3, y4, yf⟩ := cl5 hJ2.res
    have HF := hide (And.intro hJ2.eq hfin)
    clear b1 hJ2 HJ hbx hfin zf
    go_wp2_with fail
    refine bodyPost_ret (v := .agg #[.slice a0 m0 q0, .slice a1 m1 q1, .slice a2 m2 q2, .slice a3 m3 q3, .slice a4 m4 q4]) (by simp [results, Tryz.results75, go_sem, y0, y1, y2, y3, y4]) rfl ?_
    have E : r0 = .ok p l' it' := by
     rw [(unhide HF).1]
     unfold progL
     rw [if_pos (unhide HEN)]
    rw [unhide HPO, E]
    exact ⟨_, rfl, (unhide HF).2 _ _ _ _ _⟩
   ·
    have g2 : (tk.text == et) = false := by simpa using ht
    have HEN : Hid (isEnd e top l' = false) := by rw [hend, decide_eq_true hk, decide_eq_false ht]; rfl
    clear hk ht hend
    go_wp2_with fail
    refine ha.mono ?_
    clear ha
    rintro en w1 ⟨rfl, b1⟩
    obtain ⟨w2, hw2⟩ : ∃ w2, w2 = w1.alloc (.cells #[.int .i64 tk.kind, str tk.text, .int .i64 tk.num, .int .i64 (tk.at_ : Int)] 43) := ⟨_, rfl⟩
    have b2 : Below wr.heap.size wr w2 := by rw [hw2]; exact b1.alloc b1.size _
    have hJ2 := (unhide HJ).later b2 hrb
    obtain ⟨v0, v1, v2, v3, v4, h5⟩ := hJ2.p5
    have hit := item_any (unhide HC).2.2.2 (unhide HC).1 hJ2.rd h5 hJ2.size (by omega) hJ2.few hJ2.most
    have HJ2 := hide hJ2
    have HW2 := hide hw2
    clear b1 hw2 b2 hJ2 h5 HJ
    cases hq : itemP e d C p l' it' with
    | bad why at1 l4 =>
     rw [hq] at hit
     have HE : Hid (r0 = .bad why at1 l4) := by
      show r0 = _
      rw [(unhide HJ2).eq]
      unfold progL
      rw [if_neg (by rw [unhide HEN]; simp), hq]; rfl
     clear hq
     go_wp2_with fail
     rw [← unhide HW2]
     refine hit.mono ?_
     clear hit
     rintro en w3 ⟨rfl, k3⟩
     have HK3 : Hid (Kp rb w w3) := by
      have hs := (unhide HJ2).size
      have hs2 := k3.size
      exact ⟨k3.os.trans (unhide HJ2).kp.os, k3.tape.trans (unhide HJ2).kp.tape, k3.output.trans (unhide HJ2).kp.output, by omega, fun k hk1 hn => (k3.block k (by omega) hn (by omega)).trans ((unhide HJ2).kp.block k hk1 hn)⟩
     clear k3
     go_wp2_with fail
     refine ⟨rfl, ?_⟩
     rw [unhide HPO, unhide HE]
     exact ⟨rfl, unhide HK3⟩
    | ok q l4 i4 =>
     rw [hq] at hit
     have HN : Hid (∀ w3, (∃ u0 u1 u2 u3 u4, P5 (w.heap.size + 1) (w.heap.size + 2) w3 u0 u1 u2 u3 u4 q) → Rd rb e w3 l4 i4 dp → KB rb (w.heap.size + 1) (w.heap.size + 2) w2 w3 → PI rb e dp d top C r0 w w3 q l4 i4 f' ∧ l4.length < l'.length) := fun w3 a b c => ⟨PI.next (unhide HC).2.1 (unhide HJ2) (unhide HEN) hq hrb a b c, (item_gr (unhide HC).2.1 hq).1⟩
     clear hq
     go_wp2_with fail
     rw [← unhide HW2]
     clear HW2
     refine hit.mono ?_
     clear hit
     rintro en w3 ⟨rfl, h5, hR3, k3⟩
     obtain ⟨hN, hlt⟩ := unhide HN w3 h5 hR3 k3
     have hl9 := left_rd hR3
     have HN3 := hide (And.intro hN (And.intro hl9 hlt))
     clear h5 hR3 k3 hN hlt hl9 HN
     go_wp2_with fail
     go_roundw
     case rel => exact ⟨_, _, _, _, (unhide HN3).1⟩
     case measure =>
      have hm := unhide HLF
      obtain ⟨_, r1, r2⟩ := unhide HN3
      rw [r1, hm]
      exact r2
  ·
   have g1 : (tk.kind == ek) = false := by simpa using hk
   have HEN : Hid (isEnd e top l' = false) := by rw [hend, decide_eq_false hk]; rfl
   clear hk hend
   go_wp2_with fail
   refine ha.mono ?_
   clear ha
   rintro en w1 ⟨rfl, b1⟩
   obtain ⟨w2, hw2⟩ : ∃ w2, w2 = w1.alloc (.cells #[.int .i64 tk.kind, str tk.text, .int .i64 tk.num, .int .i64 (tk.at_ : Int)] 43) := ⟨_, rfl⟩
   have b2 : Below wr.heap.size wr w2 := by rw [hw2]; exact b1.alloc b1.size _
   have hJ2 := (unhide HJ).later b2 hrb
   obtain ⟨v0, v1, v2, v3, v4, h5⟩ := hJ2.p5
   have hit := item_any (unhide HC).2.2.2 (unhide HC).1 hJ2.rd h5 hJ2.size (by omega) hJ2.few hJ2.most
   have HJ2 := hide hJ2
   have HW2 := hide hw2
   clear b1 hw2 b2 hJ2 h5 HJ
   cases hq : itemP e d C p l' it' with
   | bad why at1 l4 =>
    rw [hq] at hit
    have HE : Hid (r0 = .bad why at1 l4) := by
     show r0 = _
     rw [(unhide HJ2).eq]
     unfold progL
     rw [if_neg (by rw [unhide HEN]; simp), hq]; rfl
    clear hq
    go_wp2_with fail
    rw [← unhide HW2]
    refine hit.mono ?_
    clear hit
    rintro en w3 ⟨rfl, k3⟩
    have HK3 : Hid (Kp rb w w3) := by
     have hs := (unhide HJ2).size
     have hs2 := k3.size
     exact ⟨k3.os.trans (unhide HJ2).kp.os, k3.tape.trans (unhide HJ2).kp.tape, k3.output.trans (unhide HJ2).kp.output, by omega, fun k hk1 hn => (k3.block k (by omega) hn (by omega)).trans ((unhide HJ2).kp.block k hk1 hn)⟩
    clear k3
    go_wp2_with fail
    refine ⟨rfl, ?_⟩
    rw [unhide HPO, unhide HE]
    exact ⟨rfl, unhide HK3⟩
   | ok q l4 i4 =>
    rw [hq] at hit
    have HN : Hid (∀ w3, (∃ u0 u1 u2 u3 u4, P5 (w.heap.size + 1) (w.heap.size + 2) w3 u0 u1 u2 u3 u4 q) → Rd rb e w3 l4 i4 dp → KB rb (w.heap.size + 1) (w.heap.size + 2) w2 w3 → PI rb e dp d top C r0 w w3 q l4 i4 f' ∧ l4.length < l'.length) := fun w3 a b c => ⟨PI.next (unhide HC).2.1 (unhide HJ2) (unhide HEN) hq hrb a b c, (item_gr (unhide HC).2.1 hq).1⟩
    clear hq
    go_wp2_with fail
    rw [← unhide HW2]
    clear HW2
    refine hit.mono ?_
    clear hit
    rintro en w3 ⟨rfl, h5, hR3, k3⟩
    obtain ⟨hN, hlt⟩ := unhide HN w3 h5 hR3 k3
    have hl9 := left_rd hR3
    have HN3 := hide (And.intro hN (And.intro hl9 hlt))
    clear h5 hR3 k3 hN hlt hl9 HN
    go_wp2_with fail
    go_roundw
    case rel => exact ⟨_, _, _, _, (unhide HN3).1⟩
    case measure =>
     have hm := unhide HLF
     obtain ⟨_, r1, r2⟩ := unhide HN3
     rw [r1, hm]
     exact r2
/-- A component, where d more may be begun. -/
theorem comp_any {rb e : Nat} : ∀ (d dp : Nat), dp + d = 32 → CompOk rb e dp (compC e d)
 | 0, dp, hd => fun w t l it _ h => by
  obtain rfl : dp = 32 := by omega
  exact comp_deep h
 | d + 1, dp, hd => fun w t l it hi h => by
  have hB : ∀ w l it, it ≤ 96 → Rd rb e w l it (dp + 1) → Calls Tryz.prog 75 #[.pointer (some ⟨rb, 0, none⟩), .int .i64 4, str [125]] w fun en w' => Ans rb e (dp + 1) w (fun w2 v x => VPg (fun b => w.heap.size ≤ b) w2 v x) (progD e d false l it) en w' := fun w l it hi h => by
   rw [progD_eq]
   exact prog_any (by omega) (comp_any d (dp + 1) (by omega)) (compC_gr d) false 4 [125] (fun l => rfl) hi h
  show Calls _ _ _ _ fun en w' => Ans rb e dp w (fun w2 v x => VCo (fun b => w.heap.size ≤ b) w2 v x) (compB e (progD e d false) (t :: l) it) en w'
  cases hq : wordQ e l it with
  | bad why at0 l2 => exact comp_no (by omega) hB hi h (fun s l2 i2 hs => by rw [hq] at hs; cases hs)
  | ok s l2 i2 =>
   by_cases hs : sgn e l2 = [58]
   · exact comp_bs (by omega) hB hi h (fun s' l2' i2' he => by rw [hq] at he; cases he; exact hs)
   · exact comp_no (by omega) hB hi h (fun s' l2' i2' he => by rw [hq] at he; cases he; exact hs)
/-- All tokens as one program. -/
theorem progTop_any {rb e : Nat} {w : World} {l : List Tok} (h : Rd rb e w l 0 0) : Calls Tryz.prog 75 #[.pointer (some ⟨rb, 0, none⟩), .int .i64 0, str []] w fun en w' => Ans rb e 0 w (fun w2 v x => VPg (fun b => w.heap.size ≤ b) w2 v x) (progD e 32 true l 0) en w' := by
 rw [progD_eq]
 exact prog_any rfl (comp_any 32 0 rfl) (compC_gr 32) true 0 [] (fun l => rfl) (Nat.zero_le _) h
end Go.Proofs.YtdjehbdpcdikkaaGreatDoor

namespace Go.Proofs.YtdjehbdpcdikkaaGreatDoor
open Go.RowKit Go.Maps

abbrev ftZ : Obj := .cells #[.int .i64 0, .int .i64 0] 31
set_option maxRecDepth 100000 in
set_option maxHeartbeats 4000000 in
theorem catch_idle (pb fb : Nat) (w : World) :
  CallsD Tryz.prog 74 #[.pointer (some ⟨pb, 0, none⟩), .pointer (some ⟨fb, 0, none⟩)] .returning w fun e u' w' => e = .returned (.tuple #[]) ∧ u' = .returning ∧ w' = w := by
 refine callsD_of_wpS Tryz.func74 rfl fun c₀ cs hu => ?_
 apply wpS_seq
 apply wpS_region
 simp [wpOpsS, go_sem, recoverD, hu, Tryz.ntmps74, Exit.thenS]
 refine wpS_of_wp ?_
 cases c₀
 show Code.wp _ _ _ (⟨#[.pointer (some ⟨pb, 0, none⟩), .pointer (some ⟨fb, 0, none⟩), .nilIface, undef, undef, .nilIface, undef, undef, undef, undef, undef, undef, undef, undef, undef, undef, undef, undef, undef], []⟩ : Act) _
 go_wp2_with fail
 simp_all [bodyPostS, results, Tryz.results74]
set_option maxRecDepth 100000 in
set_option maxHeartbeats 4000000 in
theorem catch_stop {pb fb : Nat} (why at_ : Int) (older : List PanicEntry) {w : World} (hp : w.heap[pb]? = some pgZ) (hf : w.heap[fb]? = some ftZ) (hne : pb ≠ fb) :
  CallsD Tryz.prog 74 #[.pointer (some ⟨pb, 0, none⟩), .pointer (some ⟨fb, 0, none⟩)] (.panicking ({ v := stopV why at_, recovered := false } :: older)) w fun e u' w' => e = .returned (.tuple #[]) ∧ u' = .panicking ({ v := stopV why at_, recovered := true } :: older) ∧
   w'.heap[pb]? = some pgZ ∧ w'.heap[fb]? = some (.cells #[.int .i64 why, .int .i64 at_] 31) ∧ w.heap.size ≤ w'.heap.size ∧ w'.os = w.os ∧ w'.tape = w.tape ∧ w'.output = w.output ∧ ∀ k, k < w.heap.size → k ≠ pb → k ≠ fb → w'.heap[k]? = w.heap[k]? := by
 refine callsD_of_wpS Tryz.func74 rfl fun c₀ cs hu => ?_
 apply wpS_seq
 apply wpS_region
 simp [wpOpsS, go_sem, recoverD, hu, Tryz.ntmps74, Exit.thenS]
 refine wpS_of_wp ?_
 show Code.wp _ _ _ (⟨#[.pointer (some ⟨pb, 0, none⟩), .pointer (some ⟨fb, 0, none⟩), .iface 134 (.agg #[.int .i64 why, .int .i64 at_]), undef, undef, .iface 134 (.agg #[.int .i64 why, .int .i64 at_]), undef, undef, undef, undef, undef, undef, undef, undef, undef, undef, undef, undef, undef], []⟩ : Act) _
 have hta : ∀ w, (Instr.typeAssert (.iface 134 (.agg #[.int .i64 why, .int .i64 at_])) 20 134 true).run Tryz.prog w = .ok (.tuple #[.agg #[.int .i64 why, .int .i64 at_], .bool true]) w := fun w => rfl
 have hlp := lt_hp hp
 have hlf := lt_hp hf
 obtain ⟨w1, hw1⟩ : ∃ w1, w1 = w.alloc (.cells #[.int .i64 why, .int .i64 at_] 134) := ⟨_, rfl⟩
 have n1 : w1.heap[w.heap.size]? = some (.cells #[.int .i64 why, .int .i64 at_] 134 (0, 0)) := by rw [hw1]; exact heap_alloc_new w _
 have p1 : w1.heap[pb]? = some pgZ := by rw [hw1, Below.heap_alloc _ _ _ hlp]; exact hp
 have f1 : w1.heap[fb]? = some ftZ := by rw [hw1, Below.heap_alloc _ _ _ hlf]; exact hf
 go_wp2_with fail
 rw [← hw1]
 have s1 : w1.heap.size = w.heap.size + 1 := by rw [hw1]; simp
 have bw1 : Below w.heap.size w w1 := by rw [hw1]; exact (Below.refl _ w).alloc (Nat.le_refl _) _
 obtain ⟨x0, x1, x2, x3, x4, xf⟩ := cl5 p1
 obtain ⟨W5, hW5⟩ : ∃ W5, W5 = (((((w1.setCell ⟨pb, 0, none⟩ (.slice none 0 0)).setCell ⟨pb, 1, none⟩ (.slice none 0 0)).setCell ⟨pb, 2, none⟩ (.slice none 0 0)).setCell ⟨pb, 3, none⟩ (.slice none 0 0)).setCell ⟨pb, 4, none⟩ (.slice none 0 0)).drew := ⟨_, rfl⟩
 have ho5 : ∀ k, k ≠ pb → W5.heap[k]? = w1.heap[k]? := fun k hk => by
  rw [hW5, show ∀ v : World, v.drew.heap = v.heap from fun _ => rfl, Below.heap_setCell _ _ _ _ hk, Below.heap_setCell _ _ _ _ hk, Below.heap_setCell _ _ _ _ hk, Below.heap_setCell _ _ _ _ hk, Below.heap_setCell _ _ _ _ hk]
 have p5 : W5.heap[pb]? = some pgZ := by
  rw [hW5]
  exact (set_hp (set_hp (set_hp (set_hp (set_hp p1 0 _) 1 _) 2 _) 3 _) 4 _).trans rfl
 have f5 : W5.heap[fb]? = some ftZ := (ho5 fb (Ne.symm hne)).trans f1
 have n5 := (ho5 w.heap.size (by omega)).trans n1
 obtain ⟨y0, y1, yf⟩ := cl2 f5
 have hs5 : W5.heap.size = w1.heap.size := by rw [hW5, show ∀ v : World, v.drew.heap = v.heap from fun _ => rfl]; simp [World.setCell]
 have e5 : W5.os = w1.os ∧ W5.tape = w1.tape ∧ W5.output = w1.output := by rw [hW5]; exact ⟨rfl, rfl, rfl⟩
 have HN := hide (And.intro n1 n5)
 have HF : Hid (((W5.setCell ⟨fb, 0, none⟩ (.int .i64 why)).setCell ⟨fb, 1, none⟩ (.int .i64 at_)).heap[w.heap.size]? = some (.cells #[.int .i64 why, .int .i64 at_] 134 (0, 0)) ∧ ((W5.setCell ⟨fb, 0, none⟩ (.int .i64 why)).setCell ⟨fb, 1, none⟩ (.int .i64 at_)).heap[pb]? = some pgZ ∧ ((W5.setCell ⟨fb, 0, none⟩ (.int .i64 why)).setCell ⟨fb, 1, none⟩ (.int .i64 at_)).heap[fb]? = some (.cells #[.int .i64 why, .int .i64 at_] 31) ∧ w.heap.size ≤ ((W5.setCell ⟨fb, 0, none⟩ (.int .i64 why)).setCell ⟨fb, 1, none⟩ (.int .i64 at_)).heap.size ∧ ((W5.setCell ⟨fb, 0, none⟩ (.int .i64 why)).setCell ⟨fb, 1, none⟩ (.int .i64 at_)).os = w.os ∧ ((W5.setCell ⟨fb, 0, none⟩ (.int .i64 why)).setCell ⟨fb, 1, none⟩ (.int .i64 at_)).tape = w.tape ∧ ((W5.setCell ⟨fb, 0, none⟩ (.int .i64 why)).setCell ⟨fb, 1, none⟩ (.int .i64 at_)).output = w.output ∧ ∀ k, k < w.heap.size → k ≠ pb → k ≠ fb → ((W5.setCell ⟨fb, 0, none⟩ (.int .i64 why)).setCell ⟨fb, 1, none⟩ (.int .i64 at_)).heap[k]? = w.heap[k]?) := by
  have ho6 : ∀ k, k ≠ fb → ((W5.setCell ⟨fb, 0, none⟩ (.int .i64 why)).setCell ⟨fb, 1, none⟩ (.int .i64 at_)).heap[k]? = W5.heap[k]? := fun k hk => by rw [Below.heap_setCell _ _ _ _ hk, Below.heap_setCell _ _ _ _ hk]
  refine ⟨(ho6 _ (by omega)).trans n5, (ho6 pb hne).trans p5, (set_hp (set_hp f5 0 _) 1 _).trans rfl, ?_, e5.1.trans bw1.os, e5.2.1.trans bw1.tape, e5.2.2.trans bw1.output, fun k hk hn hm => ?_⟩
  ·
   simp [World.setCell]
   omega
  · rw [ho6 k hm, ho5 k hn]; exact bw1.block k hk
 have HW5 := hide hW5
 clear hw1 hp hf n1 p1 f1 hlp hlf s1 bw1 hW5 ho5 p5 f5 n5 hs5 e5 hta
 refine region_mixG (m := 4) (ml := [(0, 1), (1, 1), (2, 1), (3, 0), (4, 0)]) (fun _ w' => w'.heap[w.heap.size]? = some (.cells #[.int .i64 why, .int .i64 at_] 134 (0, 0))) mixedO (by kernel_rfl) rfl (by rfl) (by kernel_rfl) (fun PP hPP => ?_)
 refine wpMixF_take (v := ?_) rfl (by kernel_rfl) (fun f w' hw => ?_) ?_
 rotate_left
 · (go_simp; try with_reducible rfl)
 refine wpMixF_take (v := ?_) rfl (by kernel_rfl) (fun f w' hw => ?_) ?_
 rotate_left
 · (go_simp; try with_reducible rfl)
 refine wpMixF_take (v := ?_) rfl (by kernel_rfl) (fun f w' hw => ?_) ?_
 rotate_left
 · (obtain ⟨u0, u1, uf⟩ := cl2 hw; go_simp; try with_reducible rfl)
 refine wpMixF_force rfl (unhide HN).1 (fun K hK => ?_)
 go_simp
 rw [← unhide HW5]
 refine hK _ _ ?_
 clear hK K HW5 x0 x1 x2 x3 x4 xf
 refine wpMixF_force rfl (unhide HN).2 (fun K hK => ?_)
 go_simp
 refine hK _ _ ?_
 clear hK K
 refine wpMixF_nil (unhide HF).1 (hPP _ _ ?_)
 clear hPP PP
 go_wp2_with fail
 have hfin := (unhide HF).2
 cases c₀
 simp_all [bodyPostS, results, Tryz.results74]
end Go.Proofs.YtdjehbdpcdikkaaGreatDoor
