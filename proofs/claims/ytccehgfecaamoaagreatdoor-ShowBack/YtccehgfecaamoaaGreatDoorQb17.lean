/- syn: a Lit that is a comparison. syn: a Lit of any kind; the clause. A region that leaves its order open: where two operations are ready, both ways. -/
import Derived.Test.YtccehgfecaamoaaGreatDoorQb13
import Derived.Test.YtccehgfecaamoaaGreatDoorQb16
import Derived.Test.YtccehgfecaamoaaGreatDoorQb08
set_option maxRecDepth 100000
set_option maxHeartbeats 32000000
namespace Go.Proofs.YtccehgfecaamoaaGreatDoor
section
open Go.RowKit Go.Maps
attribute [local go_sem ↓] Qdf Qed
theorem lit_cmp {rb e dp d : Nat} (hd : dp + d = 32) {w : World} {l : List Tok} {it : Nat} (h : Rd rb e w l it dp) (hb : ¬ sgn e l = [33]) (hcl : callN e l = false) :
  Calls Tryz.prog 126 #[.pointer (some ⟨rb, 0, none⟩)] w fun en w' => Ans rb e dp w (fun w2 v x => ∃ c0 c1 c2 c3 c4 c5 c6 c7 c8 c9 c10 c11 c12 c13 c14 c15, v = .agg #[c0, c1, c2, c3, c4, c5, c6, c7, c8, c9, c10, c11, c12, c13, c14, c15] ∧ PLt (fun b => w.heap.size ≤ b) w2 [c0, c1, c2, c3, c4, c5, c6, c7, c8, c9, c10, c11, c12, c13, c14, c15] x) (litP e d l it) en w' := by
 obtain ⟨w1, hw1⟩ : ∃ w1, w1 = w.alloc ltZ := ⟨_, rfl⟩
 have b1 : Below w.heap.size w w1 := bnw hw1
 have q1 : w1.heap[w.heap.size]? = some ltZ := nnw hw1
 have s1 : w1.heap.size = w.heap.size + 1 := by rw [hw1]; simp
 have ha := Qau (h.later b1) 0
 unfold tokV at ha
 have hrb := h.lt
 obtain ⟨PO, hPO⟩ : ∃ PO : Ending → World → Prop, PO = fun en w' => Ans rb e dp w (fun w2 v x => ∃ c0 c1 c2 c3 c4 c5 c6 c7 c8 c9 c10 c11 c12 c13 c14 c15, v = .agg #[c0, c1, c2, c3, c4, c5, c6, c7, c8, c9, c10, c11, c12, c13, c14, c15] ∧ PLt (fun b => w.heap.size ≤ b) w2 [c0, c1, c2, c3, c4, c5, c6, c7, c8, c9, c10, c11, c12, c13, c14, c15] x) (litP e d l it) en w' := ⟨_, rfl⟩
 rw [← hPO]
 have HW1 : Hid (w1 = w.alloc (.cells #[.int .i64 0, .string ⟨#[]⟩, .slice none 0 0, .int .i64 0, .string ⟨#[]⟩, .int .i64 0, .int .i64 0, .string ⟨#[]⟩, .slice none 0 0, .int .i64 0, .int .i64 0, .int .i64 0, .string ⟨#[]⟩, .slice none 0 0, .int .i64 0, .int .i64 0] 69)) := hw1
 have HH := hide (Ya h (Ya b1 (Ya q1 s1)))
 have HPO := hide hPO
 have HD := hide hd
 obtain ⟨t, ht⟩ : ∃ t, t = ahd e 0 l := ⟨_, rfl⟩
 rw [← ht] at ha
 have hsg : Hid (litP e d l it = if sgn e l = [33] then (atomP e d (l.drop 1) it).map fun a => ⟨2, a, [], .none, .none, t.at_⟩
  else if callN e l = true then (atomP e d l it).map fun a => ⟨1, a, [], .none, .none, t.at_⟩
  else ((exD e d).1 l it).bind fun x l2 i => (choose e [[61], [33, 61], [60], [60, 61], [62], [62, 61]] l2 i).bind fun o l3 i => ((exD e d).1 l3 i).map fun y => ⟨3, .none, o, x, y, t.at_⟩) := by rw [ht]; rfl
 generalize litP e d l it = sr at HPO hsg
 clear h b1 q1 s1 hw1 hPO ht hd
 go_enter Tryz.func126, Tryz.ntmps126
 go_wp2_with fail
 rw [← Qa HW1]
 refine ha.mono ?_
 clear ha
 rintro en w2 ⟨rfl, b2⟩
 obtain ⟨h, b1, q1, s1⟩ := Qa HH
 have hs2 := b2.size
 obtain ⟨w3, hw3⟩ : ∃ w3, w3 = w2.alloc (.cells #[.int .i64 0, .string ⟨#[]⟩, .slice none 0 0, .int .i64 0, .string ⟨#[]⟩, .int .i64 0, .int .i64 0, .string ⟨#[]⟩, .slice none 0 0, .int .i64 0, .int .i64 0, .int .i64 0, .string ⟨#[]⟩, .slice none 0 0, .int .i64 0, .int .i64 (t.at_ : Int)] 69) := ⟨_, rfl⟩
 have b3 : Below w.heap.size w w3 := by rw [hw3]; exact (b1.trans (b2.mono (by omega))).alloc (by omega) _
 have n3 : w3.heap[w2.heap.size]? = some (.cells #[.int .i64 0, .string ⟨#[]⟩, .slice none 0 0, .int .i64 0, .string ⟨#[]⟩, .int .i64 0, .int .i64 0, .string ⟨#[]⟩, .slice none 0 0, .int .i64 0, .int .i64 0, .int .i64 0, .string ⟨#[]⟩, .slice none 0 0, .int .i64 0, .int .i64 (t.at_ : Int)] 69 (0, 0)) := nnw hw3
 have q3 : w3.heap[w.heap.size]? = some ltZ := by rw [hw3, Below.heap_alloc _ _ _ (by omega)]; exact (b2.block _ (by omega)).trans q1
 have hc := Qcb (h.later b3) [33] (by decide)
 have HW3 := hide hw3
 have K3 := hide (Ya (Kp.of_below (rb := rb) b3) (Ya n3 (Ya q3 (by omega : w.heap.size + 1 ≤ w2.heap.size))))
 generalize hxb : w2.heap.size = xb at K3
 have hS3 := Qxf w2 (t.at_ : Int)
 rw [hxb] at hS3
 clear h b1 q1 s1 hs2 b2 b3 n3 q3 hw3 HH
 go_wp2_with fail
 rename_i hK
 refine hK _ _ ?_
 clear hK
 go_wp2_with fail
 clear hS3
 rw [if_neg hb, decide_eq_false hb] at hc
 rw [Qa hsg, if_neg hb] at HPO
 clear hsg hb
 go_wp2_with fail
 rw [← Qa HW3]
 clear HW3 hxb
 refine hc.mono ?_
 clear hc
 rintro en w4 ⟨rfl, hR4, k4⟩
 obtain ⟨k3, n3, q3, g1⟩ := Qa K3
 have n4 := k4.keep n3 (by omega)
 have q4 := k4.keep q3 (by omega)
 have k04 := k3.trans k4
 have hne : w.heap.size ≠ xb := by omega
 have hcn := Qf hR4
 have K4 := hide (Ya k04 (Ya n4 (Ya q4 (Ya g1 hR4))))
 clear k3 n3 q3 k4 K3 n4 q4 k04 g1 hR4
 rw [hcl] at hcn
 rw [if_neg (by rw [hcl]; simp)] at HPO
 clear hcl
 go_wp2_with fail
 refine hcn.mono ?_
 clear hcn
 rintro en w4' ⟨rfl, b4⟩
 obtain ⟨k04, n4, q4, g1, hR4⟩ := Qa K4
 have nB := (b4.block _ (Qag n4)).trans n4
 have qB := (b4.block _ (Qag q4)).trans q4
 have kB := k04.trans (Kp.of_below b4)
 have hRB := hR4.later b4
 clear k04 n4 q4 hR4 b4 K4
 obtain ⟨w5, hww5⟩ : ∃ w5, w5 = w4'.setCell ⟨xb, 0, none⟩ (.int .i64 3) := ⟨_, rfl⟩
 have n5 : w5.heap[xb]? = some (.cells #[.int .i64 3, .string ⟨#[]⟩, .slice none 0 0, .int .i64 0, .string ⟨#[]⟩, .int .i64 0, .int .i64 0, .string ⟨#[]⟩, .slice none 0 0, .int .i64 0, .int .i64 0, .int .i64 0, .string ⟨#[]⟩, .slice none 0 0, .int .i64 0, .int .i64 (t.at_ : Int)] 69 (0, 0)) := by rw [hww5]; exact (Qad nB 0 _).trans rfl
 have q5 : w5.heap[w.heap.size]? = some ltZ := by rw [hww5, hpS hne]; exact qB
 have k5 : Kp rb w w5 := by rw [hww5]; exact kB.set2 (by omega)
 have hR5 : Rd rb e w5 l it dp := by rw [hww5]; exact hRB.set2 (by omega)
 obtain ⟨c0, c1, c2, c3, c4, c5, c6, c7, c8, c9, c10, c11, c12, c13, c14, c15, cf⟩ := cl16 nB
 have hx := (Qqv (rb := rb) (e := e) d dp (Qa HD)).1 w5 l it hR5
 have HW5 := hide hww5
 have K5 := hide (Ya k5 (Ya n5 (Ya q5 (Ya g1 (Qag n5)))))
 clear hww5 n5 q5 k5 hR5 nB qB kB hRB g1 c1 c2 c3 c4 c5 c6 c7 c8 c9 c10 c11 c12 c13 c14 c15
 cases hq : (exD e d).1 l it with
 | bad why at1 l4 =>
  rw [hq] at HPO
  rw [hq] at hx
  go_wp2_with fail
  rw [← Qa HW5]
  refine hx.mono ?_
  clear hx
  rintro en w7 ⟨rfl, k7⟩
  have HQ := hide ((Qa K5).1.trans k7)
  clear k7
  go_wp2_with fail
  refine ⟨rfl, ?_⟩
  rw [Qa HPO]
  exact ⟨rfl, Qa HQ⟩
 | ok x l2 i2 =>
  rw [hq] at hx
  rw [hq, Rs.bind] at HPO
  clear hq
  go_wp2_with fail
  rw [← Qa HW5]
  clear HW5 c0 cf
  refine hx.mono ?_
  clear hx
  rintro en w7 ⟨_, rfl, ⟨_, rfl, ⟨xa, xn, xc, rfl⟩, hX⟩, hR7, k7⟩
  obtain ⟨k5, n5, q5, g1, g2⟩ := Qa K5
  have n7 := k7.keep n5 (by omega)
  have q7 := k7.keep q5 (by omega)
  obtain ⟨x0, x1, x2, x3, x4, x5, x6, x7, x8, x9, x10, x11, x12, x13, x14, x15, xf⟩ := cl16 n7
  obtain ⟨w8, hw8⟩ : ∃ w8, w8 = (((((w7.setCell ⟨xb, 5, none⟩ (.int .i64 x.kind)).setCell ⟨xb, 6, none⟩ (.int .i64 x.num)).setCell ⟨xb, 7, none⟩ (str x.txt)).setCell ⟨xb, 8, none⟩ (.slice xa xn xc)).setCell ⟨xb, 9, none⟩ (.int .i64 x.at_)) := ⟨_, rfl⟩
  have n8 : w8.heap[xb]? = some (.cells #[.int .i64 3, .string ⟨#[]⟩, .slice none 0 0, .int .i64 0, .string ⟨#[]⟩, .int .i64 x.kind, .int .i64 x.num, str x.txt, .slice xa xn xc, .int .i64 x.at_, .int .i64 0, .int .i64 0, .string ⟨#[]⟩, .slice none 0 0, .int .i64 0, .int .i64 (t.at_ : Int)] 69 (0, 0)) := by rw [hw8]; exact (Qad (Qad (Qad (Qad (Qad n7 5 _) 6 _) 7 _) 8 _) 9 _).trans rfl
  have hs8 : ∀ k, k ≠ xb → w8.heap[k]? = w7.heap[k]? := fun k hk => by rw [hw8, hpS hk, hpS hk, hpS hk, hpS hk, hpS hk]
  have s8 : w7.heap.size = w8.heap.size := by rw [hw8]; simp [World.setCell]
  have q8 : w8.heap[w.heap.size]? = some ltZ := (hs8 _ hne).trans q7
  have k8 : Kp rb w w8 := by rw [hw8]; exact ((((((k5.trans k7).set2 (by omega)).set2 (by omega)).set2 (by omega)).set2 (by omega)).set2 (by omega))
  have hR8 : Rd rb e w8 l2 i2 dp := by rw [hw8]; exact (((((hR7.set2 (by omega)).set2 (by omega)).set2 (by omega)).set2 (by omega)).set2 (by omega))
  have hX8 := Qae.mono _ (fun b => w.heap.size < b ∧ b ≠ xb) _ _ _ (Qae.same _ _ w8 _ _ hX (by omega) (fun b hb _ => hs8 b (by have hb' : w5.heap.size ≤ b := hb; omega))) (fun b _ hb => by have hb' : w5.heap.size ≤ b := hb; exact ⟨by omega, by omega⟩)
  obtain ⟨w9, hw9⟩ : ∃ w9, w9 = w8.alloc (.cells #[.string ⟨#[61]⟩, .string ⟨#[33, 61]⟩, .string ⟨#[60]⟩, .string ⟨#[60, 61]⟩, .string ⟨#[62]⟩, .string ⟨#[62, 61]⟩] 9) := ⟨_, rfl⟩
  have b9 : Below w8.heap.size w8 w9 := bnw hw9
  have m9 : w9.heap[w8.heap.size]? = some (.cells #[.string ⟨#[61]⟩, .string ⟨#[33, 61]⟩, .string ⟨#[60]⟩, .string ⟨#[60, 61]⟩, .string ⟨#[62]⟩, .string ⟨#[62, 61]⟩] 9 (0, 0)) := nnw hw9
  have s9 : w9.heap.size = w8.heap.size + 1 := by rw [hw9]; simp
  have hs7 := k7.size
  have hsv : SgAt rb w9 (.slice (some ⟨w7.heap.size, 0, none⟩) 6 6) [[61], [33, 61], [60], [60, 61], [62], [62, 61]] := by
   refine ⟨w7.heap.size, 0, 6, rfl, by omega, by omega, fun j x hx => ?_⟩
   rw [s8, Qab m9]
   match j, hx with
   | 0, hx => simp at hx; subst hx; rfl
   | 1, hx => simp at hx; subst hx; rfl
   | 2, hx => simp at hx; subst hx; rfl
   | 3, hx => simp at hx; subst hx; rfl
   | 4, hx => simp at hx; subst hx; rfl
   | 5, hx => simp at hx; subst hx; rfl
  have hch := Qgp (hR8.later b9) _ _ hsv (by decide) (by decide)
  have K9 := hide (Ya (k8.trans (Kp.of_below b9)) (Ya ((b9.block _ (Qag n8)).trans n8) (Ya ((b9.block _ (Qag q8)).trans q8) (Ya g1 (Ya (Qae.same _ _ w9 _ _ hX8 b9.size (fun b _ hl => b9.block b hl)) (by have := Qag n8; omega : xb < w9.heap.size))))))
  have HW9 : Hid (w9 = (((((w7.setCell ⟨xb, 5, none⟩ (.int .i64 x.kind)).setCell ⟨xb, 6, none⟩ (.int .i64 x.num)).setCell ⟨xb, 7, none⟩ (str x.txt)).setCell ⟨xb, 8, none⟩ (.slice xa xn xc)).setCell ⟨xb, 9, none⟩ (.int .i64 x.at_)).alloc (.cells #[.string ⟨#[61]⟩, .string ⟨#[33, 61]⟩, .string ⟨#[60]⟩, .string ⟨#[60, 61]⟩, .string ⟨#[62]⟩, .string ⟨#[62, 61]⟩] 9)) := by rw [hw8] at hw9; exact hw9
  clear hX hR7 k7 k5 n5 q5 g1 g2 n7 q7 n8 hs8 s8 q8 k8 hR8 hX8 hw8 hw9 b9 m9 s9 hs7 hsv K5 x0 x1 x2 x3 x4 x10 x11 x12 x13 x14 x15
  cases hq : choose e [[61], [33, 61], [60], [60, 61], [62], [62, 61]] l2 i2 with
  | bad why at1 l4 =>
   rw [hq] at HPO
   rw [hq] at hch
   go_wp2_with fail
   rw [← Qa HW9]
   refine hch.mono ?_
   clear hch
   rintro en w10 ⟨rfl, k10⟩
   have HQ := hide ((Qa K9).1.trans k10)
   clear k10
   go_wp2_with fail
   refine ⟨rfl, ?_⟩
   rw [Qa HPO]
   exact ⟨rfl, Qa HQ⟩
  | ok o l3 i3 =>
   rw [hq] at hch
   rw [hq, Rs.bind] at HPO
   clear hq
   go_wp2_with fail
   rw [← Qa HW9]
   clear HW9 x5 x6 x7 x8 x9 xf
   refine hch.mono ?_
   clear hch
   rintro en w10 ⟨_, rfl, rfl, hR10, k10⟩
   obtain ⟨k9, n9, q9, g1, hX9, g2⟩ := Qa K9
   have n10 := k10.keep n9 (by omega)
   have q10 := k10.keep q9 (by omega)
   have hX10 := Qae.same _ _ w10 _ _ hX9 k10.size (fun b hb hl => k10.block b hl (by have hb' : w.heap.size < b ∧ b ≠ xb := hb; omega))
   obtain ⟨c0, c1, c2, c3, c4, c5, c6, c7, c8, c9, c10, c11, c12, c13, c14, c15, cf⟩ := cl16 n10
   obtain ⟨w11, hw11⟩ : ∃ w11, w11 = w10.setCell ⟨xb, 4, none⟩ (str o) := ⟨_, rfl⟩
   have n11 : w11.heap[xb]? = some (.cells #[.int .i64 3, .string ⟨#[]⟩, .slice none 0 0, .int .i64 0, str o, .int .i64 x.kind, .int .i64 x.num, str x.txt, .slice xa xn xc, .int .i64 x.at_, .int .i64 0, .int .i64 0, .string ⟨#[]⟩, .slice none 0 0, .int .i64 0, .int .i64 (t.at_ : Int)] 69 (0, 0)) := by rw [hw11]; exact (Qad n10 4 _).trans rfl
   have q11 : w11.heap[w.heap.size]? = some ltZ := by rw [hw11, hpS hne]; exact q10
   have k11 : Kp rb w w11 := by rw [hw11]; exact (k9.trans k10).set2 (by omega)
   have hR11 : Rd rb e w11 l3 i3 dp := by rw [hw11]; exact hR10.set2 (by omega)
   have hX11 := Qae.same _ _ w11 _ _ hX10 (by rw [hw11]; simp [World.setCell]) (fun b hb _ => by have hb' : w.heap.size < b ∧ b ≠ xb := hb; rw [hw11, hpS hb'.2])
   have hy := (Qqv (rb := rb) (e := e) d dp (Qa HD)).1 w11 l3 i3 hR11
   have K11 := hide (Ya k11 (Ya n11 (Ya q11 (Ya g1 (Ya hX11 (Qag n11))))))
   have HW11 := hide hw11
   clear hR10 k10 k9 n9 q9 g1 hX9 g2 n10 q10 hX10 hw11 n11 q11 k11 hR11 hX11 K9 c0 c1 c2 c3 c5 c6 c7 c8 c9 c10 c11 c12 c13 c14 c15
   cases hq : (exD e d).1 l3 i3 with
   | bad why at1 l4 =>
    rw [hq] at HPO
    rw [hq] at hy
    go_wp2_with fail
    rw [← Qa HW11]
    refine hy.mono ?_
    clear hy
    rintro en w12 ⟨rfl, k12⟩
    have HQ := hide ((Qa K11).1.trans k12)
    clear k12
    go_wp2_with fail
    refine ⟨rfl, ?_⟩
    rw [Qa HPO]
    exact ⟨rfl, Qa HQ⟩
   | ok y l4 i4 =>
    rw [hq] at hy HPO
    clear hq
    go_wp2_with fail
    rw [← Qa HW11]
    clear HW11 c4 cf
    refine hy.mono ?_
    clear hy
    rintro en w12 ⟨_, rfl, ⟨_, rfl, ⟨ya, yn, yc, rfl⟩, hY⟩, hR12, k12⟩
    obtain ⟨k11, n11, q11, g1, hX11, g2⟩ := Qa K11
    have n12 := k12.keep n11 (by omega)
    have q12 := k12.keep q11 (by omega)
    have hX12 := Qae.same _ _ w12 _ _ hX11 k12.size (fun b hb hl => k12.block b hl (by have hb' : w.heap.size < b ∧ b ≠ xb := hb; omega))
    have hY12 := Qae.mono _ (fun b => w.heap.size < b ∧ b ≠ xb) _ _ _ hY (fun b _ hb => by have hb' : w11.heap.size ≤ b := hb; exact ⟨by omega, by omega⟩)
    obtain ⟨x0, x1, x2, x3, x4, x5, x6, x7, x8, x9, x10, x11, x12, x13, x14, x15, xf⟩ := cl16 n12
    obtain ⟨w13, hw13⟩ : ∃ w13, w13 = (((((w12.setCell ⟨xb, 10, none⟩ (.int .i64 y.kind)).setCell ⟨xb, 11, none⟩ (.int .i64 y.num)).setCell ⟨xb, 12, none⟩ (str y.txt)).setCell ⟨xb, 13, none⟩ (.slice ya yn yc)).setCell ⟨xb, 14, none⟩ (.int .i64 y.at_)) := ⟨_, rfl⟩
    have n13 : w13.heap[xb]? = some (.cells #[.int .i64 3, .string ⟨#[]⟩, .slice none 0 0, .int .i64 0, str o, .int .i64 x.kind, .int .i64 x.num, str x.txt, .slice xa xn xc, .int .i64 x.at_, .int .i64 y.kind, .int .i64 y.num, str y.txt, .slice ya yn yc, .int .i64 y.at_, .int .i64 (t.at_ : Int)] 69 (0, 0)) := by rw [hw13]; exact (Qad (Qad (Qad (Qad (Qad n12 10 _) 11 _) 12 _) 13 _) 14 _).trans rfl
    have hs13 : ∀ k, k ≠ xb → w13.heap[k]? = w12.heap[k]? := fun k hk => by rw [hw13, hpS hk, hpS hk, hpS hk, hpS hk, hpS hk]
    have s13 : w12.heap.size = w13.heap.size := by rw [hw13]; simp [World.setCell]
    have q13 : w13.heap[w.heap.size]? = some ltZ := (hs13 _ hne).trans q12
    have k13 : Kp rb w w13 := by rw [hw13]; exact ((((((k11.trans k12).set2 (by omega)).set2 (by omega)).set2 (by omega)).set2 (by omega)).set2 (by omega))
    have hR13 : Rd rb e w13 l4 i4 dp := by rw [hw13]; exact (((((hR12.set2 (by omega)).set2 (by omega)).set2 (by omega)).set2 (by omega)).set2 (by omega))
    have hP13 : PLt (fun b => w.heap.size < b ∧ b ≠ xb) w13 [.int .i64 3, .string ⟨#[]⟩, .slice none 0 0, .int .i64 0, str o, .int .i64 x.kind, .int .i64 x.num, str x.txt, .slice xa xn xc, .int .i64 x.at_, .int .i64 y.kind, .int .i64 y.num, str y.txt, .slice ya yn yc, .int .i64 y.at_, .int .i64 (t.at_ : Int)] ⟨3, .none, o, x, y, t.at_⟩ :=
     ⟨none, 0, 0, xa, xn, xc, ya, yn, yc, rfl, LsAt.nil _ _, Qae.same _ _ w13 _ _ hX12 (by omega) (fun b hb _ => hs13 b (by have hb' : w.heap.size < b ∧ b ≠ xb := hb; exact hb'.2)), Qae.same _ _ w13 _ _ hY12 (by omega) (fun b hb _ => hs13 b (by have hb' : w.heap.size < b ∧ b ≠ xb := hb; exact hb'.2))⟩
    obtain ⟨w14, hL8, hS8, n14, HF'⟩ := Qxe n13 q13 hP13 (fun b hb => by have hb' : w.heap.size < b ∧ b ≠ xb := hb; exact ⟨by omega, by omega⟩) hR13 k13 hrb
    obtain ⟨y0, y1, y2, y3, y4, y5, y6, y7, y8, y9, y10, y11, y12, y13, y14, y15, yf⟩ := cl16 n14
    have HF := hide HF'
    clear HF' n14 hY hR12 k12 k11 n11 q11 g1 hX11 g2 n12 q12 hX12 hY12 n13 hs13 s13 q13 k13 hR13 hP13 hne K11 x0 x1 x2 x3 x4 x5 x6 x7 x8 x9 x15
    subst hw13
    go_wp2_with fail
    refine bodyPost_ret (v := .agg #[.int .i64 3, .string ⟨#[]⟩, .slice none 0 0, .int .i64 0, str o, .int .i64 x.kind, .int .i64 x.num, str x.txt, .slice xa xn xc, .int .i64 x.at_, .int .i64 y.kind, .int .i64 y.num, str y.txt, .slice ya yn yc, .int .i64 y.at_, .int .i64 (t.at_ : Int)]) (by simp [results, Tryz.results126, go_sem, y0, y1, y2, y3, y4, y5, y6, y7, y8, y9, y10, y11, y12, y13, y14, y15]) rfl ?_
    rw [Qa HPO]
    exact ⟨_, rfl, ⟨_, _, _, _, _, _, _, _, _, _, _, _, _, _, _, _, rfl, (Qa HF).1⟩, (Qa HF).2⟩
end
section
open Go.RowKit Go.Maps
theorem lit_any {rb e dp d : Nat} (hd : dp + d = 32) {w : World} {l : List Tok} {it : Nat} (h : Rd rb e w l it dp) :
  Calls Tryz.prog 126 #[.pointer (some ⟨rb, 0, none⟩)] w fun en w' => Ans rb e dp w (fun w2 v x => ∃ c0 c1 c2 c3 c4 c5 c6 c7 c8 c9 c10 c11 c12 c13 c14 c15, v = .agg #[c0, c1, c2, c3, c4, c5, c6, c7, c8, c9, c10, c11, c12, c13, c14, c15] ∧ PLt (fun b => w.heap.size ≤ b) w2 [c0, c1, c2, c3, c4, c5, c6, c7, c8, c9, c10, c11, c12, c13, c14, c15] x) (litP e d l it) en w' := by
 by_cases hb : sgn e l = [33]
 · exact lit_not hd h hb
 cases hc : callN e l with
 | true => exact Jap hd h hb hc
 | false => exact lit_cmp hd h hb hc
theorem Jaz {rb e dp d : Nat} (hd : dp + d = 32) : PartL PLt rb e dp (litP e d) := fun w l it hR => by
 refine (lit_any hd hR).mono ?_
 intro en w' ha
 cases hq : litP e d l it with
 | bad why at0 l2 => rw [hq] at ha; exact ha
 | ok x l2 i2 =>
  rw [hq] at ha
  obtain ⟨v, e1, ⟨c0, c1, c2, c3, c4, c5, c6, c7, c8, c9, c10, c11, c12, c13, c14, c15, e2, hL⟩, h3, h4⟩ := ha
  exact ⟨v, e1, ⟨c0, c1, c2, c3, c4, c5, c6, c7, c8, c9, c10, c11, c12, c13, c14, c15, e2, Qgt hL, hL⟩, h3, h4⟩
abbrev clZ : Obj := .cells #[.string ⟨#[]⟩, .slice none 0 0, .int .i64 0, .slice none 0 0, .int .i64 0] 64
def VCl (S : Nat → Prop) (w : World) (v : Value) (x : Cls) : Prop := ∃ aa an ac ba bn bc, v = .agg #[str x.head.rel, .slice aa an ac, .int .i64 x.head.at_, .slice ba bn bc, .int .i64 x.at_] ∧ LsAt PE 5 S w (.slice aa an ac) x.head.args ∧ LsAt PLt 16 S w (.slice ba bn bc) x.body

theorem Qsp {rb e dp d : Nat} (hd : dp + d = 32) {w : World} {l : List Tok} {it : Nat} (h : Rd rb e w l it dp) :
  Calls Tryz.prog 97 #[.pointer (some ⟨rb, 0, none⟩)] w fun en w' => Ans rb e dp w (fun w2 v x => VCl (fun b => w.heap.size ≤ b) w2 v x) (clauseP e d l it) en w' := by
 obtain ⟨w1, hw1⟩ : ∃ w1, w1 = w.alloc clZ := ⟨_, rfl⟩
 have b1 : Below w.heap.size w w1 := bnw hw1
 have q1 : w1.heap[w.heap.size]? = some clZ := nnw hw1
 have s1 : w1.heap.size = w.heap.size + 1 := by rw [hw1]; simp
 have ha := Qau (h.later b1) 0
 unfold tokV at ha
 have hrb := h.lt
 obtain ⟨PO, hPO⟩ : ∃ PO : Ending → World → Prop, PO = fun en w' => Ans rb e dp w (fun w2 v x => VCl (fun b => w.heap.size ≤ b) w2 v x) (clauseP e d l it) en w' := ⟨_, rfl⟩
 rw [← hPO]
 have HW1 : Hid (w1 = w.alloc (.cells #[.string ⟨#[]⟩, .slice none 0 0, .int .i64 0, .slice none 0 0, .int .i64 0] 64)) := hw1
 have HH := hide (Ya h (Ya b1 (Ya q1 s1)))
 have HPO := hide hPO
 have HD := hide hd
 obtain ⟨t, ht⟩ : ∃ t, t = ahd e 0 l := ⟨_, rfl⟩
 rw [← ht] at ha
 have hsg : Hid (clauseP e d l it = (atomP e d l it).bind fun h l2 i =>
  if sgn e l2 = [58, 45] then (listP e [44] 16 (litP e d) (l2.drop 1) i).bind fun b l3 i => (want e [46] l3 i).map fun _ => ⟨h, b, t.at_⟩
  else (want e [46] l2 i).map fun _ => ⟨h, [], t.at_⟩) := by rw [ht]; rfl
 generalize clauseP e d l it = sr at HPO hsg
 clear h b1 q1 s1 hw1 hPO ht hd
 go_enter Tryz.func97, Tryz.ntmps97
 go_wp2_with fail
 rw [← Qa HW1]
 refine ha.mono ?_
 clear ha
 rintro en w2 ⟨rfl, b2⟩
 obtain ⟨h, b1, q1, s1⟩ := Qa HH
 have hs2 := b2.size
 obtain ⟨w3, hw3⟩ : ∃ w3, w3 = w2.alloc (.cells #[.string ⟨#[]⟩, .slice none 0 0, .int .i64 0, .slice none 0 0, .int .i64 (t.at_ : Int)] 64) := ⟨_, rfl⟩
 have b3 : Below w.heap.size w w3 := by rw [hw3]; exact (b1.trans (b2.mono (by omega))).alloc (by omega) _
 have n3 : w3.heap[w2.heap.size]? = some (.cells #[.string ⟨#[]⟩, .slice none 0 0, .int .i64 0, .slice none 0 0, .int .i64 (t.at_ : Int)] 64 (0, 0)) := nnw hw3
 have q3 : w3.heap[w.heap.size]? = some clZ := by rw [hw3, Below.heap_alloc _ _ _ (by omega)]; exact (b2.block _ (by omega)).trans q1
 have hc := Qkl (Qa HD) (h.later b3)
 have HW3 := hide hw3
 have K3 := hide (Ya (Kp.of_below (rb := rb) b3) (Ya n3 (Ya q3 (Ya (by omega : w.heap.size + 1 ≤ w2.heap.size) (Qag n3)))))
 generalize hxb : w2.heap.size = xb at K3
 clear h b1 q1 s1 hs2 b2 b3 n3 q3 hw3 HH
 go_wp2_with fail
 rename_i hK
 refine hK _ _ ?_
 clear hK
 cases hq : atomP e d l it with
 | bad why at1 l2 =>
  rw [hq] at hc hsg
  rw [Qa hsg] at HPO
  clear hq hsg
  go_wp2_with fail
  rw [← Qa HW3]
  refine hc.mono ?_
  clear hc
  rintro en w4 ⟨rfl, k4⟩
  have H4 := hide ((Qa K3).1.trans k4)
  clear k4
  go_wp2_with fail
  refine ⟨rfl, ?_⟩
  rw [Qa HPO]
  exact ⟨rfl, Qa H4⟩
 | ok am l2 i2 =>
  rw [hq] at hc hsg
  rw [Qa hsg, Rs.bind] at HPO
  clear hq hsg
  go_wp2_with fail
  rw [← Qa HW3]
  clear HW3 hxb
  refine hc.mono ?_
  clear hc
  rintro en w4 ⟨_, rfl, ⟨aa, an, ac, rfl, hL⟩, hR4, k4⟩
  obtain ⟨k3, n3, q3, g1, g2⟩ := Qa K3
  have hs4 := k4.size
  have n4 := k4.keep n3 (by omega)
  have q4 := k4.keep q3 (by omega)
  have hne : w.heap.size ≠ xb := by omega
  obtain ⟨x0, x1, x2, x3, x4, xf⟩ := cl5 n4
  obtain ⟨w5, hw5⟩ : ∃ w5, w5 = ((w4.setCell ⟨xb, 0, none⟩ (str am.rel)).setCell ⟨xb, 1, none⟩ (.slice aa an ac)).setCell ⟨xb, 2, none⟩ (.int .i64 am.at_) := ⟨_, rfl⟩
  have n5 : w5.heap[xb]? = some (.cells #[str am.rel, .slice aa an ac, .int .i64 am.at_, .slice none 0 0, .int .i64 (t.at_ : Int)] 64 (0, 0)) := by rw [hw5]; exact (Qad (Qad (Qad n4 0 _) 1 _) 2 _).trans rfl
  have hs5 : ∀ k, k ≠ xb → w5.heap[k]? = w4.heap[k]? := fun k hk => by rw [hw5, hpS hk, hpS hk, hpS hk]
  have s5 : w5.heap.size = w4.heap.size := by rw [hw5]; simp [World.setCell]
  have q5 : w5.heap[w.heap.size]? = some clZ := (hs5 _ hne).trans q4
  have k5 : Kp rb w w5 := by rw [hw5]; exact (((k3.trans k4).set2 (by omega)).set2 (by omega)).set2 (by omega)
  have hR5 : Rd rb e w5 l2 i2 dp := by rw [hw5]; exact ((hR4.set2 (by omega)).set2 (by omega)).set2 (by omega)
  have LA5 : LsAt PE 5 (fun b => w.heap.size < b ∧ b ≠ xb) w5 (.slice aa an ac) am.args := by
   refine (hL.same Qae (by omega) (fun b hb hl => hs5 b ?_)).mono Qae (fun b _ hb => ?_)
   · have hb' : w3.heap.size ≤ b := hb; omega
   · have hb' : w3.heap.size ≤ b := hb; exact ⟨by omega, by omega⟩
  have hsk := Qcb hR5 [58, 45] (by decide)
  have HW5 := hide hw5
  have K5 := hide (Ya k5 (Ya n5 (Ya q5 (Ya g1 (Ya LA5 (Qag n5))))))
  clear hL hR4 k4 k3 n3 q3 g1 g2 hs4 n4 q4 hw5 n5 hs5 s5 q5 k5 hR5 LA5 K3 x3 x4
  by_cases hb : sgn e l2 = [58, 45]
  ·
   rw [if_pos hb, decide_eq_true hb] at hsk
   rw [if_pos hb] at HPO
   clear hb
   go_wp2_with fail
   rw [← Qa HW5]
   clear HW5 x0 x1 x2 xf
   refine hsk.mono ?_
   clear hsk
   rintro en w6 ⟨rfl, hR6, k6⟩
   have hli := Qwu PLt Qbt (Jaz (Qa HD)) (Qyo d) hR6 [44] (by decide) 16
   have K6 := hide k6
   clear hR6 k6
   cases hq : listP e [44] 16 (litP e d) (l2.drop 1) i2 with
   | bad why at1 l4 =>
    rw [hq] at hli HPO
    clear hq
    go_wp2_with fail
    refine hli.mono ?_
    clear hli
    rintro en w7 ⟨rfl, k7⟩
    have H7 := hide (((Qa K5).1.trans (Qa K6)).trans k7)
    clear k7
    go_wp2_with fail
    refine ⟨rfl, ?_⟩
    rw [Qa HPO]
    exact ⟨rfl, Qa H7⟩
   | ok ks lw iw =>
    rw [hq] at hli
    rw [hq, Rs.bind] at HPO
    clear hq
    go_wp2_with fail
    refine hli.mono ?_
    clear hli
    rintro en w7 ⟨_, rfl, hL, hR7, k7'⟩
    obtain ⟨ka, kc, _, ev, _⟩ := id hL
    subst ev
    obtain ⟨k5, n5, q5, g1, LA5, g2⟩ := Qa K5
    have hs6 := (Qa K6).size
    have k7 := (Qa K6).trans k7'
    have n7 := k7.keep n5 (by omega)
    have q7 := k7.keep q5 (by omega)
    have LA7 := LA5.same Qae k7.size (fun b hb hl => k7.block b hl (by have hb' : w.heap.size < b ∧ b ≠ xb := hb; omega))
    obtain ⟨x0, x1, x2, x3, x4, xf⟩ := cl5 n7
    obtain ⟨w8, hw8⟩ : ∃ w8, w8 = w7.setCell ⟨xb, 3, none⟩ (.slice ka ks.length kc) := ⟨_, rfl⟩
    have nW : w8.heap[xb]? = some (.cells #[str am.rel, .slice aa an ac, .int .i64 am.at_, .slice ka ks.length kc, .int .i64 (t.at_ : Int)] 64 (0, 0)) := by rw [hw8]; exact (Qad n7 3 _).trans rfl
    have hs8 : ∀ k, k ≠ xb → w8.heap[k]? = w7.heap[k]? := fun k hk => by rw [hw8, hpS hk]
    have s8 : w8.heap.size = w7.heap.size := by rw [hw8]; simp [World.setCell]
    have qW : w8.heap[w.heap.size]? = some clZ := (hs8 _ hne).trans q7
    have kW : Kp rb w w8 := by rw [hw8]; exact (k5.trans k7).set2 (by omega)
    have hRW : Rd rb e w8 lw iw dp := by rw [hw8]; exact hR7.set2 (by omega)
    have LA : LsAt PE 5 (fun b => w.heap.size < b ∧ b ≠ xb) w8 (.slice aa an ac) am.args := LA7.same Qae (by omega) (fun b hb _ => hs8 b (by have hb' : w.heap.size < b ∧ b ≠ xb := hb; exact hb'.2))
    have LB : LsAt PLt 16 (fun b => w.heap.size < b ∧ b ≠ xb) w8 (.slice ka ks.length kc) ks := by
     refine (hL.same Qbt (by omega) (fun b hb hl => hs8 b ?_)).mono Qbt (fun b _ hb => ?_)
     · have hb' : w6.heap.size ≤ b := hb; omega
     · have hb' : w6.heap.size ≤ b := hb; exact ⟨by omega, by omega⟩
    have HW8 := hide hw8
    clear hL hR7 k7' k5 n5 q5 LA5 hs6 k7 n7 q7 LA7 hw8 hs8 s8 x0 x1 x2 x4 K5
    have hwt := Qch hRW [46] (by decide)
    have KW := hide (Ya kW (Ya nW (Ya qW (Ya LA LB))))
    clear kW nW qW LA LB hRW
    cases hq : want e [46] lw iw with
    | bad why at1 l9 =>
     rw [hq] at hwt HPO
     clear hq
     go_wp2_with fail
     rw [← Qa HW8]; clear HW8 x3 xf
     refine hwt.mono ?_
     clear hwt
     rintro en w9 ⟨rfl, k9⟩
     have H9 := hide ((Qa KW).1.trans k9)
     clear k9
     go_wp2_with fail
     refine ⟨rfl, ?_⟩
     rw [Qa HPO]
     exact ⟨rfl, Qa H9⟩
    | ok u l9 i9 =>
     rw [hq] at hwt HPO
     clear hq
     go_wp2_with fail
     rw [← Qa HW8]; clear HW8 x3 xf
     refine hwt.mono ?_
     clear hwt
     rintro en w9 ⟨_, rfl, rfl, hR9, k9⟩
     obtain ⟨kW, nW, qW, LA, LB⟩ := Qa KW
     have n9 := k9.keep nW (by omega)
     have q9 := k9.keep qW (by omega)
     have k09 := kW.trans k9
     have LA9 := LA.same Qae k9.size (fun b hb hl => k9.block b hl (by have hb' : w.heap.size < b ∧ b ≠ xb := hb; omega))
     have LB9 := LB.same Qbt k9.size (fun b hb hl => k9.block b hl (by have hb' : w.heap.size < b ∧ b ≠ xb := hb; omega))
     obtain ⟨z0, z1, z2, z3, z4, zf⟩ := cl5 n9
     obtain ⟨y0, y1, y2, y3, y4, yf⟩ := cl5 q9
     have HF : Hid (∀ q0 q1 q2 q3 q4, VCl (fun b => w.heap.size ≤ b) (((((w9.setCell ⟨w.heap.size, 0, none⟩ q0).setCell ⟨w.heap.size, 1, none⟩ q1).setCell ⟨w.heap.size, 2, none⟩ q2).setCell ⟨w.heap.size, 3, none⟩ q3).setCell ⟨w.heap.size, 4, none⟩ q4) (.agg #[str am.rel, .slice aa an ac, .int .i64 am.at_, .slice ka ks.length kc, .int .i64 (t.at_ : Int)]) ⟨am, ks, t.at_⟩ ∧ Rd rb e (((((w9.setCell ⟨w.heap.size, 0, none⟩ q0).setCell ⟨w.heap.size, 1, none⟩ q1).setCell ⟨w.heap.size, 2, none⟩ q2).setCell ⟨w.heap.size, 3, none⟩ q3).setCell ⟨w.heap.size, 4, none⟩ q4) l9 i9 dp ∧ Kp rb w (((((w9.setCell ⟨w.heap.size, 0, none⟩ q0).setCell ⟨w.heap.size, 1, none⟩ q1).setCell ⟨w.heap.size, 2, none⟩ q2).setCell ⟨w.heap.size, 3, none⟩ q3).setCell ⟨w.heap.size, 4, none⟩ q4)) := fun q0 q1 q2 q3 q4 => by
      have hsame : ∀ b, b ≠ w.heap.size → (((((w9.setCell ⟨w.heap.size, 0, none⟩ q0).setCell ⟨w.heap.size, 1, none⟩ q1).setCell ⟨w.heap.size, 2, none⟩ q2).setCell ⟨w.heap.size, 3, none⟩ q3).setCell ⟨w.heap.size, 4, none⟩ q4).heap[b]? = w9.heap[b]? := fun b hb => by
       rw [hpS hb, hpS hb, hpS hb, hpS hb, hpS hb]
      refine ⟨⟨_, _, _, _, _, _, rfl, (LA9.same Qae (by simp [World.setCell]) (fun b hb _ => hsame b ?_)).mono Qae (fun b _ hb => ?_), (LB9.same Qbt (by simp [World.setCell]) (fun b hb _ => hsame b ?_)).mono Qbt (fun b _ hb => ?_)⟩, ((((hR9.set2 (by omega)).set2 (by omega)).set2 (by omega)).set2 (by omega)).set2 (by omega), ((((k09.set2 (by omega)).set2 (by omega)).set2 (by omega)).set2 (by omega)).set2 (by omega)⟩
      all_goals
       have hb' : w.heap.size < b ∧ b ≠ xb := hb
       omega
     clear hR9 k9 kW nW qW LA LB n9 q9 k09 LA9 LB9 zf KW hne
     go_wp2_with fail
     refine bodyPost_ret (v := .agg #[str am.rel, .slice aa an ac, .int .i64 am.at_, .slice ka ks.length kc, .int .i64 t.at_]) (by simp [results, Tryz.results97, go_sem, y0, y1, y2, y3, y4]) rfl ?_
     rw [Qa HPO]
     exact ⟨_, rfl, Qa HF _ _ _ _ _⟩
  rw [if_neg hb, decide_eq_false hb] at hsk
  rw [if_neg hb] at HPO
  clear hb
  go_wp2_with fail
  rw [← Qa HW5]
  clear HW5 x0 x1 x2 xf
  refine hsk.mono ?_
  clear hsk
  rintro en w6 ⟨rfl, hRW, k6⟩
  obtain ⟨k5, n5, q5, g1, LA5, g2⟩ := Qa K5
  have nW := k6.keep n5 (by omega)
  have qW := k6.keep q5 (by omega)
  have kW := k5.trans k6
  have LA := LA5.same Qae k6.size (fun b hb hl => k6.block b hl (by have hb' : w.heap.size < b ∧ b ≠ xb := hb; omega))
  have LB : LsAt PLt 16 (fun b => w.heap.size < b ∧ b ≠ xb) w6 (.slice none 0 0) [] := LsAt.nil _ _
  generalize hlw : l2 = lw at hRW HPO
  generalize hiw : i2 = iw at hRW HPO
  clear hlw hiw k6 k5 n5 q5 LA5 K5
  have hwt := Qch hRW [46] (by decide)
  have KW := hide (Ya kW (Ya nW (Ya qW (Ya LA LB))))
  clear kW nW qW LA LB hRW
  cases hq : want e [46] lw iw with
  | bad why at1 l9 =>
   rw [hq] at hwt HPO
   clear hq
   go_wp2_with fail
   refine hwt.mono ?_
   clear hwt
   rintro en w9 ⟨rfl, k9⟩
   have H9 := hide ((Qa KW).1.trans k9)
   clear k9
   go_wp2_with fail
   refine ⟨rfl, ?_⟩
   rw [Qa HPO]
   exact ⟨rfl, Qa H9⟩
  | ok u l9 i9 =>
   rw [hq] at hwt HPO
   clear hq
   go_wp2_with fail
   refine hwt.mono ?_
   clear hwt
   rintro en w9 ⟨_, rfl, rfl, hR9, k9⟩
   obtain ⟨kW, nW, qW, LA, LB⟩ := Qa KW
   have n9 := k9.keep nW (by omega)
   have q9 := k9.keep qW (by omega)
   have k09 := kW.trans k9
   have LA9 := LA.same Qae k9.size (fun b hb hl => k9.block b hl (by have hb' : w.heap.size < b ∧ b ≠ xb := hb; omega))
   have LB9 := LB.same Qbt k9.size (fun b hb hl => k9.block b hl (by have hb' : w.heap.size < b ∧ b ≠ xb := hb; omega))
   obtain ⟨z0, z1, z2, z3, z4, zf⟩ := cl5 n9
   obtain ⟨y0, y1, y2, y3, y4, yf⟩ := cl5 q9
   have HF : Hid (∀ q0 q1 q2 q3 q4, VCl (fun b => w.heap.size ≤ b) (((((w9.setCell ⟨w.heap.size, 0, none⟩ q0).setCell ⟨w.heap.size, 1, none⟩ q1).setCell ⟨w.heap.size, 2, none⟩ q2).setCell ⟨w.heap.size, 3, none⟩ q3).setCell ⟨w.heap.size, 4, none⟩ q4) (.agg #[str am.rel, .slice aa an ac, .int .i64 am.at_, .slice none 0 0, .int .i64 (t.at_ : Int)]) ⟨am, [], t.at_⟩ ∧ Rd rb e (((((w9.setCell ⟨w.heap.size, 0, none⟩ q0).setCell ⟨w.heap.size, 1, none⟩ q1).setCell ⟨w.heap.size, 2, none⟩ q2).setCell ⟨w.heap.size, 3, none⟩ q3).setCell ⟨w.heap.size, 4, none⟩ q4) l9 i9 dp ∧ Kp rb w (((((w9.setCell ⟨w.heap.size, 0, none⟩ q0).setCell ⟨w.heap.size, 1, none⟩ q1).setCell ⟨w.heap.size, 2, none⟩ q2).setCell ⟨w.heap.size, 3, none⟩ q3).setCell ⟨w.heap.size, 4, none⟩ q4)) := fun q0 q1 q2 q3 q4 => by
    have hsame : ∀ b, b ≠ w.heap.size → (((((w9.setCell ⟨w.heap.size, 0, none⟩ q0).setCell ⟨w.heap.size, 1, none⟩ q1).setCell ⟨w.heap.size, 2, none⟩ q2).setCell ⟨w.heap.size, 3, none⟩ q3).setCell ⟨w.heap.size, 4, none⟩ q4).heap[b]? = w9.heap[b]? := fun b hb => by
     rw [hpS hb, hpS hb, hpS hb, hpS hb, hpS hb]
    refine ⟨⟨_, _, _, _, _, _, rfl, (LA9.same Qae (by simp [World.setCell]) (fun b hb _ => hsame b ?_)).mono Qae (fun b _ hb => ?_), (LB9.same Qbt (by simp [World.setCell]) (fun b hb _ => hsame b ?_)).mono Qbt (fun b _ hb => ?_)⟩, ((((hR9.set2 (by omega)).set2 (by omega)).set2 (by omega)).set2 (by omega)).set2 (by omega), ((((k09.set2 (by omega)).set2 (by omega)).set2 (by omega)).set2 (by omega)).set2 (by omega)⟩
    all_goals
     have hb' : w.heap.size < b ∧ b ≠ xb := hb
     omega
   clear hR9 k9 kW nW qW LA LB n9 q9 k09 LA9 LB9 zf KW hne
   go_wp2_with fail
   refine bodyPost_ret (v := .agg #[str am.rel, .slice aa an ac, .int .i64 am.at_, .slice none 0 0, .int .i64 t.at_]) (by simp [results, Tryz.results97, go_sem, y0, y1, y2, y3, y4]) rfl ?_
   rw [Qa HPO]
   exact ⟨_, rfl, Qa HF _ _ _ _ _⟩
end
section
open Go.RowKit
section
variable {P : Program} {ops : Array Oper} {md : Region.Mode} {Q : Exit → Act → World → Prop} {C : Bool → World → Prop} {m : Nat}

def lenT : List (Nat × Nat) → Nat
 | [] => 0
 | (_, _ + 3) :: r => lenT r + 2
 | _ :: r => lenT r + 1
def orderT (md : Region.Mode) (ops : Array Oper) (m : Nat) : List (Nat × Nat) → Array Bool → Bool
 | [], listed => (Region.ready md ops listed).isEmpty && listed.getD m true
 | (k, 0) :: r, listed => decide (Region.ready md ops listed = [k]) && orderT md ops m r (listed.setIfInBounds k true)
 | (k, 1) :: r, listed => ((Region.ready md ops listed).contains k && Region.free md ops listed k && decide (m ≠ k)) && orderT md ops m r (listed.setIfInBounds k true)
 | (k, 2) :: r, listed => ((Region.ready md ops listed).contains k && Region.free md ops listed k && decide (m ≠ k) && !(listed.getD m true) && depB md ops m k) && orderT md ops m r (listed.setIfInBounds k true)
 | (k, n + 3) :: r, listed => (decide (Region.ready md ops listed = [k, n]) && decide (k ≠ n) && decide (Region.ready md ops (listed.setIfInBounds k true) = [n]) && decide (Region.ready md ops (listed.setIfInBounds n true) = [k])) && orderT md ops m r ((listed.setIfInBounds k true).setIfInBounds n true)
def wpMixT (P : Program) (ops : Array Oper) (m : Nat) (C : Bool → World → Prop) (Q : Exit → Act → World → Prop) : Bool → List (Nat × Nat) → Act → World → Prop
 | _, [], a, w => C true w ∧ Q .normal a w
 | f, (k, 0) :: r, a, w => C f w ∧ wpOp P ops Q k (fun a' w' => wpMixT P ops m C Q (f || k == m) r a' w') a w
 | f, (k, 1) :: r, a, w => ∃ o v, ops[k]? = some o ∧ (∀ f w, C f w → YieldsAt P ops w o v a) ∧ wpMixT P ops m C Q f r (a.put o.dst v) w
 | f, (k, 2) :: r, a, w => ∃ o v, ops[k]? = some o ∧ (∀ w, C false w → YieldsAt P ops w o v a) ∧ wpMixT P ops m C Q f r (a.put o.dst v) w
 | f, (k, n + 3) :: r, a, w => C f w ∧ wpOp P ops Q k (fun a' w' => C (f || k == m) w' ∧ wpOp P ops Q n (fun a2 w2 => wpMixT P ops m C Q (f || k == m || n == m) r a2 w2) a' w') a w ∧
   wpOp P ops Q n (fun a' w' => C (f || n == m) w' ∧ wpOp P ops Q k (fun a2 w2 => wpMixT P ops m C Q (f || k == m || n == m) r a2 w2) a' w') a w
theorem Qcr (hsel : Region.noSelect ops = true) (hL : ¬ LetsOut Q) (hQ : ∀ c (a : Act) d v w, Q (.panic c) (a.put d v) w → Q (.panic c) a w) : ∀ (l : List (Nat × Nat)) (f : Bool) (listed : Array Bool) (a : Act) (w : World), listed.getD m true = f → orderT md ops m l listed = true → wpMixT P ops m C Q f l a w → wpAnyF P md ops m C Q (lenT l) listed a w
 | [], f, listed, a, w, hf, hB, h => by
  simp only [orderT, Bool.and_eq_true] at hB
  exact ⟨by rw [hB.2]; exact h.1, by simpa using hB.1, h.2⟩
 | (k, 0) :: r, f, listed, a, w, hf, hB, h => by
  simp only [orderT, Bool.and_eq_true, decide_eq_true_eq] at hB
  refine ⟨by rw [hf]; exact h.1, fun e => (by rw [hB.1] at e; cases e), fun i hi => ?_⟩
  have hi' := hi
  rw [hB.1] at hi
  have e : i = k := by simpa using hi
  subst e
  exact wpOp_mono (fun a' w' h' => Qcr hsel hL hQ r _ _ a' w' (by rw [Qdb (Qdd hi'), hf]) hB.2 h') h.2
 | (k, 1) :: r, f, listed, a, w, hf, hB, h => by
  simp only [orderT, Bool.and_eq_true, decide_eq_true_eq] at hB
  obtain ⟨⟨⟨hr, hfr⟩, hne⟩, hB'⟩ := hB
  obtain ⟨o, v, ho, hy, h'⟩ := h
  have hr' : k ∈ Region.ready md ops listed := by simpa using hr
  refine Qdx (D := fun w => ∃ f, C f w) (G := fun _ => True) ho hne (Region.noSelect_spec hsel) hL hQ (fun _ _ _ h => ⟨_, h⟩) (fun _ _ _ _ _ _ => trivial) (lenT r) listed a w trivial (Region.free_spec ho hfr) hr' (fun w ⟨f, hc⟩ => hy f w hc) (Qcr hsel hL hQ r f _ _ _ ?_ hB' h')
  rw [Qdb (Qdd hr'), hf]
  simp [Ne.symm hne]
 | (k, 2) :: r, f, listed, a, w, hf, hB, h => by
  simp only [orderT, Bool.and_eq_true, decide_eq_true_eq, Bool.not_eq_true'] at hB
  obtain ⟨⟨⟨⟨⟨hr, hfr⟩, hne⟩, hun⟩, hdep⟩, hB'⟩ := hB
  obtain ⟨o, v, ho, hy, h'⟩ := h
  have hr' : k ∈ Region.ready md ops listed := by simpa using hr
  refine Qdx (D := C false) (G := fun l => l.getD m true = false) ho hne (Region.noSelect_spec hsel) hL hQ (fun l w hg h => hg ▸ h) (fun l j hg hk hjk hj => ?_) (lenT r) listed a w hun (Region.free_spec ho hfr) hr' hy (Qcr hsel hL hQ r f _ _ _ ?_ hB' h')
  ·
   have hjm : j ≠ m := fun e => by
    subst e
    obtain ⟨_, oj, hoj, hall⟩ := mem_ready.1 hj
    unfold depB at hdep
    rw [hoj] at hdep
    obtain ⟨e, he, hb⟩ := Array.any_eq_true'.1 hdep
    simp only [Bool.and_eq_true, beq_iff_eq] at hb
    have := hall e he hb.1
    rw [hb.2, getD_both hk] at this
    cases this
   rw [getD_set_ne true hjm]
   exact hg
  rw [Qdb (Qdd hr'), hf]
  simp [Ne.symm hne]
 | (k, n + 3) :: r, f, listed, a, w, hf, hB, h => by
  simp only [orderT, Bool.and_eq_true, decide_eq_true_eq] at hB
  obtain ⟨⟨⟨⟨hr, hne⟩, hrk⟩, hrn⟩, hB'⟩ := hB
  obtain ⟨hC, h1, h2⟩ := h
  have hk : k ∈ Region.ready md ops listed := by rw [hr]; simp
  have hn : n ∈ Region.ready md ops listed := by rw [hr]; simp
  have hn' : n ∈ Region.ready md ops (listed.setIfInBounds k true) := by rw [hrk]; simp
  have hk' : k ∈ Region.ready md ops (listed.setIfInBounds n true) := by rw [hrn]; simp
  have fk : (listed.setIfInBounds k true).getD m true = (f || k == m) := by rw [Qdb (Qdd hk), hf]
  have fn : (listed.setIfInBounds n true).getD m true = (f || n == m) := by rw [Qdb (Qdd hn), hf]
  have fkn : ((listed.setIfInBounds k true).setIfInBounds n true).getD m true = (f || k == m || n == m) := by rw [Qdb (Qdd hn'), fk]
  refine ⟨by rw [hf]; exact hC, fun e => (by rw [hr] at e; cases e), fun i hi => ?_⟩
  rw [hr] at hi
  simp only [List.mem_cons, List.not_mem_nil, or_false] at hi
  rcases hi with rfl | rfl
  ·
   refine wpOp_mono (fun a' w' h' => ?_) h1
   refine ⟨by rw [fk]; exact h'.1, fun e => (by rw [hrk] at e; cases e), fun j hj => ?_⟩
   rw [hrk] at hj
   have e : j = n := by simpa using hj
   subst e
   exact wpOp_mono (fun a2 w2 h2 => Qcr hsel hL hQ r _ _ a2 w2 fkn hB' h2) h'.2
  refine wpOp_mono (fun a' w' h' => ?_) h2
  refine ⟨by rw [fn]; exact h'.1, fun e => (by rw [hrn] at e; cases e), fun j hj => ?_⟩
  rw [hrn] at hj
  have e : j = k := by simpa using hj
  subst e
  exact wpOp_mono (fun a2 w2 h2 => Qcr hsel hL hQ r _ _ a2 w2 (by rw [Array.setIfInBounds_comm _ _ (Ne.symm hne)]; exact fkn) (by rw [Array.setIfInBounds_comm _ _ (Ne.symm hne)]; exact hB') h2) h'.2
theorem Qap {f : Bool} {k : Nat} {o : Oper} {v : Value} {r : List (Nat × Nat)} {a : Act} {w : World} (ho : ops[k]? = some o) (hw : Region.wanted o (yielded ops a.tmps) = true) (hy : ∀ f w', C f w' → (execOp a.eval o).run P w' = .ok (.value v) w')
  (h : wpMixT P ops m C Q f r (a.put o.dst v) w) : wpMixT P ops m C Q f ((k, 1) :: r) a w := ⟨o, v, ho, fun f w' hc => .inl ⟨hw, .inl (hy f w' hc)⟩, h⟩
theorem Qjf {f : Bool} {k : Nat} {o : Oper} {v : Value} {r : List (Nat × Nat)} {a : Act} {w : World} (ho : ops[k]? = some o) (hw : Region.wanted o (yielded ops a.tmps) = true) (hy : ∀ w', C false w' → (execOp a.eval o).run P w' = .ok (.value v) w')
  (h : wpMixT P ops m C Q f r (a.put o.dst v) w) : wpMixT P ops m C Q f ((k, 2) :: r) a w := ⟨o, v, ho, fun w' hc => .inl ⟨hw, .inl (hy w' hc)⟩, h⟩
theorem Qck {f : Bool} {k : Nat} {o : Oper} {r : List (Nat × Nat)} {a : Act} {w : World} (ho : ops[k]? = some o) (hC : C f w) (h : ∀ K' : Act → World → Prop, (∀ a w, wpMixT P ops m C Q (f || k == m) r a w → K' a w) → if Region.wanted o (yielded ops a.tmps) = true then Oper.wp P o a w K' Q else K' (a.put o.dst undef) w) : wpMixT P ops m C Q f ((k, 0) :: r) a w := ⟨hC, wpOp_step ho h⟩
theorem Qek {f : Bool} {k n : Nat} {o p : Oper} {r : List (Nat × Nat)} {a : Act} {w : World} (ho : ops[k]? = some o) (hp : ops[n]? = some p) (hC : C f w)
  (h1 : ∀ K' : Act → World → Prop, (∀ a w, C (f || k == m) w → (∀ K2 : Act → World → Prop, (∀ a w, wpMixT P ops m C Q (f || k == m || n == m) r a w → K2 a w) → if Region.wanted p (yielded ops a.tmps) = true then Oper.wp P p a w K2 Q else K2 (a.put p.dst undef) w) → K' a w) → if Region.wanted o (yielded ops a.tmps) = true then Oper.wp P o a w K' Q else K' (a.put o.dst undef) w)
  (h2 : ∀ K' : Act → World → Prop, (∀ a w, C (f || n == m) w → (∀ K2 : Act → World → Prop, (∀ a w, wpMixT P ops m C Q (f || k == m || n == m) r a w → K2 a w) → if Region.wanted o (yielded ops a.tmps) = true then Oper.wp P o a w K2 Q else K2 (a.put o.dst undef) w) → K' a w) → if Region.wanted p (yielded ops a.tmps) = true then Oper.wp P p a w K' Q else K' (a.put p.dst undef) w) :
  wpMixT P ops m C Q f ((k, n + 3) :: r) a w :=
 ⟨hC, wpOp_step ho (fun K' hK => h1 K' (fun a w hc h => hK a w ⟨hc, wpOp_step hp h⟩)), wpOp_step hp (fun K' hK => h2 K' (fun a w hc h => hK a w ⟨hc, wpOp_step ho h⟩))⟩
theorem Qdg {f : Bool} {a : Act} {w : World} (hC : C true w) (h : Q .normal a w) : wpMixT P ops m C Q f [] a w := ⟨hC, h⟩
end
theorem Qfy {P : Program} {Q : Exit → Act → World → Prop} {id m : Nat} {a : Act} {w : World} {ops : Array Oper} {ml : List (Nat × Nat)} (C : Bool → World → Prop) (hm : P.follows .mixedOrders = true) (hsel : Region.noSelect ops = true) (hlen : lenT ml = ops.size) (hm2 : (Array.replicate ops.size false).getD m true = false) (hB : orderT .any ops m ml (Array.replicate ops.size false) = true)
  (hpan : ∀ c (a : Act) d v w, Q (.panic c) (a.put d v) w → Q (.panic c) a w)
  (h : ∀ (PP : Act → World → Prop) (PQ : List PanicEntry → Act → World → Prop), (∀ a' w', Q .normal a' w' → PP a' w') → (∀ c a' w', Q (.panic c) a' w' → PQ c a' w') → wpMixT P ops m C (onlyP PP PQ) false ml a w.drew) : (Code.region id ops true).wp P Q a w := by
 have hL : ¬ LetsOut (onlyP (Q .normal) (fun c => Q (.panic c))) := by rintro ⟨_, _, h⟩; exact h
 have h1 := Qft _ _ _ _ (Qcr (md := .any) hsel hL (fun c a d v w h => hpan c a d v w h) ml false _ a _ hm2 hB (h (Q .normal) (fun c => Q (.panic c)) (fun _ _ h => h) (fun _ _ _ h => h)))
 rw [hlen] at h1
 refine wp_mono (Q := onlyP (Q .normal) (fun c => Q (.panic c))) (wp_region_any hm h1) ?_
 intro e a w h
 cases e
 case normal => exact h
 case panic c => exact h
 all_goals exact h.elim
end
end Go.Proofs.YtccehgfecaamoaaGreatDoor
