/- syn: a component without bases. syn: a Lit that is a not. syn: a Lit that is an atom. -/
import Derived.Test.YtccehgfecaamoaaGreatDoorQb15
import Derived.Test.YtccehgfecaamoaaGreatDoorQb13
set_option maxRecDepth 100000
set_option maxHeartbeats 32000000
namespace Go.Proofs.YtccehgfecaamoaaGreatDoor
section
open Go.RowKit Go.Maps
attribute [local go_sem ↓] Qei Qfc

theorem Qux {rb e dp d : Nat} (hd : dp < 32) (hB : ∀ w l it, it ≤ 96 → Rd rb e w l it (dp + 1) → Calls Tryz.prog 25 #[.pointer (some ⟨rb, 0, none⟩), .int .i64 4, str [125]] w fun en w' => Ans rb e (dp + 1) w (fun w2 v x => VPg (fun b => w.heap.size ≤ b) w2 v x) (progD e d false l it) en w')
  {w : World} {t : Tok} {l : List Tok} {it : Nat} (hi : it ≤ 96) (h : Rd rb e w (t :: l) it dp) (hyp : ∀ s l2 i2, wordQ e l it = .ok s l2 i2 → ¬ sgn e l2 = [58]) :
  Calls Tryz.prog 95 #[.pointer (some ⟨rb, 0, none⟩)] w fun en w' => Ans rb e dp w (fun w2 v x => VCo (fun b => w.heap.size ≤ b) w2 v x) (compB e (progD e d false) (t :: l) it) en w' := by
 obtain ⟨w1, hw1⟩ : ∃ w1, w1 = w.alloc coZ := ⟨_, rfl⟩
 have b1 : Below w.heap.size w w1 := bnw hw1
 have q1 : w1.heap[w.heap.size]? = some coZ := nnw hw1
 have s1 : w1.heap.size = w.heap.size + 1 := by rw [hw1]; simp
 have hen := Qgb (h.later b1) hd
 have hrb := h.lt
 obtain ⟨PO, hPO⟩ : ∃ PO : Ending → World → Prop, PO = fun en w' => Ans rb e dp w (fun w2 v x => VCo (fun b => w.heap.size ≤ b) w2 v x) (compB e (progD e d false) (t :: l) it) en w' := ⟨_, rfl⟩
 rw [← hPO]
 have HW1 : Hid (w1 = w.alloc (.cells #[.string ⟨#[]⟩, .slice none 0 0, .slice none 0 0, .slice none 0 0, .slice none 0 0, .slice none 0 0, .slice none 0 0, .int .i64 0] 72)) := hw1
 have HPO := hide hPO
 have HB := hide hB
 have HDP := hide hd
 have HI0 := hide hi
 have hsg : Hid (compB e (progD e d false) (t :: l) it = (wordQ e l it).bind fun n l2 i =>
  (if sgn e l2 = [58] then listP e [44] noMost (nmQ e) (l2.drop 1) i else .ok [] l2 i).bind fun bs l3 i =>
   (want e [123] l3 i).bind fun _ l4 i => (progD e d false l4 i).bind fun p l5 i => (want e [125] l5 i).map fun _ => (n, bs, p, (t.at_ : Int))) := rfl
 generalize compB e (progD e d false) (t :: l) it = sr at HPO hsg
 have K1 := hide (Ya (Kp.of_below (rb := rb) b1) (Ya q1 s1))
 clear h b1 q1 s1 hw1 hPO hB hd hi
 go_enter Tryz.func95, Tryz.ntmps95
 go_wp2_with fail
 rw [← Qa HW1]
 refine hen.mono ?_
 clear hen HW1
 rintro en w2 ⟨rfl, hR2, k2⟩
 have ha : Calls Tryz.prog 110 #[.pointer (some ⟨rb, 0, none⟩)] w2 fun en w' => en = .returned (.agg #[.int .i64 t.kind, str t.text, .int .i64 t.num, .int .i64 (t.at_ : Int)]) ∧ Rd rb e w' l it (dp + 1) ∧ Kp rb w2 w' := Qbu hR2
 have K2 := hide k2
 clear hR2 k2
 go_wp2_with fail
 refine ha.mono ?_
 clear ha
 rintro en w2' ⟨rfl, hR2, k2'⟩
 obtain ⟨k1, q1, s1⟩ := Qa K1
 have k2 := (Qa K2).trans k2'
 have hs2 := k2.size
 obtain ⟨w3, hw3⟩ : ∃ w3, w3 = w2'.alloc (.cells #[.string ⟨#[]⟩, .slice none 0 0, .slice none 0 0, .slice none 0 0, .slice none 0 0, .slice none 0 0, .slice none 0 0, .int .i64 (t.at_ : Int)] 72) := ⟨_, rfl⟩
 have b3 : Below w2'.heap.size w2' w3 := by rw [hw3]; exact (Below.refl _ w2').alloc (Nat.le_refl _) _
 have n3 : w3.heap[w2'.heap.size]? = some (.cells #[.string ⟨#[]⟩, .slice none 0 0, .slice none 0 0, .slice none 0 0, .slice none 0 0, .slice none 0 0, .slice none 0 0, .int .i64 (t.at_ : Int)] 72 (0, 0)) := by rw [hw3]; exact heap_alloc_new w2' _
 have q3 : w3.heap[w.heap.size]? = some coZ := (b3.block _ (by omega)).trans (k2.keep q1 (by omega))
 have s3 : w3.heap.size = w2'.heap.size + 1 := by rw [hw3]; simp
 have hc := Qcp (hR2.later b3)
 have HW3 := hide hw3
 have K3 := hide (Ya ((k1.trans k2).trans (Kp.of_below b3)) (Ya n3 (Ya q3 (Ya (by omega : w.heap.size + 1 ≤ w2'.heap.size) s3))))
 have hS3 := Jcb w2' (t.at_ : Int)
 generalize hxb : w2'.heap.size = xb at K3 hS3
 clear k1 q1 s1 hs2 k2 k2' b3 n3 q3 s3 hw3 K1 K2 hR2
 go_wp2_with fail
 rename_i hK
 refine hK _ _ ?_
 clear hK
 go_wp2_with fail
 clear hS3
 cases hq : wordQ e l it with
 | bad why at1 l2 =>
  rw [hq] at hc hsg
  rw [Qa hsg] at HPO
  clear hq hsg
  go_wp2_with fail
  rw [← Qa HW3]
  refine hc.mono ?_
  clear hc
  rintro en w4 ⟨rfl, k4⟩
  have H4 := hide ((Qa K3).1.trans k4)
  clear k4
  go_wp2_with fail
  refine ⟨rfl, ?_⟩
  rw [Qa HPO]
  exact ⟨rfl, Qa H4⟩
 | ok s l2 i2 =>
  rw [hq] at hc hsg
  rw [Qa hsg, Rs.bind] at HPO
  have hb := hyp s l2 i2 hq
  have HI := hide (show i2 ≤ 96 by rw [Qdz _ _ _ _ _ hq]; exact Qa HI0)
  clear hsg hyp hq
  go_wp2_with fail
  rw [← Qa HW3]
  clear HW3 hxb
  refine hc.mono ?_
  clear hc
  rintro en w4 ⟨_, rfl, rfl, hR4, k4⟩
  obtain ⟨k3, n3, q3, g1, s3⟩ := Qa K3
  have hs4 := k4.size
  have n4 := k4.keep n3 (by omega)
  have q4 := k4.keep q3 (by omega)
  have hne : w.heap.size ≠ xb := by omega
  obtain ⟨c0, c1, c2, c3, c4, c5, c6, c7, cf⟩ := cl8 n4
  obtain ⟨w5, hw5⟩ : ∃ w5, w5 = w4.setCell ⟨xb, 0, none⟩ (str s) := ⟨_, rfl⟩
  have n5 : w5.heap[xb]? = some (.cells #[str s, .slice none 0 0, .slice none 0 0, .slice none 0 0, .slice none 0 0, .slice none 0 0, .slice none 0 0, .int .i64 (t.at_ : Int)] 72 (0, 0)) := by rw [hw5]; exact (Qad n4 0 _).trans rfl
  have q5 : w5.heap[w.heap.size]? = some coZ := by rw [hw5, hpS hne]; exact q4
  have k5 : Kp rb w w5 := by rw [hw5]; exact (k3.trans k4).set2 (by omega)
  have hR5 : Rd rb e w5 l2 i2 (dp + 1) := by rw [hw5]; exact hR4.set2 (by omega)
  have hsk := Qcb hR5 [58] (by decide)
  have HW5 := hide hw5
  have K5 := hide (Ya k5 (Ya n5 (Ya q5 (Ya g1 (Qag n5)))))
  clear k3 n3 q3 g1 s3 hs4 n4 q4 c1 c2 c3 c4 c5 c6 c7 hw5 n5 q5 k5 hR5 K3 hR4 k4
  rw [if_neg hb, decide_eq_false hb] at hsk
  rw [if_neg hb, Rs.bind] at HPO
  clear hb
  go_wp2_with fail
  rw [← Qa HW5]
  clear HW5 c0 cf
  refine hsk.mono ?_
  clear hsk
  rintro en w6 ⟨rfl, hRW, k6⟩
  obtain ⟨k5, n5, q5, g1, g2⟩ := Qa K5
  have nW := k6.keep n5 (by omega)
  have qW := k6.keep q5 (by omega)
  have kW := k5.trans k6
  have LB : LsAt PSt 1 (fun b => w.heap.size < b ∧ b ≠ xb) w6 (.slice none 0 0) [] := LsAt.nil _ _
  generalize hlw : l2 = lw at hRW HPO
  have HIW := HI
  generalize hiw : i2 = iw at hRW HPO HIW
  clear hlw hiw k6 k5 n5 q5 K5
  have hwt := Qch hRW [123] (by decide)
  have KW := hide (Ya kW (Ya nW (Ya qW (Ya LB (Qag nW)))))
  clear kW nW qW LB hRW
  cases hq : want e [123] lw iw with
  | bad why at1 l9 =>
   rw [hq] at hwt HPO
   clear hq
   go_wp2_with fail
   refine hwt.mono ?_
   clear hwt
   rintro en w9 ⟨rfl, k9⟩
   have HQ := hide ((Qa KW).1.trans k9)
   clear k9
   go_wp2_with fail
   refine ⟨rfl, ?_⟩
   rw [Qa HPO]
   exact ⟨rfl, Qa HQ⟩
  | ok u l9 i9 =>
   have HI9 := hide (show i9 ≤ 96 by rw [Qdi _ _ _ _ _ _ hq]; exact Qa HIW)
   rw [hq] at hwt
   rw [hq, Rs.bind] at HPO
   clear hq
   go_wp2_with fail
   refine hwt.mono ?_
   clear hwt
   rintro en w9 ⟨_, rfl, rfl, hR9, k9⟩
   obtain ⟨kW, nW, qW, LB, gW⟩ := Qa KW
   have hpr := Qa HB w9 l9 i9 (Qa HI9) hR9
   have K9 := hide (Ya (kW.trans k9) (Ya (k9.keep nW (by omega)) (Ya (k9.keep qW (by omega)) (Ya (LB.same Qbj k9.size (fun b hb hl => k9.block b hl (by have hb' : w.heap.size < b ∧ b ≠ xb := hb; omega))) (by have := k9.size; omega : xb < w9.heap.size)))))
   clear hR9 k9 kW nW qW LB gW KW
   cases hq : progD e d false l9 i9 with
   | bad why at1 l10 =>
    rw [hq] at hpr HPO
    clear hq
    go_wp2_with fail
    refine hpr.mono ?_
    clear hpr
    rintro en w10 ⟨rfl, k10⟩
    have HQ := hide ((Qa K9).1.trans k10)
    clear k10
    go_wp2_with fail
    refine ⟨rfl, ?_⟩
    rw [Qa HPO]
    exact ⟨rfl, Qa HQ⟩
   | ok pg l10 i10 =>
    rw [hq] at hpr
    rw [hq, Rs.bind] at HPO
    clear hq
    go_wp2_with fail
    refine hpr.mono ?_
    clear hpr
    rintro en w10 ⟨_, rfl, ⟨a0, n0, c0, a1, n1, c1, a2, n2, c2, a3, n3, c3, a4, n4, c4, rfl, hP⟩, hR10, k10⟩
    obtain ⟨k9, n9, q9, LB, g9⟩ := Qa K9
    have n10 := k10.keep n9 (by omega)
    have q10 := k10.keep q9 (by omega)
    have LB10 := LB.same Qbj k10.size (fun b hb hl => k10.block b hl (by have hb' : w.heap.size < b ∧ b ≠ xb := hb; omega))
    obtain ⟨x0, x1, x2, x3, x4, x5, x6, x7, xf⟩ := cl8 n10
    obtain ⟨w11, hw11⟩ : ∃ w11, w11 = (((((w10.setCell ⟨xb, 2, none⟩ (.slice a0 n0 c0)).setCell ⟨xb, 3, none⟩ (.slice a1 n1 c1)).setCell ⟨xb, 4, none⟩ (.slice a2 n2 c2)).setCell ⟨xb, 5, none⟩ (.slice a3 n3 c3)).setCell ⟨xb, 6, none⟩ (.slice a4 n4 c4)) := ⟨_, rfl⟩
    have n11 : w11.heap[xb]? = some (.cells #[str s, .slice none 0 0, .slice a0 n0 c0, .slice a1 n1 c1, .slice a2 n2 c2, .slice a3 n3 c3, .slice a4 n4 c4, .int .i64 (t.at_ : Int)] 72 (0, 0)) := by rw [hw11]; exact (Qad (Qad (Qad (Qad (Qad n10 2 _) 3 _) 4 _) 5 _) 6 _).trans rfl
    have hs11 : ∀ k, k ≠ xb → w11.heap[k]? = w10.heap[k]? := fun k hk => by rw [hw11, hpS hk, hpS hk, hpS hk, hpS hk, hpS hk]
    have s11 : w11.heap.size = w10.heap.size := by rw [hw11]; simp [World.setCell]
    have q11 : w11.heap[w.heap.size]? = some coZ := (hs11 _ hne).trans q10
    have k11 : Kp rb w w11 := by rw [hw11]; exact ((((((k9.trans k10).set2 (by omega)).set2 (by omega)).set2 (by omega)).set2 (by omega)).set2 (by omega))
    have hR11 : Rd rb e w11 l10 i10 (dp + 1) := by rw [hw11]; exact (((((hR10.set2 (by omega)).set2 (by omega)).set2 (by omega)).set2 (by omega)).set2 (by omega))
    have LB11 := LB10.same Qbj (w' := w11) (by omega) (fun b hb _ => hs11 b (by have hb' : w.heap.size < b ∧ b ≠ xb := hb; exact hb'.2))
    have hP11 : PgS (fun b => w.heap.size < b ∧ b ≠ xb) w11 [.slice a0 n0 c0, .slice a1 n1 c1, .slice a2 n2 c2, .slice a3 n3 c3, .slice a4 n4 c4] pg := Qao.mono _ _ _ _ _ (Qao.same _ _ w11 _ _ hP (by omega) (fun b hb _ => hs11 b (by have hb' : w9.heap.size ≤ b := hb; omega))) (fun b _ hb => by have hb' : w9.heap.size ≤ b := hb; exact ⟨by omega, by omega⟩)
    have hw2 := Qch hR11 [125] (by decide)
    have HW11 := hide hw11
    have K11 := hide (Ya k11 (Ya n11 (Ya q11 (Ya LB11 (Ya hP11 (Qag n11))))))
    clear hP hR10 k10 k9 n9 q9 LB g9 n10 q10 LB10 hw11 n11 hs11 s11 q11 k11 hR11 LB11 hP11 x0 x1 x7 K9
    cases hq : want e [125] l10 i10 with
    | bad why at1 l12 =>
     rw [hq] at hw2 HPO
     clear hq
     go_wp2_with fail
     rw [← Qa HW11]
     refine hw2.mono ?_
     clear hw2
     rintro en w12 ⟨rfl, k12⟩
     have HQ := hide ((Qa K11).1.trans k12)
     clear k12
     go_wp2_with fail
     refine ⟨rfl, ?_⟩
     rw [Qa HPO]
     exact ⟨rfl, Qa HQ⟩
    | ok u2 l12 i12 =>
     rw [hq] at hw2 HPO
     clear hq
     go_wp2_with fail
     rw [← Qa HW11]
     clear HW11 x2 x3 x4 x5 x6 xf
     refine hw2.mono ?_
     clear hw2
     rintro en w12 ⟨_, rfl, rfl, hR12, k12⟩
     have hlv := Qdl hR12 (Qa HDP)
     have K12 := hide k12
     clear hR12 k12
     go_wp2_with fail
     refine hlv.mono ?_
     clear hlv
     rintro en w13 ⟨rfl, hR13, k13'⟩
     obtain ⟨k11, n11, q11, LB11, hP11, g11⟩ := Qa K11
     have k13 := (Qa K12).trans k13'
     have hX : PCo (fun b => w.heap.size < b ∧ b ≠ xb) w13 [str s, .slice none 0 0, .slice a0 n0 c0, .slice a1 n1 c1, .slice a2 n2 c2, .slice a3 n3 c3, .slice a4 n4 c4, .int .i64 (t.at_ : Int)] (s, [], pg, (t.at_ : Int)) := ⟨.slice none 0 0, [.slice a0 n0 c0, .slice a1 n1 c1, .slice a2 n2 c2, .slice a3 n3 c3, .slice a4 n4 c4], rfl, rfl, LB11.same Qbj k13.size (fun b hb hl => k13.block b hl (by have hb' : w.heap.size < b ∧ b ≠ xb := hb; omega)), Qao.same _ _ w13 _ _ hP11 k13.size (fun b hb hl => k13.block b hl (by have hb' : w.heap.size < b ∧ b ≠ xb := hb; omega))⟩
     obtain ⟨w14, hL8, hS8, n14, HF'⟩ := Jca (k13.keep n11 (by omega)) (k13.keep q11 (by omega)) hX (fun b hb => by have hb' : w.heap.size < b ∧ b ≠ xb := hb; exact ⟨by omega, by omega⟩) hR13 (k11.trans k13) hrb
     obtain ⟨y0, y1, y2, y3, y4, y5, y6, y7, yf⟩ := cl8 n14
     have HF := hide HF'
     clear HF' n14 hX hR13 k13' k11 n11 q11 LB11 hP11 g11 k13 K11 K12
     go_wp2_with fail
     refine bodyPost_ret (v := .agg #[str s, .slice none 0 0, .slice a0 n0 c0, .slice a1 n1 c1, .slice a2 n2 c2, .slice a3 n3 c3, .slice a4 n4 c4, .int .i64 (t.at_ : Int)]) (by simp [results, Tryz.results95, go_sem, y0, y1, y2, y3, y4, y5, y6, y7]) rfl ?_
     rw [Qa HPO]
     exact ⟨_, rfl, ⟨_, _, _, _, _, _, _, _, _, _, _, _, _, _, _, _, _, _, rfl, (Qa HF).1⟩, (Qa HF).2⟩
end
section
open Go.RowKit Go.Maps
attribute [local go_sem ↓] Qdf Qed
theorem lit_not {rb e dp d : Nat} (hd : dp + d = 32) {w : World} {l : List Tok} {it : Nat} (h : Rd rb e w l it dp) (hb : sgn e l = [33]) :
  Calls Tryz.prog 126 #[.pointer (some ⟨rb, 0, none⟩)] w fun en w' => Ans rb e dp w (fun w2 v x => ∃ c0 c1 c2 c3 c4 c5 c6 c7 c8 c9 c10 c11 c12 c13 c14 c15, v = .agg #[c0, c1, c2, c3, c4, c5, c6, c7, c8, c9, c10, c11, c12, c13, c14, c15] ∧ PLt (fun b => w.heap.size ≤ b) w2 [c0, c1, c2, c3, c4, c5, c6, c7, c8, c9, c10, c11, c12, c13, c14, c15] x) (litP e d l it) en w' := by
 obtain ⟨w1, hw1⟩ : ∃ w1, w1 = w.alloc ltZ := ⟨_, rfl⟩
 have b1 : Below w.heap.size w w1 := bnw hw1
 have q1 : w1.heap[w.heap.size]? = some ltZ := nnw hw1
 have s1 : w1.heap.size = w.heap.size + 1 := by rw [hw1]; simp
 have ha := Qau (h.later b1) 0
 unfold tokV at ha
 have hrb := h.lt
 obtain ⟨PO, hPO⟩ : ∃ PO : Ending → World → Prop, PO = fun en w' => Ans rb e dp w (fun w2 v x => ∃ c0 c1 c2 c3 c4 c5 c6 c7 c8 c9 c10 c11 c12 c13 c14 c15, v = .agg #[c0, c1, c2, c3, c4, c5, c6, c7, c8, c9, c10, c11, c12, c13, c14, c15] ∧ PLt (fun b => w.heap.size ≤ b) w2 [c0, c1, c2, c3, c4, c5, c6, c7, c8, c9, c10, c11, c12, c13, c14, c15] x) (litP e d l it) en w' := ⟨_, rfl⟩
 rw [← hPO]
 have HW1 : Hid (w1 = w.alloc (.cells #[.int .i64 0, .string ⟨#[]⟩, .slice none 0 0, .int .i64 0, .string ⟨#[]⟩, .int .i64 0, .int .i64 0, .string ⟨#[]⟩, .slice none 0 0, .int .i64 0, .int .i64 0, .int .i64 0, .string ⟨#[]⟩, .slice none 0 0, .int .i64 0, .int .i64 0] 69)) := hw1
 have HH := hide (Ya h (Ya b1 (Ya q1 s1)))
 have HPO := hide hPO
 have HD := hide hd
 obtain ⟨t, ht⟩ : ∃ t, t = ahd e 0 l := ⟨_, rfl⟩
 rw [← ht] at ha
 have hsg : Hid (litP e d l it = if sgn e l = [33] then (atomP e d (l.drop 1) it).map fun a => ⟨2, a, [], .none, .none, t.at_⟩
  else if callN e l = true then (atomP e d l it).map fun a => ⟨1, a, [], .none, .none, t.at_⟩
  else ((exD e d).1 l it).bind fun x l2 i => (choose e [[61], [33, 61], [60], [60, 61], [62], [62, 61]] l2 i).bind fun o l3 i => ((exD e d).1 l3 i).map fun y => ⟨3, .none, o, x, y, t.at_⟩) := by rw [ht]; rfl
 generalize litP e d l it = sr at HPO hsg
 clear h b1 q1 s1 hw1 hPO ht hd
 go_enter Tryz.func126, Tryz.ntmps126
 go_wp2_with fail
 rw [← Qa HW1]
 refine ha.mono ?_
 clear ha
 rintro en w2 ⟨rfl, b2⟩
 obtain ⟨h, b1, q1, s1⟩ := Qa HH
 have hs2 := b2.size
 obtain ⟨w3, hw3⟩ : ∃ w3, w3 = w2.alloc (.cells #[.int .i64 0, .string ⟨#[]⟩, .slice none 0 0, .int .i64 0, .string ⟨#[]⟩, .int .i64 0, .int .i64 0, .string ⟨#[]⟩, .slice none 0 0, .int .i64 0, .int .i64 0, .int .i64 0, .string ⟨#[]⟩, .slice none 0 0, .int .i64 0, .int .i64 (t.at_ : Int)] 69) := ⟨_, rfl⟩
 have b3 : Below w.heap.size w w3 := by rw [hw3]; exact (b1.trans (b2.mono (by omega))).alloc (by omega) _
 have n3 : w3.heap[w2.heap.size]? = some (.cells #[.int .i64 0, .string ⟨#[]⟩, .slice none 0 0, .int .i64 0, .string ⟨#[]⟩, .int .i64 0, .int .i64 0, .string ⟨#[]⟩, .slice none 0 0, .int .i64 0, .int .i64 0, .int .i64 0, .string ⟨#[]⟩, .slice none 0 0, .int .i64 0, .int .i64 (t.at_ : Int)] 69 (0, 0)) := nnw hw3
 have q3 : w3.heap[w.heap.size]? = some ltZ := by rw [hw3, Below.heap_alloc _ _ _ (by omega)]; exact (b2.block _ (by omega)).trans q1
 have hc := Qcb (h.later b3) [33] (by decide)
 have HW3 := hide hw3
 have K3 := hide (Ya (Kp.of_below (rb := rb) b3) (Ya n3 (Ya q3 (by omega : w.heap.size + 1 ≤ w2.heap.size))))
 generalize hxb : w2.heap.size = xb at K3
 have hS3 := Qxf w2 (t.at_ : Int)
 rw [hxb] at hS3
 clear h b1 q1 s1 hs2 b2 b3 n3 q3 hw3 HH
 go_wp2_with fail
 rename_i hK
 refine hK _ _ ?_
 clear hK
 go_wp2_with fail
 clear hS3
 rw [if_pos hb, decide_eq_true hb] at hc
 rw [Qa hsg, if_pos hb] at HPO
 clear hsg hb
 go_wp2_with fail
 rw [← Qa HW3]
 clear HW3 hxb
 refine hc.mono ?_
 clear hc
 rintro en w4 ⟨rfl, hRB, k4⟩
 obtain ⟨k3, n3, q3, g1⟩ := Qa K3
 have nB := k4.keep n3 (by omega)
 have qB := k4.keep q3 (by omega)
 have kB := k3.trans k4
 have hne : w.heap.size ≠ xb := by omega
 clear k3 n3 q3 k4 K3
 obtain ⟨w5, hww5⟩ : ∃ w5, w5 = (w4.setCell ⟨xb, 0, none⟩ (.int .i64 2)) := ⟨_, rfl⟩
 have n5 : w5.heap[xb]? = some (.cells #[.int .i64 2, .string ⟨#[]⟩, .slice none 0 0, .int .i64 0, .string ⟨#[]⟩, .int .i64 0, .int .i64 0, .string ⟨#[]⟩, .slice none 0 0, .int .i64 0, .int .i64 0, .int .i64 0, .string ⟨#[]⟩, .slice none 0 0, .int .i64 0, .int .i64 (t.at_ : Int)] 69 (0, 0)) := by rw [hww5]; exact (Qad nB 0 _).trans rfl
 have q5 : w5.heap[w.heap.size]? = some ltZ := by rw [hww5, hpS hne]; exact qB
 have k5 : Kp rb w w5 := by rw [hww5]; exact kB.set2 (by omega)
 have hR5 : Rd rb e w5 (l.drop 1) it dp := by rw [hww5]; exact hRB.set2 (by omega)
 obtain ⟨c0, c1, c2, c3, c4, c5, c6, c7, c8, c9, c10, c11, c12, c13, c14, c15, cf⟩ := cl16 nB
 have hat := Qkl (Qa HD) hR5
 have HW5 := hide hww5
 have K5 := hide (Ya k5 (Ya n5 (Ya q5 (Ya g1 (Qag n5)))))
 clear hww5 n5 q5 k5 hR5 nB qB kB hRB g1 c1 c2 c3 c4 c5 c6 c7 c8 c9 c10 c11 c12 c13 c14 c15
 cases hq : atomP e d (l.drop 1) it with
 | bad why at1 l4 =>
  rw [hq] at hat HPO
  clear hq
  go_wp2_with fail
  rw [← Qa HW5]
  refine hat.mono ?_
  clear hat
  rintro en w7 ⟨rfl, k7⟩
  have H7 := hide ((Qa K5).1.trans k7)
  clear k7
  go_wp2_with fail
  refine ⟨rfl, ?_⟩
  rw [Qa HPO]
  exact ⟨rfl, Qa H7⟩
 | ok am l4 i4 =>
  rw [hq] at hat HPO
  clear hq
  go_wp2_with fail
  rw [← Qa HW5]
  clear HW5 c0 cf
  refine hat.mono ?_
  clear hat
  rintro en w7 ⟨_, rfl, ⟨aa, an, ac, rfl, hL⟩, hR7, k7⟩
  obtain ⟨k5, n5, q5, g1, g2⟩ := Qa K5
  have n7 := k7.keep n5 (by omega)
  have q7 := k7.keep q5 (by omega)
  obtain ⟨x0, x1, x2, x3, x4, x5, x6, x7, x8, x9, x10, x11, x12, x13, x14, x15, xf⟩ := cl16 n7
  obtain ⟨w8, hw8⟩ : ∃ w8, w8 = (((w7.setCell ⟨xb, 1, none⟩ (str am.rel)).setCell ⟨xb, 2, none⟩ (.slice aa an ac)).setCell ⟨xb, 3, none⟩ (.int .i64 am.at_)) := ⟨_, rfl⟩
  have n8 : w8.heap[xb]? = some (.cells #[.int .i64 2, str am.rel, .slice aa an ac, .int .i64 am.at_, .string ⟨#[]⟩, .int .i64 0, .int .i64 0, .string ⟨#[]⟩, .slice none 0 0, .int .i64 0, .int .i64 0, .int .i64 0, .string ⟨#[]⟩, .slice none 0 0, .int .i64 0, .int .i64 (t.at_ : Int)] 69 (0, 0)) := by rw [hw8]; exact (Qad (Qad (Qad n7 1 _) 2 _) 3 _).trans rfl
  have hs8 : ∀ k, k ≠ xb → w8.heap[k]? = w7.heap[k]? := fun k hk => by rw [hw8, hpS hk, hpS hk, hpS hk]
  have q8 : w8.heap[w.heap.size]? = some ltZ := (hs8 _ hne).trans q7
  have k8 : Kp rb w w8 := by rw [hw8]; exact ((((k5.trans k7).set2 (by omega)).set2 (by omega)).set2 (by omega))
  have hR8 : Rd rb e w8 l4 i4 dp := by rw [hw8]; exact (((hR7.set2 (by omega)).set2 (by omega)).set2 (by omega))
  have hX8 : PLt (fun b => w5.heap.size ≤ b) w8 [.int .i64 2, str am.rel, .slice aa an ac, .int .i64 am.at_, .string ⟨#[]⟩, .int .i64 0, .int .i64 0, .string ⟨#[]⟩, .slice none 0 0, .int .i64 0, .int .i64 0, .int .i64 0, .string ⟨#[]⟩, .slice none 0 0, .int .i64 0, .int .i64 (t.at_ : Int)] ⟨2, am, [], .none, .none, t.at_⟩ :=
   ⟨aa, an, ac, none, 0, 0, none, 0, 0, rfl, hL.same Qae (by rw [hw8]; simp [World.setCell]) (fun b hb _ => hs8 b (by have hb' : w5.heap.size ≤ b := hb; omega)), Qhl _ _, Qhl _ _⟩
  obtain ⟨w9, hL8, hS8, n9, HF'⟩ := Qxe n8 q8 hX8 (fun b hb => by have hb' : w5.heap.size ≤ b := hb; exact ⟨by omega, by omega⟩) hR8 k8 hrb
  obtain ⟨y0, y1, y2, y3, y4, y5, y6, y7, y8, y9, y10, y11, y12, y13, y14, y15, yf⟩ := cl16 n9
  have HF := hide HF'
  clear HF' n9 hR7 k7 k5 n5 q5 g1 g2 n7 q7 n8 q8 k8 hR8 hX8 hL hne hs8 x0 x4 x5 x6 x7 x8 x9 x10 x11 x12 x13 x14 x15
  subst hw8
  go_wp2_with fail
  refine bodyPost_ret (v := .agg #[.int .i64 2, str am.rel, .slice aa an ac, .int .i64 am.at_, .string ⟨#[]⟩, .int .i64 0, .int .i64 0, .string ⟨#[]⟩, .slice none 0 0, .int .i64 0, .int .i64 0, .int .i64 0, .string ⟨#[]⟩, .slice none 0 0, .int .i64 0, .int .i64 (t.at_ : Int)]) (by simp [results, Tryz.results126, go_sem, y0, y1, y2, y3, y4, y5, y6, y7, y8, y9, y10, y11, y12, y13, y14, y15]) rfl ?_
  rw [Qa HPO]
  exact ⟨_, rfl, ⟨_, _, _, _, _, _, _, _, _, _, _, _, _, _, _, _, rfl, (Qa HF).1⟩, (Qa HF).2⟩
end
section
open Go.RowKit Go.Maps
attribute [local go_sem ↓] Qdf Qed
theorem Jap {rb e dp d : Nat} (hd : dp + d = 32) {w : World} {l : List Tok} {it : Nat} (h : Rd rb e w l it dp) (hb : ¬ sgn e l = [33]) (hcl : callN e l = true) :
  Calls Tryz.prog 126 #[.pointer (some ⟨rb, 0, none⟩)] w fun en w' => Ans rb e dp w (fun w2 v x => ∃ c0 c1 c2 c3 c4 c5 c6 c7 c8 c9 c10 c11 c12 c13 c14 c15, v = .agg #[c0, c1, c2, c3, c4, c5, c6, c7, c8, c9, c10, c11, c12, c13, c14, c15] ∧ PLt (fun b => w.heap.size ≤ b) w2 [c0, c1, c2, c3, c4, c5, c6, c7, c8, c9, c10, c11, c12, c13, c14, c15] x) (litP e d l it) en w' := by
 obtain ⟨w1, hw1⟩ : ∃ w1, w1 = w.alloc ltZ := ⟨_, rfl⟩
 have b1 : Below w.heap.size w w1 := bnw hw1
 have q1 : w1.heap[w.heap.size]? = some ltZ := nnw hw1
 have s1 : w1.heap.size = w.heap.size + 1 := by rw [hw1]; simp
 have ha := Qau (h.later b1) 0
 unfold tokV at ha
 have hrb := h.lt
 obtain ⟨PO, hPO⟩ : ∃ PO : Ending → World → Prop, PO = fun en w' => Ans rb e dp w (fun w2 v x => ∃ c0 c1 c2 c3 c4 c5 c6 c7 c8 c9 c10 c11 c12 c13 c14 c15, v = .agg #[c0, c1, c2, c3, c4, c5, c6, c7, c8, c9, c10, c11, c12, c13, c14, c15] ∧ PLt (fun b => w.heap.size ≤ b) w2 [c0, c1, c2, c3, c4, c5, c6, c7, c8, c9, c10, c11, c12, c13, c14, c15] x) (litP e d l it) en w' := ⟨_, rfl⟩
 rw [← hPO]
 have HW1 : Hid (w1 = w.alloc (.cells #[.int .i64 0, .string ⟨#[]⟩, .slice none 0 0, .int .i64 0, .string ⟨#[]⟩, .int .i64 0, .int .i64 0, .string ⟨#[]⟩, .slice none 0 0, .int .i64 0, .int .i64 0, .int .i64 0, .string ⟨#[]⟩, .slice none 0 0, .int .i64 0, .int .i64 0] 69)) := hw1
 have HH := hide (Ya h (Ya b1 (Ya q1 s1)))
 have HPO := hide hPO
 have HD := hide hd
 obtain ⟨t, ht⟩ : ∃ t, t = ahd e 0 l := ⟨_, rfl⟩
 rw [← ht] at ha
 have hsg : Hid (litP e d l it = if sgn e l = [33] then (atomP e d (l.drop 1) it).map fun a => ⟨2, a, [], .none, .none, t.at_⟩
  else if callN e l = true then (atomP e d l it).map fun a => ⟨1, a, [], .none, .none, t.at_⟩
  else ((exD e d).1 l it).bind fun x l2 i => (choose e [[61], [33, 61], [60], [60, 61], [62], [62, 61]] l2 i).bind fun o l3 i => ((exD e d).1 l3 i).map fun y => ⟨3, .none, o, x, y, t.at_⟩) := by rw [ht]; rfl
 generalize litP e d l it = sr at HPO hsg
 clear h b1 q1 s1 hw1 hPO ht hd
 go_enter Tryz.func126, Tryz.ntmps126
 go_wp2_with fail
 rw [← Qa HW1]
 refine ha.mono ?_
 clear ha
 rintro en w2 ⟨rfl, b2⟩
 obtain ⟨h, b1, q1, s1⟩ := Qa HH
 have hs2 := b2.size
 obtain ⟨w3, hw3⟩ : ∃ w3, w3 = w2.alloc (.cells #[.int .i64 0, .string ⟨#[]⟩, .slice none 0 0, .int .i64 0, .string ⟨#[]⟩, .int .i64 0, .int .i64 0, .string ⟨#[]⟩, .slice none 0 0, .int .i64 0, .int .i64 0, .int .i64 0, .string ⟨#[]⟩, .slice none 0 0, .int .i64 0, .int .i64 (t.at_ : Int)] 69) := ⟨_, rfl⟩
 have b3 : Below w.heap.size w w3 := by rw [hw3]; exact (b1.trans (b2.mono (by omega))).alloc (by omega) _
 have n3 : w3.heap[w2.heap.size]? = some (.cells #[.int .i64 0, .string ⟨#[]⟩, .slice none 0 0, .int .i64 0, .string ⟨#[]⟩, .int .i64 0, .int .i64 0, .string ⟨#[]⟩, .slice none 0 0, .int .i64 0, .int .i64 0, .int .i64 0, .string ⟨#[]⟩, .slice none 0 0, .int .i64 0, .int .i64 (t.at_ : Int)] 69 (0, 0)) := nnw hw3
 have q3 : w3.heap[w.heap.size]? = some ltZ := by rw [hw3, Below.heap_alloc _ _ _ (by omega)]; exact (b2.block _ (by omega)).trans q1
 have hc := Qcb (h.later b3) [33] (by decide)
 have HW3 := hide hw3
 have K3 := hide (Ya (Kp.of_below (rb := rb) b3) (Ya n3 (Ya q3 (by omega : w.heap.size + 1 ≤ w2.heap.size))))
 generalize hxb : w2.heap.size = xb at K3
 have hS3 := Qxf w2 (t.at_ : Int)
 rw [hxb] at hS3
 clear h b1 q1 s1 hs2 b2 b3 n3 q3 hw3 HH
 go_wp2_with fail
 rename_i hK
 refine hK _ _ ?_
 clear hK
 go_wp2_with fail
 clear hS3
 rw [if_neg hb, decide_eq_false hb] at hc
 rw [Qa hsg, if_neg hb] at HPO
 clear hsg hb
 go_wp2_with fail
 rw [← Qa HW3]
 clear HW3 hxb
 refine hc.mono ?_
 clear hc
 rintro en w4 ⟨rfl, hR4, k4⟩
 obtain ⟨k3, n3, q3, g1⟩ := Qa K3
 have n4 := k4.keep n3 (by omega)
 have q4 := k4.keep q3 (by omega)
 have k04 := k3.trans k4
 have hne : w.heap.size ≠ xb := by omega
 have hcn := Qf hR4
 have K4 := hide (Ya k04 (Ya n4 (Ya q4 (Ya g1 hR4))))
 clear k3 n3 q3 k4 K3 n4 q4 k04 g1 hR4
 rw [hcl] at hcn
 rw [if_pos hcl] at HPO
 clear hcl
 go_wp2_with fail
 refine hcn.mono ?_
 clear hcn
 rintro en w4' ⟨rfl, b4⟩
 obtain ⟨k04, n4, q4, g1, hR4⟩ := Qa K4
 have nB := (b4.block _ (Qag n4)).trans n4
 have qB := (b4.block _ (Qag q4)).trans q4
 have kB := k04.trans (Kp.of_below b4)
 have hRB := hR4.later b4
 clear k04 n4 q4 hR4 b4 K4
 obtain ⟨w5, hww5⟩ : ∃ w5, w5 = (w4'.setCell ⟨xb, 0, none⟩ (.int .i64 1)) := ⟨_, rfl⟩
 have n5 : w5.heap[xb]? = some (.cells #[.int .i64 1, .string ⟨#[]⟩, .slice none 0 0, .int .i64 0, .string ⟨#[]⟩, .int .i64 0, .int .i64 0, .string ⟨#[]⟩, .slice none 0 0, .int .i64 0, .int .i64 0, .int .i64 0, .string ⟨#[]⟩, .slice none 0 0, .int .i64 0, .int .i64 (t.at_ : Int)] 69 (0, 0)) := by rw [hww5]; exact (Qad nB 0 _).trans rfl
 have q5 : w5.heap[w.heap.size]? = some ltZ := by rw [hww5, hpS hne]; exact qB
 have k5 : Kp rb w w5 := by rw [hww5]; exact kB.set2 (by omega)
 have hR5 : Rd rb e w5 (l) it dp := by rw [hww5]; exact hRB.set2 (by omega)
 obtain ⟨c0, c1, c2, c3, c4, c5, c6, c7, c8, c9, c10, c11, c12, c13, c14, c15, cf⟩ := cl16 nB
 have hat := Qkl (Qa HD) hR5
 have HW5 := hide hww5
 have K5 := hide (Ya k5 (Ya n5 (Ya q5 (Ya g1 (Qag n5)))))
 clear hww5 n5 q5 k5 hR5 nB qB kB hRB g1 c1 c2 c3 c4 c5 c6 c7 c8 c9 c10 c11 c12 c13 c14 c15
 cases hq : atomP e d (l) it with
 | bad why at1 l4 =>
  rw [hq] at hat HPO
  clear hq
  go_wp2_with fail
  rw [← Qa HW5]
  refine hat.mono ?_
  clear hat
  rintro en w7 ⟨rfl, k7⟩
  have H7 := hide ((Qa K5).1.trans k7)
  clear k7
  go_wp2_with fail
  refine ⟨rfl, ?_⟩
  rw [Qa HPO]
  exact ⟨rfl, Qa H7⟩
 | ok am l4 i4 =>
  rw [hq] at hat HPO
  clear hq
  go_wp2_with fail
  rw [← Qa HW5]
  clear HW5 c0 cf
  refine hat.mono ?_
  clear hat
  rintro en w7 ⟨_, rfl, ⟨aa, an, ac, rfl, hL⟩, hR7, k7⟩
  obtain ⟨k5, n5, q5, g1, g2⟩ := Qa K5
  have n7 := k7.keep n5 (by omega)
  have q7 := k7.keep q5 (by omega)
  obtain ⟨x0, x1, x2, x3, x4, x5, x6, x7, x8, x9, x10, x11, x12, x13, x14, x15, xf⟩ := cl16 n7
  obtain ⟨w8, hw8⟩ : ∃ w8, w8 = (((w7.setCell ⟨xb, 1, none⟩ (str am.rel)).setCell ⟨xb, 2, none⟩ (.slice aa an ac)).setCell ⟨xb, 3, none⟩ (.int .i64 am.at_)) := ⟨_, rfl⟩
  have n8 : w8.heap[xb]? = some (.cells #[.int .i64 1, str am.rel, .slice aa an ac, .int .i64 am.at_, .string ⟨#[]⟩, .int .i64 0, .int .i64 0, .string ⟨#[]⟩, .slice none 0 0, .int .i64 0, .int .i64 0, .int .i64 0, .string ⟨#[]⟩, .slice none 0 0, .int .i64 0, .int .i64 (t.at_ : Int)] 69 (0, 0)) := by rw [hw8]; exact (Qad (Qad (Qad n7 1 _) 2 _) 3 _).trans rfl
  have hs8 : ∀ k, k ≠ xb → w8.heap[k]? = w7.heap[k]? := fun k hk => by rw [hw8, hpS hk, hpS hk, hpS hk]
  have q8 : w8.heap[w.heap.size]? = some ltZ := (hs8 _ hne).trans q7
  have k8 : Kp rb w w8 := by rw [hw8]; exact ((((k5.trans k7).set2 (by omega)).set2 (by omega)).set2 (by omega))
  have hR8 : Rd rb e w8 l4 i4 dp := by rw [hw8]; exact (((hR7.set2 (by omega)).set2 (by omega)).set2 (by omega))
  have hX8 : PLt (fun b => w5.heap.size ≤ b) w8 [.int .i64 1, str am.rel, .slice aa an ac, .int .i64 am.at_, .string ⟨#[]⟩, .int .i64 0, .int .i64 0, .string ⟨#[]⟩, .slice none 0 0, .int .i64 0, .int .i64 0, .int .i64 0, .string ⟨#[]⟩, .slice none 0 0, .int .i64 0, .int .i64 (t.at_ : Int)] ⟨1, am, [], .none, .none, t.at_⟩ :=
   ⟨aa, an, ac, none, 0, 0, none, 0, 0, rfl, hL.same Qae (by rw [hw8]; simp [World.setCell]) (fun b hb _ => hs8 b (by have hb' : w5.heap.size ≤ b := hb; omega)), Qhl _ _, Qhl _ _⟩
  obtain ⟨w9, hL8, hS8, n9, HF'⟩ := Qxe n8 q8 hX8 (fun b hb => by have hb' : w5.heap.size ≤ b := hb; exact ⟨by omega, by omega⟩) hR8 k8 hrb
  obtain ⟨y0, y1, y2, y3, y4, y5, y6, y7, y8, y9, y10, y11, y12, y13, y14, y15, yf⟩ := cl16 n9
  have HF := hide HF'
  clear HF' n9 hR7 k7 k5 n5 q5 g1 g2 n7 q7 n8 q8 k8 hR8 hX8 hL hne hs8 x0 x4 x5 x6 x7 x8 x9 x10 x11 x12 x13 x14 x15
  subst hw8
  go_wp2_with fail
  refine bodyPost_ret (v := .agg #[.int .i64 1, str am.rel, .slice aa an ac, .int .i64 am.at_, .string ⟨#[]⟩, .int .i64 0, .int .i64 0, .string ⟨#[]⟩, .slice none 0 0, .int .i64 0, .int .i64 0, .int .i64 0, .string ⟨#[]⟩, .slice none 0 0, .int .i64 0, .int .i64 (t.at_ : Int)]) (by simp [results, Tryz.results126, go_sem, y0, y1, y2, y3, y4, y5, y6, y7, y8, y9, y10, y11, y12, y13, y14, y15]) rfl ?_
  rw [Qa HPO]
  exact ⟨_, rfl, ⟨_, _, _, _, _, _, _, _, _, _, _, _, _, _, _, _, rfl, (Qa HF).1⟩, (Qa HF).2⟩
end
end Go.Proofs.YtccehgfecaamoaaGreatDoor
