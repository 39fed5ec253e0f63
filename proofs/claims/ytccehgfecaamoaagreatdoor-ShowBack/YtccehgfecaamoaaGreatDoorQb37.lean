/- The document's decls, places aside. -/
import Derived.Test.YtccehgfecaamoaaGreatDoorQb35
set_option maxRecDepth 100000
set_option maxHeartbeats 32000000
namespace Go.Proofs.YtccehgfecaamoaaGreatDoor
section
open Go.RowKit Go.Maps
abbrev mLErd0 : List (Nat × Bool) := [(0, true), (1, true), (2, true), (3, true), (4, true), (5, true), (6, true), (7, true), (8, true), (9, true), (10, true), (11, true), (12, true), (13, true), (14, true), (15, true), (16, true), (17, true), (18, true), (19, true), (20, true), (21, true), (22, true), (23, true), (24, true), (25, true), (26, true), (27, true), (28, true), (29, true), (30, true), (31, true), (32, true), (33, true), (34, true), (35, true), (36, true), (37, true), (38, true), (39, true), (40, true), (41, true), (42, true), (43, true), (44, true), (45, true), (46, true), (47, true), (48, true), (49, false), (50, true), (51, true), (52, true), (53, true), (54, true), (55, true), (56, true), (57, true), (58, true), (59, true), (60, true), (61, true), (62, true), (63, false), (64, true), (65, true)]

theorem Qtn {S : Nat → Prop} {w : World} {va vb : Value} {xs ys : List Dcl} (ha : LsAt PDc 5 S w va xs) (hb : LsAt PDc 5 S w vb ys) :
  Calls Tryz.prog 18 #[va, vb, .bool false] w fun en w' => en = .returned (.bool (eqL eqDc xs ys)) ∧ Below w.heap.size w w' := by
 obtain ⟨a1, p1, e1⟩ := ha.sl
 obtain ⟨a2, p2, e2⟩ := hb.sl
 have hm1 : xs.length ≤ p1 ∧ p1 ≤ maxLen := by
  obtain ⟨_, _, _, e, h1, h2, _⟩ := ha
  rw [e] at e1
  cases e1
  exact ⟨h1, h2⟩
 have hm2 : ys.length ≤ p2 ∧ p2 ≤ maxLen := by
  obtain ⟨_, _, _, e, h1, h2, _⟩ := hb
  rw [e] at e2
  cases e2
  exact ⟨h1, h2⟩
 unfold maxLen at hm1 hm2
 obtain ⟨n1, hn1⟩ : ∃ n, xs.length = n := ⟨_, rfl⟩
 obtain ⟨n2, hn2⟩ : ∃ n, ys.length = n := ⟨_, rfl⟩
 rw [hn1] at e1 hm1
 rw [hn2] at e2 hm2
 obtain ⟨hc1, hc2⟩ := hm1
 obtain ⟨hc3, hc4⟩ := hm2
 have HA := hide (Ya ha (Ya hb (Ya hn1 hn2)))
 have HV := hide (Ya e1 e2)
 rw [e1, e2]
 clear ha hb e1 e2 hn1 hn2
 by_cases hlen : n1 = n2
 ·
  subst hlen
  go_enter Tryz.func18, Tryz.ntmps18
  go_wp2_with fail
  go_loopw [7] (fun i wr => ∃ j : Nat, i = .int .i64 (j : Int) ∧ j ≤ n1 ∧ Hid (Below w.heap.size w wr ∧ ∀ q x y, q < j → xs[q]? = some x → ys[q]? = some y → eqDc x y = true)) (fun i _ => n1 - (intOf i).toNat)
  case atStart => exact ⟨0, rfl, Nat.zero_le _, hide ⟨Below.refl _ _, fun q _ _ hq => absurd hq (Nat.not_lt_zero _)⟩⟩
  obtain ⟨j, rfl, hj, HB⟩ := hrel
  by_cases hlt : j < n1
  ·
   obtain ⟨ha, hb, hn1, hn2⟩ := Qa HA
   obtain ⟨bw, hall⟩ := Qa HB
   obtain ⟨x, hx⟩ : ∃ x, xs[j]? = some x := ⟨xs[j]'(by omega), List.getElem?_eq_getElem _⟩
   obtain ⟨y, hy⟩ : ∃ y, ys[j]? = some y := ⟨ys[j]'(by omega), List.getElem?_eq_getElem _⟩
   obtain ⟨b1, q1, cs1, ev1, hb1, _, hl1, hp1, hc1'⟩ := (ha.later Qbp bw).elem hx
   obtain ⟨b2, q2, cs2, ev2, hb2, _, hl2, hp2, hc2'⟩ := (hb.later Qbp bw).elem hy
   obtain ⟨xa, xn, xc, rfl, hkx⟩ := hp1
   obtain ⟨ya, yn, yc, rfl, hky⟩ := hp2
   have HX := hide (Ya hkx hky)
   clear hkx hky
   rw [(Qa HV).1, hn1] at ev1
   rw [(Qa HV).2, hn2] at ev2
   simp only [Value.slice.injEq] at ev1 ev2
   obtain ⟨rfl, -, -⟩ := ev1
   obtain ⟨rfl, -, -⟩ := ev2
   have HC : Hid (∀ w', Below wr.heap.size wr w' → (∀ q c, ([str x.name, .slice xa xn xc, .bool x.input, .bool x.output, .int .i64 x.at_] : List Value)[q]? = some c → w'.cell? ⟨b1, j * 5 + q, none⟩ = some c) ∧ (∀ q c, ([str y.name, .slice ya yn yc, .bool y.input, .bool y.output, .int .i64 y.at_] : List Value)[q]? = some c → w'.cell? ⟨b2, j * 5 + q, none⟩ = some c)) := fun w' bb => ⟨fun q c hq => by rw [bb.cell (p := ⟨b1, _, none⟩) hb1]; exact hc1' q c hq, fun q c hq => by rw [bb.cell (p := ⟨b2, _, none⟩) hb2]; exact hc2' q c hq⟩
   clear ha hb hc1' hc2' hl1 hl2 hn1 hn2 HA HV hb1 hb2 HB
   by_cases e0 : x.name = y.name
   ·
    have g0 : (x.name == y.name) = true := by simpa using e0
    by_cases e1 : x.input = y.input
    ·
     have g1 : (x.input == y.input) = true := by simpa using e1
     by_cases e2 : x.output = y.output
     ·
      have g2 : (x.output == y.output) = true := by simpa using e2
      cases e4 : eqL eqFd x.cols y.cols with
      | true =>
       have HF := hide (Ya hx (Ya hy (Ya hall (Ya bw (show eqDc x y = true by unfold eqDc; simp [e0, e1, e2, e4])))))
       clear hx hy hall bw
       have E0 := hide e0
       clear e0
       have E1 := hide e1
       clear e1
       have E2 := hide e2
       clear e2
       have E4 := hide e4
       clear e4
       go_wp2_with fail
       refine Qak (md := mLErd0) (fun w' => (∀ q c, ([str x.name, .slice xa xn xc, .bool x.input, .bool x.output, .int .i64 x.at_] : List Value)[q]? = some c → w'.cell? ⟨b1, j * 5 + q, none⟩ = some c) ∧ (∀ q c, ([str y.name, .slice ya yn yc, .bool y.input, .bool y.output, .int .i64 y.at_] : List Value)[q]? = some c → w'.cell? ⟨b2, j * 5 + q, none⟩ = some c)) mixedO (by kernel_rfl) rfl (by kernel_rfl) (fun PP hPP => ?_)
       iterate 4 refine Qaa rfl (by kernel_rfl) (fun _ _ => by go_simp <;> rfl) ?_
       refine Qaa rfl (by kernel_rfl) (fun w' hw => by obtain ⟨x_0, x_1, x_2, x_3, x_4⟩ := cs5 hw.1; obtain ⟨y_0, y_1, y_2, y_3, y_4⟩ := cs5 hw.2; go_simp <;> rfl) ?_
       iterate 4 refine Qaa rfl (by kernel_rfl) (fun _ _ => by go_simp <;> rfl) ?_
       refine Qaa rfl (by kernel_rfl) (fun w' hw => by obtain ⟨x_0, x_1, x_2, x_3, x_4⟩ := cs5 hw.1; obtain ⟨y_0, y_1, y_2, y_3, y_4⟩ := cs5 hw.2; go_simp <;> rfl) ?_
       refine Qaa (v := .bool false) rfl (by kernel_rfl) (fun _ _ => by go_simp <;> rfl) ?_
       refine Qaa (v := .bool false) rfl (by kernel_rfl) (fun _ _ => by go_simp <;> rfl) ?_
       iterate 4 refine Qaa rfl (by kernel_rfl) (fun _ _ => by go_simp <;> rfl) ?_
       refine Qaa rfl (by kernel_rfl) (fun w' hw => by obtain ⟨x_0, x_1, x_2, x_3, x_4⟩ := cs5 hw.1; obtain ⟨y_0, y_1, y_2, y_3, y_4⟩ := cs5 hw.2; go_simp <;> rfl) ?_
       iterate 4 refine Qaa rfl (by kernel_rfl) (fun _ _ => by go_simp <;> rfl) ?_
       refine Qaa rfl (by kernel_rfl) (fun w' hw => by obtain ⟨x_0, x_1, x_2, x_3, x_4⟩ := cs5 hw.1; obtain ⟨y_0, y_1, y_2, y_3, y_4⟩ := cs5 hw.2; go_simp <;> rfl) ?_
       refine Qaa (v := .bool false) rfl (by kernel_rfl) (fun _ _ => by go_simp <;> rfl) ?_
       refine Qaa (v := .bool false) rfl (by kernel_rfl) (fun _ _ => by go_simp <;> rfl) ?_
       refine Qaa (v := .bool false) rfl (by kernel_rfl) (fun _ _ => by go_simp <;> rfl) ?_
       iterate 4 refine Qaa rfl (by kernel_rfl) (fun _ _ => by go_simp <;> rfl) ?_
       refine Qaa rfl (by kernel_rfl) (fun w' hw => by obtain ⟨x_0, x_1, x_2, x_3, x_4⟩ := cs5 hw.1; obtain ⟨y_0, y_1, y_2, y_3, y_4⟩ := cs5 hw.2; go_simp <;> rfl) ?_
       iterate 4 refine Qaa rfl (by kernel_rfl) (fun _ _ => by go_simp <;> rfl) ?_
       refine Qaa rfl (by kernel_rfl) (fun w' hw => by obtain ⟨x_0, x_1, x_2, x_3, x_4⟩ := cs5 hw.1; obtain ⟨y_0, y_1, y_2, y_3, y_4⟩ := cs5 hw.2; go_simp <;> rfl) ?_
       refine Qaa (v := .bool false) rfl (by kernel_rfl) (fun _ _ => by go_simp <;> rfl) ?_
       refine Qaa (v := .bool false) rfl (by kernel_rfl) (fun _ _ => by go_simp <;> rfl) ?_
       refine Qaa (v := .bool false) rfl (by kernel_rfl) (fun _ _ => by go_simp <;> rfl) ?_
       iterate 4 refine Qaa rfl (by kernel_rfl) (fun _ _ => by go_simp <;> rfl) ?_
       refine Qaa rfl (by kernel_rfl) (fun w' hw => by obtain ⟨x_0, x_1, x_2, x_3, x_4⟩ := cs5 hw.1; obtain ⟨y_0, y_1, y_2, y_3, y_4⟩ := cs5 hw.2; go_simp <;> rfl) ?_
       iterate 4 refine Qaa rfl (by kernel_rfl) (fun _ _ => by go_simp <;> rfl) ?_
       refine Qaa rfl (by kernel_rfl) (fun w' hw => by obtain ⟨x_0, x_1, x_2, x_3, x_4⟩ := cs5 hw.1; obtain ⟨y_0, y_1, y_2, y_3, y_4⟩ := cs5 hw.2; go_simp <;> rfl) ?_
       refine Qaa rfl (by kernel_rfl) (fun _ _ => by go_simp <;> rfl) ?_
       refine Qal rfl (Qa HC _ ((Below.refl wr.heap.size wr).drew)) (fun K hK => ?_)
       go_simp
       have hcl := Qcd x.at_ y.at_ wr.drew
       refine hcl.mono ?_
       clear hcl
       rintro en u1 ⟨rfl, bu1⟩
       have B1 := hide (((Below.refl wr.heap.size wr).drew).trans (bu1.mono ((Below.refl wr.heap.size wr).drew).size))
       clear bu1
       go_wp2_with fail
       refine Qaa (v := .bool false) rfl (by kernel_rfl) (fun _ _ => by go_simp <;> rfl) ?_
       refine Qaa (v := .bool false) rfl (by kernel_rfl) (fun _ _ => by go_simp <;> rfl) ?_
       refine Qaa (v := .bool false) rfl (by kernel_rfl) (fun _ _ => by go_simp <;> rfl) ?_
       iterate 4 refine Qaa rfl (by kernel_rfl) (fun _ _ => by go_simp <;> rfl) ?_
       refine Qaa rfl (by kernel_rfl) (fun w' hw => by obtain ⟨x_0, x_1, x_2, x_3, x_4⟩ := cs5 hw.1; obtain ⟨y_0, y_1, y_2, y_3, y_4⟩ := cs5 hw.2; go_simp <;> rfl) ?_
       iterate 4 refine Qaa rfl (by kernel_rfl) (fun _ _ => by go_simp <;> rfl) ?_
       refine Qaa rfl (by kernel_rfl) (fun w' hw => by obtain ⟨x_0, x_1, x_2, x_3, x_4⟩ := cs5 hw.1; obtain ⟨y_0, y_1, y_2, y_3, y_4⟩ := cs5 hw.2; go_simp <;> rfl) ?_
       refine Qal rfl (Qa HC _ (Qa B1)) (fun K hK => ?_)
       go_simp
       have hcl := Qhr ((Qa HX).1.later Qbv (Qa B1)) ((Qa HX).2.later Qbv (Qa B1))
       rw [Qa E4] at hcl
       refine hcl.mono ?_
       clear hcl
       rintro en u2 ⟨rfl, bu2⟩
       have B2 := hide ((Qa B1).trans (bu2.mono (Qa B1).size))
       clear bu2
       go_wp2_with fail
       refine Qaa (v := .bool false) rfl (by kernel_rfl) (fun _ _ => by go_simp <;> rfl) ?_
       refine Qaa (v := .bool false) rfl (by kernel_rfl) (fun _ _ => by go_simp <;> rfl) ?_
       refine Qan (Qa HC _ (Qa B2)) (hPP _ _ ?_)
       clear hPP PP
       simp [Act.put, Array.setIfInBounds]
       go_wp2_with fail
       go_roundw
       case rel =>
        obtain ⟨hx, hy, hall, bw, hr⟩ := Qa HF
        refine ⟨j + 1, by go_num, by omega, hide ⟨bw.trans ((Qa B2).mono bw.size), fun q x' y' hq hx' hy' => ?_⟩⟩
        by_cases e : q = j
        ·
         subst e
         rw [hx] at hx'
         rw [hy] at hy'
         cases hx'
         cases hy'
         exact hr
        · exact hall q x' y' (by omega) hx' hy'
       case measure => simp [intOf]; omega
      | false =>
       have HF := hide (Ya hx (Ya hy (Ya hall (Ya bw (show eqDc x y = false by unfold eqDc; simp [e0, e1, e2, e4])))))
       clear hx hy hall bw
       have E0 := hide e0
       clear e0
       have E1 := hide e1
       clear e1
       have E2 := hide e2
       clear e2
       have E4 := hide e4
       clear e4
       go_wp2_with fail
       refine Qak (md := mLErd0) (fun w' => (∀ q c, ([str x.name, .slice xa xn xc, .bool x.input, .bool x.output, .int .i64 x.at_] : List Value)[q]? = some c → w'.cell? ⟨b1, j * 5 + q, none⟩ = some c) ∧ (∀ q c, ([str y.name, .slice ya yn yc, .bool y.input, .bool y.output, .int .i64 y.at_] : List Value)[q]? = some c → w'.cell? ⟨b2, j * 5 + q, none⟩ = some c)) mixedO (by kernel_rfl) rfl (by kernel_rfl) (fun PP hPP => ?_)
       iterate 4 refine Qaa rfl (by kernel_rfl) (fun _ _ => by go_simp <;> rfl) ?_
       refine Qaa rfl (by kernel_rfl) (fun w' hw => by obtain ⟨x_0, x_1, x_2, x_3, x_4⟩ := cs5 hw.1; obtain ⟨y_0, y_1, y_2, y_3, y_4⟩ := cs5 hw.2; go_simp <;> rfl) ?_
       iterate 4 refine Qaa rfl (by kernel_rfl) (fun _ _ => by go_simp <;> rfl) ?_
       refine Qaa rfl (by kernel_rfl) (fun w' hw => by obtain ⟨x_0, x_1, x_2, x_3, x_4⟩ := cs5 hw.1; obtain ⟨y_0, y_1, y_2, y_3, y_4⟩ := cs5 hw.2; go_simp <;> rfl) ?_
       refine Qaa (v := .bool false) rfl (by kernel_rfl) (fun _ _ => by go_simp <;> rfl) ?_
       refine Qaa (v := .bool false) rfl (by kernel_rfl) (fun _ _ => by go_simp <;> rfl) ?_
       iterate 4 refine Qaa rfl (by kernel_rfl) (fun _ _ => by go_simp <;> rfl) ?_
       refine Qaa rfl (by kernel_rfl) (fun w' hw => by obtain ⟨x_0, x_1, x_2, x_3, x_4⟩ := cs5 hw.1; obtain ⟨y_0, y_1, y_2, y_3, y_4⟩ := cs5 hw.2; go_simp <;> rfl) ?_
       iterate 4 refine Qaa rfl (by kernel_rfl) (fun _ _ => by go_simp <;> rfl) ?_
       refine Qaa rfl (by kernel_rfl) (fun w' hw => by obtain ⟨x_0, x_1, x_2, x_3, x_4⟩ := cs5 hw.1; obtain ⟨y_0, y_1, y_2, y_3, y_4⟩ := cs5 hw.2; go_simp <;> rfl) ?_
       refine Qaa (v := .bool false) rfl (by kernel_rfl) (fun _ _ => by go_simp <;> rfl) ?_
       refine Qaa (v := .bool false) rfl (by kernel_rfl) (fun _ _ => by go_simp <;> rfl) ?_
       refine Qaa (v := .bool false) rfl (by kernel_rfl) (fun _ _ => by go_simp <;> rfl) ?_
       iterate 4 refine Qaa rfl (by kernel_rfl) (fun _ _ => by go_simp <;> rfl) ?_
       refine Qaa rfl (by kernel_rfl) (fun w' hw => by obtain ⟨x_0, x_1, x_2, x_3, x_4⟩ := cs5 hw.1; obtain ⟨y_0, y_1, y_2, y_3, y_4⟩ := cs5 hw.2; go_simp <;> rfl) ?_
       iterate 4 refine Qaa rfl (by kernel_rfl) (fun _ _ => by go_simp <;> rfl) ?_
       refine Qaa rfl (by kernel_rfl) (fun w' hw => by obtain ⟨x_0, x_1, x_2, x_3, x_4⟩ := cs5 hw.1; obtain ⟨y_0, y_1, y_2, y_3, y_4⟩ := cs5 hw.2; go_simp <;> rfl) ?_
       refine Qaa (v := .bool false) rfl (by kernel_rfl) (fun _ _ => by go_simp <;> rfl) ?_
       refine Qaa (v := .bool false) rfl (by kernel_rfl) (fun _ _ => by go_simp <;> rfl) ?_
       refine Qaa (v := .bool false) rfl (by kernel_rfl) (fun _ _ => by go_simp <;> rfl) ?_
       iterate 4 refine Qaa rfl (by kernel_rfl) (fun _ _ => by go_simp <;> rfl) ?_
       refine Qaa rfl (by kernel_rfl) (fun w' hw => by obtain ⟨x_0, x_1, x_2, x_3, x_4⟩ := cs5 hw.1; obtain ⟨y_0, y_1, y_2, y_3, y_4⟩ := cs5 hw.2; go_simp <;> rfl) ?_
       iterate 4 refine Qaa rfl (by kernel_rfl) (fun _ _ => by go_simp <;> rfl) ?_
       refine Qaa rfl (by kernel_rfl) (fun w' hw => by obtain ⟨x_0, x_1, x_2, x_3, x_4⟩ := cs5 hw.1; obtain ⟨y_0, y_1, y_2, y_3, y_4⟩ := cs5 hw.2; go_simp <;> rfl) ?_
       refine Qaa rfl (by kernel_rfl) (fun _ _ => by go_simp <;> rfl) ?_
       refine Qal rfl (Qa HC _ ((Below.refl wr.heap.size wr).drew)) (fun K hK => ?_)
       go_simp
       have hcl := Qcd x.at_ y.at_ wr.drew
       refine hcl.mono ?_
       clear hcl
       rintro en u1 ⟨rfl, bu1⟩
       have B1 := hide (((Below.refl wr.heap.size wr).drew).trans (bu1.mono ((Below.refl wr.heap.size wr).drew).size))
       clear bu1
       go_wp2_with fail
       refine Qaa (v := .bool false) rfl (by kernel_rfl) (fun _ _ => by go_simp <;> rfl) ?_
       refine Qaa (v := .bool false) rfl (by kernel_rfl) (fun _ _ => by go_simp <;> rfl) ?_
       refine Qaa (v := .bool false) rfl (by kernel_rfl) (fun _ _ => by go_simp <;> rfl) ?_
       iterate 4 refine Qaa rfl (by kernel_rfl) (fun _ _ => by go_simp <;> rfl) ?_
       refine Qaa rfl (by kernel_rfl) (fun w' hw => by obtain ⟨x_0, x_1, x_2, x_3, x_4⟩ := cs5 hw.1; obtain ⟨y_0, y_1, y_2, y_3, y_4⟩ := cs5 hw.2; go_simp <;> rfl) ?_
       iterate 4 refine Qaa rfl (by kernel_rfl) (fun _ _ => by go_simp <;> rfl) ?_
       refine Qaa rfl (by kernel_rfl) (fun w' hw => by obtain ⟨x_0, x_1, x_2, x_3, x_4⟩ := cs5 hw.1; obtain ⟨y_0, y_1, y_2, y_3, y_4⟩ := cs5 hw.2; go_simp <;> rfl) ?_
       refine Qal rfl (Qa HC _ (Qa B1)) (fun K hK => ?_)
       go_simp
       have hcl := Qhr ((Qa HX).1.later Qbv (Qa B1)) ((Qa HX).2.later Qbv (Qa B1))
       rw [Qa E4] at hcl
       refine hcl.mono ?_
       clear hcl
       rintro en u2 ⟨rfl, bu2⟩
       have B2 := hide ((Qa B1).trans (bu2.mono (Qa B1).size))
       clear bu2
       go_wp2_with fail
       refine Qaa (v := .bool true) rfl (by kernel_rfl) (fun _ _ => by go_simp <;> rfl) ?_
       refine Qaa (v := .bool true) rfl (by kernel_rfl) (fun _ _ => by go_simp <;> rfl) ?_
       refine Qan (Qa HC _ (Qa B2)) (hPP _ _ ?_)
       clear hPP PP
       simp [Act.put, Array.setIfInBounds]
       go_wp2_with fail
       go_ret
       obtain ⟨hx, hy, hall, bw, hr⟩ := Qa HF
       exact ⟨by rw [Qai hx hy hr]; rfl, bw.trans ((Qa B2).mono bw.size)⟩
     have g2 : (x.output == y.output) = false := by simpa using e2
     have HF := hide (Ya hx (Ya hy (Ya hall (Ya bw (show eqDc x y = false by unfold eqDc; simp [e0, e1, e2])))))
     clear hx hy hall bw
     have E0 := hide e0
     clear e0
     have E1 := hide e1
     clear e1
     have E2 := hide e2
     clear e2
     go_wp2_with fail
     refine Qak (md := mLErd0) (fun w' => (∀ q c, ([str x.name, .slice xa xn xc, .bool x.input, .bool x.output, .int .i64 x.at_] : List Value)[q]? = some c → w'.cell? ⟨b1, j * 5 + q, none⟩ = some c) ∧ (∀ q c, ([str y.name, .slice ya yn yc, .bool y.input, .bool y.output, .int .i64 y.at_] : List Value)[q]? = some c → w'.cell? ⟨b2, j * 5 + q, none⟩ = some c)) mixedO (by kernel_rfl) rfl (by kernel_rfl) (fun PP hPP => ?_)
     iterate 4 refine Qaa rfl (by kernel_rfl) (fun _ _ => by go_simp <;> rfl) ?_
     refine Qaa rfl (by kernel_rfl) (fun w' hw => by obtain ⟨x_0, x_1, x_2, x_3, x_4⟩ := cs5 hw.1; obtain ⟨y_0, y_1, y_2, y_3, y_4⟩ := cs5 hw.2; go_simp <;> rfl) ?_
     iterate 4 refine Qaa rfl (by kernel_rfl) (fun _ _ => by go_simp <;> rfl) ?_
     refine Qaa rfl (by kernel_rfl) (fun w' hw => by obtain ⟨x_0, x_1, x_2, x_3, x_4⟩ := cs5 hw.1; obtain ⟨y_0, y_1, y_2, y_3, y_4⟩ := cs5 hw.2; go_simp <;> rfl) ?_
     refine Qaa (v := .bool false) rfl (by kernel_rfl) (fun _ _ => by go_simp <;> rfl) ?_
     refine Qaa (v := .bool false) rfl (by kernel_rfl) (fun _ _ => by go_simp <;> rfl) ?_
     iterate 4 refine Qaa rfl (by kernel_rfl) (fun _ _ => by go_simp <;> rfl) ?_
     refine Qaa rfl (by kernel_rfl) (fun w' hw => by obtain ⟨x_0, x_1, x_2, x_3, x_4⟩ := cs5 hw.1; obtain ⟨y_0, y_1, y_2, y_3, y_4⟩ := cs5 hw.2; go_simp <;> rfl) ?_
     iterate 4 refine Qaa rfl (by kernel_rfl) (fun _ _ => by go_simp <;> rfl) ?_
     refine Qaa rfl (by kernel_rfl) (fun w' hw => by obtain ⟨x_0, x_1, x_2, x_3, x_4⟩ := cs5 hw.1; obtain ⟨y_0, y_1, y_2, y_3, y_4⟩ := cs5 hw.2; go_simp <;> rfl) ?_
     refine Qaa (v := .bool false) rfl (by kernel_rfl) (fun _ _ => by go_simp <;> rfl) ?_
     refine Qaa (v := .bool false) rfl (by kernel_rfl) (fun _ _ => by go_simp <;> rfl) ?_
     refine Qaa (v := .bool false) rfl (by kernel_rfl) (fun _ _ => by go_simp <;> rfl) ?_
     iterate 4 refine Qaa rfl (by kernel_rfl) (fun _ _ => by go_simp <;> rfl) ?_
     refine Qaa rfl (by kernel_rfl) (fun w' hw => by obtain ⟨x_0, x_1, x_2, x_3, x_4⟩ := cs5 hw.1; obtain ⟨y_0, y_1, y_2, y_3, y_4⟩ := cs5 hw.2; go_simp <;> rfl) ?_
     iterate 4 refine Qaa rfl (by kernel_rfl) (fun _ _ => by go_simp <;> rfl) ?_
     refine Qaa rfl (by kernel_rfl) (fun w' hw => by obtain ⟨x_0, x_1, x_2, x_3, x_4⟩ := cs5 hw.1; obtain ⟨y_0, y_1, y_2, y_3, y_4⟩ := cs5 hw.2; go_simp <;> rfl) ?_
     refine Qaa (v := .bool true) rfl (by kernel_rfl) (fun _ _ => by go_simp <;> rfl) ?_
     refine Qaa (v := .bool true) rfl (by kernel_rfl) (fun _ _ => by go_simp <;> rfl) ?_
     refine Qaa (v := .bool true) rfl (by kernel_rfl) (fun _ _ => by go_simp <;> rfl) ?_
     iterate 11 refine Qah rfl (by kernel_rfl) ?_
     refine Qaq rfl (Qa HC _ ((Below.refl wr.heap.size wr).drew)) (by kernel_rfl) ?_
     refine Qah rfl (by kernel_rfl) ?_
     refine Qaa (v := .bool true) rfl (by kernel_rfl) (fun _ _ => by go_simp <;> rfl) ?_
     refine Qaa (v := .bool true) rfl (by kernel_rfl) (fun _ _ => by go_simp <;> rfl) ?_
     iterate 10 refine Qah rfl (by kernel_rfl) ?_
     refine Qaq rfl (Qa HC _ ((Below.refl wr.heap.size wr).drew)) (by kernel_rfl) ?_
     refine Qah rfl (by kernel_rfl) ?_
     refine Qaa (v := .bool true) rfl (by kernel_rfl) (fun _ _ => by go_simp <;> rfl) ?_
     refine Qan (Qa HC _ ((Below.refl wr.heap.size wr).drew)) (hPP _ _ ?_)
     clear hPP PP
     simp [Act.put, Array.setIfInBounds]
     go_wp2_with fail
     go_ret
     obtain ⟨hx, hy, hall, bw, hr⟩ := Qa HF
     exact ⟨by rw [Qai hx hy hr]; rfl, bw.trans (((Below.refl wr.heap.size wr).drew).mono bw.size)⟩
    have g1 : (x.input == y.input) = false := by simpa using e1
    have HF := hide (Ya hx (Ya hy (Ya hall (Ya bw (show eqDc x y = false by unfold eqDc; simp [e0, e1])))))
    clear hx hy hall bw
    have E0 := hide e0
    clear e0
    have E1 := hide e1
    clear e1
    go_wp2_with fail
    refine Qak (md := mLErd0) (fun w' => (∀ q c, ([str x.name, .slice xa xn xc, .bool x.input, .bool x.output, .int .i64 x.at_] : List Value)[q]? = some c → w'.cell? ⟨b1, j * 5 + q, none⟩ = some c) ∧ (∀ q c, ([str y.name, .slice ya yn yc, .bool y.input, .bool y.output, .int .i64 y.at_] : List Value)[q]? = some c → w'.cell? ⟨b2, j * 5 + q, none⟩ = some c)) mixedO (by kernel_rfl) rfl (by kernel_rfl) (fun PP hPP => ?_)
    iterate 4 refine Qaa rfl (by kernel_rfl) (fun _ _ => by go_simp <;> rfl) ?_
    refine Qaa rfl (by kernel_rfl) (fun w' hw => by obtain ⟨x_0, x_1, x_2, x_3, x_4⟩ := cs5 hw.1; obtain ⟨y_0, y_1, y_2, y_3, y_4⟩ := cs5 hw.2; go_simp <;> rfl) ?_
    iterate 4 refine Qaa rfl (by kernel_rfl) (fun _ _ => by go_simp <;> rfl) ?_
    refine Qaa rfl (by kernel_rfl) (fun w' hw => by obtain ⟨x_0, x_1, x_2, x_3, x_4⟩ := cs5 hw.1; obtain ⟨y_0, y_1, y_2, y_3, y_4⟩ := cs5 hw.2; go_simp <;> rfl) ?_
    refine Qaa (v := .bool false) rfl (by kernel_rfl) (fun _ _ => by go_simp <;> rfl) ?_
    refine Qaa (v := .bool false) rfl (by kernel_rfl) (fun _ _ => by go_simp <;> rfl) ?_
    iterate 4 refine Qaa rfl (by kernel_rfl) (fun _ _ => by go_simp <;> rfl) ?_
    refine Qaa rfl (by kernel_rfl) (fun w' hw => by obtain ⟨x_0, x_1, x_2, x_3, x_4⟩ := cs5 hw.1; obtain ⟨y_0, y_1, y_2, y_3, y_4⟩ := cs5 hw.2; go_simp <;> rfl) ?_
    iterate 4 refine Qaa rfl (by kernel_rfl) (fun _ _ => by go_simp <;> rfl) ?_
    refine Qaa rfl (by kernel_rfl) (fun w' hw => by obtain ⟨x_0, x_1, x_2, x_3, x_4⟩ := cs5 hw.1; obtain ⟨y_0, y_1, y_2, y_3, y_4⟩ := cs5 hw.2; go_simp <;> rfl) ?_
    refine Qaa (v := .bool true) rfl (by kernel_rfl) (fun _ _ => by go_simp <;> rfl) ?_
    refine Qaa (v := .bool true) rfl (by kernel_rfl) (fun _ _ => by go_simp <;> rfl) ?_
    refine Qaa (v := .bool true) rfl (by kernel_rfl) (fun _ _ => by go_simp <;> rfl) ?_
    iterate 11 refine Qah rfl (by kernel_rfl) ?_
    refine Qaa (v := .bool true) rfl (by kernel_rfl) (fun _ _ => by go_simp <;> rfl) ?_
    refine Qaa (v := .bool true) rfl (by kernel_rfl) (fun _ _ => by go_simp <;> rfl) ?_
    iterate 11 refine Qah rfl (by kernel_rfl) ?_
    refine Qaq rfl (Qa HC _ ((Below.refl wr.heap.size wr).drew)) (by kernel_rfl) ?_
    refine Qah rfl (by kernel_rfl) ?_
    refine Qaa (v := .bool true) rfl (by kernel_rfl) (fun _ _ => by go_simp <;> rfl) ?_
    refine Qaa (v := .bool true) rfl (by kernel_rfl) (fun _ _ => by go_simp <;> rfl) ?_
    iterate 10 refine Qah rfl (by kernel_rfl) ?_
    refine Qaq rfl (Qa HC _ ((Below.refl wr.heap.size wr).drew)) (by kernel_rfl) ?_
    refine Qah rfl (by kernel_rfl) ?_
    refine Qaa (v := .bool true) rfl (by kernel_rfl) (fun _ _ => by go_simp <;> rfl) ?_
    refine Qan (Qa HC _ ((Below.refl wr.heap.size wr).drew)) (hPP _ _ ?_)
    clear hPP PP
    simp [Act.put, Array.setIfInBounds]
    go_wp2_with fail
    go_ret
    obtain ⟨hx, hy, hall, bw, hr⟩ := Qa HF
    exact ⟨by rw [Qai hx hy hr]; rfl, bw.trans (((Below.refl wr.heap.size wr).drew).mono bw.size)⟩
   have g0 : (x.name == y.name) = false := by simpa using e0
   have HF := hide (Ya hx (Ya hy (Ya hall (Ya bw (show eqDc x y = false by unfold eqDc; simp [e0])))))
   clear hx hy hall bw
   have E0 := hide e0
   clear e0
   go_wp2_with fail
   refine Qak (md := mLErd0) (fun w' => (∀ q c, ([str x.name, .slice xa xn xc, .bool x.input, .bool x.output, .int .i64 x.at_] : List Value)[q]? = some c → w'.cell? ⟨b1, j * 5 + q, none⟩ = some c) ∧ (∀ q c, ([str y.name, .slice ya yn yc, .bool y.input, .bool y.output, .int .i64 y.at_] : List Value)[q]? = some c → w'.cell? ⟨b2, j * 5 + q, none⟩ = some c)) mixedO (by kernel_rfl) rfl (by kernel_rfl) (fun PP hPP => ?_)
   iterate 4 refine Qaa rfl (by kernel_rfl) (fun _ _ => by go_simp <;> rfl) ?_
   refine Qaa rfl (by kernel_rfl) (fun w' hw => by obtain ⟨x_0, x_1, x_2, x_3, x_4⟩ := cs5 hw.1; obtain ⟨y_0, y_1, y_2, y_3, y_4⟩ := cs5 hw.2; go_simp <;> rfl) ?_
   iterate 4 refine Qaa rfl (by kernel_rfl) (fun _ _ => by go_simp <;> rfl) ?_
   refine Qaa rfl (by kernel_rfl) (fun w' hw => by obtain ⟨x_0, x_1, x_2, x_3, x_4⟩ := cs5 hw.1; obtain ⟨y_0, y_1, y_2, y_3, y_4⟩ := cs5 hw.2; go_simp <;> rfl) ?_
   refine Qaa (v := .bool true) rfl (by kernel_rfl) (fun _ _ => by go_simp <;> rfl) ?_
   refine Qaa (v := .bool true) rfl (by kernel_rfl) (fun _ _ => by go_simp <;> rfl) ?_
   iterate 11 refine Qah rfl (by kernel_rfl) ?_
   refine Qaa (v := .bool true) rfl (by kernel_rfl) (fun _ _ => by go_simp <;> rfl) ?_
   refine Qaa (v := .bool true) rfl (by kernel_rfl) (fun _ _ => by go_simp <;> rfl) ?_
   iterate 11 refine Qah rfl (by kernel_rfl) ?_
   refine Qaa (v := .bool true) rfl (by kernel_rfl) (fun _ _ => by go_simp <;> rfl) ?_
   refine Qaa (v := .bool true) rfl (by kernel_rfl) (fun _ _ => by go_simp <;> rfl) ?_
   iterate 11 refine Qah rfl (by kernel_rfl) ?_
   refine Qaq rfl (Qa HC _ ((Below.refl wr.heap.size wr).drew)) (by kernel_rfl) ?_
   refine Qah rfl (by kernel_rfl) ?_
   refine Qaa (v := .bool true) rfl (by kernel_rfl) (fun _ _ => by go_simp <;> rfl) ?_
   refine Qaa (v := .bool true) rfl (by kernel_rfl) (fun _ _ => by go_simp <;> rfl) ?_
   iterate 10 refine Qah rfl (by kernel_rfl) ?_
   refine Qaq rfl (Qa HC _ ((Below.refl wr.heap.size wr).drew)) (by kernel_rfl) ?_
   refine Qah rfl (by kernel_rfl) ?_
   refine Qaa (v := .bool true) rfl (by kernel_rfl) (fun _ _ => by go_simp <;> rfl) ?_
   refine Qan (Qa HC _ ((Below.refl wr.heap.size wr).drew)) (hPP _ _ ?_)
   clear hPP PP
   simp [Act.put, Array.setIfInBounds]
   go_wp2_with fail
   go_ret
   obtain ⟨hx, hy, hall, bw, hr⟩ := Qa HF
   exact ⟨by rw [Qai hx hy hr]; rfl, bw.trans (((Below.refl wr.heap.size wr).drew).mono bw.size)⟩
  obtain ⟨bw, hall⟩ := Qa HB
  have HF := hide (Ya bw hall)
  clear bw hall HB
  go_wp2_with fail
  go_ret
  obtain ⟨bw, hall⟩ := Qa HF
  obtain ⟨ha, hb, hn1, hn2⟩ := Qa HA
  exact ⟨by rw [Qbd (by omega) (fun q x' y' hx' hy' => hall q x' y' (by have := (List.getElem?_eq_some_iff.1 hx').1; omega) hx' hy')]; rfl, bw⟩
 have hne : ((n1 : Int) != (n2 : Int)) = true := by simp; omega
 go_enter Tryz.func18, Tryz.ntmps18
 go_wp2_with fail
 go_ret
 obtain ⟨ha, hb, hn1, hn2⟩ := Qa HA
 exact ⟨by rw [Qbo (by omega)]; rfl, Below.refl _ _⟩
end
end Go.Proofs.YtccehgfecaamoaaGreatDoor
