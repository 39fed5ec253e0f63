/- The document's kinds, places aside. -/
import Derived.Test.YtccehgfecaamoaaGreatDoorQb35
set_option maxRecDepth 100000
set_option maxHeartbeats 32000000
namespace Go.Proofs.YtccehgfecaamoaaGreatDoor
section
open Go.RowKit Go.Maps
abbrev mLErt0 : List (Nat × Bool) := [(0, true), (1, true), (2, true), (3, true), (4, true), (5, true), (6, true), (7, true), (8, true), (9, true), (10, true), (11, true), (12, true), (13, true), (14, true), (15, true), (16, true), (17, true), (18, true), (19, true), (20, true), (21, true), (22, true), (23, true), (24, true), (25, true), (26, true), (27, true), (28, true), (29, true), (30, true), (31, true), (32, true), (33, true), (34, true), (35, true), (36, false), (37, true), (38, true), (39, true), (40, true), (41, true), (42, true), (43, true), (44, true), (45, true), (46, true), (47, true), (48, true), (49, true), (50, true), (51, true), (52, true), (53, true)]
abbrev mLErt1 : List (Nat × Bool) := [(0, true), (1, true), (2, true), (3, true), (4, true), (5, true), (6, true), (7, true), (8, true), (9, true), (10, true), (11, true), (12, true), (13, true), (14, true), (15, true), (16, true), (17, true), (18, true), (19, true), (20, true), (21, true), (22, true), (23, true), (24, true), (25, true), (26, true), (27, true), (28, true), (29, true), (30, true), (31, true), (32, true), (33, true), (34, true), (35, true), (36, true), (37, true), (38, false), (39, true), (40, true)]

theorem Qtp {S : Nat → Prop} {w : World} {va vb : Value} {xs ys : List Typ} (ha : LsAt PTy 4 S w va xs) (hb : LsAt PTy 4 S w vb ys) :
  Calls Tryz.prog 17 #[va, vb, .bool false] w fun en w' => en = .returned (.bool (eqL eqTy xs ys)) ∧ Below w.heap.size w w' := by
 obtain ⟨a1, p1, e1⟩ := ha.sl
 obtain ⟨a2, p2, e2⟩ := hb.sl
 have hm1 : xs.length ≤ p1 ∧ p1 ≤ maxLen := by
  obtain ⟨_, _, _, e, h1, h2, _⟩ := ha
  rw [e] at e1
  cases e1
  exact ⟨h1, h2⟩
 have hm2 : ys.length ≤ p2 ∧ p2 ≤ maxLen := by
  obtain ⟨_, _, _, e, h1, h2, _⟩ := hb
  rw [e] at e2
  cases e2
  exact ⟨h1, h2⟩
 unfold maxLen at hm1 hm2
 obtain ⟨n1, hn1⟩ : ∃ n, xs.length = n := ⟨_, rfl⟩
 obtain ⟨n2, hn2⟩ : ∃ n, ys.length = n := ⟨_, rfl⟩
 rw [hn1] at e1 hm1
 rw [hn2] at e2 hm2
 obtain ⟨hc1, hc2⟩ := hm1
 obtain ⟨hc3, hc4⟩ := hm2
 have HA := hide (Ya ha (Ya hb (Ya hn1 hn2)))
 have HV := hide (Ya e1 e2)
 rw [e1, e2]
 clear ha hb e1 e2 hn1 hn2
 by_cases hlen : n1 = n2
 ·
  subst hlen
  go_enter Tryz.func17, Tryz.ntmps17
  go_wp2_with fail
  go_loopw [7] (fun i wr => ∃ j : Nat, i = .int .i64 (j : Int) ∧ j ≤ n1 ∧ Hid (Below w.heap.size w wr ∧ ∀ q x y, q < j → xs[q]? = some x → ys[q]? = some y → eqTy x y = true)) (fun i _ => n1 - (intOf i).toNat)
  case atStart => exact ⟨0, rfl, Nat.zero_le _, hide ⟨Below.refl _ _, fun q _ _ hq => absurd hq (Nat.not_lt_zero _)⟩⟩
  obtain ⟨j, rfl, hj, HB⟩ := hrel
  by_cases hlt : j < n1
  ·
   obtain ⟨ha, hb, hn1, hn2⟩ := Qa HA
   obtain ⟨bw, hall⟩ := Qa HB
   obtain ⟨x, hx⟩ : ∃ x, xs[j]? = some x := ⟨xs[j]'(by omega), List.getElem?_eq_getElem _⟩
   obtain ⟨y, hy⟩ : ∃ y, ys[j]? = some y := ⟨ys[j]'(by omega), List.getElem?_eq_getElem _⟩
   obtain ⟨b1, q1, cs1, ev1, hb1, _, hl1, hp1, hc1'⟩ := (ha.later Qbq bw).elem hx
   obtain ⟨b2, q2, cs2, ev2, hb2, _, hl2, hp2, hc2'⟩ := (hb.later Qbq bw).elem hy
   obtain ⟨xa, xn, xc, rfl, hkx⟩ := hp1
   obtain ⟨ya, yn, yc, rfl, hky⟩ := hp2
   have lx : xn = x.ctors.length ∧ xn ≤ xc ∧ xc ≤ maxLen := by
    obtain ⟨_, _, _, e, h1, h2, _⟩ := hkx
    cases e
    exact ⟨rfl, h1, h2⟩
   have ly : yn = y.ctors.length ∧ yn ≤ yc ∧ yc ≤ maxLen := by
    obtain ⟨_, _, _, e, h1, h2, _⟩ := hky
    cases e
    exact ⟨rfl, h1, h2⟩
   unfold maxLen at lx ly
   obtain ⟨lx, lx1, lx2⟩ := lx
   obtain ⟨ly, ly1, ly2⟩ := ly
   have HX := hide (Ya hkx hky)
   have HL := hide (Ya lx ly)
   clear hkx hky lx ly
   rw [(Qa HV).1, hn1] at ev1
   rw [(Qa HV).2, hn2] at ev2
   simp only [Value.slice.injEq] at ev1 ev2
   obtain ⟨rfl, -, -⟩ := ev1
   obtain ⟨rfl, -, -⟩ := ev2
   have HC : Hid (∀ w', Below wr.heap.size wr w' → (∀ q c, ([str x.name, str x.sub, .slice xa xn xc, .int .i64 x.at_] : List Value)[q]? = some c → w'.cell? ⟨b1, j * 4 + q, none⟩ = some c) ∧ (∀ q c, ([str y.name, str y.sub, .slice ya yn yc, .int .i64 y.at_] : List Value)[q]? = some c → w'.cell? ⟨b2, j * 4 + q, none⟩ = some c)) := fun w' bb => ⟨fun q c hq => by rw [bb.cell (p := ⟨b1, _, none⟩) hb1]; exact hc1' q c hq, fun q c hq => by rw [bb.cell (p := ⟨b2, _, none⟩) hb2]; exact hc2' q c hq⟩
   clear ha hb hc1' hc2' hl1 hl2 hn1 hn2 HA HV hb1 hb2 HB
   by_cases e0 : x.name = y.name
   ·
    have g0 : (x.name == y.name) = true := by simpa using e0
    by_cases e1 : x.sub = y.sub
    ·
     have g1 : (x.sub == y.sub) = true := by simpa using e1
     by_cases e3 : xn = yn
     ·
      subst e3
      have E0 := hide e0
      clear e0
      have E1 := hide e1
      clear e1
      have HF := hide (Ya hx (Ya hy (Ya hall bw)))
      clear hx hy hall bw
      go_wp2_with fail
      refine Qak (md := mLErt0) (fun w' => (∀ q c, ([str x.name, str x.sub, .slice xa xn xc, .int .i64 x.at_] : List Value)[q]? = some c → w'.cell? ⟨b1, j * 4 + q, none⟩ = some c) ∧ (∀ q c, ([str y.name, str y.sub, .slice ya xn yc, .int .i64 y.at_] : List Value)[q]? = some c → w'.cell? ⟨b2, j * 4 + q, none⟩ = some c)) mixedO (by kernel_rfl) rfl (by kernel_rfl) (fun PP hPP => ?_)
      iterate 4 refine Qaa rfl (by kernel_rfl) (fun _ _ => by go_simp <;> rfl) ?_
      refine Qaa rfl (by kernel_rfl) (fun w' hw => by obtain ⟨x_0, x_1, x_2, x_3⟩ := cs4 hw.1; obtain ⟨y_0, y_1, y_2, y_3⟩ := cs4 hw.2; go_simp <;> rfl) ?_
      iterate 4 refine Qaa rfl (by kernel_rfl) (fun _ _ => by go_simp <;> rfl) ?_
      refine Qaa rfl (by kernel_rfl) (fun w' hw => by obtain ⟨x_0, x_1, x_2, x_3⟩ := cs4 hw.1; obtain ⟨y_0, y_1, y_2, y_3⟩ := cs4 hw.2; go_simp <;> rfl) ?_
      refine Qaa (v := .bool false) rfl (by kernel_rfl) (fun _ _ => by go_simp <;> rfl) ?_
      refine Qaa (v := .bool false) rfl (by kernel_rfl) (fun _ _ => by go_simp <;> rfl) ?_
      iterate 4 refine Qaa rfl (by kernel_rfl) (fun _ _ => by go_simp <;> rfl) ?_
      refine Qaa rfl (by kernel_rfl) (fun w' hw => by obtain ⟨x_0, x_1, x_2, x_3⟩ := cs4 hw.1; obtain ⟨y_0, y_1, y_2, y_3⟩ := cs4 hw.2; go_simp <;> rfl) ?_
      iterate 4 refine Qaa rfl (by kernel_rfl) (fun _ _ => by go_simp <;> rfl) ?_
      refine Qaa rfl (by kernel_rfl) (fun w' hw => by obtain ⟨x_0, x_1, x_2, x_3⟩ := cs4 hw.1; obtain ⟨y_0, y_1, y_2, y_3⟩ := cs4 hw.2; go_simp <;> rfl) ?_
      refine Qaa (v := .bool false) rfl (by kernel_rfl) (fun _ _ => by go_simp <;> rfl) ?_
      refine Qaa (v := .bool false) rfl (by kernel_rfl) (fun _ _ => by go_simp <;> rfl) ?_
      refine Qaa (v := .bool false) rfl (by kernel_rfl) (fun _ _ => by go_simp <;> rfl) ?_
      iterate 4 refine Qaa rfl (by kernel_rfl) (fun _ _ => by go_simp <;> rfl) ?_
      refine Qaa rfl (by kernel_rfl) (fun w' hw => by obtain ⟨x_0, x_1, x_2, x_3⟩ := cs4 hw.1; obtain ⟨y_0, y_1, y_2, y_3⟩ := cs4 hw.2; go_simp <;> rfl) ?_
      iterate 4 refine Qaa rfl (by kernel_rfl) (fun _ _ => by go_simp <;> rfl) ?_
      refine Qaa rfl (by kernel_rfl) (fun w' hw => by obtain ⟨x_0, x_1, x_2, x_3⟩ := cs4 hw.1; obtain ⟨y_0, y_1, y_2, y_3⟩ := cs4 hw.2; go_simp <;> rfl) ?_
      refine Qaa rfl (by kernel_rfl) (fun _ _ => by go_simp <;> rfl) ?_
      refine Qal rfl (Qa HC _ ((Below.refl wr.heap.size wr).drew)) (fun K hK => ?_)
      go_simp
      have hcl := Qcd x.at_ y.at_ wr.drew
      refine hcl.mono ?_
      clear hcl
      rintro en u1 ⟨rfl, bu1⟩
      have B1 := hide (((Below.refl wr.heap.size wr).drew).trans (bu1.mono ((Below.refl wr.heap.size wr).drew).size))
      clear bu1
      go_wp2_with fail
      refine Qaa (v := .bool false) rfl (by kernel_rfl) (fun _ _ => by go_simp <;> rfl) ?_
      refine Qaa (v := .bool false) rfl (by kernel_rfl) (fun _ _ => by go_simp <;> rfl) ?_
      refine Qaa (v := .bool false) rfl (by kernel_rfl) (fun _ _ => by go_simp <;> rfl) ?_
      iterate 4 refine Qaa rfl (by kernel_rfl) (fun _ _ => by go_simp <;> rfl) ?_
      refine Qaa rfl (by kernel_rfl) (fun w' hw => by obtain ⟨x_0, x_1, x_2, x_3⟩ := cs4 hw.1; obtain ⟨y_0, y_1, y_2, y_3⟩ := cs4 hw.2; go_simp <;> rfl) ?_
      iterate 5 refine Qaa rfl (by kernel_rfl) (fun _ _ => by go_simp <;> rfl) ?_
      refine Qaa rfl (by kernel_rfl) (fun w' hw => by obtain ⟨x_0, x_1, x_2, x_3⟩ := cs4 hw.1; obtain ⟨y_0, y_1, y_2, y_3⟩ := cs4 hw.2; go_simp <;> rfl) ?_
      refine Qaa rfl (by kernel_rfl) (fun _ _ => by go_simp <;> rfl) ?_
      refine Qaa (v := .bool false) rfl (by kernel_rfl) (fun _ _ => by go_simp <;> rfl) ?_
      refine Qaa (v := .bool false) rfl (by kernel_rfl) (fun _ _ => by go_simp <;> rfl) ?_
      refine Qan (Qa HC _ (Qa B1)) (hPP _ _ ?_)
      clear hPP PP
      simp [Act.put, Array.setIfInBounds]
      go_wp2_with fail
      obtain ⟨W8, hW8⟩ : ∃ W8, W8 = wr := ⟨_, rfl⟩
      subst hW8
      go_loopw [8] (fun i wr2 => ∃ k : Nat, i = .int .i64 (k : Int) ∧ k ≤ xn ∧ Hid (Below W8.heap.size W8 wr2 ∧ ∀ q x' y', q < k → x.ctors[q]? = some x' → y.ctors[q]? = some y' → eqCt x' y' = true)) (fun i _ => xn - (intOf i).toNat)
      case atStart => exact ⟨0, rfl, Nat.zero_le _, hide ⟨Qa B1, fun q _ _ hq => absurd hq (Nat.not_lt_zero _)⟩⟩
      obtain ⟨k, rfl, hk, HB2⟩ := hrel
      obtain ⟨bq, hq⟩ := Qa HB2
      have x_2 : wr.cell? ⟨b1, j * 4 + 2, none⟩ = some (.slice xa xn xc) := (Qa HC wr bq).1 2 _ rfl
      have y_2 : wr.cell? ⟨b2, j * 4 + 2, none⟩ = some (.slice ya xn yc) := (Qa HC wr bq).2 2 _ rfl
      by_cases hlt2 : k < xn
      ·
       obtain ⟨hkx, hky⟩ := Qa HX
       obtain ⟨lx, ly⟩ := Qa HL
       obtain ⟨x', hx'⟩ : ∃ x', x.ctors[k]? = some x' := ⟨x.ctors[k]'(by omega), List.getElem?_eq_getElem _⟩
       obtain ⟨y', hy'⟩ : ∃ y', y.ctors[k]? = some y' := ⟨y.ctors[k]'(by omega), List.getElem?_eq_getElem _⟩
       obtain ⟨b3, q3, cs3, ev3, hb3, _, hl3, hp3, hc3'⟩ := (hkx.later Qex bq).elem hx'
       obtain ⟨b4, q4, cs4, ev4, hb4, _, hl4, hp4, hc4'⟩ := (hky.later Qex bq).elem hy'
       obtain ⟨fa, fn, fc, rfl, hfx⟩ := hp3
       obtain ⟨ga, gn, gc, rfl, hfy⟩ := hp4
       simp only [Value.slice.injEq] at ev3 ev4
       obtain ⟨rfl, -, -⟩ := ev3
       obtain ⟨rfl, -, -⟩ := ev4
       have HY := hide (Ya hfx hfy)
       have HC4 : Hid (∀ w', Below wr.heap.size wr w' → w'.cell? ⟨b1, j * 4 + 2, none⟩ = some (.slice (some ⟨b3, 0, none⟩) xn xc) ∧ w'.cell? ⟨b2, j * 4 + 2, none⟩ = some (.slice (some ⟨b4, 0, none⟩) xn yc) ∧ w'.cell? ⟨b3, k * 2, none⟩ = some (str x'.name) ∧ w'.cell? ⟨b3, k * 2 + 1, none⟩ = some (.slice fa fn fc) ∧ w'.cell? ⟨b4, k * 2, none⟩ = some (str y'.name) ∧ w'.cell? ⟨b4, k * 2 + 1, none⟩ = some (.slice ga gn gc)) := fun w' bb => ⟨(Qa HC w' (bq.trans (bb.mono bq.size))).1 2 _ rfl, (Qa HC w' (bq.trans (bb.mono bq.size))).2 2 _ rfl, by rw [bb.cell (p := ⟨b3, _, none⟩) hb3]; exact hc3' 0 _ rfl, by rw [bb.cell (p := ⟨b3, _, none⟩) hb3]; exact hc3' 1 _ rfl, by rw [bb.cell (p := ⟨b4, _, none⟩) hb4]; exact hc4' 0 _ rfl, by rw [bb.cell (p := ⟨b4, _, none⟩) hb4]; exact hc4' 1 _ rfl⟩
       clear hkx hky lx ly hb3 hb4 hl3 hl4 hc3' hc4' hfx hfy HB2
       by_cases e5 : x'.name = y'.name
       ·
        have g5 : (x'.name == y'.name) = true := by simpa using e5
        cases e6 : eqL eqFd x'.fields y'.fields with
        | true =>
         have HF2 := hide (Ya hx' (Ya hy' (Ya hq (Ya bq (show eqCt x' y' = true by unfold eqCt; simp [e5, e6])))))
         clear hx' hy' hq bq
         have E6 := hide e6
         clear e5 e6
         go_wp2_with fail
         refine Qak (md := mLErt1) (fun w' => w'.cell? ⟨b1, j * 4 + 2, none⟩ = some (.slice (some ⟨b3, 0, none⟩) xn xc) ∧ w'.cell? ⟨b2, j * 4 + 2, none⟩ = some (.slice (some ⟨b4, 0, none⟩) xn yc) ∧ w'.cell? ⟨b3, k * 2, none⟩ = some (str x'.name) ∧ w'.cell? ⟨b3, k * 2 + 1, none⟩ = some (.slice fa fn fc) ∧ w'.cell? ⟨b4, k * 2, none⟩ = some (str y'.name) ∧ w'.cell? ⟨b4, k * 2 + 1, none⟩ = some (.slice ga gn gc)) mixedO (by kernel_rfl) rfl (by kernel_rfl) (fun PP hPP => ?_)
         iterate 4 refine Qaa rfl (by kernel_rfl) (fun _ _ => by go_simp <;> rfl) ?_
         refine Qaa rfl (by kernel_rfl) (fun w' hw => by have x_2 := hw.1; have y_2 := hw.2.1; have z_0 := hw.2.2.1; have z_1 := hw.2.2.2.1; have t_0 := hw.2.2.2.2.1; have t_1 := hw.2.2.2.2.2; go_simp <;> rfl) ?_
         iterate 3 refine Qaa rfl (by kernel_rfl) (fun _ _ => by go_simp <;> rfl) ?_
         refine Qaa rfl (by kernel_rfl) (fun w' hw => by have x_2 := hw.1; have y_2 := hw.2.1; have z_0 := hw.2.2.1; have z_1 := hw.2.2.2.1; have t_0 := hw.2.2.2.2.1; have t_1 := hw.2.2.2.2.2; go_simp <;> rfl) ?_
         iterate 4 refine Qaa rfl (by kernel_rfl) (fun _ _ => by go_simp <;> rfl) ?_
         refine Qaa rfl (by kernel_rfl) (fun w' hw => by have x_2 := hw.1; have y_2 := hw.2.1; have z_0 := hw.2.2.1; have z_1 := hw.2.2.2.1; have t_0 := hw.2.2.2.2.1; have t_1 := hw.2.2.2.2.2; go_simp <;> rfl) ?_
         iterate 3 refine Qaa rfl (by kernel_rfl) (fun _ _ => by go_simp <;> rfl) ?_
         refine Qaa rfl (by kernel_rfl) (fun w' hw => by have x_2 := hw.1; have y_2 := hw.2.1; have z_0 := hw.2.2.1; have z_1 := hw.2.2.2.1; have t_0 := hw.2.2.2.2.1; have t_1 := hw.2.2.2.2.2; go_simp <;> rfl) ?_
         refine Qaa (v := .bool false) rfl (by kernel_rfl) (fun _ _ => by go_simp <;> rfl) ?_
         refine Qaa (v := .bool false) rfl (by kernel_rfl) (fun _ _ => by go_simp <;> rfl) ?_
         iterate 4 refine Qaa rfl (by kernel_rfl) (fun _ _ => by go_simp <;> rfl) ?_
         refine Qaa rfl (by kernel_rfl) (fun w' hw => by have x_2 := hw.1; have y_2 := hw.2.1; have z_0 := hw.2.2.1; have z_1 := hw.2.2.2.1; have t_0 := hw.2.2.2.2.1; have t_1 := hw.2.2.2.2.2; go_simp <;> rfl) ?_
         iterate 3 refine Qaa rfl (by kernel_rfl) (fun _ _ => by go_simp <;> rfl) ?_
         refine Qaa rfl (by kernel_rfl) (fun w' hw => by have x_2 := hw.1; have y_2 := hw.2.1; have z_0 := hw.2.2.1; have z_1 := hw.2.2.2.1; have t_0 := hw.2.2.2.2.1; have t_1 := hw.2.2.2.2.2; go_simp <;> rfl) ?_
         iterate 4 refine Qaa rfl (by kernel_rfl) (fun _ _ => by go_simp <;> rfl) ?_
         refine Qaa rfl (by kernel_rfl) (fun w' hw => by have x_2 := hw.1; have y_2 := hw.2.1; have z_0 := hw.2.2.1; have z_1 := hw.2.2.2.1; have t_0 := hw.2.2.2.2.1; have t_1 := hw.2.2.2.2.2; go_simp <;> rfl) ?_
         iterate 3 refine Qaa rfl (by kernel_rfl) (fun _ _ => by go_simp <;> rfl) ?_
         refine Qaa rfl (by kernel_rfl) (fun w' hw => by have x_2 := hw.1; have y_2 := hw.2.1; have z_0 := hw.2.2.1; have z_1 := hw.2.2.2.1; have t_0 := hw.2.2.2.2.1; have t_1 := hw.2.2.2.2.2; go_simp <;> rfl) ?_
         refine Qal rfl (Qa HC4 _ ((Below.refl wr.heap.size wr).drew)) (fun K hK => ?_)
         go_simp
         have hcl := Qhr ((Qa HY).1.later Qbv ((Below.refl wr.heap.size wr).drew)) ((Qa HY).2.later Qbv ((Below.refl wr.heap.size wr).drew))
         rw [Qa E6] at hcl
         refine hcl.mono ?_
         clear hcl
         rintro en v1 ⟨rfl, bv1⟩
         have D1 := hide (((Below.refl wr.heap.size wr).drew).trans (bv1.mono ((Below.refl wr.heap.size wr).drew).size))
         clear bv1
         go_wp2_with fail
         refine Qaa (v := .bool false) rfl (by kernel_rfl) (fun _ _ => by go_simp <;> rfl) ?_
         refine Qaa (v := .bool false) rfl (by kernel_rfl) (fun _ _ => by go_simp <;> rfl) ?_
         refine Qan (Qa HC4 _ (Qa D1)) (hPP _ _ ?_)
         clear hPP PP
         simp [Act.put, Array.setIfInBounds]
         go_wp2_with fail
         go_roundw
         case rel =>
          obtain ⟨hx', hy', hq, bq, hr⟩ := Qa HF2
          refine ⟨k + 1, by go_num, by omega, hide ⟨bq.trans ((Qa D1).mono bq.size), fun q x1 y1 hq1 hx1 hy1 => ?_⟩⟩
          by_cases e : q = k
          ·
           subst e
           rw [hx'] at hx1
           rw [hy'] at hy1
           cases hx1
           cases hy1
           exact hr
          · exact hq q x1 y1 (by omega) hx1 hy1
         case measure => simp [intOf]; omega
        | false =>
         have HF2 := hide (Ya hx' (Ya hy' (Ya hq (Ya bq (show eqCt x' y' = false by unfold eqCt; simp [e5, e6])))))
         clear hx' hy' hq bq
         have E6 := hide e6
         clear e5 e6
         go_wp2_with fail
         refine Qak (md := mLErt1) (fun w' => w'.cell? ⟨b1, j * 4 + 2, none⟩ = some (.slice (some ⟨b3, 0, none⟩) xn xc) ∧ w'.cell? ⟨b2, j * 4 + 2, none⟩ = some (.slice (some ⟨b4, 0, none⟩) xn yc) ∧ w'.cell? ⟨b3, k * 2, none⟩ = some (str x'.name) ∧ w'.cell? ⟨b3, k * 2 + 1, none⟩ = some (.slice fa fn fc) ∧ w'.cell? ⟨b4, k * 2, none⟩ = some (str y'.name) ∧ w'.cell? ⟨b4, k * 2 + 1, none⟩ = some (.slice ga gn gc)) mixedO (by kernel_rfl) rfl (by kernel_rfl) (fun PP hPP => ?_)
         iterate 4 refine Qaa rfl (by kernel_rfl) (fun _ _ => by go_simp <;> rfl) ?_
         refine Qaa rfl (by kernel_rfl) (fun w' hw => by have x_2 := hw.1; have y_2 := hw.2.1; have z_0 := hw.2.2.1; have z_1 := hw.2.2.2.1; have t_0 := hw.2.2.2.2.1; have t_1 := hw.2.2.2.2.2; go_simp <;> rfl) ?_
         iterate 3 refine Qaa rfl (by kernel_rfl) (fun _ _ => by go_simp <;> rfl) ?_
         refine Qaa rfl (by kernel_rfl) (fun w' hw => by have x_2 := hw.1; have y_2 := hw.2.1; have z_0 := hw.2.2.1; have z_1 := hw.2.2.2.1; have t_0 := hw.2.2.2.2.1; have t_1 := hw.2.2.2.2.2; go_simp <;> rfl) ?_
         iterate 4 refine Qaa rfl (by kernel_rfl) (fun _ _ => by go_simp <;> rfl) ?_
         refine Qaa rfl (by kernel_rfl) (fun w' hw => by have x_2 := hw.1; have y_2 := hw.2.1; have z_0 := hw.2.2.1; have z_1 := hw.2.2.2.1; have t_0 := hw.2.2.2.2.1; have t_1 := hw.2.2.2.2.2; go_simp <;> rfl) ?_
         iterate 3 refine Qaa rfl (by kernel_rfl) (fun _ _ => by go_simp <;> rfl) ?_
         refine Qaa rfl (by kernel_rfl) (fun w' hw => by have x_2 := hw.1; have y_2 := hw.2.1; have z_0 := hw.2.2.1; have z_1 := hw.2.2.2.1; have t_0 := hw.2.2.2.2.1; have t_1 := hw.2.2.2.2.2; go_simp <;> rfl) ?_
         refine Qaa (v := .bool false) rfl (by kernel_rfl) (fun _ _ => by go_simp <;> rfl) ?_
         refine Qaa (v := .bool false) rfl (by kernel_rfl) (fun _ _ => by go_simp <;> rfl) ?_
         iterate 4 refine Qaa rfl (by kernel_rfl) (fun _ _ => by go_simp <;> rfl) ?_
         refine Qaa rfl (by kernel_rfl) (fun w' hw => by have x_2 := hw.1; have y_2 := hw.2.1; have z_0 := hw.2.2.1; have z_1 := hw.2.2.2.1; have t_0 := hw.2.2.2.2.1; have t_1 := hw.2.2.2.2.2; go_simp <;> rfl) ?_
         iterate 3 refine Qaa rfl (by kernel_rfl) (fun _ _ => by go_simp <;> rfl) ?_
         refine Qaa rfl (by kernel_rfl) (fun w' hw => by have x_2 := hw.1; have y_2 := hw.2.1; have z_0 := hw.2.2.1; have z_1 := hw.2.2.2.1; have t_0 := hw.2.2.2.2.1; have t_1 := hw.2.2.2.2.2; go_simp <;> rfl) ?_
         iterate 4 refine Qaa rfl (by kernel_rfl) (fun _ _ => by go_simp <;> rfl) ?_
         refine Qaa rfl (by kernel_rfl) (fun w' hw => by have x_2 := hw.1; have y_2 := hw.2.1; have z_0 := hw.2.2.1; have z_1 := hw.2.2.2.1; have t_0 := hw.2.2.2.2.1; have t_1 := hw.2.2.2.2.2; go_simp <;> rfl) ?_
         iterate 3 refine Qaa rfl (by kernel_rfl) (fun _ _ => by go_simp <;> rfl) ?_
         refine Qaa rfl (by kernel_rfl) (fun w' hw => by have x_2 := hw.1; have y_2 := hw.2.1; have z_0 := hw.2.2.1; have z_1 := hw.2.2.2.1; have t_0 := hw.2.2.2.2.1; have t_1 := hw.2.2.2.2.2; go_simp <;> rfl) ?_
         refine Qal rfl (Qa HC4 _ ((Below.refl wr.heap.size wr).drew)) (fun K hK => ?_)
         go_simp
         have hcl := Qhr ((Qa HY).1.later Qbv ((Below.refl wr.heap.size wr).drew)) ((Qa HY).2.later Qbv ((Below.refl wr.heap.size wr).drew))
         rw [Qa E6] at hcl
         refine hcl.mono ?_
         clear hcl
         rintro en v1 ⟨rfl, bv1⟩
         have D1 := hide (((Below.refl wr.heap.size wr).drew).trans (bv1.mono ((Below.refl wr.heap.size wr).drew).size))
         clear bv1
         go_wp2_with fail
         refine Qaa (v := .bool true) rfl (by kernel_rfl) (fun _ _ => by go_simp <;> rfl) ?_
         refine Qaa (v := .bool true) rfl (by kernel_rfl) (fun _ _ => by go_simp <;> rfl) ?_
         refine Qan (Qa HC4 _ (Qa D1)) (hPP _ _ ?_)
         clear hPP PP
         simp [Act.put, Array.setIfInBounds]
         go_wp2_with fail
         go_ret
         obtain ⟨hx', hy', hq, bq, hr⟩ := Qa HF2
         obtain ⟨hx, hy, hall, bw⟩ := Qa HF
         exact ⟨by rw [Qai hx hy (show eqTy x y = false by unfold eqTy; rw [Qai hx' hy' hr]; simp)]; rfl, bw.trans ((bq.trans ((Qa D1).mono bq.size)).mono bw.size)⟩
       have g5 : (x'.name == y'.name) = false := by simpa using e5
       have HF2 := hide (Ya hx' (Ya hy' (Ya hq (Ya bq (show eqCt x' y' = false by unfold eqCt; simp [e5])))))
       clear hx' hy' hq bq
       clear e5
       go_wp2_with fail
       refine Qak (md := mLErt1) (fun w' => w'.cell? ⟨b1, j * 4 + 2, none⟩ = some (.slice (some ⟨b3, 0, none⟩) xn xc) ∧ w'.cell? ⟨b2, j * 4 + 2, none⟩ = some (.slice (some ⟨b4, 0, none⟩) xn yc) ∧ w'.cell? ⟨b3, k * 2, none⟩ = some (str x'.name) ∧ w'.cell? ⟨b3, k * 2 + 1, none⟩ = some (.slice fa fn fc) ∧ w'.cell? ⟨b4, k * 2, none⟩ = some (str y'.name) ∧ w'.cell? ⟨b4, k * 2 + 1, none⟩ = some (.slice ga gn gc)) mixedO (by kernel_rfl) rfl (by kernel_rfl) (fun PP hPP => ?_)
       iterate 4 refine Qaa rfl (by kernel_rfl) (fun _ _ => by go_simp <;> rfl) ?_
       refine Qaa rfl (by kernel_rfl) (fun w' hw => by have x_2 := hw.1; have y_2 := hw.2.1; have z_0 := hw.2.2.1; have z_1 := hw.2.2.2.1; have t_0 := hw.2.2.2.2.1; have t_1 := hw.2.2.2.2.2; go_simp <;> rfl) ?_
       iterate 3 refine Qaa rfl (by kernel_rfl) (fun _ _ => by go_simp <;> rfl) ?_
       refine Qaa rfl (by kernel_rfl) (fun w' hw => by have x_2 := hw.1; have y_2 := hw.2.1; have z_0 := hw.2.2.1; have z_1 := hw.2.2.2.1; have t_0 := hw.2.2.2.2.1; have t_1 := hw.2.2.2.2.2; go_simp <;> rfl) ?_
       iterate 4 refine Qaa rfl (by kernel_rfl) (fun _ _ => by go_simp <;> rfl) ?_
       refine Qaa rfl (by kernel_rfl) (fun w' hw => by have x_2 := hw.1; have y_2 := hw.2.1; have z_0 := hw.2.2.1; have z_1 := hw.2.2.2.1; have t_0 := hw.2.2.2.2.1; have t_1 := hw.2.2.2.2.2; go_simp <;> rfl) ?_
       iterate 3 refine Qaa rfl (by kernel_rfl) (fun _ _ => by go_simp <;> rfl) ?_
       refine Qaa rfl (by kernel_rfl) (fun w' hw => by have x_2 := hw.1; have y_2 := hw.2.1; have z_0 := hw.2.2.1; have z_1 := hw.2.2.2.1; have t_0 := hw.2.2.2.2.1; have t_1 := hw.2.2.2.2.2; go_simp <;> rfl) ?_
       refine Qaa (v := .bool true) rfl (by kernel_rfl) (fun _ _ => by go_simp <;> rfl) ?_
       refine Qaa (v := .bool true) rfl (by kernel_rfl) (fun _ _ => by go_simp <;> rfl) ?_
       iterate 18 refine Qah rfl (by kernel_rfl) ?_
       refine Qaq rfl (Qa HC4 _ ((Below.refl wr.heap.size wr).drew)) (by kernel_rfl) ?_
       refine Qah rfl (by kernel_rfl) ?_
       refine Qaa (v := .bool true) rfl (by kernel_rfl) (fun _ _ => by go_simp <;> rfl) ?_
       refine Qan (Qa HC4 _ ((Below.refl wr.heap.size wr).drew)) (hPP _ _ ?_)
       clear hPP PP
       simp [Act.put, Array.setIfInBounds]
       go_wp2_with fail
       go_ret
       obtain ⟨hx', hy', hq, bq, hr⟩ := Qa HF2
       obtain ⟨hx, hy, hall, bw⟩ := Qa HF
       exact ⟨by rw [Qai hx hy (show eqTy x y = false by unfold eqTy; rw [Qai hx' hy' hr]; simp)]; rfl, bw.trans ((bq.trans (((Below.refl wr.heap.size wr).drew).mono bq.size)).mono bw.size)⟩
      have HF3 := hide (Ya bq hq)
      clear bq hq HB2
      go_wp2_with fail
      go_roundw
      case rel =>
       obtain ⟨hx, hy, hall, bw⟩ := Qa HF
       obtain ⟨bq, hq⟩ := Qa HF3
       obtain ⟨lx, ly⟩ := Qa HL
       refine ⟨j + 1, by go_num, by omega, hide ⟨bw.trans (bq.mono bw.size), fun q x' y' hq1 hx' hy' => ?_⟩⟩
       by_cases e : q = j
       ·
        subst e
        rw [hx] at hx'
        rw [hy] at hy'
        cases hx'
        cases hy'
        unfold eqTy
        rw [Qbd (by omega) (fun q x' y' hx' hy' => hq q x' y' (by have := (List.getElem?_eq_some_iff.1 hx').1; omega) hx' hy')]
        simp [Qa E0, Qa E1]
       · exact hall q x' y' (by omega) hx' hy'
      case measure => simp [intOf]; omega
     have g3 : ((xn : Int) != (yn : Int)) = true := by simp; omega
     have HF := hide (Ya hx (Ya hy (Ya hall (Ya bw (show eqTy x y = false by obtain ⟨lx, ly⟩ := Qa HL; unfold eqTy; rw [Qbo (by omega)]; simp)))))
     clear hx hy hall bw
     clear e0
     clear e1
     go_wp2_with fail
     refine Qak (md := mLErt0) (fun w' => (∀ q c, ([str x.name, str x.sub, .slice xa xn xc, .int .i64 x.at_] : List Value)[q]? = some c → w'.cell? ⟨b1, j * 4 + q, none⟩ = some c) ∧ (∀ q c, ([str y.name, str y.sub, .slice ya yn yc, .int .i64 y.at_] : List Value)[q]? = some c → w'.cell? ⟨b2, j * 4 + q, none⟩ = some c)) mixedO (by kernel_rfl) rfl (by kernel_rfl) (fun PP hPP => ?_)
     iterate 4 refine Qaa rfl (by kernel_rfl) (fun _ _ => by go_simp <;> rfl) ?_
     refine Qaa rfl (by kernel_rfl) (fun w' hw => by obtain ⟨x_0, x_1, x_2, x_3⟩ := cs4 hw.1; obtain ⟨y_0, y_1, y_2, y_3⟩ := cs4 hw.2; go_simp <;> rfl) ?_
     iterate 4 refine Qaa rfl (by kernel_rfl) (fun _ _ => by go_simp <;> rfl) ?_
     refine Qaa rfl (by kernel_rfl) (fun w' hw => by obtain ⟨x_0, x_1, x_2, x_3⟩ := cs4 hw.1; obtain ⟨y_0, y_1, y_2, y_3⟩ := cs4 hw.2; go_simp <;> rfl) ?_
     refine Qaa (v := .bool false) rfl (by kernel_rfl) (fun _ _ => by go_simp <;> rfl) ?_
     refine Qaa (v := .bool false) rfl (by kernel_rfl) (fun _ _ => by go_simp <;> rfl) ?_
     iterate 4 refine Qaa rfl (by kernel_rfl) (fun _ _ => by go_simp <;> rfl) ?_
     refine Qaa rfl (by kernel_rfl) (fun w' hw => by obtain ⟨x_0, x_1, x_2, x_3⟩ := cs4 hw.1; obtain ⟨y_0, y_1, y_2, y_3⟩ := cs4 hw.2; go_simp <;> rfl) ?_
     iterate 4 refine Qaa rfl (by kernel_rfl) (fun _ _ => by go_simp <;> rfl) ?_
     refine Qaa rfl (by kernel_rfl) (fun w' hw => by obtain ⟨x_0, x_1, x_2, x_3⟩ := cs4 hw.1; obtain ⟨y_0, y_1, y_2, y_3⟩ := cs4 hw.2; go_simp <;> rfl) ?_
     refine Qaa (v := .bool false) rfl (by kernel_rfl) (fun _ _ => by go_simp <;> rfl) ?_
     refine Qaa (v := .bool false) rfl (by kernel_rfl) (fun _ _ => by go_simp <;> rfl) ?_
     refine Qaa (v := .bool false) rfl (by kernel_rfl) (fun _ _ => by go_simp <;> rfl) ?_
     iterate 4 refine Qaa rfl (by kernel_rfl) (fun _ _ => by go_simp <;> rfl) ?_
     refine Qaa rfl (by kernel_rfl) (fun w' hw => by obtain ⟨x_0, x_1, x_2, x_3⟩ := cs4 hw.1; obtain ⟨y_0, y_1, y_2, y_3⟩ := cs4 hw.2; go_simp <;> rfl) ?_
     iterate 4 refine Qaa rfl (by kernel_rfl) (fun _ _ => by go_simp <;> rfl) ?_
     refine Qaa rfl (by kernel_rfl) (fun w' hw => by obtain ⟨x_0, x_1, x_2, x_3⟩ := cs4 hw.1; obtain ⟨y_0, y_1, y_2, y_3⟩ := cs4 hw.2; go_simp <;> rfl) ?_
     refine Qaa rfl (by kernel_rfl) (fun _ _ => by go_simp <;> rfl) ?_
     refine Qal rfl (Qa HC _ ((Below.refl wr.heap.size wr).drew)) (fun K hK => ?_)
     go_simp
     have hcl := Qcd x.at_ y.at_ wr.drew
     refine hcl.mono ?_
     clear hcl
     rintro en u1 ⟨rfl, bu1⟩
     have B1 := hide (((Below.refl wr.heap.size wr).drew).trans (bu1.mono ((Below.refl wr.heap.size wr).drew).size))
     clear bu1
     go_wp2_with fail
     refine Qaa (v := .bool false) rfl (by kernel_rfl) (fun _ _ => by go_simp <;> rfl) ?_
     refine Qaa (v := .bool false) rfl (by kernel_rfl) (fun _ _ => by go_simp <;> rfl) ?_
     refine Qaa (v := .bool false) rfl (by kernel_rfl) (fun _ _ => by go_simp <;> rfl) ?_
     iterate 4 refine Qaa rfl (by kernel_rfl) (fun _ _ => by go_simp <;> rfl) ?_
     refine Qaa rfl (by kernel_rfl) (fun w' hw => by obtain ⟨x_0, x_1, x_2, x_3⟩ := cs4 hw.1; obtain ⟨y_0, y_1, y_2, y_3⟩ := cs4 hw.2; go_simp <;> rfl) ?_
     iterate 5 refine Qaa rfl (by kernel_rfl) (fun _ _ => by go_simp <;> rfl) ?_
     refine Qaa rfl (by kernel_rfl) (fun w' hw => by obtain ⟨x_0, x_1, x_2, x_3⟩ := cs4 hw.1; obtain ⟨y_0, y_1, y_2, y_3⟩ := cs4 hw.2; go_simp <;> rfl) ?_
     refine Qaa rfl (by kernel_rfl) (fun _ _ => by go_simp <;> rfl) ?_
     refine Qaa (v := .bool true) rfl (by kernel_rfl) (fun _ _ => by go_simp <;> rfl) ?_
     refine Qaa (v := .bool true) rfl (by kernel_rfl) (fun _ _ => by go_simp <;> rfl) ?_
     refine Qan (Qa HC _ (Qa B1)) (hPP _ _ ?_)
     clear hPP PP
     simp [Act.put, Array.setIfInBounds]
     go_wp2_with fail
     go_ret
     obtain ⟨hx, hy, hall, bw, hr⟩ := Qa HF
     exact ⟨by rw [Qai hx hy hr]; rfl, bw.trans ((Qa B1).mono bw.size)⟩
    have g1 : (x.sub == y.sub) = false := by simpa using e1
    have HF := hide (Ya hx (Ya hy (Ya hall (Ya bw (show eqTy x y = false by unfold eqTy; simp [e0, e1])))))
    clear hx hy hall bw
    have E0 := hide e0
    clear e0
    have E1 := hide e1
    clear e1
    go_wp2_with fail
    refine Qak (md := mLErt0) (fun w' => (∀ q c, ([str x.name, str x.sub, .slice xa xn xc, .int .i64 x.at_] : List Value)[q]? = some c → w'.cell? ⟨b1, j * 4 + q, none⟩ = some c) ∧ (∀ q c, ([str y.name, str y.sub, .slice ya yn yc, .int .i64 y.at_] : List Value)[q]? = some c → w'.cell? ⟨b2, j * 4 + q, none⟩ = some c)) mixedO (by kernel_rfl) rfl (by kernel_rfl) (fun PP hPP => ?_)
    iterate 4 refine Qaa rfl (by kernel_rfl) (fun _ _ => by go_simp <;> rfl) ?_
    refine Qaa rfl (by kernel_rfl) (fun w' hw => by obtain ⟨x_0, x_1, x_2, x_3⟩ := cs4 hw.1; obtain ⟨y_0, y_1, y_2, y_3⟩ := cs4 hw.2; go_simp <;> rfl) ?_
    iterate 4 refine Qaa rfl (by kernel_rfl) (fun _ _ => by go_simp <;> rfl) ?_
    refine Qaa rfl (by kernel_rfl) (fun w' hw => by obtain ⟨x_0, x_1, x_2, x_3⟩ := cs4 hw.1; obtain ⟨y_0, y_1, y_2, y_3⟩ := cs4 hw.2; go_simp <;> rfl) ?_
    refine Qaa (v := .bool false) rfl (by kernel_rfl) (fun _ _ => by go_simp <;> rfl) ?_
    refine Qaa (v := .bool false) rfl (by kernel_rfl) (fun _ _ => by go_simp <;> rfl) ?_
    iterate 4 refine Qaa rfl (by kernel_rfl) (fun _ _ => by go_simp <;> rfl) ?_
    refine Qaa rfl (by kernel_rfl) (fun w' hw => by obtain ⟨x_0, x_1, x_2, x_3⟩ := cs4 hw.1; obtain ⟨y_0, y_1, y_2, y_3⟩ := cs4 hw.2; go_simp <;> rfl) ?_
    iterate 4 refine Qaa rfl (by kernel_rfl) (fun _ _ => by go_simp <;> rfl) ?_
    refine Qaa rfl (by kernel_rfl) (fun w' hw => by obtain ⟨x_0, x_1, x_2, x_3⟩ := cs4 hw.1; obtain ⟨y_0, y_1, y_2, y_3⟩ := cs4 hw.2; go_simp <;> rfl) ?_
    refine Qaa (v := .bool true) rfl (by kernel_rfl) (fun _ _ => by go_simp <;> rfl) ?_
    refine Qaa (v := .bool true) rfl (by kernel_rfl) (fun _ _ => by go_simp <;> rfl) ?_
    refine Qaa (v := .bool true) rfl (by kernel_rfl) (fun _ _ => by go_simp <;> rfl) ?_
    iterate 11 refine Qah rfl (by kernel_rfl) ?_
    refine Qaq rfl (Qa HC _ ((Below.refl wr.heap.size wr).drew)) (by kernel_rfl) ?_
    refine Qah rfl (by kernel_rfl) ?_
    refine Qaa (v := .bool true) rfl (by kernel_rfl) (fun _ _ => by go_simp <;> rfl) ?_
    refine Qaa (v := .bool true) rfl (by kernel_rfl) (fun _ _ => by go_simp <;> rfl) ?_
    iterate 13 refine Qah rfl (by kernel_rfl) ?_
    refine Qaa (v := .bool true) rfl (by kernel_rfl) (fun _ _ => by go_simp <;> rfl) ?_
    refine Qan (Qa HC _ ((Below.refl wr.heap.size wr).drew)) (hPP _ _ ?_)
    clear hPP PP
    simp [Act.put, Array.setIfInBounds]
    go_wp2_with fail
    go_ret
    obtain ⟨hx, hy, hall, bw, hr⟩ := Qa HF
    exact ⟨by rw [Qai hx hy hr]; rfl, bw.trans (((Below.refl wr.heap.size wr).drew).mono bw.size)⟩
   have g0 : (x.name == y.name) = false := by simpa using e0
   have HF := hide (Ya hx (Ya hy (Ya hall (Ya bw (show eqTy x y = false by unfold eqTy; simp [e0])))))
   clear hx hy hall bw
   have E0 := hide e0
   clear e0
   go_wp2_with fail
   refine Qak (md := mLErt0) (fun w' => (∀ q c, ([str x.name, str x.sub, .slice xa xn xc, .int .i64 x.at_] : List Value)[q]? = some c → w'.cell? ⟨b1, j * 4 + q, none⟩ = some c) ∧ (∀ q c, ([str y.name, str y.sub, .slice ya yn yc, .int .i64 y.at_] : List Value)[q]? = some c → w'.cell? ⟨b2, j * 4 + q, none⟩ = some c)) mixedO (by kernel_rfl) rfl (by kernel_rfl) (fun PP hPP => ?_)
   iterate 4 refine Qaa rfl (by kernel_rfl) (fun _ _ => by go_simp <;> rfl) ?_
   refine Qaa rfl (by kernel_rfl) (fun w' hw => by obtain ⟨x_0, x_1, x_2, x_3⟩ := cs4 hw.1; obtain ⟨y_0, y_1, y_2, y_3⟩ := cs4 hw.2; go_simp <;> rfl) ?_
   iterate 4 refine Qaa rfl (by kernel_rfl) (fun _ _ => by go_simp <;> rfl) ?_
   refine Qaa rfl (by kernel_rfl) (fun w' hw => by obtain ⟨x_0, x_1, x_2, x_3⟩ := cs4 hw.1; obtain ⟨y_0, y_1, y_2, y_3⟩ := cs4 hw.2; go_simp <;> rfl) ?_
   refine Qaa (v := .bool true) rfl (by kernel_rfl) (fun _ _ => by go_simp <;> rfl) ?_
   refine Qaa (v := .bool true) rfl (by kernel_rfl) (fun _ _ => by go_simp <;> rfl) ?_
   iterate 11 refine Qah rfl (by kernel_rfl) ?_
   refine Qaa (v := .bool true) rfl (by kernel_rfl) (fun _ _ => by go_simp <;> rfl) ?_
   refine Qaa (v := .bool true) rfl (by kernel_rfl) (fun _ _ => by go_simp <;> rfl) ?_
   iterate 11 refine Qah rfl (by kernel_rfl) ?_
   refine Qaq rfl (Qa HC _ ((Below.refl wr.heap.size wr).drew)) (by kernel_rfl) ?_
   refine Qah rfl (by kernel_rfl) ?_
   refine Qaa (v := .bool true) rfl (by kernel_rfl) (fun _ _ => by go_simp <;> rfl) ?_
   refine Qaa (v := .bool true) rfl (by kernel_rfl) (fun _ _ => by go_simp <;> rfl) ?_
   iterate 13 refine Qah rfl (by kernel_rfl) ?_
   refine Qaa (v := .bool true) rfl (by kernel_rfl) (fun _ _ => by go_simp <;> rfl) ?_
   refine Qan (Qa HC _ ((Below.refl wr.heap.size wr).drew)) (hPP _ _ ?_)
   clear hPP PP
   simp [Act.put, Array.setIfInBounds]
   go_wp2_with fail
   go_ret
   obtain ⟨hx, hy, hall, bw, hr⟩ := Qa HF
   exact ⟨by rw [Qai hx hy hr]; rfl, bw.trans (((Below.refl wr.heap.size wr).drew).mono bw.size)⟩
  obtain ⟨bw, hall⟩ := Qa HB
  have HF := hide (Ya bw hall)
  clear bw hall HB
  go_wp2_with fail
  go_ret
  obtain ⟨bw, hall⟩ := Qa HF
  obtain ⟨ha, hb, hn1, hn2⟩ := Qa HA
  exact ⟨by rw [Qbd (by omega) (fun q x' y' hx' hy' => hall q x' y' (by have := (List.getElem?_eq_some_iff.1 hx').1; omega) hx' hy')]; rfl, bw⟩
 have hne : ((n1 : Int) != (n2 : Int)) = true := by simp; omega
 go_enter Tryz.func17, Tryz.ntmps17
 go_wp2_with fail
 go_ret
 obtain ⟨ha, hb, hn1, hn2⟩ := Qa HA
 exact ⟨by rw [Qbo (by omega)]; rfl, Below.refl _ _⟩
end
end Go.Proofs.YtccehgfecaamoaaGreatDoor
