/- The document's comps, places aside, where Same is told of each body. -/
import Derived.Test.YtccehgfecaamoaaGreatDoorQb35
set_option maxRecDepth 100000
set_option maxHeartbeats 32000000
namespace Go.Proofs.YtccehgfecaamoaaGreatDoor
section
open Go.RowKit Go.Maps
abbrev mLErk0 : List (Nat × Bool) := [(0, true), (1, true), (2, true), (3, true), (4, true), (5, true), (6, true), (7, true), (8, true), (9, true), (10, true), (11, true), (12, true), (13, true), (14, true), (15, true), (16, true), (17, true), (18, true), (19, true), (20, true), (21, true), (22, false), (23, true), (24, true), (25, true), (26, true), (27, true), (28, true), (29, true), (30, true), (31, true), (32, true), (33, true), (34, true), (35, true), (36, true), (37, false), (38, true), (39, true), (40, true), (41, true), (42, true), (43, true), (44, true), (45, true), (46, true), (47, true), (48, true), (49, true), (50, true), (51, true), (52, false), (53, true), (54, true)]

def qgLoad (a : Value) : Sem Value := Instr.loadAt 28 a
theorem Qx (a : Value) : Instr.loadAt 28 a = qgLoad a := rfl
theorem size_qg : (Tryz.prog.info? 28).map (·.size) = some 5 := by kernel_rfl
theorem Qfg {w : World} {b o : Nat} {c0 c1 c2 c3 c4 : Value} (h : ∀ q c, ([c0, c1, c2, c3, c4] : List Value)[q]? = some c → w.cell? ⟨b, o + q, none⟩ = some c) : (qgLoad (.pointer (some ⟨b, o, none⟩))).run Tryz.prog w = .ok (.agg #[c0, c1, c2, c3, c4]) w :=
 run_loadAt_mid w b o 28 [c0, c1, c2, c3, c4] _ (fun q v hq => h q v hq) Tryz.underlying28 rfl size_qg
theorem Qhb {w : World} {b o : Nat} {z0 z1 c0 c1 c2 c3 c4 z7 : Value} (h : ∀ q c, ([z0, z1, c0, c1, c2, c3, c4, z7] : List Value)[q]? = some c → w.cell? ⟨b, o + q, none⟩ = some c) : ∀ q c, ([c0, c1, c2, c3, c4] : List Value)[q]? = some c → w.cell? ⟨b, o + 2 + q, none⟩ = some c := fun q c hq => by
 have hl : q < 5 := (List.getElem?_eq_some_iff.1 hq).1
 have := h (q + 2) c (by match q, hl with | 0, _ => exact hq | 1, _ => exact hq | 2, _ => exact hq | 3, _ => exact hq | 4, _ => exact hq)
 rw [show o + 2 + q = o + (q + 2) by omega]
 exact this
attribute [local go_sem ↓] Qx
theorem Qya {S : Nat → Prop} {w : World} {va vb : Value} {xs ys : List Cp} (ha : LsAt PCo 8 S w va xs) (hb : LsAt PCo 8 S w vb ys)
  (hf : ∀ (j : Nat) (x y : Cp), xs[j]? = some x → ys[j]? = some y → ∀ w' c0 c1 c2 c3 c4 d0 d1 d2 d3 d4, Below w.heap.size w w' → PgS S w' [c0, c1, c2, c3, c4] x.2.2.1 → PgS S w' [d0, d1, d2, d3, d4] y.2.2.1 → Calls Tryz.prog 9 #[.agg #[c0, c1, c2, c3, c4], .agg #[d0, d1, d2, d3, d4], .bool false] w' fun en w2 => en = .returned (.bool (eqPg x.2.2.1 y.2.2.1)) ∧ Below w'.heap.size w' w2) :
  Calls Tryz.prog 19 #[va, vb, .bool false] w fun en w' => en = .returned (.bool (eqL eqCp xs ys)) ∧ Below w.heap.size w w' := by
 obtain ⟨a1, p1, e1⟩ := ha.sl
 obtain ⟨a2, p2, e2⟩ := hb.sl
 have hm1 : xs.length ≤ p1 ∧ p1 ≤ maxLen := by
  obtain ⟨_, _, _, e, h1, h2, _⟩ := ha
  rw [e] at e1
  cases e1
  exact ⟨h1, h2⟩
 have hm2 : ys.length ≤ p2 ∧ p2 ≤ maxLen := by
  obtain ⟨_, _, _, e, h1, h2, _⟩ := hb
  rw [e] at e2
  cases e2
  exact ⟨h1, h2⟩
 unfold maxLen at hm1 hm2
 obtain ⟨n1, hn1⟩ : ∃ n, xs.length = n := ⟨_, rfl⟩
 obtain ⟨n2, hn2⟩ : ∃ n, ys.length = n := ⟨_, rfl⟩
 rw [hn1] at e1 hm1
 rw [hn2] at e2 hm2
 obtain ⟨hc1, hc2⟩ := hm1
 obtain ⟨hc3, hc4⟩ := hm2
 have HA := hide (Ya ha (Ya hb (Ya hf (Ya hn1 hn2))))
 have HV := hide (Ya e1 e2)
 rw [e1, e2]
 clear ha hb hf e1 e2 hn1 hn2
 by_cases hlen : n1 = n2
 ·
  subst hlen
  go_enter Tryz.func19, Tryz.ntmps19
  go_wp2_with fail
  go_loopw [7] (fun i wr => ∃ j : Nat, i = .int .i64 (j : Int) ∧ j ≤ n1 ∧ Hid (Below w.heap.size w wr ∧ ∀ q x y, q < j → xs[q]? = some x → ys[q]? = some y → eqCp x y = true)) (fun i _ => n1 - (intOf i).toNat)
  case atStart => exact ⟨0, rfl, Nat.zero_le _, hide ⟨Below.refl _ _, fun q _ _ hq => absurd hq (Nat.not_lt_zero _)⟩⟩
  obtain ⟨j, rfl, hj, HB⟩ := hrel
  by_cases hlt : j < n1
  ·
   obtain ⟨ha, hb, hf, hn1, hn2⟩ := Qa HA
   obtain ⟨bw, hall⟩ := Qa HB
   obtain ⟨x, hx⟩ : ∃ x, xs[j]? = some x := ⟨xs[j]'(by omega), List.getElem?_eq_getElem _⟩
   obtain ⟨y, hy⟩ : ∃ y, ys[j]? = some y := ⟨ys[j]'(by omega), List.getElem?_eq_getElem _⟩
   obtain ⟨b1, q1, cs1, ev1, hb1, _, hl1, hp1, hc1'⟩ := (ha.later Qbb bw).elem hx
   obtain ⟨b2, q2, cs2, ev2, hb2, _, hl2, hp2, hc2'⟩ := (hb.later Qbb bw).elem hy
   obtain ⟨vb1, bd1, rfl, hd1, hs1, hg1⟩ := hp1
   obtain ⟨vb2, bd2, rfl, hd2, hs2, hg2⟩ := hp2
   obtain ⟨xa, xc, rfl⟩ := hs1.sl
   obtain ⟨ya, yc, rfl⟩ := hs2.sl
   obtain ⟨xn, hxn⟩ : ∃ n, x.2.1.length = n := ⟨_, rfl⟩
   obtain ⟨yn, hyn⟩ : ∃ n, y.2.1.length = n := ⟨_, rfl⟩
   rw [hxn] at hs1 hc1' hl1
   rw [hyn] at hs2 hc2' hl2
   clear hxn hyn
   obtain ⟨t0, t1, t2, t3, t4, rfl⟩ := Qra hd1
   obtain ⟨s0, s1, s2, s3, s4, rfl⟩ := Qra hd2
   simp only [List.cons_append, List.nil_append] at hc1' hc2'
   have HX := hide (Ya hs1 hs2)
   have HG := hide (Ya hg1 hg2)
   have HM := hide (hf j x y hx hy)
   have HW := hide bw
   clear hs1 hs2 hg1 hg2 hd1 hd2
   rw [(Qa HV).1, hn1] at ev1
   rw [(Qa HV).2, hn2] at ev2
   simp only [Value.slice.injEq] at ev1 ev2
   obtain ⟨rfl, -, -⟩ := ev1
   obtain ⟨rfl, -, -⟩ := ev2
   have HC : Hid (∀ w', Below wr.heap.size wr w' → (∀ q c, ([str x.1, .slice xa xn xc, t0, t1, t2, t3, t4, .int .i64 x.2.2.2] : List Value)[q]? = some c → w'.cell? ⟨b1, j * 8 + q, none⟩ = some c) ∧ (∀ q c, ([str y.1, .slice ya yn yc, s0, s1, s2, s3, s4, .int .i64 y.2.2.2] : List Value)[q]? = some c → w'.cell? ⟨b2, j * 8 + q, none⟩ = some c)) := fun w' bb => ⟨fun q c hq => by rw [bb.cell (p := ⟨b1, _, none⟩) hb1]; exact hc1' q c hq, fun q c hq => by rw [bb.cell (p := ⟨b2, _, none⟩) hb2]; exact hc2' q c hq⟩
   clear ha hb hf hc1' hc2' hl1 hl2 hn1 hn2 HA HV hb1 hb2 HB
   by_cases e0 : x.1 = y.1
   ·
    have g0 : (x.1 == y.1) = true := by simpa using e0
    cases e1 : eqL eqTx x.2.1 y.2.1 with
    | true =>
     cases e3 : eqPg x.2.2.1 y.2.2.1 with
     | true =>
      have HF := hide (Ya hx (Ya hy (Ya hall (Ya bw (show eqCp x y = true by unfold eqCp; simp [e0, e1, e3])))))
      clear hx hy hall bw
      have E0 := hide e0
      clear e0
      have E1 := hide e1
      clear e1
      have E3 := hide e3
      clear e3
      go_wp2_with fail
      refine Qak (md := mLErk0) (fun w' => (∀ q c, ([str x.1, .slice xa xn xc, t0, t1, t2, t3, t4, .int .i64 x.2.2.2] : List Value)[q]? = some c → w'.cell? ⟨b1, j * 8 + q, none⟩ = some c) ∧ (∀ q c, ([str y.1, .slice ya yn yc, s0, s1, s2, s3, s4, .int .i64 y.2.2.2] : List Value)[q]? = some c → w'.cell? ⟨b2, j * 8 + q, none⟩ = some c)) mixedO (by kernel_rfl) rfl (by kernel_rfl) (fun PP hPP => ?_)
      iterate 4 refine Qaa rfl (by kernel_rfl) (fun _ _ => by go_simp <;> rfl) ?_
      refine Qaa rfl (by kernel_rfl) (fun w' hw => by obtain ⟨x_0, x_1, x_2, x_3, x_4, x_5, x_6, x_7⟩ := cs8 hw.1; obtain ⟨y_0, y_1, y_2, y_3, y_4, y_5, y_6, y_7⟩ := cs8 hw.2; go_simp <;> rfl) ?_
      iterate 4 refine Qaa rfl (by kernel_rfl) (fun _ _ => by go_simp <;> rfl) ?_
      refine Qaa rfl (by kernel_rfl) (fun w' hw => by obtain ⟨x_0, x_1, x_2, x_3, x_4, x_5, x_6, x_7⟩ := cs8 hw.1; obtain ⟨y_0, y_1, y_2, y_3, y_4, y_5, y_6, y_7⟩ := cs8 hw.2; go_simp <;> rfl) ?_
      refine Qaa (v := .bool false) rfl (by kernel_rfl) (fun _ _ => by go_simp <;> rfl) ?_
      refine Qaa (v := .bool false) rfl (by kernel_rfl) (fun _ _ => by go_simp <;> rfl) ?_
      iterate 4 refine Qaa rfl (by kernel_rfl) (fun _ _ => by go_simp <;> rfl) ?_
      refine Qaa rfl (by kernel_rfl) (fun w' hw => by obtain ⟨x_0, x_1, x_2, x_3, x_4, x_5, x_6, x_7⟩ := cs8 hw.1; obtain ⟨y_0, y_1, y_2, y_3, y_4, y_5, y_6, y_7⟩ := cs8 hw.2; go_simp <;> rfl) ?_
      iterate 4 refine Qaa rfl (by kernel_rfl) (fun _ _ => by go_simp <;> rfl) ?_
      refine Qaa rfl (by kernel_rfl) (fun w' hw => by obtain ⟨x_0, x_1, x_2, x_3, x_4, x_5, x_6, x_7⟩ := cs8 hw.1; obtain ⟨y_0, y_1, y_2, y_3, y_4, y_5, y_6, y_7⟩ := cs8 hw.2; go_simp <;> rfl) ?_
      refine Qal rfl (Qa HC _ ((Below.refl wr.heap.size wr).drew)) (fun K hK => ?_)
      go_simp
      have hcl := Qly ((Qa HX).1.later Qbj ((Below.refl wr.heap.size wr).drew)) ((Qa HX).2.later Qbj ((Below.refl wr.heap.size wr).drew))
      rw [Qa E1] at hcl
      refine hcl.mono ?_
      clear hcl
      rintro en u1 ⟨rfl, bu1⟩
      have B1 := hide (((Below.refl wr.heap.size wr).drew).trans (bu1.mono ((Below.refl wr.heap.size wr).drew).size))
      clear bu1
      go_wp2_with fail
      refine Qaa (v := .bool false) rfl (by kernel_rfl) (fun _ _ => by go_simp <;> rfl) ?_
      refine Qaa (v := .bool false) rfl (by kernel_rfl) (fun _ _ => by go_simp <;> rfl) ?_
      refine Qaa (v := .bool false) rfl (by kernel_rfl) (fun _ _ => by go_simp <;> rfl) ?_
      iterate 4 refine Qaa rfl (by kernel_rfl) (fun _ _ => by go_simp <;> rfl) ?_
      refine Qaa rfl (by kernel_rfl) (fun w' hw => by obtain ⟨x_0, x_1, x_2, x_3, x_4, x_5, x_6, x_7⟩ := cs8 hw.1; obtain ⟨y_0, y_1, y_2, y_3, y_4, y_5, y_6, y_7⟩ := cs8 hw.2; go_simp <;> rfl) ?_
      iterate 4 refine Qaa rfl (by kernel_rfl) (fun _ _ => by go_simp <;> rfl) ?_
      refine Qaa rfl (by kernel_rfl) (fun w' hw => by obtain ⟨x_0, x_1, x_2, x_3, x_4, x_5, x_6, x_7⟩ := cs8 hw.1; obtain ⟨y_0, y_1, y_2, y_3, y_4, y_5, y_6, y_7⟩ := cs8 hw.2; go_simp <;> rfl) ?_
      refine Qaa rfl (by kernel_rfl) (fun _ _ => by go_simp <;> rfl) ?_
      refine Qal rfl (Qa HC _ (Qa B1)) (fun K hK => ?_)
      go_simp
      have hcl := Qcd x.2.2.2 y.2.2.2 u1
      refine hcl.mono ?_
      clear hcl
      rintro en u2 ⟨rfl, bu2⟩
      have B2 := hide ((Qa B1).trans (bu2.mono (Qa B1).size))
      clear bu2
      go_wp2_with fail
      refine Qaa (v := .bool false) rfl (by kernel_rfl) (fun _ _ => by go_simp <;> rfl) ?_
      refine Qaa (v := .bool false) rfl (by kernel_rfl) (fun _ _ => by go_simp <;> rfl) ?_
      refine Qaa (v := .bool false) rfl (by kernel_rfl) (fun _ _ => by go_simp <;> rfl) ?_
      iterate 4 refine Qaa rfl (by kernel_rfl) (fun _ _ => by go_simp <;> rfl) ?_
      refine Qaa rfl (by kernel_rfl) (fun w' hw => by have L1 := Qfg (Qhb (w := w') (fun q c hq => hw.1 q c hq)); have L2 := Qfg (Qhb (w := w') (fun q c hq => hw.2 q c hq)); go_simp <;> rfl) ?_
      iterate 4 refine Qaa rfl (by kernel_rfl) (fun _ _ => by go_simp <;> rfl) ?_
      refine Qaa rfl (by kernel_rfl) (fun w' hw => by have L1 := Qfg (Qhb (w := w') (fun q c hq => hw.1 q c hq)); have L2 := Qfg (Qhb (w := w') (fun q c hq => hw.2 q c hq)); go_simp <;> rfl) ?_
      refine Qaa rfl (by kernel_rfl) (fun _ _ => by go_simp <;> rfl) ?_
      refine Qal rfl (Qa HC _ (Qa B2)) (fun K hK => ?_)
      go_simp
      have hcl := Qa HM u2 t0 t1 t2 t3 t4 s0 s1 s2 s3 s4 ((Qa HW).trans ((Qa B2).mono (Qa HW).size)) (Qao.same _ _ _ _ _ (Qa HG).1 (Qa B2).size (fun b _ hl => (Qa B2).block b hl)) (Qao.same _ _ _ _ _ (Qa HG).2 (Qa B2).size (fun b _ hl => (Qa B2).block b hl))
      rw [Qa E3] at hcl
      refine hcl.mono ?_
      clear hcl
      rintro en u3 ⟨rfl, bu3⟩
      have B3 := hide ((Qa B2).trans (bu3.mono (Qa B2).size))
      clear bu3
      go_wp2_with fail
      refine Qaa (v := .bool false) rfl (by kernel_rfl) (fun _ _ => by go_simp <;> rfl) ?_
      refine Qaa (v := .bool false) rfl (by kernel_rfl) (fun _ _ => by go_simp <;> rfl) ?_
      refine Qan (Qa HC _ (Qa B3)) (hPP _ _ ?_)
      clear hPP PP
      simp [Act.put, Array.setIfInBounds]
      go_wp2_with fail
      go_roundw
      case rel =>
       obtain ⟨hx, hy, hall, bw, hr⟩ := Qa HF
       refine ⟨j + 1, by go_num, by omega, hide ⟨bw.trans ((Qa B3).mono bw.size), fun q x' y' hq hx' hy' => ?_⟩⟩
       by_cases e : q = j
       ·
        subst e
        rw [hx] at hx'
        rw [hy] at hy'
        cases hx'
        cases hy'
        exact hr
       · exact hall q x' y' (by omega) hx' hy'
      case measure => simp [intOf]; omega
     | false =>
      have HF := hide (Ya hx (Ya hy (Ya hall (Ya bw (show eqCp x y = false by unfold eqCp; simp [e0, e1, e3])))))
      clear hx hy hall bw
      have E0 := hide e0
      clear e0
      have E1 := hide e1
      clear e1
      have E3 := hide e3
      clear e3
      go_wp2_with fail
      refine Qak (md := mLErk0) (fun w' => (∀ q c, ([str x.1, .slice xa xn xc, t0, t1, t2, t3, t4, .int .i64 x.2.2.2] : List Value)[q]? = some c → w'.cell? ⟨b1, j * 8 + q, none⟩ = some c) ∧ (∀ q c, ([str y.1, .slice ya yn yc, s0, s1, s2, s3, s4, .int .i64 y.2.2.2] : List Value)[q]? = some c → w'.cell? ⟨b2, j * 8 + q, none⟩ = some c)) mixedO (by kernel_rfl) rfl (by kernel_rfl) (fun PP hPP => ?_)
      iterate 4 refine Qaa rfl (by kernel_rfl) (fun _ _ => by go_simp <;> rfl) ?_
      refine Qaa rfl (by kernel_rfl) (fun w' hw => by obtain ⟨x_0, x_1, x_2, x_3, x_4, x_5, x_6, x_7⟩ := cs8 hw.1; obtain ⟨y_0, y_1, y_2, y_3, y_4, y_5, y_6, y_7⟩ := cs8 hw.2; go_simp <;> rfl) ?_
      iterate 4 refine Qaa rfl (by kernel_rfl) (fun _ _ => by go_simp <;> rfl) ?_
      refine Qaa rfl (by kernel_rfl) (fun w' hw => by obtain ⟨x_0, x_1, x_2, x_3, x_4, x_5, x_6, x_7⟩ := cs8 hw.1; obtain ⟨y_0, y_1, y_2, y_3, y_4, y_5, y_6, y_7⟩ := cs8 hw.2; go_simp <;> rfl) ?_
      refine Qaa (v := .bool false) rfl (by kernel_rfl) (fun _ _ => by go_simp <;> rfl) ?_
      refine Qaa (v := .bool false) rfl (by kernel_rfl) (fun _ _ => by go_simp <;> rfl) ?_
      iterate 4 refine Qaa rfl (by kernel_rfl) (fun _ _ => by go_simp <;> rfl) ?_
      refine Qaa rfl (by kernel_rfl) (fun w' hw => by obtain ⟨x_0, x_1, x_2, x_3, x_4, x_5, x_6, x_7⟩ := cs8 hw.1; obtain ⟨y_0, y_1, y_2, y_3, y_4, y_5, y_6, y_7⟩ := cs8 hw.2; go_simp <;> rfl) ?_
      iterate 4 refine Qaa rfl (by kernel_rfl) (fun _ _ => by go_simp <;> rfl) ?_
      refine Qaa rfl (by kernel_rfl) (fun w' hw => by obtain ⟨x_0, x_1, x_2, x_3, x_4, x_5, x_6, x_7⟩ := cs8 hw.1; obtain ⟨y_0, y_1, y_2, y_3, y_4, y_5, y_6, y_7⟩ := cs8 hw.2; go_simp <;> rfl) ?_
      refine Qal rfl (Qa HC _ ((Below.refl wr.heap.size wr).drew)) (fun K hK => ?_)
      go_simp
      have hcl := Qly ((Qa HX).1.later Qbj ((Below.refl wr.heap.size wr).drew)) ((Qa HX).2.later Qbj ((Below.refl wr.heap.size wr).drew))
      rw [Qa E1] at hcl
      refine hcl.mono ?_
      clear hcl
      rintro en u1 ⟨rfl, bu1⟩
      have B1 := hide (((Below.refl wr.heap.size wr).drew).trans (bu1.mono ((Below.refl wr.heap.size wr).drew).size))
      clear bu1
      go_wp2_with fail
      refine Qaa (v := .bool false) rfl (by kernel_rfl) (fun _ _ => by go_simp <;> rfl) ?_
      refine Qaa (v := .bool false) rfl (by kernel_rfl) (fun _ _ => by go_simp <;> rfl) ?_
      refine Qaa (v := .bool false) rfl (by kernel_rfl) (fun _ _ => by go_simp <;> rfl) ?_
      iterate 4 refine Qaa rfl (by kernel_rfl) (fun _ _ => by go_simp <;> rfl) ?_
      refine Qaa rfl (by kernel_rfl) (fun w' hw => by obtain ⟨x_0, x_1, x_2, x_3, x_4, x_5, x_6, x_7⟩ := cs8 hw.1; obtain ⟨y_0, y_1, y_2, y_3, y_4, y_5, y_6, y_7⟩ := cs8 hw.2; go_simp <;> rfl) ?_
      iterate 4 refine Qaa rfl (by kernel_rfl) (fun _ _ => by go_simp <;> rfl) ?_
      refine Qaa rfl (by kernel_rfl) (fun w' hw => by obtain ⟨x_0, x_1, x_2, x_3, x_4, x_5, x_6, x_7⟩ := cs8 hw.1; obtain ⟨y_0, y_1, y_2, y_3, y_4, y_5, y_6, y_7⟩ := cs8 hw.2; go_simp <;> rfl) ?_
      refine Qaa rfl (by kernel_rfl) (fun _ _ => by go_simp <;> rfl) ?_
      refine Qal rfl (Qa HC _ (Qa B1)) (fun K hK => ?_)
      go_simp
      have hcl := Qcd x.2.2.2 y.2.2.2 u1
      refine hcl.mono ?_
      clear hcl
      rintro en u2 ⟨rfl, bu2⟩
      have B2 := hide ((Qa B1).trans (bu2.mono (Qa B1).size))
      clear bu2
      go_wp2_with fail
      refine Qaa (v := .bool false) rfl (by kernel_rfl) (fun _ _ => by go_simp <;> rfl) ?_
      refine Qaa (v := .bool false) rfl (by kernel_rfl) (fun _ _ => by go_simp <;> rfl) ?_
      refine Qaa (v := .bool false) rfl (by kernel_rfl) (fun _ _ => by go_simp <;> rfl) ?_
      iterate 4 refine Qaa rfl (by kernel_rfl) (fun _ _ => by go_simp <;> rfl) ?_
      refine Qaa rfl (by kernel_rfl) (fun w' hw => by have L1 := Qfg (Qhb (w := w') (fun q c hq => hw.1 q c hq)); have L2 := Qfg (Qhb (w := w') (fun q c hq => hw.2 q c hq)); go_simp <;> rfl) ?_
      iterate 4 refine Qaa rfl (by kernel_rfl) (fun _ _ => by go_simp <;> rfl) ?_
      refine Qaa rfl (by kernel_rfl) (fun w' hw => by have L1 := Qfg (Qhb (w := w') (fun q c hq => hw.1 q c hq)); have L2 := Qfg (Qhb (w := w') (fun q c hq => hw.2 q c hq)); go_simp <;> rfl) ?_
      refine Qaa rfl (by kernel_rfl) (fun _ _ => by go_simp <;> rfl) ?_
      refine Qal rfl (Qa HC _ (Qa B2)) (fun K hK => ?_)
      go_simp
      have hcl := Qa HM u2 t0 t1 t2 t3 t4 s0 s1 s2 s3 s4 ((Qa HW).trans ((Qa B2).mono (Qa HW).size)) (Qao.same _ _ _ _ _ (Qa HG).1 (Qa B2).size (fun b _ hl => (Qa B2).block b hl)) (Qao.same _ _ _ _ _ (Qa HG).2 (Qa B2).size (fun b _ hl => (Qa B2).block b hl))
      rw [Qa E3] at hcl
      refine hcl.mono ?_
      clear hcl
      rintro en u3 ⟨rfl, bu3⟩
      have B3 := hide ((Qa B2).trans (bu3.mono (Qa B2).size))
      clear bu3
      go_wp2_with fail
      refine Qaa (v := .bool true) rfl (by kernel_rfl) (fun _ _ => by go_simp <;> rfl) ?_
      refine Qaa (v := .bool true) rfl (by kernel_rfl) (fun _ _ => by go_simp <;> rfl) ?_
      refine Qan (Qa HC _ (Qa B3)) (hPP _ _ ?_)
      clear hPP PP
      simp [Act.put, Array.setIfInBounds]
      go_wp2_with fail
      go_ret
      obtain ⟨hx, hy, hall, bw, hr⟩ := Qa HF
      exact ⟨by rw [Qai hx hy hr]; rfl, bw.trans ((Qa B3).mono bw.size)⟩
    | false =>
     have HF := hide (Ya hx (Ya hy (Ya hall (Ya bw (show eqCp x y = false by unfold eqCp; simp [e0, e1])))))
     clear hx hy hall bw
     have E0 := hide e0
     clear e0
     have E1 := hide e1
     clear e1
     go_wp2_with fail
     refine Qak (md := mLErk0) (fun w' => (∀ q c, ([str x.1, .slice xa xn xc, t0, t1, t2, t3, t4, .int .i64 x.2.2.2] : List Value)[q]? = some c → w'.cell? ⟨b1, j * 8 + q, none⟩ = some c) ∧ (∀ q c, ([str y.1, .slice ya yn yc, s0, s1, s2, s3, s4, .int .i64 y.2.2.2] : List Value)[q]? = some c → w'.cell? ⟨b2, j * 8 + q, none⟩ = some c)) mixedO (by kernel_rfl) rfl (by kernel_rfl) (fun PP hPP => ?_)
     iterate 4 refine Qaa rfl (by kernel_rfl) (fun _ _ => by go_simp <;> rfl) ?_
     refine Qaa rfl (by kernel_rfl) (fun w' hw => by obtain ⟨x_0, x_1, x_2, x_3, x_4, x_5, x_6, x_7⟩ := cs8 hw.1; obtain ⟨y_0, y_1, y_2, y_3, y_4, y_5, y_6, y_7⟩ := cs8 hw.2; go_simp <;> rfl) ?_
     iterate 4 refine Qaa rfl (by kernel_rfl) (fun _ _ => by go_simp <;> rfl) ?_
     refine Qaa rfl (by kernel_rfl) (fun w' hw => by obtain ⟨x_0, x_1, x_2, x_3, x_4, x_5, x_6, x_7⟩ := cs8 hw.1; obtain ⟨y_0, y_1, y_2, y_3, y_4, y_5, y_6, y_7⟩ := cs8 hw.2; go_simp <;> rfl) ?_
     refine Qaa (v := .bool false) rfl (by kernel_rfl) (fun _ _ => by go_simp <;> rfl) ?_
     refine Qaa (v := .bool false) rfl (by kernel_rfl) (fun _ _ => by go_simp <;> rfl) ?_
     iterate 4 refine Qaa rfl (by kernel_rfl) (fun _ _ => by go_simp <;> rfl) ?_
     refine Qaa rfl (by kernel_rfl) (fun w' hw => by obtain ⟨x_0, x_1, x_2, x_3, x_4, x_5, x_6, x_7⟩ := cs8 hw.1; obtain ⟨y_0, y_1, y_2, y_3, y_4, y_5, y_6, y_7⟩ := cs8 hw.2; go_simp <;> rfl) ?_
     iterate 4 refine Qaa rfl (by kernel_rfl) (fun _ _ => by go_simp <;> rfl) ?_
     refine Qaa rfl (by kernel_rfl) (fun w' hw => by obtain ⟨x_0, x_1, x_2, x_3, x_4, x_5, x_6, x_7⟩ := cs8 hw.1; obtain ⟨y_0, y_1, y_2, y_3, y_4, y_5, y_6, y_7⟩ := cs8 hw.2; go_simp <;> rfl) ?_
     refine Qal rfl (Qa HC _ ((Below.refl wr.heap.size wr).drew)) (fun K hK => ?_)
     go_simp
     have hcl := Qly ((Qa HX).1.later Qbj ((Below.refl wr.heap.size wr).drew)) ((Qa HX).2.later Qbj ((Below.refl wr.heap.size wr).drew))
     rw [Qa E1] at hcl
     refine hcl.mono ?_
     clear hcl
     rintro en u1 ⟨rfl, bu1⟩
     have B1 := hide (((Below.refl wr.heap.size wr).drew).trans (bu1.mono ((Below.refl wr.heap.size wr).drew).size))
     clear bu1
     go_wp2_with fail
     refine Qaa (v := .bool true) rfl (by kernel_rfl) (fun _ _ => by go_simp <;> rfl) ?_
     refine Qaa (v := .bool true) rfl (by kernel_rfl) (fun _ _ => by go_simp <;> rfl) ?_
     refine Qaa (v := .bool true) rfl (by kernel_rfl) (fun _ _ => by go_simp <;> rfl) ?_
     iterate 11 refine Qah rfl (by kernel_rfl) ?_
     refine Qaq rfl (Qa HC _ (Qa B1)) (by kernel_rfl) ?_
     refine Qah rfl (by kernel_rfl) ?_
     refine Qaa (v := .bool true) rfl (by kernel_rfl) (fun _ _ => by go_simp <;> rfl) ?_
     refine Qaa (v := .bool true) rfl (by kernel_rfl) (fun _ _ => by go_simp <;> rfl) ?_
     iterate 11 refine Qah rfl (by kernel_rfl) ?_
     refine Qaq rfl (Qa HC _ (Qa B1)) (by kernel_rfl) ?_
     refine Qah rfl (by kernel_rfl) ?_
     refine Qaa (v := .bool true) rfl (by kernel_rfl) (fun _ _ => by go_simp <;> rfl) ?_
     refine Qan (Qa HC _ (Qa B1)) (hPP _ _ ?_)
     clear hPP PP
     simp [Act.put, Array.setIfInBounds]
     go_wp2_with fail
     go_ret
     obtain ⟨hx, hy, hall, bw, hr⟩ := Qa HF
     exact ⟨by rw [Qai hx hy hr]; rfl, bw.trans ((Qa B1).mono bw.size)⟩
   have g0 : (x.1 == y.1) = false := by simpa using e0
   have HF := hide (Ya hx (Ya hy (Ya hall (Ya bw (show eqCp x y = false by unfold eqCp; simp [e0])))))
   clear hx hy hall bw
   have E0 := hide e0
   clear e0
   go_wp2_with fail
   refine Qak (md := mLErk0) (fun w' => (∀ q c, ([str x.1, .slice xa xn xc, t0, t1, t2, t3, t4, .int .i64 x.2.2.2] : List Value)[q]? = some c → w'.cell? ⟨b1, j * 8 + q, none⟩ = some c) ∧ (∀ q c, ([str y.1, .slice ya yn yc, s0, s1, s2, s3, s4, .int .i64 y.2.2.2] : List Value)[q]? = some c → w'.cell? ⟨b2, j * 8 + q, none⟩ = some c)) mixedO (by kernel_rfl) rfl (by kernel_rfl) (fun PP hPP => ?_)
   iterate 4 refine Qaa rfl (by kernel_rfl) (fun _ _ => by go_simp <;> rfl) ?_
   refine Qaa rfl (by kernel_rfl) (fun w' hw => by obtain ⟨x_0, x_1, x_2, x_3, x_4, x_5, x_6, x_7⟩ := cs8 hw.1; obtain ⟨y_0, y_1, y_2, y_3, y_4, y_5, y_6, y_7⟩ := cs8 hw.2; go_simp <;> rfl) ?_
   iterate 4 refine Qaa rfl (by kernel_rfl) (fun _ _ => by go_simp <;> rfl) ?_
   refine Qaa rfl (by kernel_rfl) (fun w' hw => by obtain ⟨x_0, x_1, x_2, x_3, x_4, x_5, x_6, x_7⟩ := cs8 hw.1; obtain ⟨y_0, y_1, y_2, y_3, y_4, y_5, y_6, y_7⟩ := cs8 hw.2; go_simp <;> rfl) ?_
   refine Qaa (v := .bool true) rfl (by kernel_rfl) (fun _ _ => by go_simp <;> rfl) ?_
   refine Qaa (v := .bool true) rfl (by kernel_rfl) (fun _ _ => by go_simp <;> rfl) ?_
   iterate 10 refine Qah rfl (by kernel_rfl) ?_
   refine Qaq rfl (Qa HC _ ((Below.refl wr.heap.size wr).drew)) (by kernel_rfl) ?_
   refine Qah rfl (by kernel_rfl) ?_
   refine Qaa (v := .bool true) rfl (by kernel_rfl) (fun _ _ => by go_simp <;> rfl) ?_
   refine Qaa (v := .bool true) rfl (by kernel_rfl) (fun _ _ => by go_simp <;> rfl) ?_
   iterate 11 refine Qah rfl (by kernel_rfl) ?_
   refine Qaq rfl (Qa HC _ ((Below.refl wr.heap.size wr).drew)) (by kernel_rfl) ?_
   refine Qah rfl (by kernel_rfl) ?_
   refine Qaa (v := .bool true) rfl (by kernel_rfl) (fun _ _ => by go_simp <;> rfl) ?_
   refine Qaa (v := .bool true) rfl (by kernel_rfl) (fun _ _ => by go_simp <;> rfl) ?_
   iterate 11 refine Qah rfl (by kernel_rfl) ?_
   refine Qaq rfl (Qa HC _ ((Below.refl wr.heap.size wr).drew)) (by kernel_rfl) ?_
   refine Qah rfl (by kernel_rfl) ?_
   refine Qaa (v := .bool true) rfl (by kernel_rfl) (fun _ _ => by go_simp <;> rfl) ?_
   refine Qan (Qa HC _ ((Below.refl wr.heap.size wr).drew)) (hPP _ _ ?_)
   clear hPP PP
   simp [Act.put, Array.setIfInBounds]
   go_wp2_with fail
   go_ret
   obtain ⟨hx, hy, hall, bw, hr⟩ := Qa HF
   exact ⟨by rw [Qai hx hy hr]; rfl, bw.trans (((Below.refl wr.heap.size wr).drew).mono bw.size)⟩
  obtain ⟨bw, hall⟩ := Qa HB
  have HF := hide (Ya bw hall)
  clear bw hall HB
  go_wp2_with fail
  go_ret
  obtain ⟨bw, hall⟩ := Qa HF
  obtain ⟨ha, hb, hf, hn1, hn2⟩ := Qa HA
  exact ⟨by rw [Qbd (by omega) (fun q x' y' hx' hy' => hall q x' y' (by have := (List.getElem?_eq_some_iff.1 hx').1; omega) hx' hy')]; rfl, bw⟩
 have hne : ((n1 : Int) != (n2 : Int)) = true := by simp; omega
 go_enter Tryz.func19, Tryz.ntmps19
 go_wp2_with fail
 go_ret
 obtain ⟨ha, hb, hf, hn1, hn2⟩ := Qa HA
 exact ⟨by rw [Qbo (by omega)]; rfl, Below.refl _ _⟩
end
end Go.Proofs.YtccehgfecaamoaaGreatDoor
