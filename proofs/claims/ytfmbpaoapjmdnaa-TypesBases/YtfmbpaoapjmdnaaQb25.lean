/- types: wrongType. types: wrongClause. types: Check of a flat program. types: Check of a flat program. types: Infer. -/
import Derived.Test.YtfmbpaoapjmdnaaQb24
set_option maxRecDepth 100000
set_option maxHeartbeats 32000000
namespace Go.Proofs.Ytfmbpaoapjmdnaa
section
open Go.RowKit Go.Maps
section
variable {n0 : Nat} {p : Pg} {c : CatP} {w : World}
theorem Qib (h : Cs n0 p c w) (hts : p.types.length ≤ 1000000000) :
  Calls Try.prog 83 #[.pointer (some ⟨c.cb, 0, none⟩)] w fun en w' => en = .returned (ftV (wTypeP p p.types.zipIdx)) ∧ Below w.heap.size w w' := by
 obtain ⟨vt, vd, vc, vi, vl, ev, qt, qd, qc, qi, ql⟩ := h.prg.cells
 simp only [List.cons.injEq, and_true] at ev
 rw [← ev.1] at qt
 obtain ⟨a1, k1, c1, hv1⟩ : ∃ a n d, c.v0 = .slice a n d := by
  obtain ⟨_, _, e⟩ := qt.sl
  exact ⟨_, _, _, e⟩
 rw [hv1] at qt
 have hk1 : k1 = p.types.length := by obtain ⟨_, _, e⟩ := qt.sl; cases e; rfl
 have hcap := qt.cap rfl
 have hk9 : k1 ≤ 1000000000 := by omega
 obtain ⟨w1, hw1⟩ : ∃ w1, w1 = w.alloc (.cells #[.int .i64 0, .int .i64 0] 31) := ⟨_, rfl⟩
 have b1 := bnw hw1
 have n1 := nnw hw1
 obtain ⟨rb, hrb⟩ : ∃ rb, w.heap.size = rb := ⟨_, rfl⟩
 rw [hrb] at n1
 have HRB := hide hrb
 obtain ⟨x_0, x_1, x_2, x_3, x_4, x_5, x_6, x_7, x_8, xf⟩ := cl9 (Ct.later h b1).box
 rw [hv1] at x_0
 have HW1 := hide (Ya hw1 hrb)
 have H0 := hide (Ya h (Ya qt (Ya hk1 hts)))
 have H1 := hide (Ya b1 n1)
 clear h hts ev qt qd qc qi ql hv1 hk1 hw1 b1 n1 hrb x_1 x_2 x_3 x_4 x_5 x_6 x_7 x_8
 go_enter Try.func83, Try.ntmps83
 go_upto_region 1 with fail
 rw [← (Qa HW1).1, (Qa HW1).2]
 go_wp2_with fail
 clear x_0 xf
 go_loopw [11] (fun v wr => ∃ i : Nat, v = .int .i64 (i : Int) ∧ i ≤ k1 ∧ Hid (Below w.heap.size w wr ∧ wr.heap[rb]? = some (.cells #[.int .i64 0, .int .i64 0] 31 (0, 0)) ∧ wTypeP p p.types.zipIdx = wTypeP p (p.types.zipIdx.drop i))) (fun v _ => k1 - (intOf v).toNat)
 case atStart => exact ⟨0, rfl, Nat.zero_le _, hide ⟨(Qa H1).1, (Qa H1).2, rfl⟩⟩
 obtain ⟨i, rfl, hi, HI⟩ := hrel
 by_cases hlt : i < k1
 ·
  obtain ⟨h, hL, hn, hts⟩ := Qa H0
  obtain ⟨br, nr, hwd⟩ := Qa HI
  obtain ⟨⟨nm, sb, cts, at0⟩, hd⟩ : ∃ d, p.types[i]? = some d := ⟨p.types[i]'(by omega), List.getElem?_eq_getElem _⟩
  rw [Qie hd, wTypeP] at hwd
  simp only at hwd
  obtain ⟨gb, cap, cs, e1, hgb, hS, _, hcs, hc⟩ := (hL.later Qbn br).elem hd
  obtain ⟨ya, yn, yc, rfl, hY⟩ := hcs
  simp only [Value.slice.injEq] at e1
  obtain ⟨rfl, -, -⟩ := e1
  have y0 : wr.cell? ⟨gb, i * 4, none⟩ = some (str nm) := hc 0 _ rfl
  have y1 : wr.cell? ⟨gb, i * 4 + 1, none⟩ = some (str sb) := hc 1 _ rfl
  have y2 : wr.cell? ⟨gb, i * 4 + 2, none⟩ = some (.slice ya yn yc) := hc 2 _ rfl
  have y3 : wr.cell? ⟨gb, i * 4 + 3, none⟩ = some (.int .i64 at0) := hc 3 _ rfl
  obtain ⟨w3, hw3⟩ : ∃ w3, w3 = wr.alloc (.cells #[str nm, str sb, .slice ya yn yc, .int .i64 at0] 68) := ⟨_, rfl⟩
  have b3 := bnw hw3
  have n3 := nnw hw3
  obtain ⟨tb, htb⟩ : ∃ tb, wr.heap.size = tb := ⟨_, rfl⟩
  rw [htb] at n3
  have bw3 := br.trans (b3.mono br.size)
  have nr3 := (b3.block _ (Qab nr)).trans nr
  have h3 : Cs n0 p c w3 := Ct.later h bw3
  have hth := Qiy h3 sb
  have hcn := Qgk h3 cts (hY.later Qcd b3)
  have hi3 : 3 + i < p.types.length + 3 := by omega
  obtain ⟨z_0, z_1, z_2, z_3, zf⟩ := cl4 n3
  have H3 := hide (Ya bw3 (Ya nr3 (Ya n3 (Ya hwd (Ya h3 (Ya hi3 hn))))))
  have HW3 := hide (Ya hw3 htb)
  clear h hL hn hts br nr hd hwd hgb hS hc hY hw3 b3 n3 htb bw3 nr3 h3 hi3
  by_cases hs : sb = []
  ·
   have g1 : List.isEmpty sb = true := by rw [hs]; rfl
   have hA : ¬ (sb ≠ [] ∧ tyNo p sb = 0) := fun e => e.1 hs
   have HA := hide hA
   clear hth hs hA
   have hA := Qa HA
   go_upto_region 4 with fail
   rw [← (Qa HW3).1, (Qa HW3).2]
   go_wp2_with fail
   refine hcn.mono ?_
   clear hcn z_0 z_1 z_2 z_3 zf
   rintro en w5 ⟨rfl, b5⟩
   obtain ⟨bw3, nr3, n3, hwd, h3, hi3, hk⟩ := Qa H3
   have n5 := (b5.block _ (Qab n3)).trans n3
   have nr5 := (b5.block _ (Qab nr3)).trans nr3
   have bw5 := bw3.trans (b5.mono bw3.size)
   have h5 : Cs n0 p c w5 := Ct.later h3 b5
   obtain ⟨z_0, z_1, z_2, z_3, zf⟩ := cl4 n5
   by_cases hb : (cts.any fun c => noneP p c.fields) = true
   ·
    rw [hb]
    have hres : wTypeP p p.types.zipIdx = (6, at0) := by rw [hwd, if_pos (.inr hb)]
    clear bw3 nr3 n3 hwd h3 hi3 hk b5 n5 h5 hA hb
    obtain ⟨W, hW, sc⟩ := sc2 nr5 (.int .i64 6) (.int .i64 at0)
    obtain ⟨y_0, y_1, yf⟩ := cl2 nr5
    have HE := hide (Ya (sc.below bw5 (Nat.le_of_eq (Qa HRB))) (Ya sc.box hres))
    have HWW := hide hW
    clear hW sc hres
    go_wp2_with fail
    rw [← Qa HWW]
    obtain ⟨u_0, u_1, uf⟩ := cl2 (Qa HE).2.1
    refine bodyPost_ret (v := ftV (6, at0)) (by simp [results, Try.results83, go_sem, u_0, u_1, ftV]) rfl ?_
    exact ⟨by rw [(Qa HE).2.2], (Qa HE).1⟩
   have hb' : (cts.any fun c => noneP p c.fields) = false := by simpa using hb
   rw [hb']
   have hnot : ¬ ((sb ≠ [] ∧ tyNo p sb = 0) ∨ (cts.any fun c => noneP p c.fields) = true) := fun e => e.elim hA hb
   rw [if_neg hnot] at hwd
   obtain ⟨x_0, x_1, x_2, x_3, x_4, x_5, x_6, x_7, x_8, xf⟩ := cl9 h5.box
   obtain ⟨r_0, r_1, r_2, rf⟩ := h5.row.cells hi3
   have hle := h5.row.le
   have hcm := h5.row.cm
   unfold maxLen at hcm
   rw [← hk] at x_5 hle
   obtain ⟨kv, hkv⟩ : ∃ kv, kBase p (3 + i) = kv := ⟨_, rfl⟩
   rw [hkv] at r_2 hwd
   by_cases hr : kv = -2
   ·
    subst hr
    have hres : wTypeP p p.types.zipIdx = (12, at0) := by rw [hwd, if_pos rfl]
    clear bw3 nr3 n3 hwd h3 hi3 hk b5 n5 h5 hA hb hb' hnot hkv x_0 x_1 x_2 x_3 x_4 x_6 x_7 x_8 r_0 r_1
    obtain ⟨W, hW, sc⟩ := sc2 nr5 (.int .i64 12) (.int .i64 at0)
    obtain ⟨y_0, y_1, yf⟩ := cl2 nr5
    have HE := hide (Ya (sc.below bw5 (Nat.le_of_eq (Qa HRB))) (Ya sc.box hres))
    have HWW := hide hW
    clear hW sc hres
    go_wp2_with fail
    rw [← Qa HWW]
    obtain ⟨u_0, u_1, uf⟩ := cl2 (Qa HE).2.1
    refine bodyPost_ret (v := ftV (12, at0)) (by simp [results, Try.results83, go_sem, u_0, u_1, ftV]) rfl ?_
    exact ⟨by rw [(Qa HE).2.2], (Qa HE).1⟩
   have hr' : (kv == -2) = false := beq_eq_false_iff_ne.2 hr
   have hres : wTypeP p p.types.zipIdx = wTypeP p (p.types.zipIdx.drop (i + 1)) := by rw [hwd, if_neg hr]
   have H5 := hide (Ya bw5 (Ya nr5 hres))
   clear bw3 nr3 n3 hwd h3 hi3 hk b5 n5 h5 hA hb hb' hnot hkv x_0 x_1 x_2 x_3 x_4 x_6 x_7 x_8 r_0 r_1 bw5 nr5 hres
   go_wp2_with fail
   go_roundw
   case rel => exact ⟨i + 1, by congr 1, by omega, H5⟩
   case measure => simp [intOf]; omega
  have g1 : List.isEmpty sb = false := by
   cases hq : sb with
   | nil => exact absurd hq hs
   | cons _ _ => rfl
  by_cases hz : tyNo p sb = 0
  ·
   have hd0 : decide (tyNo p sb ≠ 0) = false := by simp [hz]
   rw [hd0] at hth
   have hA : sb ≠ [] ∧ tyNo p sb = 0 := ⟨hs, hz⟩
   clear hcn hz hd0
   go_upto_region 4 with fail
   rw [← (Qa HW3).1, (Qa HW3).2]
   go_wp2_with fail
   refine hth.mono ?_
   clear hth
   rintro en w4 ⟨rfl, rfl⟩
   obtain ⟨bw3, nr3, n3, hwd, h3, hi3, hk⟩ := Qa H3
   have hres : wTypeP p p.types.zipIdx = (6, at0) := by rw [hwd, if_pos (.inl hA)]
   clear n3 hwd h3 hi3 hk hA
   obtain ⟨W, hW, sc⟩ := sc2 nr3 (.int .i64 6) (.int .i64 at0)
   obtain ⟨y_0, y_1, yf⟩ := cl2 nr3
   have HE := hide (Ya (sc.below bw3 (Nat.le_of_eq (Qa HRB))) (Ya sc.box hres))
   have HWW := hide hW
   clear hW sc hres
   go_wp2_with fail
   rw [← Qa HWW]
   obtain ⟨u_0, u_1, uf⟩ := cl2 (Qa HE).2.1
   refine bodyPost_ret (v := ftV (6, at0)) (by simp [results, Try.results83, go_sem, u_0, u_1, ftV]) rfl ?_
   exact ⟨by rw [(Qa HE).2.2], (Qa HE).1⟩
  have hd0 : decide (tyNo p sb ≠ 0) = true := by simp [hz]
  rw [hd0] at hth
  have hA : ¬ (sb ≠ [] ∧ tyNo p sb = 0) := fun e => hz e.2
  clear hz hd0
  go_upto_region 4 with fail
  rw [← (Qa HW3).1, (Qa HW3).2]
  go_wp2_with fail
  refine hth.mono ?_
  clear hth
  rintro en w4 ⟨rfl, rfl⟩
  go_wp2_with fail
  refine hcn.mono ?_
  clear hcn z_0 z_1 z_2 z_3 zf
  rintro en w5 ⟨rfl, b5⟩
  obtain ⟨bw3, nr3, n3, hwd, h3, hi3, hk⟩ := Qa H3
  have n5 := (b5.block _ (Qab n3)).trans n3
  have nr5 := (b5.block _ (Qab nr3)).trans nr3
  have bw5 := bw3.trans (b5.mono bw3.size)
  have h5 : Cs n0 p c w5 := Ct.later h3 b5
  obtain ⟨z_0, z_1, z_2, z_3, zf⟩ := cl4 n5
  by_cases hb : (cts.any fun c => noneP p c.fields) = true
  ·
   rw [hb]
   have hres : wTypeP p p.types.zipIdx = (6, at0) := by rw [hwd, if_pos (.inr hb)]
   clear bw3 nr3 n3 hwd h3 hi3 hk b5 n5 h5 hA hb
   obtain ⟨W, hW, sc⟩ := sc2 nr5 (.int .i64 6) (.int .i64 at0)
   obtain ⟨y_0, y_1, yf⟩ := cl2 nr5
   have HE := hide (Ya (sc.below bw5 (Nat.le_of_eq (Qa HRB))) (Ya sc.box hres))
   have HWW := hide hW
   clear hW sc hres
   go_wp2_with fail
   rw [← Qa HWW]
   obtain ⟨u_0, u_1, uf⟩ := cl2 (Qa HE).2.1
   refine bodyPost_ret (v := ftV (6, at0)) (by simp [results, Try.results83, go_sem, u_0, u_1, ftV]) rfl ?_
   exact ⟨by rw [(Qa HE).2.2], (Qa HE).1⟩
  have hb' : (cts.any fun c => noneP p c.fields) = false := by simpa using hb
  rw [hb']
  have hnot : ¬ ((sb ≠ [] ∧ tyNo p sb = 0) ∨ (cts.any fun c => noneP p c.fields) = true) := fun e => e.elim hA hb
  rw [if_neg hnot] at hwd
  obtain ⟨x_0, x_1, x_2, x_3, x_4, x_5, x_6, x_7, x_8, xf⟩ := cl9 h5.box
  obtain ⟨r_0, r_1, r_2, rf⟩ := h5.row.cells hi3
  have hle := h5.row.le
  have hcm := h5.row.cm
  unfold maxLen at hcm
  rw [← hk] at x_5 hle
  obtain ⟨kv, hkv⟩ : ∃ kv, kBase p (3 + i) = kv := ⟨_, rfl⟩
  rw [hkv] at r_2 hwd
  by_cases hr : kv = -2
  ·
   subst hr
   have hres : wTypeP p p.types.zipIdx = (12, at0) := by rw [hwd, if_pos rfl]
   clear bw3 nr3 n3 hwd h3 hi3 hk b5 n5 h5 hA hb hb' hnot hkv x_0 x_1 x_2 x_3 x_4 x_6 x_7 x_8 r_0 r_1
   obtain ⟨W, hW, sc⟩ := sc2 nr5 (.int .i64 12) (.int .i64 at0)
   obtain ⟨y_0, y_1, yf⟩ := cl2 nr5
   have HE := hide (Ya (sc.below bw5 (Nat.le_of_eq (Qa HRB))) (Ya sc.box hres))
   have HWW := hide hW
   clear hW sc hres
   go_wp2_with fail
   rw [← Qa HWW]
   obtain ⟨u_0, u_1, uf⟩ := cl2 (Qa HE).2.1
   refine bodyPost_ret (v := ftV (12, at0)) (by simp [results, Try.results83, go_sem, u_0, u_1, ftV]) rfl ?_
   exact ⟨by rw [(Qa HE).2.2], (Qa HE).1⟩
  have hr' : (kv == -2) = false := beq_eq_false_iff_ne.2 hr
  have hres : wTypeP p p.types.zipIdx = wTypeP p (p.types.zipIdx.drop (i + 1)) := by rw [hwd, if_neg hr]
  have H5 := hide (Ya bw5 (Ya nr5 hres))
  clear bw3 nr3 n3 hwd h3 hi3 hk b5 n5 h5 hA hb hb' hnot hkv x_0 x_1 x_2 x_3 x_4 x_6 x_7 x_8 r_0 r_1 bw5 nr5 hres
  go_wp2_with fail
  go_roundw
  case rel => exact ⟨i + 1, by congr 1, by omega, H5⟩
  case measure => simp [intOf]; omega
 have hix : i = k1 := by omega
 subst hix
 obtain ⟨br, nr, hwd⟩ := Qa HI
 rw [List.drop_of_length_le (by simp [(Qa H0).2.2.1])] at hwd
 have hres : wTypeP p p.types.zipIdx = (0, 0) := hwd
 clear hwd
 obtain ⟨W, hW, sc⟩ := sc2 nr (.int .i64 0) (.int .i64 0)
 obtain ⟨y_0, y_1, yf⟩ := cl2 nr
 have HE := hide (Ya (sc.below br (Nat.le_of_eq (Qa HRB))) (Ya sc.box hres))
 have HWW := hide hW
 clear hW sc hres
 go_wp2_with fail
 rw [← Qa HWW]
 obtain ⟨u_0, u_1, uf⟩ := cl2 (Qa HE).2.1
 refine bodyPost_ret (v := ftV (0, 0)) (by simp [results, Try.results83, go_sem, u_0, u_1, ftV]) rfl ?_
 exact ⟨by rw [(Qa HE).2.2], (Qa HE).1⟩
end
end
section
open Go.RowKit Go.Maps
theorem Qgt {R : Except Flt (List Fld)} {w w' : World} {en : Ending} (h : InfA R w en w') : ∃ sa sn sc0 f, en = .returned (.tuple #[.slice sa sn sc0, ftV f]) ∧ ((∃ v, R = .ok v ∧ f = (0, 0)) ∨ (R = .error f ∧ f.1 ≠ 0)) := by
 cases R with
 | ok vs =>
  obtain ⟨_, sl, e, ho⟩ := h
  obtain ⟨sa, sn, sc0, rfl⟩ : ∃ sa sn sc0, sl = .slice sa sn sc0 := by
   rcases ho.2 with ⟨e, _⟩ | ⟨g, cap, cur, e, _⟩
   · exact ⟨_, _, _, e⟩
   · exact ⟨_, _, _, e⟩
  exact ⟨sa, sn, sc0, _, e, .inl ⟨vs, rfl, rfl⟩⟩
 | error f =>
  obtain ⟨_, e, hn⟩ := h
  exact ⟨_, _, _, f, e, .inr ⟨rfl, hn⟩⟩
def InfC (n0 : Nat) (p : Pg) (c : CatP) (x : Cls) : Prop := ∀ (W : World) (aa ba : Option Addr) (an ac bn bc : Nat), Cs n0 p c W → LsAt PE 5 (fun b => b < n0) W (.slice aa an ac) x.head.args → LsAt PLt 16 (fun b => b < n0) W (.slice ba bn bc) x.body → Calls Try.prog 80 #[.pointer (some ⟨c.cb, 0, none⟩), .agg #[str x.head.rel, .slice aa an ac, .int .i64 x.head.at_, .slice ba bn bc, .int .i64 x.at_]] W fun en w' => InfA (infP p x) W en w'
section
variable {n0 : Nat} {p : Pg} {c : CatP} {w : World}
theorem Qgo (h : Cs n0 p c w) (hInf : ∀ x ∈ p.clauses, InfC n0 p c x) :
  Calls Try.prog 85 #[.pointer (some ⟨c.cb, 0, none⟩)] w fun en w' => en = .returned (ftV (wClauseP p p.clauses)) ∧ Below w.heap.size w w' := by
 obtain ⟨vt, vd, vc, vi, vl, ev, qt, qd, qc, qi, ql⟩ := h.prg.cells
 simp only [List.cons.injEq, and_true] at ev
 rw [← ev.2.2.2.2] at ql
 obtain ⟨a1, k1, c1, hv1⟩ : ∃ a n d, c.v4 = .slice a n d := by
  obtain ⟨_, _, e⟩ := ql.sl
  exact ⟨_, _, _, e⟩
 rw [hv1] at ql
 have hk1 : k1 = p.clauses.length := by obtain ⟨_, _, e⟩ := ql.sl; cases e; rfl
 have hcap := ql.cap rfl
 obtain ⟨w1, hw1⟩ : ∃ w1, w1 = w.alloc (.cells #[.int .i64 0, .int .i64 0] 31) := ⟨_, rfl⟩
 have b1 := bnw hw1
 have n1 := nnw hw1
 obtain ⟨rb, hrb⟩ : ∃ rb, w.heap.size = rb := ⟨_, rfl⟩
 rw [hrb] at n1
 have HRB := hide hrb
 obtain ⟨x_0, x_1, x_2, x_3, x_4, x_5, x_6, x_7, x_8, xf⟩ := cl9 (Ct.later h b1).box
 rw [hv1] at x_4
 have HW1 := hide (Ya hw1 hrb)
 have H0 := hide (Ya h (Ya ql (Ya hk1 hInf)))
 have H1 := hide (Ya b1 n1)
 clear h hInf ev qt qd qc qi ql hv1 hk1 hw1 b1 n1 hrb x_0 x_1 x_2 x_3 x_5 x_6 x_7 x_8
 go_enter Try.func85, Try.ntmps85
 go_upto_region 1 with fail
 rw [← (Qa HW1).1, (Qa HW1).2]
 go_wp2_with fail
 clear x_4 xf
 go_loopw [13] (fun v wr => ∃ i : Nat, v = .int .i64 (i : Int) ∧ i ≤ k1 ∧ Hid (Below w.heap.size w wr ∧ wr.heap[rb]? = some (.cells #[.int .i64 0, .int .i64 0] 31 (0, 0)) ∧ wClauseP p p.clauses = wClauseP p (p.clauses.drop i))) (fun v _ => k1 - (intOf v).toNat)
 case atStart => exact ⟨0, rfl, Nat.zero_le _, hide ⟨(Qa H1).1, (Qa H1).2, rfl⟩⟩
 obtain ⟨i, rfl, hi, HI⟩ := hrel
 by_cases hlt : i < k1
 ·
  obtain ⟨h, hL, hn, hInf⟩ := Qa H0
  obtain ⟨br, nr, hwd⟩ := Qa HI
  obtain ⟨d, hd⟩ : ∃ d, p.clauses[i]? = some d := ⟨p.clauses[i]'(by omega), List.getElem?_eq_getElem _⟩
  rw [Qhl hd, wClauseP] at hwd
  obtain ⟨gb, cap, cs, e1, hgb, hS, _, hcs, hc⟩ := (hL.later Qbq br).elem hd
  obtain ⟨aa, an, ac, ba, bn, bc, rfl, hA, hB⟩ := hcs
  simp only [Value.slice.injEq] at e1
  obtain ⟨rfl, -, -⟩ := e1
  have y0 : wr.cell? ⟨gb, i * 5, none⟩ = some (str d.head.rel) := hc 0 _ rfl
  have y1 : wr.cell? ⟨gb, i * 5 + 1, none⟩ = some (.slice aa an ac) := hc 1 _ rfl
  have y2 : wr.cell? ⟨gb, i * 5 + 2, none⟩ = some (.int .i64 d.head.at_) := hc 2 _ rfl
  have y3 : wr.cell? ⟨gb, i * 5 + 3, none⟩ = some (.slice ba bn bc) := hc 3 _ rfl
  have y4 : wr.cell? ⟨gb, i * 5 + 4, none⟩ = some (.int .i64 d.at_) := hc 4 _ rfl
  obtain ⟨w3, hw3⟩ : ∃ w3, w3 = wr.alloc (.cells #[str d.head.rel, .slice aa an ac, .int .i64 d.head.at_, .slice ba bn bc, .int .i64 d.at_] 78) := ⟨_, rfl⟩
  have b3 := bnw hw3
  have n3 := nnw hw3
  obtain ⟨tb, htb⟩ : ∃ tb, wr.heap.size = tb := ⟨_, rfl⟩
  rw [htb] at n3
  have bw3 := br.trans (b3.mono br.size)
  have nr3 := (b3.block _ (Qab nr)).trans nr
  have hcl := hInf d (List.mem_of_getElem? hd) w3 aa ba an ac bn bc (Ct.later h bw3) (hA.later Qae b3) (hB.later Qay b3)
  obtain ⟨z_0, z_1, z_2, z_3, z_4, zf⟩ := cl5 n3
  have H3 := hide (Ya bw3 (Ya nr3 hwd))
  have HW3 := hide (Ya hw3 htb)
  clear h hL hn hInf br nr hd hwd hgb hS hc hA hB hw3 b3 n3 htb bw3 nr3
  go_upto_region 4 with fail
  rw [← (Qa HW3).1, (Qa HW3).2]
  go_wp2_with fail
  refine hcl.mono ?_
  clear hcl y0 y1 y2 y3 y4 z_0 z_1 z_2 z_3 z_4 zf
  rintro en w4 hR
  have b4 := hR.1
  obtain ⟨sa, sn, sc0, f, rfl, hf⟩ : ∃ sa sn sc0 f, en = .returned (.tuple #[.slice sa sn sc0, ftV f]) ∧ ((∃ v, infP p d = .ok v ∧ f = (0, 0)) ∨ (infP p d = .error f ∧ f.1 ≠ 0)) := Qgt hR
  obtain ⟨f0, f1⟩ := f
  unfold ftV
  obtain ⟨bw3, nr3, hwd⟩ := Qa H3
  obtain ⟨w5, hw5⟩ : ∃ w5, w5 = w4.alloc (.cells #[.int .i64 f0, .int .i64 f1] 31) := ⟨_, rfl⟩
  have b5 := bnw hw5
  have n5 := nnw hw5
  obtain ⟨fb, hfb⟩ : ∃ fb, w4.heap.size = fb := ⟨_, rfl⟩
  rw [hfb] at n5
  have bw4 := bw3.trans (b4.mono bw3.size)
  have nr4 := (b4.block _ (Qab nr3)).trans nr3
  have bw5 := bw4.trans (b5.mono bw4.size)
  have nr5 := (b5.block _ (Qab nr4)).trans nr4
  have HW5 := hide (Ya hw5 hfb)
  obtain ⟨z_0, z_1, zf⟩ := cl2 n5
  by_cases hz : f0 = 0
  ·
   subst hz
   have hres : wClauseP p p.clauses = wClauseP p (p.clauses.drop (i + 1)) := by
    rcases hf with ⟨v, e, _⟩ | ⟨_, e⟩
    · rw [hwd, e]
    · exact absurd rfl e
   have H5 := hide (Ya bw5 (Ya nr5 hres))
   clear hf hR b4 bw3 nr3 hwd hw5 b5 n5 hfb bw4 nr4 bw5 nr5 hres
   go_upto_region 5 with fail
   rw [← (Qa HW5).1, (Qa HW5).2]
   go_wp2_with fail
   go_roundw
   case rel => exact ⟨i + 1, by congr 1, by omega, H5⟩
   case measure => simp [intOf]; omega
  have g1 : (f0 == 0) = false := beq_eq_false_iff_ne.2 hz
  have hres : wClauseP p p.clauses = (f0, f1) := by
   rcases hf with ⟨v, e, e2⟩ | ⟨e, _⟩
   ·
    cases e2
    exact absurd rfl hz
   · rw [hwd, e]
  clear hf hR b4 bw3 nr3 hwd hw5 b5 n5 hfb bw4 nr4
  obtain ⟨W, hW, sc⟩ := sc2 nr5 (.int .i64 f0) (.int .i64 f1)
  obtain ⟨y_0, y_1, yf⟩ := cl2 nr5
  have HE := hide (Ya (sc.below bw5 (Nat.le_of_eq (Qa HRB))) (Ya sc.box hres))
  have HWW := hide hW
  clear hW sc hres bw5 nr5
  go_upto_region 5 with fail
  rw [← (Qa HW5).1, (Qa HW5).2]
  go_wp2_with fail
  rw [← Qa HWW]
  obtain ⟨u_0, u_1, uf⟩ := cl2 (Qa HE).2.1
  refine bodyPost_ret (v := ftV (f0, f1)) (by simp [results, Try.results85, go_sem, u_0, u_1, ftV]) rfl ?_
  exact ⟨by rw [(Qa HE).2.2], (Qa HE).1⟩
 have hix : i = k1 := by omega
 subst hix
 obtain ⟨br, nr, hwd⟩ := Qa HI
 rw [List.drop_of_length_le (by rw [(Qa H0).2.2.1]; exact Nat.le_refl _)] at hwd
 have hres : wClauseP p p.clauses = (0, 0) := hwd
 clear hwd
 obtain ⟨W, hW, sc⟩ := sc2 nr (.int .i64 0) (.int .i64 0)
 obtain ⟨y_0, y_1, yf⟩ := cl2 nr
 have HE := hide (Ya (sc.below br (Nat.le_of_eq (Qa HRB))) (Ya sc.box hres))
 have HWW := hide hW
 clear hW sc hres
 go_wp2_with fail
 rw [← Qa HWW]
 obtain ⟨u_0, u_1, uf⟩ := cl2 (Qa HE).2.1
 refine bodyPost_ret (v := ftV (0, 0)) (by simp [results, Try.results85, go_sem, u_0, u_1, ftV]) rfl ?_
 exact ⟨by rw [(Qa HE).2.2], (Qa HE).1⟩
end
end
section
open Go.RowKit Go.Maps
section
variable {n0 : Nat} {p : Pg} {w : World} {a0 a1 a2 a3 a4 : Option Addr} {k0 k1 k2 k3 k4 c0 c1 c2 c3 c4 : Nat}
theorem Qpl (w : World) : Calls Try.prog 35 #[.agg #[.slice a0 k0 c0, .slice a1 k1 c1, .slice a2 0 c2, .slice a3 0 c3, .slice a4 k4 c4]] w fun en w' => en = .returned (.bool true) ∧ Below w.heap.size w w' := by
 obtain ⟨w1, hw1⟩ : ∃ w1, w1 = w.alloc (.cells #[.slice a0 k0 c0, .slice a1 k1 c1, .slice a2 0 c2, .slice a3 0 c3, .slice a4 k4 c4] 28) := ⟨_, rfl⟩
 have b1 := bnw hw1
 have nx := nnw hw1
 obtain ⟨x_0, x_1, x_2, x_3, x_4, xf⟩ := cl5 nx
 have HW1 := hide hw1
 have HB := hide b1
 clear hw1 b1 nx
 go_enter Try.func35, Try.ntmps35
 go_upto_region 1 with fail
 rw [← Qa HW1]
 go_wp2_with fail
 go_ret
 exact ⟨rfl, Qa HB⟩
end
def ckF (p : Pg) : Nat → Flt
 | 0 => if (wNameP p p.types.zipIdx).1 ≠ 0 then wNameP p p.types.zipIdx else if (wTypeP p p.types.zipIdx).1 ≠ 0 then wTypeP p p.types.zipIdx else if (wDeclP p p.decls.zipIdx).1 ≠ 0 then wDeclP p p.decls.zipIdx else if (wClauseP p p.clauses).1 ≠ 0 then wClauseP p p.clauses else (0, 0)
 | 1 => if (wTypeP p p.types.zipIdx).1 ≠ 0 then wTypeP p p.types.zipIdx else if (wDeclP p p.decls.zipIdx).1 ≠ 0 then wDeclP p p.decls.zipIdx else if (wClauseP p p.clauses).1 ≠ 0 then wClauseP p p.clauses else (0, 0)
 | 2 => if (wDeclP p p.decls.zipIdx).1 ≠ 0 then wDeclP p p.decls.zipIdx else if (wClauseP p p.clauses).1 ≠ 0 then wClauseP p p.clauses else (0, 0)
 | 3 => if (wClauseP p p.clauses).1 ≠ 0 then wClauseP p p.clauses else (0, 0)
 | _ => (0, 0)
end
section
open Go.RowKit Go.Maps
theorem cl4f {w : World} {b : Nat} {T : TypeId} {v0 v1 v2 v3 : Value} (h : w.heap[b]? = some (.cells #[v0, v1, v2, v3] T (0, 0))) : w.cell? ⟨b, 0, none⟩ = some v0 ∧ w.cell? ⟨b, 1, none⟩ = some v1 ∧ w.cell? ⟨b, 2, none⟩ = some v2 ∧ w.cell? ⟨b, 3, none⟩ = some v3 :=
 ⟨(Qaf h 0).trans rfl, (Qaf h 1).trans rfl, (Qaf h 2).trans rfl, (Qaf h 3).trans rfl⟩
section
variable {n0 : Nat} {p : Pg} {w : World} {a0 a1 a2 a3 a4 : Option Addr} {k0 k1 k4 c0 c1 c2 c3 c4 : Nat}
theorem Qla (hn0 : n0 ≤ w.heap.size) (hP : PgS (fun b => b < n0) w [.slice a0 k0 c0, .slice a1 k1 c1, .slice a2 0 c2, .slice a3 0 c3, .slice a4 k4 c4] p) (hts : p.types.length ≤ 1000000000) (hInf : ∀ (c : CatP) (x : Cls), x ∈ p.clauses → InfC n0 p c x) :
  Calls Try.prog 42 #[.agg #[.slice a0 k0 c0, .slice a1 k1 c1, .slice a2 0 c2, .slice a3 0 c3, .slice a4 k4 c4]] w fun en w' => en = .returned (ftV (ckF p 0)) ∧ Below w.heap.size w w' := by
 obtain ⟨w2, hw2, b2, nx, nf, s2⟩ := Qbo w #[.slice a0 k0 c0, .slice a1 k1 c1, .slice a2 0 c2, .slice a3 0 c3, .slice a4 k4 c4] 28
 have hfl := Qpl (a0 := a0) (k0 := k0) (c0 := c0) (a1 := a1) (k1 := k1) (c1 := c1) (a2 := a2) (c2 := c2) (a3 := a3) (c3 := c3) (a4 := a4) (k4 := k4) (c4 := c4) w2
 obtain ⟨x_0, x_1, x_2, x_3, x_4, xf⟩ := cl5 nx
 obtain ⟨rb, hrb⟩ : ∃ rb, w.heap.size = rb := ⟨_, rfl⟩
 have HRB := hide hrb
 have HW2 := hide hw2
 have H0 := hide (Ya hn0 (Ya hP (Ya hts hInf)))
 have H2 := hide (Ya b2 (Ya nx (Ya nf s2)))
 clear hw2 b2 nx nf s2 hn0 hP hts hInf hrb
 go_enter Try.func42, Try.ntmps42
 go_upto_region 1 with fail
 rw [← Qa HW2]
 go_wp2_with fail
 refine hfl.mono ?_
 clear hfl x_0 x_1 x_2 x_3 x_4 xf
 rintro en w3 ⟨rfl, b3⟩
 obtain ⟨b2, nx, nf, s2⟩ := Qa H2
 obtain ⟨hn0, hP, hts, hInf⟩ := Qa H0
 have nx3 := (b3.block _ (Qab nx)).trans nx
 have nf3 := (b3.block _ (Qab nf)).trans nf
 have b03 := b2.trans (b3.mono b2.size)
 have hcat := Qhi (n0 := n0) (w := w3) (by have := b03.size; omega) (Qar.same _ _ _ _ _ hP b03.size (fun q _ hl => b03.block q hl)) hts
 obtain ⟨x_0, x_1, x_2, x_3, x_4, xf⟩ := cl5 nx3
 have H3 := hide (Ya b03 nf3)
 clear b2 nx nf s2 hn0 hP hts hInf nx3 nf3 b03 b3
 go_wp2_with fail
 refine hcat.mono ?_
 clear hcat x_0 x_1 x_2 x_3 x_4 xf
 rintro en w4 ⟨c, rfl, hc, b4⟩
 obtain ⟨b03, nf3⟩ := Qa H3
 have nf4 := (b4.block _ (Qab nf3)).trans nf3
 have b04 := b03.trans (b4.mono b03.size)
 have H4 := hide (Ya b04 (Ya nf4 hc))
 clear b03 nf3 nf4 b04 hc b4
 obtain ⟨w5, hw5⟩ : ∃ w5, w5 = w4.alloc (.cells #[.func (.func 82) #[.pointer (some ⟨c.cb, 0, none⟩)] #[], .func (.func 83) #[.pointer (some ⟨c.cb, 0, none⟩)] #[], .func (.func 84) #[.pointer (some ⟨c.cb, 0, none⟩)] #[], .func (.func 85) #[.pointer (some ⟨c.cb, 0, none⟩)] #[]] 155) := ⟨_, rfl⟩
 obtain ⟨b04, nf4, hc⟩ := Qa H4
 have b5 := bnw hw5
 have n5 := nnw hw5
 obtain ⟨fb, hfb⟩ : ∃ fb, w4.heap.size = fb := ⟨_, rfl⟩
 rw [hfb] at n5
 have H5 := hide (Ya (b04.trans (b5.mono b04.size)) (Ya ((b5.block _ (Qab nf4)).trans nf4) (Ya n5 (Ct.later hc b5))))
 have HW5 := hide (Ya hw5 hfb)
 clear b04 nf4 hc hw5 b5 n5 hfb
 go_wp2_with fail
 rw [← (Qa HW5).1, (Qa HW5).2, Qa HRB]
 go_loopw [24] (fun v wr => ∃ i : Nat, v = .int .i64 (i : Int) ∧ i ≤ 4 ∧ Hid (Below w5.heap.size w5 wr ∧ ckF p 0 = ckF p i)) (fun v _ => 4 - (intOf v).toNat)
 case atStart => exact ⟨0, rfl, by decide, hide ⟨Below.refl _ _, rfl⟩⟩
 obtain ⟨i, rfl, hi, HI⟩ := hrel
 obtain ⟨br, hck⟩ := Qa HI
 obtain ⟨hn0, hP, hts, hInf⟩ := Qa H0
 obtain ⟨b05, nf5, n5, hc5⟩ := Qa H5
 have nr := (br.block _ (Qab n5)).trans n5
 have nfr := (br.block _ (Qab nf5)).trans nf5
 rw [Qa HRB] at nfr
 have b0r := b05.trans (br.mono b05.size)
 have hi4 : i = 0 ∨ i = 1 ∨ i = 2 ∨ i = 3 ∨ i = 4 := by omega
 rcases hi4 with rfl | rfl | rfl | rfl | rfl
 ·
  have hcall := Qia (Ct.later hc5 br) hts
  obtain ⟨⟨f0, f1⟩, hf⟩ : ∃ f, wNameP p p.types.zipIdx = f := ⟨_, rfl⟩
  rw [hf] at hcall
  have hne : f0 ≠ 0 → ckF p 0 = (f0, f1) := fun e => by
   rw [hck, ckF, hf, if_pos e]
  have heq : f0 = 0 → ckF p 0 = ckF p 1 := fun e => by
   rw [hck, ckF, hf, if_neg (by simpa using e)]
   rfl
  obtain ⟨q_0, q_1, q_2, q_3⟩ := cl4f nr
  have HR := hide (Ya br (Ya nfr (Ya b0r (Ya hne heq))))
  clear br hck hn0 hP hts hInf b05 nf5 n5 hc5 nr nfr b0r hf hne heq HI
  go_wp2_with fail
  refine hcall.mono ?_
  clear hcall q_0 q_1 q_2 q_3
  rintro en w6 ⟨rfl, b6⟩
  unfold ftV
  obtain ⟨br, nfr, b0r, hne, heq⟩ := Qa HR
  obtain ⟨w7, hw7⟩ : ∃ w7, w7 = w6.alloc (.cells #[.int .i64 f0, .int .i64 f1] 31) := ⟨_, rfl⟩
  have b7 := bnw hw7
  have n7 := nnw hw7
  obtain ⟨xb, hxb⟩ : ∃ xb, w6.heap.size = xb := ⟨_, rfl⟩
  rw [hxb] at n7
  have br7 := br.trans ((b6.trans (b7.mono b6.size)).mono br.size)
  have b07 := b0r.trans ((b6.trans (b7.mono b6.size)).mono b0r.size)
  have nf7 := (b7.block _ (Qab ((b6.block _ (Qab nfr)).trans nfr))).trans ((b6.block _ (Qab nfr)).trans nfr)
  have HW7 := hide (Ya hw7 hxb)
  obtain ⟨z_0, z_1, zf⟩ := cl2 n7
  by_cases hz : f0 = 0
  ·
   have H7 := hide (Ya br7 (heq hz))
   subst hz
   clear b6 br nfr b0r hne heq hw7 b7 n7 hxb br7 b07 nf7
   go_upto_region 8 with fail
   rw [← (Qa HW7).1, (Qa HW7).2]
   go_wp2_with fail
   go_roundw
   case rel => exact ⟨1, rfl, by decide, H7⟩
   case measure => simp [intOf]
  have g1 : (f0 == 0) = false := beq_eq_false_iff_ne.2 hz
  have hres := hne hz
  obtain ⟨W, hW, sc⟩ := sc2 nf7 (.int .i64 f0) (.int .i64 f1)
  obtain ⟨y_0, y_1, yf⟩ := cl2 nf7
  have HE := hide (Ya (sc.below b07 (by have := Qa HRB; omega)) (Ya sc.box hres))
  have HWW := hide hW
  clear b6 br nfr b0r hne heq hw7 b7 n7 hxb br7 b07 nf7 hW sc hres
  go_upto_region 8 with fail
  rw [← (Qa HW7).1, (Qa HW7).2]
  go_wp2_with fail
  rw [← Qa HWW]
  obtain ⟨u_0, u_1, uf⟩ := cl2 (Qa HE).2.1
  refine bodyPost_ret (v := ftV (f0, f1)) (by simp [results, Try.results42, go_sem, u_0, u_1, ftV]) rfl ?_
  exact ⟨by rw [(Qa HE).2.2], (Qa HE).1⟩
 ·
  have hcall := Qib (Ct.later hc5 br) hts
  obtain ⟨⟨f0, f1⟩, hf⟩ : ∃ f, wTypeP p p.types.zipIdx = f := ⟨_, rfl⟩
  rw [hf] at hcall
  have hne : f0 ≠ 0 → ckF p 0 = (f0, f1) := fun e => by
   rw [hck, ckF, hf, if_pos e]
  have heq : f0 = 0 → ckF p 0 = ckF p 2 := fun e => by
   rw [hck, ckF, hf, if_neg (by simpa using e)]
   rfl
  obtain ⟨q_0, q_1, q_2, q_3⟩ := cl4f nr
  have HR := hide (Ya br (Ya nfr (Ya b0r (Ya hne heq))))
  clear br hck hn0 hP hts hInf b05 nf5 n5 hc5 nr nfr b0r hf hne heq HI
  go_wp2_with fail
  refine hcall.mono ?_
  clear hcall q_0 q_1 q_2 q_3
  rintro en w6 ⟨rfl, b6⟩
  unfold ftV
  obtain ⟨br, nfr, b0r, hne, heq⟩ := Qa HR
  obtain ⟨w7, hw7⟩ : ∃ w7, w7 = w6.alloc (.cells #[.int .i64 f0, .int .i64 f1] 31) := ⟨_, rfl⟩
  have b7 := bnw hw7
  have n7 := nnw hw7
  obtain ⟨xb, hxb⟩ : ∃ xb, w6.heap.size = xb := ⟨_, rfl⟩
  rw [hxb] at n7
  have br7 := br.trans ((b6.trans (b7.mono b6.size)).mono br.size)
  have b07 := b0r.trans ((b6.trans (b7.mono b6.size)).mono b0r.size)
  have nf7 := (b7.block _ (Qab ((b6.block _ (Qab nfr)).trans nfr))).trans ((b6.block _ (Qab nfr)).trans nfr)
  have HW7 := hide (Ya hw7 hxb)
  obtain ⟨z_0, z_1, zf⟩ := cl2 n7
  by_cases hz : f0 = 0
  ·
   have H7 := hide (Ya br7 (heq hz))
   subst hz
   clear b6 br nfr b0r hne heq hw7 b7 n7 hxb br7 b07 nf7
   go_upto_region 8 with fail
   rw [← (Qa HW7).1, (Qa HW7).2]
   go_wp2_with fail
   go_roundw
   case rel => exact ⟨2, rfl, by decide, H7⟩
   case measure => simp [intOf]
  have g1 : (f0 == 0) = false := beq_eq_false_iff_ne.2 hz
  have hres := hne hz
  obtain ⟨W, hW, sc⟩ := sc2 nf7 (.int .i64 f0) (.int .i64 f1)
  obtain ⟨y_0, y_1, yf⟩ := cl2 nf7
  have HE := hide (Ya (sc.below b07 (by have := Qa HRB; omega)) (Ya sc.box hres))
  have HWW := hide hW
  clear b6 br nfr b0r hne heq hw7 b7 n7 hxb br7 b07 nf7 hW sc hres
  go_upto_region 8 with fail
  rw [← (Qa HW7).1, (Qa HW7).2]
  go_wp2_with fail
  rw [← Qa HWW]
  obtain ⟨u_0, u_1, uf⟩ := cl2 (Qa HE).2.1
  refine bodyPost_ret (v := ftV (f0, f1)) (by simp [results, Try.results42, go_sem, u_0, u_1, ftV]) rfl ?_
  exact ⟨by rw [(Qa HE).2.2], (Qa HE).1⟩
 ·
  have hcall := Qi (Ct.later hc5 br)
  obtain ⟨⟨f0, f1⟩, hf⟩ : ∃ f, wDeclP p p.decls.zipIdx = f := ⟨_, rfl⟩
  rw [hf] at hcall
  have hne : f0 ≠ 0 → ckF p 0 = (f0, f1) := fun e => by
   rw [hck, ckF, hf, if_pos e]
  have heq : f0 = 0 → ckF p 0 = ckF p 3 := fun e => by
   rw [hck, ckF, hf, if_neg (by simpa using e)]
   rfl
  obtain ⟨q_0, q_1, q_2, q_3⟩ := cl4f nr
  have HR := hide (Ya br (Ya nfr (Ya b0r (Ya hne heq))))
  clear br hck hn0 hP hts hInf b05 nf5 n5 hc5 nr nfr b0r hf hne heq HI
  go_wp2_with fail
  refine hcall.mono ?_
  clear hcall q_0 q_1 q_2 q_3
  rintro en w6 ⟨rfl, b6⟩
  unfold ftV
  obtain ⟨br, nfr, b0r, hne, heq⟩ := Qa HR
  obtain ⟨w7, hw7⟩ : ∃ w7, w7 = w6.alloc (.cells #[.int .i64 f0, .int .i64 f1] 31) := ⟨_, rfl⟩
  have b7 := bnw hw7
  have n7 := nnw hw7
  obtain ⟨xb, hxb⟩ : ∃ xb, w6.heap.size = xb := ⟨_, rfl⟩
  rw [hxb] at n7
  have br7 := br.trans ((b6.trans (b7.mono b6.size)).mono br.size)
  have b07 := b0r.trans ((b6.trans (b7.mono b6.size)).mono b0r.size)
  have nf7 := (b7.block _ (Qab ((b6.block _ (Qab nfr)).trans nfr))).trans ((b6.block _ (Qab nfr)).trans nfr)
  have HW7 := hide (Ya hw7 hxb)
  obtain ⟨z_0, z_1, zf⟩ := cl2 n7
  by_cases hz : f0 = 0
  ·
   have H7 := hide (Ya br7 (heq hz))
   subst hz
   clear b6 br nfr b0r hne heq hw7 b7 n7 hxb br7 b07 nf7
   go_upto_region 8 with fail
   rw [← (Qa HW7).1, (Qa HW7).2]
   go_wp2_with fail
   go_roundw
   case rel => exact ⟨3, rfl, by decide, H7⟩
   case measure => simp [intOf]
  have g1 : (f0 == 0) = false := beq_eq_false_iff_ne.2 hz
  have hres := hne hz
  obtain ⟨W, hW, sc⟩ := sc2 nf7 (.int .i64 f0) (.int .i64 f1)
  obtain ⟨y_0, y_1, yf⟩ := cl2 nf7
  have HE := hide (Ya (sc.below b07 (by have := Qa HRB; omega)) (Ya sc.box hres))
  have HWW := hide hW
  clear b6 br nfr b0r hne heq hw7 b7 n7 hxb br7 b07 nf7 hW sc hres
  go_upto_region 8 with fail
  rw [← (Qa HW7).1, (Qa HW7).2]
  go_wp2_with fail
  rw [← Qa HWW]
  obtain ⟨u_0, u_1, uf⟩ := cl2 (Qa HE).2.1
  refine bodyPost_ret (v := ftV (f0, f1)) (by simp [results, Try.results42, go_sem, u_0, u_1, ftV]) rfl ?_
  exact ⟨by rw [(Qa HE).2.2], (Qa HE).1⟩
 ·
  have hcall := Qgo (Ct.later hc5 br) (hInf c)
  obtain ⟨⟨f0, f1⟩, hf⟩ : ∃ f, wClauseP p p.clauses = f := ⟨_, rfl⟩
  rw [hf] at hcall
  have hne : f0 ≠ 0 → ckF p 0 = (f0, f1) := fun e => by
   rw [hck, ckF, hf, if_pos e]
  have heq : f0 = 0 → ckF p 0 = ckF p 4 := fun e => by
   rw [hck, ckF, hf, if_neg (by simpa using e)]
   rfl
  obtain ⟨q_0, q_1, q_2, q_3⟩ := cl4f nr
  have HR := hide (Ya br (Ya nfr (Ya b0r (Ya hne heq))))
  clear br hck hn0 hP hts hInf b05 nf5 n5 hc5 nr nfr b0r hf hne heq HI
  go_wp2_with fail
  refine hcall.mono ?_
  clear hcall q_0 q_1 q_2 q_3
  rintro en w6 ⟨rfl, b6⟩
  unfold ftV
  obtain ⟨br, nfr, b0r, hne, heq⟩ := Qa HR
  obtain ⟨w7, hw7⟩ : ∃ w7, w7 = w6.alloc (.cells #[.int .i64 f0, .int .i64 f1] 31) := ⟨_, rfl⟩
  have b7 := bnw hw7
  have n7 := nnw hw7
  obtain ⟨xb, hxb⟩ : ∃ xb, w6.heap.size = xb := ⟨_, rfl⟩
  rw [hxb] at n7
  have br7 := br.trans ((b6.trans (b7.mono b6.size)).mono br.size)
  have b07 := b0r.trans ((b6.trans (b7.mono b6.size)).mono b0r.size)
  have nf7 := (b7.block _ (Qab ((b6.block _ (Qab nfr)).trans nfr))).trans ((b6.block _ (Qab nfr)).trans nfr)
  have HW7 := hide (Ya hw7 hxb)
  obtain ⟨z_0, z_1, zf⟩ := cl2 n7
  by_cases hz : f0 = 0
  ·
   have H7 := hide (Ya br7 (heq hz))
   subst hz
   clear b6 br nfr b0r hne heq hw7 b7 n7 hxb br7 b07 nf7
   go_upto_region 8 with fail
   rw [← (Qa HW7).1, (Qa HW7).2]
   go_wp2_with fail
   go_roundw
   case rel => exact ⟨4, rfl, by decide, H7⟩
   case measure => simp [intOf]
  have g1 : (f0 == 0) = false := beq_eq_false_iff_ne.2 hz
  have hres := hne hz
  obtain ⟨W, hW, sc⟩ := sc2 nf7 (.int .i64 f0) (.int .i64 f1)
  obtain ⟨y_0, y_1, yf⟩ := cl2 nf7
  have HE := hide (Ya (sc.below b07 (by have := Qa HRB; omega)) (Ya sc.box hres))
  have HWW := hide hW
  clear b6 br nfr b0r hne heq hw7 b7 n7 hxb br7 b07 nf7 hW sc hres
  go_upto_region 8 with fail
  rw [← (Qa HW7).1, (Qa HW7).2]
  go_wp2_with fail
  rw [← Qa HWW]
  obtain ⟨u_0, u_1, uf⟩ := cl2 (Qa HE).2.1
  refine bodyPost_ret (v := ftV (f0, f1)) (by simp [results, Try.results42, go_sem, u_0, u_1, ftV]) rfl ?_
  exact ⟨by rw [(Qa HE).2.2], (Qa HE).1⟩
 obtain ⟨W, hW, sc⟩ := sc2 nfr (.int .i64 0) (.int .i64 0)
 obtain ⟨y_0, y_1, yf⟩ := cl2 nfr
 have hres : ckF p 0 = (0, 0) := hck
 have HE := hide (Ya (sc.below b0r (by have := Qa HRB; omega)) (Ya sc.box hres))
 have HWW := hide hW
 clear hW sc hres br hck hn0 hP hts hInf b05 nf5 n5 hc5 nr nfr b0r
 go_wp2_with fail
 rw [← Qa HWW]
 obtain ⟨u_0, u_1, uf⟩ := cl2 (Qa HE).2.1
 refine bodyPost_ret (v := ftV (0, 0)) (by simp [results, Try.results42, go_sem, u_0, u_1, ftV]) rfl ?_
 exact ⟨by rw [(Qa HE).2.2], (Qa HE).1⟩
end
end
section
open Go.RowKit Go.Maps
section
variable {n0 : Nat} {p : Pg} {w : World} {a0 a1 a2 a3 a4 : Option Addr} {k0 k1 k2 k3 k4 c0 c1 c2 c3 c4 : Nat}
theorem InfA.up {R : Except Flt (List Fld)} {w w1 w2 W : World} {en : Ending} {fb : Nat} (h : InfA R w1 en w2) (hw : w.heap.size ≤ w1.heap.size) (hb : Below w.heap.size w W) (hf : fb < w1.heap.size) (ho : ∀ q, q ≠ fb → W.heap[q]? = w2.heap[q]?) : InfA R w en W := by
 refine ⟨hb, ?_⟩
 cases R with
 | error f => exact h.2
 | ok vs =>
  obtain ⟨_, sl, e, hr⟩ := h
  refine ⟨sl, e, hr.1, ?_⟩
  rcases hr.2 with e2 | ⟨g, cap, cur, e1, e2, e3, e4⟩
  · exact .inl e2
  · exact .inr ⟨g, cap, cur, e1, by omega, (ho g (by omega)).trans e3, e4⟩
theorem Qol (hn0 : n0 ≤ w.heap.size) (hP : PgS (fun b => b < n0) w [.slice a0 k0 c0, .slice a1 k1 c1, .slice a2 k2 c2, .slice a3 k3 c3, .slice a4 k4 c4] p) (hts : p.types.length ≤ 1000000000) (x : Cls) {aa ba : Option Addr} {an ac bn bc : Nat} (hA : LsAt PE 5 (fun b => b < n0) w (.slice aa an ac) x.head.args) (hB : LsAt PLt 16 (fun b => b < n0) w (.slice ba bn bc) x.body) (hInf : ∀ c, InfC n0 p c x) :
  Calls Try.prog 41 #[.agg #[.slice a0 k0 c0, .slice a1 k1 c1, .slice a2 k2 c2, .slice a3 k3 c3, .slice a4 k4 c4], .agg #[str x.head.rel, .slice aa an ac, .int .i64 x.head.at_, .slice ba bn bc, .int .i64 x.at_]] w fun en w' => InfA (infP p x) w en w' := by
 obtain ⟨w1, hw1⟩ : ∃ w1, w1 = w.alloc (.cells #[.slice a0 k0 c0, .slice a1 k1 c1, .slice a2 k2 c2, .slice a3 k3 c3, .slice a4 k4 c4] 28) := ⟨_, rfl⟩
 obtain ⟨w3, hw3, b13, nx, nf, s3⟩ := Qbo w1 #[str x.head.rel, .slice aa an ac, .int .i64 x.head.at_, .slice ba bn bc, .int .i64 x.at_] 78
 have b1 := bnw hw1
 have np := (b13.block _ (Qab (nnw hw1))).trans (nnw hw1)
 have s1 : w1.heap.size = w.heap.size + 1 := by rw [hw1]; simp
 have b03 := b1.trans (b13.mono b1.size)
 have bd := b03.trans ((Below.refl _ w3).drew.mono b03.size)
 have hcat := Qhi (n0 := n0) (w := w3.drew) (by have := bd.size; omega) (Qar.same _ _ _ _ _ hP bd.size (fun q _ hl => bd.block q hl)) hts
 have HC := hide (show w3.drew.heap[w.heap.size]? = some (.cells #[.slice a0 k0 c0, .slice a1 k1 c1, .slice a2 k2 c2, .slice a3 k3 c3, .slice a4 k4 c4] 28 (0, 0)) ∧ w3.drew.heap[w1.heap.size]? = some (.cells #[str x.head.rel, .slice aa an ac, .int .i64 x.head.at_, .slice ba bn bc, .int .i64 x.at_] 78 (0, 0)) from ⟨np, nx⟩)
 have HW3 := hide (Ya hw3 (Ya hw1 s1))
 have H0 := hide (Ya hA (Ya hB (Ya hInf (Ya bd (Ya nf s3)))))
 rw [s1] at HC
 clear hw1 hw3 b13 nx nf s3 b1 np s1 b03 bd hn0 hP hts hA hB hInf
 go_enter Try.func41, Try.ntmps41
 go_upto_region 1 with fail
 have e3 := (Qa HW3).1
 rw [(Qa HW3).2.1] at e3
 rw [← e3]
 clear e3
 refine Qav (md := [(0, true), (2, true), (1, false), (3, false), (4, true), (5, true), (6, true), (7, false)]) (fun w' => w'.heap[w.heap.size]? = some (.cells #[.slice a0 k0 c0, .slice a1 k1 c1, .slice a2 k2 c2, .slice a3 k3 c3, .slice a4 k4 c4] 28 (0, 0)) ∧ w'.heap[w.heap.size + 1]? = some (.cells #[str x.head.rel, .slice aa an ac, .int .i64 x.head.at_, .slice ba bn bc, .int .i64 x.at_] 78 (0, 0))) mixedO (by kernel_rfl) rfl (by kernel_rfl) (fun PP hPP => ?_)
 iterate 2 refine Qac rfl (by kernel_rfl) (fun w' hw => by obtain ⟨k_0, k_1, k_2, k_3, k_4, kf⟩ := cl5 hw.1; obtain ⟨l_0, l_1, l_2, l_3, l_4, lf⟩ := cl5 hw.2; go_simp <;> rfl) ?_
 refine Qal rfl (Qa HC) (fun K hK => ?_)
 go_simp
 refine hcat.mono ?_
 clear hcat
 rintro en w4 ⟨c, rfl, hc, b4⟩
 show K _ _
 refine hK _ _ ?_
 clear hK K
 have C4 : w4.heap[w.heap.size]? = _ ∧ w4.heap[w.heap.size + 1]? = _ := ⟨(b4.block _ (Qab (Qa HC).1)).trans (Qa HC).1, (b4.block _ (Qab (Qa HC).2)).trans (Qa HC).2⟩
 obtain ⟨hA, hB, hInf, bd, nf, s3⟩ := Qa H0
 have b04 := bd.trans (b4.mono bd.size)
 have hcl := hInf c w4 aa ba an ac bn bc hc (hA.later Qae b04) (hB.later Qay b04)
 have nf4 : w4.heap[w1.heap.size + 1]? = _ := (b4.block _ (Qab nf)).trans nf
 have s4 := b4.size
 refine Qal rfl C4 (fun K hK => ?_)
 clear hA hB hInf hc
 go_simp
 refine hcl.mono ?_
 clear hcl
 rintro en w5 hR
 have b5 := hR.1
 obtain ⟨sa, sn, sc0, f, rfl, hf⟩ := Qgt hR
 obtain ⟨f0, f1⟩ := f
 unfold ftV
 show K _ _
 refine hK _ _ ?_
 clear hK K
 have C5 : w5.heap[w.heap.size]? = _ ∧ w5.heap[w.heap.size + 1]? = _ := ⟨(b5.block _ (Qab C4.1)).trans C4.1, (b5.block _ (Qab C4.2)).trans C4.2⟩
 have nf5 := (b5.block _ (Qab nf4)).trans nf4
 rw [(Qa HW3).2.2] at nf5
 obtain ⟨W, hW, sc⟩ := sc2 nf5 (.int .i64 f0) (.int .i64 f1)
 obtain ⟨y_0, y_1, yf⟩ := cl2 nf5
 have b05 := b04.trans (b5.mono b04.size)
 have hfin := hR.up (w := w) (W := W) (fb := w.heap.size + 1 + 1) (by have := b04.size; omega) (sc.below b05 (by omega)) (by rw [← (Qa HW3).2.2]; exact Qab nf4) sc.oth
 have CW : W.heap[w.heap.size]? = _ ∧ W.heap[w.heap.size + 1]? = _ := ⟨(sc.oth _ (by omega)).trans C5.1, (sc.oth _ (by omega)).trans C5.2⟩
 have HE := hide (Ya hfin (Ya sc.box CW))
 have HWW := hide hW
 clear hR b5 hf C4 bd nf s3 b04 nf4 s4 nf5 hW sc b05 hfin CW b4
 iterate 3 refine Qac rfl (by kernel_rfl) (fun _ _ => by go_simp <;> rfl) ?_
 refine Qal rfl C5 (fun K hK => ?_)
 clear C5
 go_simp
 refine hK _ _ ?_
 clear hK K
 rw [← Qa HWW]
 refine Qaw (Qa HE).2.2 (hPP _ _ ?_)
 clear hPP PP y_0 y_1 yf
 go_wp2_with fail
 obtain ⟨u_0, u_1, uf⟩ := cl2 (Qa HE).2.1
 refine bodyPost_ret (v := .tuple #[.slice sa sn sc0, ftV (f0, f1)]) (by simp [results, Try.results41, go_sem, u_0, u_1, ftV]) rfl ?_
 exact (Qa HE).1
end
end
end Go.Proofs.Ytfmbpaoapjmdnaa
