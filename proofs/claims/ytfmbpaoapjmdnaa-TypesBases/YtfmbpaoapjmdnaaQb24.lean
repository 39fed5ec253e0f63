/- types: ctorTwice. types: wrongDecl. types: wrongName. -/
import Derived.Test.YtfmbpaoapjmdnaaQb23
set_option maxRecDepth 100000
set_option maxHeartbeats 32000000
namespace Go.Proofs.Ytfmbpaoapjmdnaa
section
open Go.RowKit Go.Maps
theorem Qgp {α : Type} {l : List (Txt × α)} {t : Txt} {v : α} (h : (t, v) ∈ l) : ∃ u, asc l t = some u := by
 unfold asc
 cases e : l.find? fun q => decide (q.1 = t) with
 | some q => exact ⟨q.2, rfl⟩
 | none =>
  rw [List.find?_eq_none] at e
  exact absurd (decide_eq_true (rfl : t = t)) (e _ h)
theorem ct_mem {ts : List Typ} {i k : Nat} {t : Typ} {x : Ctr} (h1 : ts[i]? = some t) (h2 : t.ctors[k]? = some x) : (x.name, (i, k)) ∈ ctRow ts := by
 unfold ctRow
 rw [List.mem_flatMap]
 refine ⟨(t, i), ?_, ?_⟩
 · rw [List.mk_mem_zipIdx_iff_getElem?]; exact h1
 rw [List.mem_map]
 exact ⟨(x, k), by rw [List.mk_mem_zipIdx_iff_getElem?]; exact h2, rfl⟩
def ctP (p : Pg) (i : Nat) (c : Ctr × Nat) : Bool := decide (asc (ctRow p.types) c.1.name ≠ some (i, c.2)) || twiceP c.1.fields []
section
variable {n0 : Nat} {p : Pg} {c : CatP} {w : World}
theorem Cs.ct (h : Cs n0 p c w) {t : Txt} {q : Nat × Nat} (e : asc (ctRow p.types) t = some q) : (Instr.lookup 142 (.map (some c.mc)) (str t) false).run Try.prog w = .ok (.agg #[.int .i64 (q.1 : Int), .int .i64 (q.2 : Int)]) w := by
 obtain ⟨ms, h1, h2⟩ := h.mc
 rw [Qef uS mP zP w c.mc ms t h1 false, h2 t, e]
 rfl
theorem Qhj (h : Cs n0 p c w) {i : Nat} {t : Typ} (ht : p.types[i]? = some t) (hts : p.types.length ≤ 1000000000) :
  Calls Try.prog 110 #[.pointer (some ⟨c.cb, 0, none⟩), .int .i64 (i : Int)] w fun en w' => en = .returned (.bool (t.ctors.zipIdx.any (ctP p i))) ∧ Below w.heap.size w w' := by
 obtain ⟨vt, vd, vc, vi, vl, ev, qt, qd, qc, qi, ql⟩ := h.prg.cells
 simp only [List.cons.injEq, and_true] at ev
 rw [← ev.1] at qt
 obtain ⟨a0, k0, c0, hv0⟩ : ∃ a n d, c.v0 = .slice a n d := by
  obtain ⟨_, _, e⟩ := qt.sl
  exact ⟨_, _, _, e⟩
 rw [hv0] at qt
 have hk0 : k0 = p.types.length := by obtain ⟨_, _, e⟩ := qt.sl; cases e; rfl
 have hcap := qt.cap rfl
 have hik : i < k0 := by rw [hk0]; exact (List.getElem?_eq_some_iff.1 ht).1
 have hk9 : k0 ≤ 1000000000 := by omega
 obtain ⟨gb, cap, csx, e1, hgb, hS, _, hcs, hc⟩ := qt.elem ht
 obtain ⟨xa, xn, xc, rfl, hX⟩ := hcs
 simp only [Value.slice.injEq] at e1
 obtain ⟨rfl, -, -⟩ := e1
 have y2 : w.cell? ⟨gb, i * 4 + 2, none⟩ = some (.slice xa xn xc) := hc 2 _ rfl
 have hxc := hX.cap (a := xa) (n := xn) (c := xc) rfl
 have hxn : xn = t.ctors.length := by obtain ⟨_, _, e⟩ := hX.sl; cases e; rfl
 obtain ⟨x_0, x_1, x_2, x_3, x_4, x_5, x_6, x_7, x_8, xf⟩ := cl9 h.box
 rw [hv0] at x_0
 have H0 := hide (Ya h (Ya ht (Ya hX hxn)))
 clear h ht hX hxn hts ev qt qd qc qi ql hv0 hk0 hgb hS hc x_1 x_2 x_3 x_4 x_5 x_6 x_7 x_8
 go_enter Try.func110, Try.ntmps110
 go_wp2_with fail
 clear x_0 xf y2
 go_loopw [17] (fun v wr => ∃ k : Nat, v = .int .i64 (k : Int) ∧ k ≤ xn ∧ Hid (Below w.heap.size w wr ∧ (t.ctors.zipIdx.take k).any (ctP p i) = false)) (fun v _ => xn - (intOf v).toNat)
 case atStart => exact ⟨0, rfl, Nat.zero_le _, hide ⟨Below.refl _ _, rfl⟩⟩
 obtain ⟨k, rfl, hk, HI⟩ := hrel
 by_cases hlt : k < xn
 ·
  obtain ⟨h, ht, hX, hxn⟩ := Qa H0
  obtain ⟨br, hany⟩ := Qa HI
  obtain ⟨f, hf⟩ : ∃ f, t.ctors[k]? = some f := ⟨t.ctors[k]'(by omega), List.getElem?_eq_getElem _⟩
  have hfz : t.ctors.zipIdx[k]? = some (f, k) := by rw [List.getElem?_zipIdx, hf]; simp
  obtain ⟨q, hq⟩ := Qgp (ct_mem ht hf)
  obtain ⟨hb, cap2, cs, e1, hgb, hS, _, hcs, hc⟩ := (hX.later Qcd br).elem hf
  obtain ⟨ya, yn, yc, rfl, hY⟩ := hcs
  simp only [Value.slice.injEq] at e1
  obtain ⟨rfl, -, -⟩ := e1
  have y0 : wr.cell? ⟨hb, k * 2, none⟩ = some (str f.name) := hc 0 _ rfl
  have y1 : wr.cell? ⟨hb, k * 2 + 1, none⟩ = some (.slice ya yn yc) := hc 1 _ rfl
  obtain ⟨w3, hw3⟩ : ∃ w3, w3 = wr.alloc (.cells #[str f.name, .slice ya yn yc] 120) := ⟨_, rfl⟩
  have b3 := bnw hw3
  have n3 := nnw hw3
  obtain ⟨tb, htb⟩ : ∃ tb, wr.heap.size = tb := ⟨_, rfl⟩
  rw [htb] at n3
  have bw3 := br.trans (b3.mono br.size)
  have h3 : Cs n0 p c w3 := Ct.later h bw3
  have HC3 := hide (show ∀ W', Below w3.heap.size w3 W' → W'.cell? ⟨c.cb, 8, none⟩ = some (.map (some c.mc)) ∧ W'.cell? ⟨tb, 0, none⟩ = some (str f.name) ∧ W'.cell? ⟨tb, 1, none⟩ = some (.slice ya yn yc) ∧ (Instr.lookup 142 (.map (some c.mc)) (str f.name) false).run Try.prog W' = .ok (.agg #[.int .i64 (q.1 : Int), .int .i64 (q.2 : Int)]) W' from fun W' bW => ⟨(cl9 (Ct.later h3 bW).box).2.2.2.2.2.2.2.2.1, (cl2 ((bW.block _ (Qab n3)).trans n3)).1, (cl2 ((bW.block _ (Qab n3)).trans n3)).2.1, Cs.ct (Ct.later h3 bW) hq⟩)
  have htw := Qiz f.fields ((hY.later Qaz b3).later Qaz (Below.refl _ w3).drew)
  have hnx := Qf hfz hany
  have H3 := hide (Ya bw3 (Ya hnx (Ya hfz hq)))
  have HW3 := hide (Ya hw3 htb)
  clear h ht hX hxn br hany hf hfz hgb hS hc hY hw3 b3 n3 htb bw3 h3 hnx hq
  go_upto_region 4 with fail
  rw [← (Qa HW3).1, (Qa HW3).2]
  clear y0 y1
  refine Qav (md := [(0, true), (1, true), (2, true), (3, true), (4, true), (5, true), (6, true), (7, true), (8, true), (9, true), (10, true), (11, true), (12, true), (13, true), (14, false), (15, true)]) (Below w3.heap.size w3) mixedO (by kernel_rfl) rfl (by kernel_rfl) (fun PP hPP => ?_)
  iterate 10 refine Qac rfl (by kernel_rfl) (fun w' hw => by obtain ⟨k_0, k_1, k_2, k_3⟩ := Qa HC3 w' hw; go_simp <;> rfl) ?_
  have bd := (Below.refl w3.heap.size w3).drew
  by_cases hsame : q = (i, k)
  ·
   have e1 : (q.1 : Int) = (i : Int) := by rw [hsame]
   have e2 : (q.2 : Int) = (k : Int) := by rw [hsame]
   refine mT (v := .bool false) (fun w' hw => ?_) ?_
   · go_simp
   iterate 3 refine Qac rfl (by kernel_rfl) (fun w' hw => by obtain ⟨k_0, k_1, k_2, k_3⟩ := Qa HC3 w' hw; go_simp <;> rfl) ?_
   refine Qal rfl bd (fun K hK => ?_)
   clear e1 e2
   go_simp
   refine htw.mono ?_
   clear htw
   rintro en w4 ⟨rfl, b4⟩
   show K _ _
   refine hK _ _ ?_
   clear hK K
   have b34 : Below w3.heap.size w3 w4 := bd.trans b4
   refine mT (v := ?_) (fun w' hw => ?_) ?_; rotate_left; · (obtain ⟨k_0, k_1, k_2, k_3⟩ := Qa HC3 w' hw; go_simp <;> rfl)
   refine Qaw b34 (hPP _ _ ?_)
   clear hPP PP
   have HB := hide b34
   clear b34 bd b4
   have hcp : ctP p i (f, k) = twiceP f.fields [] := by
    unfold ctP
    rw [(Qa H3).2.2.2, hsame]
    simp
   by_cases hz : twiceP f.fields [] = true
   ·
    rw [hz]
    go_wp2_with fail
    go_ret
    obtain ⟨bw3, hnx, hfz, hq⟩ := Qa H3
    refine ⟨?_, bw3.trans ((Qa HB).mono bw3.size)⟩
    have : t.ctors.zipIdx.any (ctP p i) = true := by
     rw [List.any_eq_true]
     exact ⟨(f, k), List.mem_of_getElem? hfz, hcp.trans hz⟩
    rw [this]
    rfl
   have hz' : twiceP f.fields [] = false := by simpa using hz
   rw [hz']
   go_wp2_with fail
   go_roundw
   case rel => exact ⟨k + 1, by congr 1, by omega, hide ⟨(Qa H3).1.trans ((Qa HB).mono (Qa H3).1.size), (Qa H3).2.1.trans (hcp.trans hz')⟩⟩
   case measure => simp [intOf]; omega
  refine mT (v := .bool true) (fun w' hw => ?_) ?_
  ·
   go_simp
   exact fun e1 e2 => hsame (Prod.ext (by omega) (by omega))
  refine mT (v := ?_) (fun w' hw => ?_) ?_; rotate_left; · (obtain ⟨k_0, k_1, k_2, k_3⟩ := Qa HC3 w' hw; go_simp <;> rfl)
  iterate 2 refine Qds rfl (by kernel_rfl) ?_
  refine Qal rfl bd (fun K hK => ?_)
  clear htw
  go_simp
  refine hK _ _ ?_
  clear hK K
  refine mT (v := ?_) (fun w' hw => ?_) ?_; rotate_left; · (obtain ⟨k_0, k_1, k_2, k_3⟩ := Qa HC3 w' hw; go_simp <;> rfl)
  refine Qaw bd (hPP _ _ ?_)
  clear hPP PP
  have HB := hide bd
  clear bd
  go_wp2_with fail
  go_ret
  obtain ⟨bw3, hnx, hfz, hq⟩ := Qa H3
  refine ⟨?_, bw3.trans ((Qa HB).mono bw3.size)⟩
  have : t.ctors.zipIdx.any (ctP p i) = true := by
   rw [List.any_eq_true]
   refine ⟨(f, k), List.mem_of_getElem? hfz, ?_⟩
   unfold ctP
   rw [hq]
   simp [hsame]
  rw [this]
  rfl
 have hix : k = xn := by omega
 subst hix
 go_wp2_with fail
 go_ret
 obtain ⟨br, hany⟩ := Qa HI
 rw [(Qa H0).2.2.2, List.take_of_length_le (by simp)] at hany
 refine ⟨?_, br⟩
 rw [hany]
 rfl
end
end
section
open Go.RowKit Go.Maps
theorem dc_mem {ds : List Dcl} {i : Nat} {d : Dcl} (h : ds[i]? = some d) : (d.name, i) ∈ dcRow ds := by
 unfold dcRow
 rw [List.mem_map]
 exact ⟨(d, i), by rw [List.mk_mem_zipIdx_iff_getElem?]; exact h, rfl⟩
theorem Qie {α : Type} {xs : List α} {i : Nat} {x : α} (h : xs[i]? = some x) : xs.zipIdx.drop i = (x, i) :: xs.zipIdx.drop (i + 1) := Qhl (by rw [List.getElem?_zipIdx, h]; simp)
section
variable {n0 : Nat} {p : Pg} {c : CatP} {w : World}
theorem Cs.dcf (h : Cs n0 p c w) {t : Txt} {q : Nat} (e : asc (dcRow p.decls) t = some q) : (Instr.lookup 61 (.map (some c.md)) (str t) false).run Try.prog w = .ok (.int .i64 (q : Int)) w := by
 obtain ⟨ms, h1, h2⟩ := h.md
 rw [Qef uS mI zI w c.md ms t h1 false, h2 t, e]
 rfl
theorem Qi (h : Cs n0 p c w) :
  Calls Try.prog 84 #[.pointer (some ⟨c.cb, 0, none⟩)] w fun en w' => en = .returned (ftV (wDeclP p p.decls.zipIdx)) ∧ Below w.heap.size w w' := by
 obtain ⟨vt, vd, vc, vi, vl, ev, qt, qd, qc, qi, ql⟩ := h.prg.cells
 simp only [List.cons.injEq, and_true] at ev
 rw [← ev.2.1] at qd
 obtain ⟨a1, k1, c1, hv1⟩ : ∃ a n d, c.v1 = .slice a n d := by
  obtain ⟨_, _, e⟩ := qd.sl
  exact ⟨_, _, _, e⟩
 rw [hv1] at qd
 have hk1 : k1 = p.decls.length := by obtain ⟨_, _, e⟩ := qd.sl; cases e; rfl
 have hcap := qd.cap rfl
 obtain ⟨w1, hw1⟩ : ∃ w1, w1 = w.alloc (.cells #[.int .i64 0, .int .i64 0] 31) := ⟨_, rfl⟩
 have b1 := bnw hw1
 have n1 := nnw hw1
 obtain ⟨rb, hrb⟩ : ∃ rb, w.heap.size = rb := ⟨_, rfl⟩
 rw [hrb] at n1
 have HRB := hide hrb
 obtain ⟨x_0, x_1, x_2, x_3, x_4, x_5, x_6, x_7, x_8, xf⟩ := cl9 (Ct.later h b1).box
 rw [hv1] at x_1
 have HW1 := hide (Ya hw1 hrb)
 have H0 := hide (Ya h (Ya qd hk1))
 have H1 := hide (Ya b1 n1)
 clear h ev qt qd qc qi ql hv1 hk1 hw1 b1 n1 hrb x_0 x_2 x_3 x_4 x_5 x_6 x_7 x_8
 go_enter Try.func84, Try.ntmps84
 go_upto_region 1 with fail
 rw [← (Qa HW1).1, (Qa HW1).2]
 go_wp2_with fail
 clear x_1 xf
 go_loopw [11] (fun v wr => ∃ i : Nat, v = .int .i64 (i : Int) ∧ i ≤ k1 ∧ Hid (Below w.heap.size w wr ∧ wr.heap[rb]? = some (.cells #[.int .i64 0, .int .i64 0] 31 (0, 0)) ∧ wDeclP p p.decls.zipIdx = wDeclP p (p.decls.zipIdx.drop i))) (fun v _ => k1 - (intOf v).toNat)
 case atStart => exact ⟨0, rfl, Nat.zero_le _, hide ⟨(Qa H1).1, (Qa H1).2, rfl⟩⟩
 obtain ⟨i, rfl, hi, HI⟩ := hrel
 by_cases hlt : i < k1
 ·
  obtain ⟨h, hL, hn⟩ := Qa H0
  obtain ⟨br, nr, hwd⟩ := Qa HI
  obtain ⟨d, hd⟩ : ∃ d, p.decls[i]? = some d := ⟨p.decls[i]'(by omega), List.getElem?_eq_getElem _⟩
  obtain ⟨q, hq⟩ := Qgp (dc_mem hd)
  rw [Qie hd, wDeclP, hq] at hwd
  obtain ⟨gb, cap, cs, e1, hgb, hS, _, hcs, hc⟩ := (hL.later Qbr br).elem hd
  obtain ⟨ya, yn, yc, rfl, hY⟩ := hcs
  simp only [Value.slice.injEq] at e1
  obtain ⟨rfl, -, -⟩ := e1
  have y0 : wr.cell? ⟨gb, i * 5, none⟩ = some (str d.name) := hc 0 _ rfl
  have y1 : wr.cell? ⟨gb, i * 5 + 1, none⟩ = some (.slice ya yn yc) := hc 1 _ rfl
  have y2 : wr.cell? ⟨gb, i * 5 + 2, none⟩ = some (.bool d.input) := hc 2 _ rfl
  have y3 : wr.cell? ⟨gb, i * 5 + 3, none⟩ = some (.bool d.output) := hc 3 _ rfl
  have y4 : wr.cell? ⟨gb, i * 5 + 4, none⟩ = some (.int .i64 d.at_) := hc 4 _ rfl
  obtain ⟨w3, hw3⟩ : ∃ w3, w3 = wr.alloc (.cells #[str d.name, .slice ya yn yc, .bool d.input, .bool d.output, .int .i64 d.at_] 43) := ⟨_, rfl⟩
  have b3 := bnw hw3
  have n3 := nnw hw3
  obtain ⟨tb, htb⟩ : ∃ tb, wr.heap.size = tb := ⟨_, rfl⟩
  rw [htb] at n3
  have bw3 := br.trans (b3.mono br.size)
  have nr3 := (b3.block _ (Qab nr)).trans nr
  have h3 : Cs n0 p c w3 := Ct.later h bw3
  have HC3 := hide (show ∀ W', Below w3.heap.size w3 W' → W'.cell? ⟨c.cb, 7, none⟩ = some (.map (some c.md)) ∧ W'.cell? ⟨tb, 0, none⟩ = some (str d.name) ∧ W'.cell? ⟨tb, 1, none⟩ = some (.slice ya yn yc) ∧ (Instr.lookup 61 (.map (some c.md)) (str d.name) false).run Try.prog W' = .ok (.int .i64 (q : Int)) W' from fun W' bW => ⟨(cl9 (Ct.later h3 bW).box).2.2.2.2.2.2.2.1, (cl5 ((bW.block _ (Qab n3)).trans n3)).1, (cl5 ((bW.block _ (Qab n3)).trans n3)).2.1, Cs.dcf (Ct.later h3 bW) hq⟩)
  have htw := Qiz d.cols ((hY.later Qaz b3).later Qaz (Below.refl _ w3).drew)
  have H3 := hide (Ya bw3 (Ya nr3 (Ya n3 (Ya h3 (Ya hwd (hY.later Qaz b3))))))
  have HW3 := hide (Ya hw3 htb)
  clear h hL hn br nr hd hq hwd hgb hS hc hY hw3 b3 n3 htb bw3 nr3 h3
  go_upto_region 4 with fail
  rw [← (Qa HW3).1, (Qa HW3).2]
  clear y0 y1 y2 y3 y4
  refine Qav (md := [(0, true), (1, true), (2, true), (3, true), (4, true), (5, true), (6, true), (7, true), (8, true), (9, true), (10, true), (11, true), (12, false), (13, true)]) (Below w3.heap.size w3) mixedO (by kernel_rfl) rfl (by kernel_rfl) (fun PP hPP => ?_)
  iterate 8 refine Qac rfl (by kernel_rfl) (fun w' hw => by obtain ⟨k_0, k_1, k_2, k_3⟩ := Qa HC3 w' hw; go_simp <;> rfl) ?_
  have bd := (Below.refl w3.heap.size w3).drew
  by_cases hsame : q = i
  ·
   subst hsame
   refine mT (v := .bool false) (fun w' hw => ?_) ?_
   · go_simp
   iterate 3 refine Qac rfl (by kernel_rfl) (fun w' hw => by obtain ⟨k_0, k_1, k_2, k_3⟩ := Qa HC3 w' hw; go_simp <;> rfl) ?_
   refine Qal rfl bd (fun K hK => ?_)
   go_simp
   refine htw.mono ?_
   clear htw
   rintro en w4 ⟨rfl, b4⟩
   show K _ _
   refine hK _ _ ?_
   clear hK K
   have b34 : Below w3.heap.size w3 w4 := bd.trans b4
   refine mT (v := ?_) (fun w' hw => ?_) ?_; rotate_left; · (obtain ⟨k_0, k_1, k_2, k_3⟩ := Qa HC3 w' hw; go_simp <;> rfl)
   refine Qaw b34 (hPP _ _ ?_)
   clear hPP PP
   obtain ⟨bw3, nr3, n3, h3, hwd, hY⟩ := Qa H3
   have n4 := (b34.block _ (Qab n3)).trans n3
   have nr4 := (b34.block _ (Qab nr3)).trans nr3
   have bw4 := bw3.trans (b34.mono bw3.size)
   obtain ⟨z_0, z_1, z_2, z_3, z_4, zf⟩ := cl5 n4
   by_cases hz : twiceP d.cols [] = true
   ·
    rw [hz]
    have hres : wDeclP p p.decls.zipIdx = (11, d.at_) := by
     rw [hwd, if_pos (.inr hz)]
    clear b34 bd b4 bw3 nr3 n3 h3 hwd hY n4
    obtain ⟨W, hW, sc⟩ := sc2 nr4 (.int .i64 11) (.int .i64 d.at_)
    obtain ⟨y_0, y_1, yf⟩ := cl2 nr4
    have HE := hide (Ya (sc.below bw4 (Nat.le_of_eq (Qa HRB))) (Ya sc.box hres))
    have HWW := hide hW
    clear hW sc
    go_wp2_with fail
    rw [← Qa HWW]
    obtain ⟨u_0, u_1, uf⟩ := cl2 (Qa HE).2.1
    refine bodyPost_ret (v := ftV (11, d.at_)) (by simp [results, Try.results84, go_sem, u_0, u_1, ftV]) rfl ?_
    exact ⟨by rw [(Qa HE).2.2], (Qa HE).1⟩
   have hz' : twiceP d.cols [] = false := by simpa using hz
   rw [hz']
   have hno := Qgw (Ct.later h3 b34) d.cols (hY.later Qaz b34)
   by_cases hy : noneP p d.cols = true
   ·
    have hres : wDeclP p p.decls.zipIdx = (6, d.at_) := by
     rw [hwd, if_neg (by simp [hz']), if_pos hy]
    rw [hy] at hno
    have HS := hide (Ya bw4 (Ya nr4 (Ya n4 hres)))
    clear b34 bd b4 bw3 nr3 n3 h3 hwd hY n4 nr4 bw4 hres
    go_wp2_with fail
    refine hno.mono ?_
    clear hno z_0 z_1 z_2 z_3 z_4 zf
    rintro en w5 ⟨rfl, b5⟩
    obtain ⟨bw4, nr4, n4, hres⟩ := Qa HS
    have n5 := (b5.block _ (Qab n4)).trans n4
    have nr5 := (b5.block _ (Qab nr4)).trans nr4
    have bw5 := bw4.trans (b5.mono bw4.size)
    obtain ⟨z_0, z_1, z_2, z_3, z_4, zf⟩ := cl5 n5
    clear bw4 nr4 n4 b5 n5
    obtain ⟨W, hW, sc⟩ := sc2 nr5 (.int .i64 6) (.int .i64 d.at_)
    obtain ⟨y_0, y_1, yf⟩ := cl2 nr5
    have HE := hide (Ya (sc.below bw5 (Nat.le_of_eq (Qa HRB))) (Ya sc.box hres))
    have HWW := hide hW
    clear hW sc
    go_wp2_with fail
    rw [← Qa HWW]
    obtain ⟨u_0, u_1, uf⟩ := cl2 (Qa HE).2.1
    refine bodyPost_ret (v := ftV (6, d.at_)) (by simp [results, Try.results84, go_sem, u_0, u_1, ftV]) rfl ?_
    exact ⟨by rw [(Qa HE).2.2], (Qa HE).1⟩
   have hy' : noneP p d.cols = false := by simpa using hy
   have hres : wDeclP p p.decls.zipIdx = wDeclP p (p.decls.zipIdx.drop (q + 1)) := by
    rw [hwd, if_neg (by simp [hz']), if_neg (by simp [hy'])]
   rw [hy'] at hno
   have HS := hide (Ya bw4 (Ya nr4 hres))
   clear b34 bd b4 bw3 nr3 n3 h3 hwd hY n4 nr4 bw4 hres
   go_wp2_with fail
   refine hno.mono ?_
   clear hno z_0 z_1 z_2 z_3 z_4 zf
   rintro en w5 ⟨rfl, b5⟩
   obtain ⟨bw4, nr4, hres⟩ := Qa HS
   have H5 := hide (Ya (bw4.trans (b5.mono bw4.size)) (Ya ((b5.block _ (Qab nr4)).trans nr4) hres))
   clear bw4 nr4 b5 hres
   go_wp2_with fail
   go_roundw
   case rel => exact ⟨q + 1, by congr 1, by omega, H5⟩
   case measure => simp [intOf]; omega
  refine mT (v := .bool true) (fun w' hw => ?_) ?_
  ·
   go_simp
   try omega
  refine mT (v := ?_) (fun w' hw => ?_) ?_; rotate_left; · (obtain ⟨k_0, k_1, k_2, k_3⟩ := Qa HC3 w' hw; go_simp <;> rfl)
  iterate 2 refine Qds rfl (by kernel_rfl) ?_
  refine Qal rfl bd (fun K hK => ?_)
  clear htw
  go_simp
  refine hK _ _ ?_
  clear hK K
  refine mT (v := ?_) (fun w' hw => ?_) ?_; rotate_left; · (obtain ⟨k_0, k_1, k_2, k_3⟩ := Qa HC3 w' hw; go_simp <;> rfl)
  refine Qaw bd (hPP _ _ ?_)
  clear hPP PP
  obtain ⟨bw3, nr3, n3, h3, hwd, hY⟩ := Qa H3
  obtain ⟨w4, hw4⟩ : ∃ w4, w4 = w3.drew := ⟨_, rfl⟩
  rw [← hw4] at bd ⊢
  have n4 := (bd.block _ (Qab n3)).trans n3
  have nr4 := (bd.block _ (Qab nr3)).trans nr3
  clear hw4
  have bw4 := bw3.trans (bd.mono bw3.size)
  obtain ⟨z_0, z_1, z_2, z_3, z_4, zf⟩ := cl5 n4
  have hres : wDeclP p p.decls.zipIdx = (11, d.at_) := by
   rw [hwd, if_pos (.inl (by simp [hsame]))]
  clear bd bw3 nr3 n3 h3 hwd hY n4
  obtain ⟨W, hW, sc⟩ := sc2 nr4 (.int .i64 11) (.int .i64 d.at_)
  obtain ⟨y_0, y_1, yf⟩ := cl2 nr4
  have HE := hide (Ya (sc.below bw4 (Nat.le_of_eq (Qa HRB))) (Ya sc.box hres))
  have HWW := hide hW
  clear hW sc
  go_wp2_with fail
  rw [← Qa HWW]
  obtain ⟨u_0, u_1, uf⟩ := cl2 (Qa HE).2.1
  refine bodyPost_ret (v := ftV (11, d.at_)) (by simp [results, Try.results84, go_sem, u_0, u_1, ftV]) rfl ?_
  exact ⟨by rw [(Qa HE).2.2], (Qa HE).1⟩
 have hix : i = k1 := by omega
 subst hix
 obtain ⟨br, nr, hwd⟩ := Qa HI
 rw [List.drop_of_length_le (by simp [(Qa H0).2.2])] at hwd
 have hres : wDeclP p p.decls.zipIdx = (0, 0) := hwd
 clear hwd
 obtain ⟨W, hW, sc⟩ := sc2 nr (.int .i64 0) (.int .i64 0)
 obtain ⟨y_0, y_1, yf⟩ := cl2 nr
 have HE := hide (Ya (sc.below br (Nat.le_of_eq (Qa HRB))) (Ya sc.box hres))
 have HWW := hide hW
 clear hW sc
 go_wp2_with fail
 rw [← Qa HWW]
 obtain ⟨u_0, u_1, uf⟩ := cl2 (Qa HE).2.1
 refine bodyPost_ret (v := ftV (0, 0)) (by simp [results, Try.results84, go_sem, u_0, u_1, ftV]) rfl ?_
 exact ⟨by rw [(Qa HE).2.2], (Qa HE).1⟩
end
end
section
open Go.RowKit Go.Maps
section
variable {n0 : Nat} {p : Pg} {c : CatP} {w : World}
theorem Qia (h : Cs n0 p c w) (hts : p.types.length ≤ 1000000000) :
  Calls Try.prog 82 #[.pointer (some ⟨c.cb, 0, none⟩)] w fun en w' => en = .returned (ftV (wNameP p p.types.zipIdx)) ∧ Below w.heap.size w w' := by
 obtain ⟨vt, vd, vc, vi, vl, ev, qt, qd, qc, qi, ql⟩ := h.prg.cells
 simp only [List.cons.injEq, and_true] at ev
 rw [← ev.1] at qt
 obtain ⟨a1, k1, c1, hv1⟩ : ∃ a n d, c.v0 = .slice a n d := by
  obtain ⟨_, _, e⟩ := qt.sl
  exact ⟨_, _, _, e⟩
 rw [hv1] at qt
 have hk1 : k1 = p.types.length := by obtain ⟨_, _, e⟩ := qt.sl; cases e; rfl
 have hcap := qt.cap rfl
 have hk9 : k1 ≤ 1000000000 := by omega
 obtain ⟨w1, hw1⟩ : ∃ w1, w1 = w.alloc (.cells #[.int .i64 0, .int .i64 0] 31) := ⟨_, rfl⟩
 have b1 := bnw hw1
 have n1 := nnw hw1
 obtain ⟨rb, hrb⟩ : ∃ rb, w.heap.size = rb := ⟨_, rfl⟩
 rw [hrb] at n1
 have HRB := hide hrb
 obtain ⟨x_0, x_1, x_2, x_3, x_4, x_5, x_6, x_7, x_8, xf⟩ := cl9 (Ct.later h b1).box
 rw [hv1] at x_0
 have HW1 := hide (Ya hw1 hrb)
 have H0 := hide (Ya h (Ya qt (Ya hk1 hts)))
 have H1 := hide (Ya b1 n1)
 clear h hts ev qt qd qc qi ql hv1 hk1 hw1 b1 n1 hrb x_1 x_2 x_3 x_4 x_5 x_6 x_7 x_8
 go_enter Try.func82, Try.ntmps82
 go_upto_region 1 with fail
 rw [← (Qa HW1).1, (Qa HW1).2]
 go_wp2_with fail
 clear x_0 xf
 go_loopw [11] (fun v wr => ∃ i : Nat, v = .int .i64 (i : Int) ∧ i ≤ k1 ∧ Hid (Below w.heap.size w wr ∧ wr.heap[rb]? = some (.cells #[.int .i64 0, .int .i64 0] 31 (0, 0)) ∧ wNameP p p.types.zipIdx = wNameP p (p.types.zipIdx.drop i))) (fun v _ => k1 - (intOf v).toNat)
 case atStart => exact ⟨0, rfl, Nat.zero_le _, hide ⟨(Qa H1).1, (Qa H1).2, rfl⟩⟩
 obtain ⟨i, rfl, hi, HI⟩ := hrel
 by_cases hlt : i < k1
 ·
  obtain ⟨h, hL, hn, hts⟩ := Qa H0
  obtain ⟨br, nr, hwd⟩ := Qa HI
  obtain ⟨⟨nm, sb, cts, at0⟩, hd⟩ : ∃ d, p.types[i]? = some d := ⟨p.types[i]'(by omega), List.getElem?_eq_getElem _⟩
  rw [Qie hd, wNameP] at hwd
  simp only at hwd
  obtain ⟨gb, cap, cs, e1, hgb, hS, _, hcs, hc⟩ := (hL.later Qbn br).elem hd
  obtain ⟨ya, yn, yc, rfl, hY⟩ := hcs
  simp only [Value.slice.injEq] at e1
  obtain ⟨rfl, -, -⟩ := e1
  have y0 : wr.cell? ⟨gb, i * 4, none⟩ = some (str nm) := hc 0 _ rfl
  have y1 : wr.cell? ⟨gb, i * 4 + 1, none⟩ = some (str sb) := hc 1 _ rfl
  have y2 : wr.cell? ⟨gb, i * 4 + 2, none⟩ = some (.slice ya yn yc) := hc 2 _ rfl
  have y3 : wr.cell? ⟨gb, i * 4 + 3, none⟩ = some (.int .i64 at0) := hc 3 _ rfl
  obtain ⟨w3, hw3⟩ : ∃ w3, w3 = wr.alloc (.cells #[str nm, str sb, .slice ya yn yc, .int .i64 at0] 68) := ⟨_, rfl⟩
  have b3 := bnw hw3
  have n3 := nnw hw3
  obtain ⟨tb, htb⟩ : ∃ tb, wr.heap.size = tb := ⟨_, rfl⟩
  rw [htb] at n3
  have bw3 := br.trans (b3.mono br.size)
  have nr3 := (b3.block _ (Qab nr)).trans nr
  have h3 : Cs n0 p c w3 := Ct.later h bw3
  obtain ⟨q, hq⟩ : ∃ q, tyNo p nm = q := ⟨_, rfl⟩
  have HC3 := hide (show ∀ W', Below w3.heap.size w3 W' → W'.cell? ⟨c.cb, 6, none⟩ = some (.map (some c.mt)) ∧ W'.cell? ⟨tb, 0, none⟩ = some (str nm) ∧ W'.cell? ⟨tb, 3, none⟩ = some (.int .i64 at0) ∧ (Instr.lookup 61 (.map (some c.mt)) (str nm) false).run Try.prog W' = .ok (.int .i64 (q : Int)) W' from fun W' bW => ⟨(cl9 (Ct.later h3 bW).box).2.2.2.2.2.2.1, (cl4 ((bW.block _ (Qab n3)).trans n3)).1, (cl4 ((bW.block _ (Qab n3)).trans n3)).2.2.2.1, by rw [← hq]; exact Cs.ty (Ct.later h3 bW) nm⟩)
  have htw := Qhj (Ct.later h3 (Below.refl _ w3).drew) hd hts
  dsimp only at htw
  obtain ⟨z_0, z_1, z_2, z_3, zf⟩ := cl4 n3
  have H3 := hide (Ya bw3 (Ya nr3 (Ya n3 (Ya hwd hq))))
  have HW3 := hide (Ya hw3 htb)
  clear h hL hn hts br nr hd hq hwd hgb hS hc hY hw3 b3 n3 htb bw3 nr3 h3
  by_cases hn1 : nm = [110, 117, 109, 98, 101, 114]
  ·
   subst hn1
   obtain ⟨bw3, nr3, n3, hwd, hq⟩ := Qa H3
   have hres : wNameP p p.types.zipIdx = (1, at0) := by rw [hwd, if_pos (.inl rfl)]
   obtain ⟨W, hW, sc⟩ := sc2 nr3 (.int .i64 1) (.int .i64 at0)
   obtain ⟨y_0, y_1, yf⟩ := cl2 nr3
   have HE := hide (Ya (sc.below bw3 (Nat.le_of_eq (Qa HRB))) (Ya sc.box hres))
   have HWW := hide hW
   clear hW sc bw3 nr3 n3 hwd hq hres
   go_upto_region 4 with fail
   rw [← (Qa HW3).1, (Qa HW3).2]
   go_wp2_with fail
   rw [← Qa HWW]
   obtain ⟨u_0, u_1, uf⟩ := cl2 (Qa HE).2.1
   refine bodyPost_ret (v := ftV (1, at0)) (by simp [results, Try.results82, go_sem, u_0, u_1, ftV]) rfl ?_
   exact ⟨by rw [(Qa HE).2.2], (Qa HE).1⟩
  by_cases hn2 : nm = [115, 121, 109, 98, 111, 108]
  ·
   subst hn2
   obtain ⟨bw3, nr3, n3, hwd, hq⟩ := Qa H3
   have hres : wNameP p p.types.zipIdx = (1, at0) := by rw [hwd, if_pos (.inr rfl)]
   obtain ⟨W, hW, sc⟩ := sc2 nr3 (.int .i64 1) (.int .i64 at0)
   obtain ⟨y_0, y_1, yf⟩ := cl2 nr3
   have HE := hide (Ya (sc.below bw3 (Nat.le_of_eq (Qa HRB))) (Ya sc.box hres))
   have HWW := hide hW
   clear hW sc bw3 nr3 n3 hwd hq hres
   go_upto_region 4 with fail
   rw [← (Qa HW3).1, (Qa HW3).2]
   go_wp2_with fail
   rw [← Qa HWW]
   obtain ⟨u_0, u_1, uf⟩ := cl2 (Qa HE).2.1
   refine bodyPost_ret (v := ftV (1, at0)) (by simp [results, Try.results82, go_sem, u_0, u_1, ftV]) rfl ?_
   exact ⟨by rw [(Qa HE).2.2], (Qa HE).1⟩
  have g1 : (nm == [110, 117, 109, 98, 101, 114]) = false := beq_eq_false_iff_ne.2 hn1
  have g2 : (nm == [115, 121, 109, 98, 111, 108]) = false := beq_eq_false_iff_ne.2 hn2
  have hno : ¬ (nm = tNum ∨ nm = tSym) := fun e => e.elim hn1 hn2
  go_upto_region 4 with fail
  rw [← (Qa HW3).1, (Qa HW3).2]
  go_upto_region 6 with fail
  clear y0 y1 y2 y3 z_0 z_1 z_2 z_3 zf g1 g2
  refine Qav (md := [(0, true), (1, true), (2, true), (3, true), (4, true), (5, true), (6, true), (7, true), (8, true), (9, true), (10, true), (11, true), (12, true), (13, false), (14, true)]) (Below w3.heap.size w3) mixedO (by kernel_rfl) rfl (by kernel_rfl) (fun PP hPP => ?_)
  iterate 9 refine Qac rfl (by kernel_rfl) (fun w' hw => by obtain ⟨k_0, k_1, k_2, k_3⟩ := Qa HC3 w' hw; go_simp <;> rfl) ?_
  have bd := (Below.refl w3.heap.size w3).drew
  by_cases hsame : q = 3 + i
  ·
   have e1 : (q : Int) = 3 + (i : Int) := by omega
   refine mT (v := .bool false) (fun w' hw => ?_) ?_
   ·
    go_simp
    exact (Qjy i (by omega)).symm
   iterate 3 refine Qac rfl (by kernel_rfl) (fun w' hw => by obtain ⟨k_0, k_1, k_2, k_3⟩ := Qa HC3 w' hw; go_simp <;> rfl) ?_
   refine Qal rfl bd (fun K hK => ?_)
   clear e1
   go_simp
   refine htw.mono ?_
   clear htw
   rintro en w4 ⟨rfl, b4⟩
   show K _ _
   refine hK _ _ ?_
   clear hK K
   have b34 : Below w3.heap.size w3 w4 := bd.trans b4
   refine mT (v := ?_) (fun w' hw => ?_) ?_; rotate_left; · (obtain ⟨k_0, k_1, k_2, k_3⟩ := Qa HC3 w' hw; go_simp <;> rfl)
   refine Qaw b34 (hPP _ _ ?_)
   clear hPP PP
   obtain ⟨bw3, nr3, n3, hwd, hq⟩ := Qa H3
   have n4 := (b34.block _ (Qab n3)).trans n3
   have nr4 := (b34.block _ (Qab nr3)).trans nr3
   have bw4 := bw3.trans (b34.mono bw3.size)
   obtain ⟨z_0, z_1, z_2, z_3, zf⟩ := cl4 n4
   by_cases hz : cts.zipIdx.any (ctP p i) = true
   ·
    rw [hz]
    have hres : wNameP p p.types.zipIdx = (11, at0) := by
     rw [hwd, if_neg hno, if_pos (.inr hz)]
    clear b34 bd b4 bw3 nr3 n3 hwd hq n4
    obtain ⟨W, hW, sc⟩ := sc2 nr4 (.int .i64 11) (.int .i64 at0)
    obtain ⟨y_0, y_1, yf⟩ := cl2 nr4
    have HE := hide (Ya (sc.below bw4 (Nat.le_of_eq (Qa HRB))) (Ya sc.box hres))
    have HWW := hide hW
    clear hW sc hres
    go_wp2_with fail
    rw [← Qa HWW]
    obtain ⟨u_0, u_1, uf⟩ := cl2 (Qa HE).2.1
    refine bodyPost_ret (v := ftV (11, at0)) (by simp [results, Try.results82, go_sem, u_0, u_1, ftV]) rfl ?_
    exact ⟨by rw [(Qa HE).2.2], (Qa HE).1⟩
   have hz' : cts.zipIdx.any (ctP p i) = false := by simpa using hz
   rw [hz']
   have hres : wNameP p p.types.zipIdx = wNameP p (p.types.zipIdx.drop (i + 1)) := by
    rw [hwd, if_neg hno, if_neg (fun e => e.elim (fun e => e (hq.trans hsame)) (fun e => hz e))]
   have H5 := hide (Ya bw4 (Ya nr4 hres))
   clear b34 bd b4 bw3 nr3 n3 hwd hq n4 nr4 bw4 hres z_0 z_1 z_2 z_3 zf
   go_wp2_with fail
   go_roundw
   case rel => exact ⟨i + 1, by congr 1, by omega, H5⟩
   case measure => simp [intOf]; omega
  refine mT (v := .bool true) (fun w' hw => ?_) ?_
  ·
   go_simp
   rw [Qjy i (by omega)]
   omega
  refine mT (v := ?_) (fun w' hw => ?_) ?_; rotate_left; · (obtain ⟨k_0, k_1, k_2, k_3⟩ := Qa HC3 w' hw; go_simp <;> rfl)
  iterate 2 refine Qds rfl (by kernel_rfl) ?_
  refine Qal rfl bd (fun K hK => ?_)
  clear htw
  go_simp
  refine hK _ _ ?_
  clear hK K
  refine mT (v := ?_) (fun w' hw => ?_) ?_; rotate_left; · (obtain ⟨k_0, k_1, k_2, k_3⟩ := Qa HC3 w' hw; go_simp <;> rfl)
  refine Qaw bd (hPP _ _ ?_)
  clear hPP PP
  obtain ⟨bw3, nr3, n3, hwd, hq⟩ := Qa H3
  obtain ⟨w4, hw4⟩ : ∃ w4, w4 = w3.drew := ⟨_, rfl⟩
  rw [← hw4] at bd ⊢
  have n4 := (bd.block _ (Qab n3)).trans n3
  have nr4 := (bd.block _ (Qab nr3)).trans nr3
  clear hw4
  have bw4 := bw3.trans (bd.mono bw3.size)
  obtain ⟨z_0, z_1, z_2, z_3, zf⟩ := cl4 n4
  have hres : wNameP p p.types.zipIdx = (11, at0) := by
   rw [hwd, if_neg hno, if_pos (.inl (fun e => hsame (hq.symm.trans e)))]
  clear bd bw3 nr3 n3 hwd hq n4
  obtain ⟨W, hW, sc⟩ := sc2 nr4 (.int .i64 11) (.int .i64 at0)
  obtain ⟨y_0, y_1, yf⟩ := cl2 nr4
  have HE := hide (Ya (sc.below bw4 (Nat.le_of_eq (Qa HRB))) (Ya sc.box hres))
  have HWW := hide hW
  clear hW sc hres
  go_wp2_with fail
  rw [← Qa HWW]
  obtain ⟨u_0, u_1, uf⟩ := cl2 (Qa HE).2.1
  refine bodyPost_ret (v := ftV (11, at0)) (by simp [results, Try.results82, go_sem, u_0, u_1, ftV]) rfl ?_
  exact ⟨by rw [(Qa HE).2.2], (Qa HE).1⟩
 have hix : i = k1 := by omega
 subst hix
 obtain ⟨br, nr, hwd⟩ := Qa HI
 rw [List.drop_of_length_le (by simp [(Qa H0).2.2.1])] at hwd
 have hres : wNameP p p.types.zipIdx = (0, 0) := hwd
 clear hwd
 obtain ⟨W, hW, sc⟩ := sc2 nr (.int .i64 0) (.int .i64 0)
 obtain ⟨y_0, y_1, yf⟩ := cl2 nr
 have HE := hide (Ya (sc.below br (Nat.le_of_eq (Qa HRB))) (Ya sc.box hres))
 have HWW := hide hW
 clear hW sc hres
 go_wp2_with fail
 rw [← Qa HWW]
 obtain ⟨u_0, u_1, uf⟩ := cl2 (Qa HE).2.1
 refine bodyPost_ret (v := ftV (0, 0)) (by simp [results, Try.results82, go_sem, u_0, u_1, ftV]) rfl ?_
 exact ⟨by rw [(Qa HE).2.2], (Qa HE).1⟩
end
end
end Go.Proofs.Ytfmbpaoapjmdnaa
