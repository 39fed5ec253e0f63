/- types: newCatalog. types: the kinds of a catalog, one by one. -/
import Derived.Test.YtfmbpaoapjmdnaaQb21
set_option maxRecDepth 100000
set_option maxHeartbeats 32000000
namespace Go.Proofs.Ytfmbpaoapjmdnaa
section
open Go.RowKit Go.Maps
section
variable {n0 n1 : Nat} {p : Pg} {c : CatP} {kv : Value} {rt rd : List (Txt × Nat)} {rc : List (Txt × (Nat × Nat))} {w : World}
theorem Nc.types (h : Nc n0 n1 p c kv rt rd rc w) : LsAt PTy 4 (fun b => b < n0) w c.v0 p.types := by
 obtain ⟨vt, vd, vc, vi, vl, ev, qt, qd, qc, qi, ql⟩ := h.prg.cells
 simp only [List.cons.injEq, and_true] at ev
 rw [ev.1]
 exact qt
theorem Nc.decls (h : Nc n0 n1 p c kv rt rd rc w) : LsAt PDc 5 (fun b => b < n0) w c.v1 p.decls := by
 obtain ⟨vt, vd, vc, vi, vl, ev, qt, qd, qc, qi, ql⟩ := h.prg.cells
 simp only [List.cons.injEq, and_true] at ev
 rw [ev.2.1]
 exact qd
end
theorem Qjy (j : Nat) (h : j ≤ 1000000000) : IntKind.i64.wrap (3 + (j : Int)) = 3 + (j : Int) := by
 have e1 : (2 : Int) ^ IntKind.i64.bits = 18446744073709551616 := by decide
 have e2 : (2 : Int) ^ (IntKind.i64.bits - 1) = 9223372036854775808 := by decide
 have e3 : (3 + (j : Int)) % 18446744073709551616 = 3 + (j : Int) := by omega
 unfold IntKind.wrap
 simp only [e1, e2, e3]
 rw [if_neg (by simp; intro _; omega)]
def AkA (n0 n1 : Nat) (p : Pg) : Prop := ∀ (c : CatP) (w2 : World), Nc n0 n1 p c (.slice none 0 0) (tyRow p.types) (dcRow p.decls) (ctRow p.types) w2 →
 Calls Try.prog 78 #[.pointer (some ⟨c.cb, 0, none⟩)] w2 fun en w3 => en = .returned (.tuple #[]) ∧ Below n1 w2 w3 ∧ ∃ kb kc, Cs n0 p { c with kb := kb, kc := kc } w3
theorem Qll {n0 : Nat} {p : Pg} {w : World} {a0 a1 a2 a3 a4 : Option Addr} {k0 k1 k2 k3 k4 c0 c1 c2 c3 c4 : Nat} (hn0 : n0 ≤ w.heap.size) (hP : PgS (fun b => b < n0) w [.slice a0 k0 c0, .slice a1 k1 c1, .slice a2 k2 c2, .slice a3 k3 c3, .slice a4 k4 c4] p) (hts : p.types.length ≤ 1000000000) (hK : AkA n0 w.heap.size p) :
  Calls Try.prog 36 #[.agg #[.slice a0 k0 c0, .slice a1 k1 c1, .slice a2 k2 c2, .slice a3 k3 c3, .slice a4 k4 c4]] w fun en w' => ∃ c, en = .returned (.pointer (some ⟨c.cb, 0, none⟩)) ∧ Cs n0 p c w' ∧ Below w.heap.size w w' := by
 obtain ⟨w1, hw1⟩ : ∃ w1, w1 = w.alloc (.cells #[.slice a0 k0 c0, .slice a1 k1 c1, .slice a2 k2 c2, .slice a3 k3 c3, .slice a4 k4 c4] 28) := ⟨_, rfl⟩
 have b1 := bnw hw1
 have nx := nnw hw1
 obtain ⟨n1, hn1⟩ : ∃ n1, w.heap.size = n1 := ⟨_, rfl⟩
 rw [hn1] at nx b1 hn0 hK ⊢
 have HC := hide (show ∀ W', Below w1.heap.size w1 W' → W'.heap[n1]? = some (.cells #[.slice a0 k0 c0, .slice a1 k1 c1, .slice a2 k2 c2, .slice a3 k3 c3, .slice a4 k4 c4] 28 (0, 0)) from fun W' b => (b.block _ (Qab nx)).trans nx)
 have HN1 := hide hn1
 have HW1 := hide hw1
 have H0 := hide (Ya hn0 (Ya hP (Ya hK (Ya b1 (Qab nx)))))
 clear hw1 hn1 b1 nx hn0 hP hK
 go_enter Try.func36, Try.ntmps36
 go_upto_region 1 with fail
 rw [← Qa HW1, Qa HN1]
 refine Qob [0, 5, 6, 7, 9, 10, 11] 9 (Below w1.heap.size w1) mixedO (by kernel_rfl) rfl (by kernel_rfl) (fun PP hPP => ?_)
 iterate 7 (refine Qox (v := ?_) rfl (by kernel_rfl) (fun W' hw => ?_) ?_; rotate_left; · (obtain ⟨x_0, x_1, x_2, x_3, x_4, xf⟩ := cl5 (Qa HC W' hw); go_simp <;> rfl))
 show wpAnyC Try.prog .any _ _ _ 9 (Lf false false false false false false) _ _
 refine cat_fin (by kernel_rfl) (Nat.lt_of_lt_of_eq (by decide : 20 < 80) (by kernel_rfl)) rfl rfl (by kernel_rfl) rfl rfl rfl rfl rfl rfl (fun x y => by cases x <;> cases y <;> kernel_rfl) (fun x y => by cases x <;> cases y <;> kernel_rfl) (fun x y => by cases x <;> cases y <;> kernel_rfl) (fun x y => by cases x <;> cases y <;> kernel_rfl) (fun x y => ?_) (fun x y => by cases x <;> cases y <;> exact ⟨by kernel_rfl, by kernel_rfl⟩) (Below.refl _ w1).drew (fun m1 m2 m3 ms W hM hms => ?_)
 ·
  cases x
  ·
   intro _
   cases y <;> kernel_rfl
  cases y
  ·
   intro _
   kernel_rfl
  intro h
  cases h
 obtain ⟨W2, hW2⟩ : ∃ W2, W2 = W.alloc (.cells #[.slice a0 k0 c0, .slice a1 k1 c1, .slice a2 k2 c2, .slice a3 k3 c3, .slice a4 k4 c4, (.slice none 0 0), .map (some m1), .map (some m2), .map (some m3)] 145) := ⟨_, rfl⟩
 have bW2 := bnw hW2
 have nW2 := nnw hW2
 have eW2 := hide hW2
 obtain ⟨cb, hcb⟩ : ∃ cb, W.heap.size = cb := ⟨_, rfl⟩
 have HCB := hide hcb
 have bel2 : Below w1.heap.size w1 W2 := hM.bel.trans (bW2.mono hM.bel.size)
 have HNC := hide (show Nc n0 n1 p ⟨cb, 0, 0, m1, m2, m3, .slice a0 k0 c0, .slice a1 k1 c1, .slice a2 k2 c2, .slice a3 k3 c3, .slice a4 k4 c4⟩ (.slice none 0 0) (tyRow (p.types.take 0)) (dcRow (p.decls.take 0)) (ctRow (p.types.take 0)) W2 ∧ Below n1 w W2 from by
  obtain ⟨hn0, hP, hK, b1, hn1⟩ := Qa H0
  have hM2 := hM.later bW2
  have e := Qa HN1
  refine ⟨⟨by rw [hcb] at nW2; exact nW2, Qa HC _ bel2, Qar.same _ _ _ _ _ hP (by have := bel2.size; have := b1.size; omega) (fun q hq hl => (bel2.block q (by have := b1.size; omega)).trans (b1.block q (by omega))), ⟨ms, (hM2.m1 _ rfl).2, hms⟩, ⟨[], (hM2.m2 _ rfl).2, fun t => rfl⟩, ⟨[], (hM2.m3 _ rfl).2, fun t => rfl⟩, ⟨?_, ?_, ?_, ?_⟩, hn0, hM.n12 _ rfl _ rfl, hM.n13 _ rfl _ rfl, hM.n23 _ rfl _ rfl⟩, ?_⟩
  ·
   show n1 < cb
   have := hM.bel.size
   omega
  ·
   have := (hM.m1 _ rfl).1
   show n1 < m1
   exact Nat.lt_of_lt_of_le hn1 this
  ·
   have := (hM.m2 _ rfl).1
   show n1 < m2
   exact Nat.lt_of_lt_of_le hn1 this
  ·
   have := (hM.m3 _ rfl).1
   show n1 < m3
   exact Nat.lt_of_lt_of_le hn1 this
  · exact b1.trans (bel2.mono (Nat.le_of_lt hn1)))
 have HM := hide (Ya hM.bel bel2)
 clear hW2 bW2 nW2 hcb bel2 hM hms
 refine Qc (by kernel_rfl) (by rintro ⟨_, _, h⟩; exact h) (fun _ _ _ _ _ h => h) (.one 13 (.one 14 (.one 15 .nil))) _ _ _ (by kernel_rfl) ?_
 unfold AC
 refine Qat rfl (Qa HM).1 (fun K hK => ?_)
 go_simp
 refine hK _ _ ?_
 clear hK K
 refine Qat rfl (Qa HM).1 (fun K hK => ?_)
 go_simp
 refine hK _ _ ?_
 clear hK K
 rw [← Qa eW2, Qa HCB]
 refine Qat rfl (Qa HM).2 (fun K hK => ?_)
 go_simp
 refine hK _ _ ?_
 clear hK K
 refine Qbl (Qa HM).2 (hPP _ _ ?_)
 clear hPP PP
 have hq0 : k0 = p.types.length ∧ k0 ≤ c0 ∧ c0 ≤ 9223372036854775807 := by
  have h := (Qa HNC).1.types
  have hc := h.cap (a := a0) (n := k0) (c := c0) rfl
  obtain ⟨_, _, e⟩ := h.sl
  cases e
  exact ⟨rfl, hc⟩
 have hk9 : k0 ≤ 1000000000 := by have := hq0.1; omega
 clear hts
 have hq1 : k1 = p.decls.length ∧ k1 ≤ c1 ∧ c1 ≤ 9223372036854775807 := by
  have h := (Qa HNC).1.decls
  have hc := h.cap (a := a1) (n := k1) (c := c1) rfl
  obtain ⟨_, _, e⟩ := h.sl
  cases e
  exact ⟨rfl, hc⟩
 obtain ⟨x_0, x_1, x_2, x_3, x_4, xf⟩ := cl5 (Qa HNC).1.par
 have HQ := hide (Ya hq0.1 hq1.1)
 have hkc0 := hq0.2.1
 have hcm0 := hq0.2.2
 have hkc1 := hq1.2.1
 have hcm1 := hq1.2.2
 clear hq0 hq1
 go_wp2_with fail
 clear x_0 x_1 x_2 x_3 x_4 xf
 go_loopw [26] (fun v wr => ∃ j : Nat, v = .int .i64 (j : Int) ∧ j ≤ k0 ∧ Hid (Nc n0 n1 p ⟨cb, 0, 0, m1, m2, m3, .slice a0 k0 c0, .slice a1 k1 c1, .slice a2 k2 c2, .slice a3 k3 c3, .slice a4 k4 c4⟩ (.slice none 0 0) (tyRow (p.types.take j)) (dcRow (p.decls.take 0)) (ctRow (p.types.take j)) wr ∧ Below n1 w wr)) (fun v _ => k0 - (intOf v).toNat)
 case atStart => exact ⟨0, rfl, Nat.zero_le _, HNC⟩
 obtain ⟨j, rfl, hj, HI⟩ := hrel
 by_cases hlt : j < k0
 ·
  obtain ⟨nc, bw⟩ := Qa HI
  obtain ⟨x, hxj⟩ : ∃ x, p.types[j]? = some x := ⟨p.types[j]'(by have := (Qa HQ).1; omega), List.getElem?_eq_getElem _⟩
  obtain ⟨gb, cap, csx, e1, hgb, hS, _, hcs, hc⟩ := nc.types.elem hxj
  obtain ⟨xa, xn, xc, rfl, hX⟩ := hcs
  have hxc := hX.cap (a := xa) (n := xn) (c := xc) rfl
  have hxn : xn = x.ctors.length := by obtain ⟨_, _, e⟩ := hX.sl; cases e; rfl
  simp only [Value.slice.injEq] at e1
  obtain ⟨rfl, -, -⟩ := e1
  have y0 : wr.cell? ⟨gb, j * 4, none⟩ = some (str x.name) := hc 0 _ rfl
  have y1 : wr.cell? ⟨gb, j * 4 + 1, none⟩ = some (str x.sub) := hc 1 _ rfl
  have y2 : wr.cell? ⟨gb, j * 4 + 2, none⟩ = some (.slice xa xn xc) := hc 2 _ rfl
  have y3 : wr.cell? ⟨gb, j * 4 + 3, none⟩ = some (.int .i64 x.at_) := hc 3 _ rfl
  obtain ⟨w3, hw3⟩ : ∃ w3, w3 = wr.alloc (.cells #[str x.name, str x.sub, .slice xa xn xc, .int .i64 x.at_] 68) := ⟨_, rfl⟩
  have b3 := bnw hw3
  have n3 := nnw hw3
  obtain ⟨tb, htb⟩ : ∃ tb, wr.heap.size = tb := ⟨_, rfl⟩
  rw [htb] at n3
  have hn1 : n1 ≤ wr.heap.size := Nat.le_of_lt (Qab nc.par)
  have bw3 := bw.trans (b3.mono hn1)
  have nc3 := nc.later b3
  have HC3 := hide (show w3.cell? ⟨cb, 6, none⟩ = some (.map (some m1)) ∧ w3.cell? ⟨tb, 0, none⟩ = some (str x.name) from ⟨(cl9 nc3.box).2.2.2.2.2.2.1, (cl4 n3).1⟩)
  have hput := (nc3.later (Below.refl _ w3).drew).putT x.name (3 + j)
  rw [show ((3 + j : Nat) : Int) = (3 : Int) + (j : Int) from by omega, ← Qjy j (by omega)] at hput
  dsimp only at hput
  have HX := hide (Ya hxj (Ya hX (Ya hxn (Ya hn1 bw))))
  have H3 := hide (Ya bw3 (Ya nc3 (Ya n3 b3.size)))
  have HW3 := hide (Ya hw3 htb)
  clear nc bw hxj hgb hS hc hX hxn hw3 b3 n3 htb hn1 bw3 nc3
  go_upto_region 5 with fail
  rw [← (Qa HW3).1, (Qa HW3).2]
  clear y0 y1 y2 y3
  refine Qav (md := [(0, true), (1, true), (2, true), (3, true), (4, true), (5, true), (6, true), (7, true), (8, false)]) (fun w' => w'.cell? ⟨cb, 6, none⟩ = some (.map (some m1)) ∧ w'.cell? ⟨tb, 0, none⟩ = some (str x.name)) mixedO (by kernel_rfl) rfl (by kernel_rfl) (fun PP hPP => ?_)
  iterate 8 refine Qac rfl (by kernel_rfl) (fun w' hw => by obtain ⟨k_0, k_1⟩ := hw; go_simp <;> rfl) ?_
  refine Qal rfl (Qa HC3) (fun K hK => ?_)
  go_simp
  refine hput.mono ?_
  clear hput
  rintro en w4 ⟨rfl, nc4, kp4⟩
  show K _ _
  refine hK _ _ ?_
  clear hK K
  obtain ⟨bw3, nc3, n3, s3⟩ := Qa H3
  have n4 : w4.heap[tb]? = _ := (kp4.block tb (Qab n3) (nc3.mt.cells_ne n3)).trans n3
  refine Qaw ⟨(cl9 nc4.box).2.2.2.2.2.2.1, (cl4 n4).1⟩ (hPP _ _ ?_)
  clear hPP PP
  obtain ⟨z0, z1, z2, z3, zf⟩ := cl4 n4
  obtain ⟨so, hso⟩ : ∃ so, wr.heap.size = so := ⟨_, rfl⟩
  have HSO := hide hso
  clear hso
  have H4 := hide (show Nc n0 n1 p ⟨cb, 0, 0, m1, m2, m3, .slice (some ⟨gb, 0, none⟩) k0 c0, .slice a1 k1 c1, .slice a2 k2 c2, .slice a3 k3 c3, .slice a4 k4 c4⟩ (.slice none 0 0) (tyRow (p.types.take (j + 1))) (dcRow (p.decls.take 0)) (ctRow (p.types.take j) ++ coRow j (x.ctors.take 0)) w4 ∧ Below n1 w w4 ∧ so ≤ w4.heap.size from by
   obtain ⟨hxj, hX, hxn, hn1, bw⟩ := Qa HX
   have hs4 : w3.heap.size ≤ w4.heap.size := kp4.size
   have hso' := Qa HSO
   refine ⟨?_, bw3.trans ((Below.refl _ w3).drew.mono (by omega) |>.trans (Kp.below kp4 (by show n1 ≤ w3.heap.size; omega) (Nat.le_of_lt nc3.l0.2.1))), by omega⟩
   rw [Qlx hxj]
   simpa [coRow] using nc4)
  clear bw3 nc3 n3 s3 n4 nc4 kp4
  go_wp2_with fail
  clear z0 z1 z2 z3 zf
  go_loopw [43] (fun v wq => ∃ i : Nat, v = .int .i64 (i : Int) ∧ i ≤ xn ∧ Hid (Nc n0 n1 p ⟨cb, 0, 0, m1, m2, m3, .slice (some ⟨gb, 0, none⟩) k0 c0, .slice a1 k1 c1, .slice a2 k2 c2, .slice a3 k3 c3, .slice a4 k4 c4⟩ (.slice none 0 0) (tyRow (p.types.take (j + 1))) (dcRow (p.decls.take 0)) (ctRow (p.types.take j) ++ coRow j (x.ctors.take i)) wq ∧ Below n1 w wq ∧ so ≤ wq.heap.size)) (fun v _ => xn - (intOf v).toNat)
  case atStart => exact ⟨0, rfl, Nat.zero_le _, H4⟩
  obtain ⟨i, rfl, hi, HJ⟩ := hrel
  by_cases hlt2 : i < xn
  ·
   obtain ⟨ncq, bq, hsz⟩ := Qa HJ
   obtain ⟨hxj, hX, hxn, hn1, bw⟩ := Qa HX
   have hn01 := ncq.n01
   have hXq := hX.same Qcd (by rw [Qa HSO]; exact hsz) (fun b hb _ => (bq.block b (by have hb' : b < n0 := hb; omega)).trans (bw.block b (by have hb' : b < n0 := hb; omega)).symm)
   obtain ⟨y, hyi⟩ : ∃ y, x.ctors[i]? = some y := ⟨x.ctors[i]'(by omega), List.getElem?_eq_getElem _⟩
   obtain ⟨hb, cap2, csy, e2, hhb, hS2, _, hcs2, hc2⟩ := hXq.elem hyi
   obtain ⟨ya, yn, yc, rfl, hY⟩ := hcs2
   simp only [Value.slice.injEq] at e2
   obtain ⟨rfl, -, -⟩ := e2
   have y0 : wr.cell? ⟨hb, i * 2, none⟩ = some (str y.name) := hc2 0 _ rfl
   have y1 : wr.cell? ⟨hb, i * 2 + 1, none⟩ = some (.slice ya yn yc) := hc2 1 _ rfl
   obtain ⟨w5, hw5⟩ : ∃ w5, w5 = wr.alloc (.cells #[str y.name, .slice ya yn yc] 120) := ⟨_, rfl⟩
   have b5 := bnw hw5
   have n5 := nnw hw5
   obtain ⟨yb, hyb⟩ : ∃ yb, wr.heap.size = yb := ⟨_, rfl⟩
   rw [hyb] at n5
   have nc5 := ncq.later b5
   have hnq : n1 ≤ wr.heap.size := Nat.le_of_lt (Qab ncq.par)
   have HC5 := hide (show w5.cell? ⟨cb, 8, none⟩ = some (.map (some m3)) ∧ w5.cell? ⟨yb, 0, none⟩ = some (str y.name) from ⟨(cl9 nc5.box).2.2.2.2.2.2.2.2.1, (cl2 n5).1⟩)
   have hput := (nc5.later (Below.refl _ w5).drew).putC y.name j i
   dsimp only at hput
   have H5 := hide (Ya (bq.trans (b5.mono hnq)) (Ya nc5 (Ya n5 (Ya b5.size (Ya hyi (Ya hsz hnq))))))
   have HW5 := hide (Ya hw5 hyb)
   clear ncq bq hsz hxj hX hxn hn1 bw hn01 hXq hyi hhb hS2 hc2 hY hw5 b5 n5 hyb nc5 hnq
   go_upto_region 9 with fail
   rw [← (Qa HW5).1, (Qa HW5).2]
   clear y0 y1
   refine Qav (md := [(0, true), (1, true), (2, true), (3, true), (4, true), (5, true), (6, true), (7, true), (8, true), (9, false)]) (fun w' => w'.cell? ⟨cb, 8, none⟩ = some (.map (some m3)) ∧ w'.cell? ⟨yb, 0, none⟩ = some (str y.name)) mixedO (by kernel_rfl) rfl (by kernel_rfl) (fun PP hPP => ?_)
   iterate 9 refine Qac rfl (by kernel_rfl) (fun w' hw => by obtain ⟨k_0, k_1⟩ := hw; go_simp <;> rfl) ?_
   refine Qal rfl (Qa HC5) (fun K hK => ?_)
   go_simp
   refine hput.mono ?_
   clear hput
   rintro en w6 ⟨rfl, nc6, kp6⟩
   show K _ _
   refine hK _ _ ?_
   clear hK K
   obtain ⟨b5, nc5, n5, s5, hyi, hsz, hnq⟩ := Qa H5
   have n6 : w6.heap[yb]? = _ := (kp6.block yb (Qab n5) (nc5.mc.cells_ne n5)).trans n5
   refine Qaw ⟨(cl9 nc6.box).2.2.2.2.2.2.2.2.1, (cl2 n6).1⟩ (hPP _ _ ?_)
   clear hPP PP
   have H6 := hide (show Nc n0 n1 p ⟨cb, 0, 0, m1, m2, m3, .slice (some ⟨gb, 0, none⟩) k0 c0, .slice a1 k1 c1, .slice a2 k2 c2, .slice a3 k3 c3, .slice a4 k4 c4⟩ (.slice none 0 0) (tyRow (p.types.take (j + 1))) (dcRow (p.decls.take 0)) (ctRow (p.types.take j) ++ coRow j (x.ctors.take (i + 1))) w6 ∧ Below n1 w w6 ∧ so ≤ w6.heap.size from by
    have hs6 : w5.heap.size ≤ w6.heap.size := kp6.size
    refine ⟨?_, b5.trans ((Below.refl _ w5).drew.mono (by omega) |>.trans (Kp.below kp6 (by show n1 ≤ w5.heap.size; omega) (Nat.le_of_lt nc5.l0.2.2.2))), by omega⟩
    rw [Qlb j hyi, ← List.append_assoc]
    exact nc6)
   clear b5 nc5 n5 s5 hyi hsz hnq n6 nc6 kp6
   go_wp2_with fail
   go_roundw
   case rel => exact ⟨i + 1, by congr 1, by omega, H6⟩
   case measure => simp [intOf]; omega
  have hix : i = xn := by omega
  subst hix
  go_wp2_with fail
  go_roundw
  case rel =>
   refine ⟨j + 1, by congr 1, by omega, hide ⟨?_, (Qa HJ).2.1⟩⟩
   obtain ⟨hxj, hX, hxn, hn1, bw⟩ := Qa HX
   have h := (Qa HJ).1
   rw [hxn, List.take_length, ← Qlc hxj] at h
   exact h
  case measure => simp [intOf]; omega
 have hjx : j = k0 := by omega
 subst hjx
 obtain ⟨x_0, x_1, x_2, x_3, x_4, xf⟩ := cl5 (Qa HI).1.par
 go_wp2_with fail
 clear x_0 x_1 x_2 x_3 x_4 xf
 go_loopw [63] (fun v wq => ∃ i : Nat, v = .int .i64 (i : Int) ∧ i ≤ k1 ∧ Hid (Nc n0 n1 p ⟨cb, 0, 0, m1, m2, m3, .slice a0 j c0, .slice a1 k1 c1, .slice a2 k2 c2, .slice a3 k3 c3, .slice a4 k4 c4⟩ (.slice none 0 0) (tyRow p.types) (dcRow (p.decls.take i)) (ctRow p.types) wq ∧ Below n1 w wq)) (fun v _ => k1 - (intOf v).toNat)
 case atStart =>
  refine ⟨0, rfl, Nat.zero_le _, hide ⟨?_, (Qa HI).2⟩⟩
  have h := (Qa HI).1
  rw [(Qa HQ).1, List.take_length] at h
  rw [(Qa HQ).1]
  exact h
 obtain ⟨i, rfl, hi, HJ⟩ := hrel
 by_cases hlt2 : i < k1
 ·
  obtain ⟨ncq, bq⟩ := Qa HJ
  obtain ⟨y, hyi⟩ : ∃ y, p.decls[i]? = some y := ⟨p.decls[i]'(by have := (Qa HQ).2; omega), List.getElem?_eq_getElem _⟩
  obtain ⟨hb, cap2, csy, e2, hhb, hS2, _, hcs2, hc2⟩ := ncq.decls.elem hyi
  obtain ⟨ya, yn, yc, rfl, hY⟩ := hcs2
  simp only [Value.slice.injEq] at e2
  obtain ⟨rfl, -, -⟩ := e2
  have y0 : wr.cell? ⟨hb, i * 5, none⟩ = some (str y.name) := hc2 0 _ rfl
  have y1 : wr.cell? ⟨hb, i * 5 + 1, none⟩ = some (.slice ya yn yc) := hc2 1 _ rfl
  have y2 : wr.cell? ⟨hb, i * 5 + 2, none⟩ = some (.bool y.input) := hc2 2 _ rfl
  have y3 : wr.cell? ⟨hb, i * 5 + 3, none⟩ = some (.bool y.output) := hc2 3 _ rfl
  have y4 : wr.cell? ⟨hb, i * 5 + 4, none⟩ = some (.int .i64 y.at_) := hc2 4 _ rfl
  obtain ⟨w5, hw5⟩ : ∃ w5, w5 = wr.alloc (.cells #[str y.name, .slice ya yn yc, .bool y.input, .bool y.output, .int .i64 y.at_] 43) := ⟨_, rfl⟩
  have b5 := bnw hw5
  have n5 := nnw hw5
  obtain ⟨yb, hyb⟩ : ∃ yb, wr.heap.size = yb := ⟨_, rfl⟩
  rw [hyb] at n5
  have nc5 := ncq.later b5
  have hnq : n1 ≤ wr.heap.size := Nat.le_of_lt (Qab ncq.par)
  have HC5 := hide (show w5.cell? ⟨cb, 7, none⟩ = some (.map (some m2)) ∧ w5.cell? ⟨yb, 0, none⟩ = some (str y.name) from ⟨(cl9 nc5.box).2.2.2.2.2.2.2.1, (cl5 n5).1⟩)
  have hput := (nc5.later (Below.refl _ w5).drew).putD y.name i
  dsimp only at hput
  have H5 := hide (Ya (bq.trans (b5.mono hnq)) (Ya nc5 (Ya n5 (Ya b5.size (Ya hyi hnq)))))
  have HW5 := hide (Ya hw5 hyb)
  clear ncq bq hyi hhb hS2 hc2 hY hw5 b5 n5 hyb nc5 hnq
  go_upto_region 15 with fail
  rw [← (Qa HW5).1, (Qa HW5).2]
  clear y0 y1 y2 y3 y4
  refine Qav (md := [(0, true), (1, true), (2, true), (3, true), (4, true), (5, true), (6, true), (7, false)]) (fun w' => w'.cell? ⟨cb, 7, none⟩ = some (.map (some m2)) ∧ w'.cell? ⟨yb, 0, none⟩ = some (str y.name)) mixedO (by kernel_rfl) rfl (by kernel_rfl) (fun PP hPP => ?_)
  iterate 7 refine Qac rfl (by kernel_rfl) (fun w' hw => by obtain ⟨k_0, k_1⟩ := hw; go_simp <;> rfl) ?_
  refine Qal rfl (Qa HC5) (fun K hK => ?_)
  go_simp
  refine hput.mono ?_
  clear hput
  rintro en w6 ⟨rfl, nc6, kp6⟩
  show K _ _
  refine hK _ _ ?_
  clear hK K
  obtain ⟨b5, nc5, n5, s5, hyi, hnq⟩ := Qa H5
  have n6 : w6.heap[yb]? = _ := (kp6.block yb (Qab n5) (nc5.md.cells_ne n5)).trans n5
  refine Qaw ⟨(cl9 nc6.box).2.2.2.2.2.2.2.1, (cl5 n6).1⟩ (hPP _ _ ?_)
  clear hPP PP
  have H6 := hide (show Nc n0 n1 p ⟨cb, 0, 0, m1, m2, m3, .slice a0 j c0, .slice (some ⟨hb, 0, none⟩) k1 c1, .slice a2 k2 c2, .slice a3 k3 c3, .slice a4 k4 c4⟩ (.slice none 0 0) (tyRow p.types) (dcRow (p.decls.take (i + 1))) (ctRow p.types) w6 ∧ Below n1 w w6 from by
   refine ⟨?_, b5.trans ((Below.refl _ w5).drew.mono (by omega) |>.trans (Kp.below kp6 (by show n1 ≤ w5.heap.size; omega) (Nat.le_of_lt nc5.l0.2.2.1)))⟩
   rw [Qld hyi]
   exact nc6)
  clear b5 nc5 n5 s5 hyi hnq n6 nc6 kp6
  go_wp2_with fail
  go_roundw
  case rel => exact ⟨i + 1, by congr 1, by omega, H6⟩
  case measure => simp [intOf]; omega
 have hix : i = k1 := by omega
 subst hix
 obtain ⟨hn0, hP, hK, b1, hn1⟩ := Qa H0
 obtain ⟨ncq, bq⟩ := Qa HJ
 rw [(Qa HQ).2, List.take_length, ← (Qa HQ).2] at ncq
 have hcall := hK _ _ ncq
 dsimp only at hcall
 have HB := hide (Ya bq (Nat.le_of_lt (Qab ncq.par)))
 clear hn0 hP hK b1 hn1 ncq bq
 go_wp2_with fail
 refine hcall.mono ?_
 clear hcall
 rintro en w7 ⟨rfl, b7, kb, kc, hcs⟩
 have HE := hide (Ya hcs b7)
 clear hcs b7
 go_wp2_with fail
 go_ret
 exact ⟨_, rfl, (Qa HE).1, (Qa HB).1.trans (Qa HE).2⟩
end
section
open Go.RowKit Go.Maps
def kdC (p : Pg) : Nat → List Value
 | 0 => []
 | n + 1 => kdC p n ++ [str (kName p n), .int .i64 (kSub p n : Int), .int .i64 (kInit p n)]
theorem Qn (p : Pg) : ∀ n, (kdC p n).length = n * 3
 | 0 => rfl
 | n + 1 => by rw [kdC, List.length_append, Qn p n]; simp; omega
theorem Qqz (p : Pg) : ∀ (n j : Nat), j < n → (kdC p n)[j * 3]? = some (str (kName p j)) ∧ (kdC p n)[j * 3 + 1]? = some (.int .i64 (kSub p j : Int)) ∧ (kdC p n)[j * 3 + 2]? = some (.int .i64 (kInit p j))
 | 0, j, h => by omega
 | n + 1, j, h => by
  have hl := Qn p n
  rw [kdC]
  by_cases e : j < n
  ·
   obtain ⟨h1, h2, h3⟩ := Qqz p n j e
   refine ⟨?_, ?_, ?_⟩
   · rw [List.getElem?_append_left (by omega)]; exact h1
   · rw [List.getElem?_append_left (by omega)]; exact h2
   · rw [List.getElem?_append_left (by omega)]; exact h3
  have e2 : j = n := by omega
  subst e2
  refine ⟨?_, ?_, ?_⟩
  · rw [List.getElem?_append_right (by omega), hl]; simp
  · rw [List.getElem?_append_right (by omega), hl, show j * 3 + 1 - j * 3 = 1 by omega]; rfl
  · rw [List.getElem?_append_right (by omega), hl, show j * 3 + 2 - j * 3 = 2 by omega]; rfl
theorem KRow.of_own {p : Pg} {w : World} {b0 n : Nat} {sl : Value} (hn : 0 < n) (h : w.ownsRow b0 151 3 sl n (kdC p n)) : ∃ kb kc, sl = .slice (some ⟨kb, 0, none⟩) n kc ∧ b0 ≤ kb ∧ KRow w kb n kc (kName p) (kSub p) (kInit p) := by
 rcases h.2 with ⟨_, e⟩ | ⟨g, cap, cur, e1, e2, e3, e4, e5, e6, e7⟩
 · omega
 refine ⟨g, cap, e1, e2, e4, e5, cur, e3, fun j hj => ?_⟩
 obtain ⟨h1, h2, h3⟩ := Qqz p n j hj
 rw [← e7, List.getElem?_take_of_lt (by omega)] at h1 h2 h3
 exact ⟨by simpa using h1, by simpa using h2, by simpa using h3⟩
theorem infoK : ∃ i0 : TypeInfo, Try.prog.info? 151 = some i0 ∧ i0.zero = some (.agg #[.string ⟨#[]⟩, .int .i64 0, .int .i64 0]) ∧ i0.size = 3 ∧ i0.bytes = 32 := by
 have h : (Try.prog.info? 151).map (fun i => (i.zero, i.size, i.bytes)) = some (some (.agg #[.string ⟨#[]⟩, .int .i64 0, .int .i64 0]), 3, 32) := by kernel_rfl
 obtain ⟨i0, hi, hi3⟩ := Option.map_eq_some_iff.1 h
 simp only [Prod.mk.injEq] at hi3
 exact ⟨i0, hi, hi3⟩
section
variable {n0 n1 : Nat} {p : Pg} {c : CatP} {sl : Value} {rt rd : List (Txt × Nat)} {rc : List (Txt × (Nat × Nat))} {w : World}
theorem Nc.box_ne (h : Nc n0 n1 p c sl rt rd rc w) {b0 n : Nat} {xs : List Value} (row : w.ownsRow b0 151 3 sl n xs) : some c.cb ≠ sl.ownBlock ∧ some c.mt ≠ sl.ownBlock ∧ some c.md ≠ sl.ownBlock ∧ some c.mc ≠ sl.ownBlock ∧ some n1 ≠ sl.ownBlock := by
 rcases row.2 with ⟨e2, _⟩ | ⟨g, cap, cur, e2, _, e3, _⟩
 · rw [e2]; exact ⟨by simp [Value.ownBlock], by simp [Value.ownBlock], by simp [Value.ownBlock], by simp [Value.ownBlock], by simp [Value.ownBlock]⟩
 rw [e2]
 refine ⟨fun e => ?_, fun e => ?_, fun e => ?_, fun e => ?_, fun e => ?_⟩
 ·
  cases e
  have := h.box
  rw [e3] at this
  simp at this
 · cases e; exact h.mt.cells_ne e3 rfl
 · cases e; exact h.md.cells_ne e3 rfl
 · cases e; exact h.mc.cells_ne e3 rfl
 cases e
 have := h.par
 rw [e3] at this
 simp at this
theorem Nc.more (h : Nc n0 n1 p c sl rt rd rc w) {n : Nat} (row : w.ownsRow (n1 + 1) 151 3 sl n (kdC p n)) (hn : n ≤ 1000000010) {s : Txt} {k b : Int} (e1 : kName p n = s) (e2 : (kSub p n : Int) = k) (e3 : kInit p n = b) :
  ∃ ra rn rc' w3, (Builtin.append_ #[143, 143] 143 #[sl, .slice (some ⟨w.heap.size, 0, none⟩) 1 1]).run Try.prog (w.alloc (.cells #[str s, .int .i64 k, .int .i64 b] 151)) = .ok (.slice ra rn rc') w3 ∧ w3.heap[c.cb]? = some (.cells #[c.v0, c.v1, c.v2, c.v3, c.v4, sl, .map (some c.mt), .map (some c.md), .map (some c.mc)] 145 (0, 0)) ∧ (∀ q, q < w.heap.size → some q ≠ sl.ownBlock → w3.heap[q]? = w.heap[q]?) ∧
   Nc n0 n1 p c (.slice ra rn rc') rt rd rc (w3.setCell ⟨c.cb, 5, none⟩ (.slice ra rn rc')) ∧ (w3.setCell ⟨c.cb, 5, none⟩ (.slice ra rn rc')).ownsRow (n1 + 1) 151 3 (.slice ra rn rc') (n + 1) (kdC p (n + 1)) ∧ Below n1 w (w3.setCell ⟨c.cb, 5, none⟩ (.slice ra rn rc')) := by
 obtain ⟨w2, hw2⟩ : ∃ w2, w2 = w.alloc (.cells #[str s, .int .i64 k, .int .i64 b] 151) := ⟨_, rfl⟩
 obtain ⟨i0, hi, hz, hsz, hby⟩ := infoK
 have hcb := Qab h.box
 have hl0 := h.l0
 have hn1w : n1 + 1 ≤ w2.heap.size := by rw [hw2]; simp; omega
 obtain ⟨r, w3, hrun, o3, g3, _, a3⟩ := run_append_own_at (P := Try.prog) w2 (n1 + 1) 143 143 151 i0 _ 3 32 (by kernel_rfl) hi hz hsz hby rfl (by decide) sl n (kdC p n) (by rw [hw2]; exact World.ownsRow.alloc row _) ⟨w.heap.size, 0, none⟩ 1 1 [str s, .int .i64 k, .int .i64 b] rfl (fun j u hj => by
  have e1 : (⟨w.heap.size, 0, none⟩ : Addr).add j = ⟨w.heap.size, j, none⟩ := by cases j <;> simp [Addr.add]
  rw [e1, hw2, Qaf (heap_alloc_new w _)]
  simpa using hj) (fun c hc => by simp only [List.mem_cons, List.not_mem_nil, or_false] at hc; rcases hc with rfl | rfl | rfl <;> rfl) (by unfold maxLen; omega) (by omega) hn1w
 have rsl : ∃ ra rn rc, r = .slice ra rn rc := by
  rcases o3.2 with ⟨e, _⟩ | ⟨g, cap, cur, e, _⟩
  · exact ⟨_, _, _, e⟩
  · exact ⟨_, _, _, e⟩
 obtain ⟨ra, rn, rc', rfl⟩ := rsl
 obtain ⟨f1, f2, f3, f4, f5⟩ := h.box_ne row
 have s2 : w2.heap.size = w.heap.size + 1 := by rw [hw2]; simp
 have same : ∀ q, q < w.heap.size → some q ≠ sl.ownBlock → w3.heap[q]? = w.heap[q]? := fun q hq hne => by
  rw [g3.block q (by omega) hne, hw2, Below.heap_alloc _ _ _ hq]
 have box3 := (same _ hcb f1).trans h.box
 obtain ⟨w4, hw4⟩ : ∃ w4, w4 = w3.setCell ⟨c.cb, 5, none⟩ (.slice ra rn rc') := ⟨_, rfl⟩
 have o4 : ∀ q, q ≠ c.cb → w4.heap[q]? = w3.heap[q]? := fun q hq => by rw [hw4]; exact hpS hq
 have hsl : ∀ q, some q = sl.ownBlock → n1 + 1 ≤ q := fun q e => by
  rcases row.2 with ⟨e2, _⟩ | ⟨g, cap, cur, e2, e4, _⟩
  · rw [e2] at e; cases e
  · rw [e2] at e; cases e; exact e4
 have low : ∀ q, q ≤ n1 → w4.heap[q]? = w.heap[q]? := fun q hq => by
  rw [o4 q (by omega)]
  exact same q (by omega) (fun e => by have := hsl q e; omega)
 have hs4 : w.heap.size ≤ w4.heap.size := by have := g3.size; rw [hw4]; simp; omega
 have rne : ∀ q, some q = (Value.slice ra rn rc').ownBlock → q ≠ c.cb := fun q e e2 => by
  subst e2
  rcases a3 with e3 | e3
  · exact f1 (e.trans e3)
  rw [e3] at e
  have := Option.some.inj e
  omega
 have keepM : ∀ q, q < w.heap.size → q ≠ c.cb → some q ≠ sl.ownBlock → w4.heap[q]? = w.heap[q]? := fun q h1 h2 h3 => (o4 q h2).trans (same q h1 h3)
 subst hw2
 refine ⟨ra, rn, rc', w3, hrun, box3, same, ?_, ?_, ?_⟩
 ·
  rw [← hw4]
  exact ⟨by rw [hw4]; exact (Qah box3 5 _).trans rfl, (low n1 (Nat.le_refl _)).trans h.par, Qar.same _ _ _ _ _ h.prg hs4 (fun q hq _ => low q (by have hq' : q < n0 := hq; have := h.n01; omega)), h.mt.keep (keepM _ h.mt.lt (Ne.symm (h.mt.cells_ne h.box)) f2), h.md.keep (keepM _ h.md.lt (Ne.symm (h.md.cells_ne h.box)) f3), h.mc.keep (keepM _ h.mc.lt (Ne.symm (h.mc.cells_ne h.box)) f4), h.l0, h.n01, h.ne⟩
 ·
  rw [← hw4, kdC, e1, e2, e3]
  refine ⟨o3.1, ?_⟩
  rcases o3.2 with e | ⟨g, cap, cur, e1, e2, e3, e4⟩
  · exact .inl e
  · exact .inr ⟨g, cap, cur, e1, e2, (o4 g (rne g (by rw [e1]; rfl))).trans e3, e4⟩
 rw [← hw4]
 refine ⟨?_, ?_, ?_, hs4, fun q hq => low q (Nat.le_of_lt hq)⟩
 · rw [hw4]; exact g3.os
 · rw [hw4]; exact g3.tape
 · rw [hw4]; exact g3.output
end
end
end Go.Proofs.Ytfmbpaoapjmdnaa
