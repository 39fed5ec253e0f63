/- types: fitting, likened, pattern of a variable. types: columns, wrongAtom. types: wrongAtom. -/
import Derived.Test.YtfmbpaoapjmdnaaQb17
set_option maxRecDepth 100000
set_option maxHeartbeats 32000000
namespace Go.Proofs.Ytfmbpaoapjmdnaa
section
open Go.RowKit Go.Maps
def FtR (R : Except Flt (List Fld)) (ft : Flt) (vs : List Fld) : Prop := match R with | .ok v => ft = (0, 0) ∧ vs = v | .error e => ft = e ∧ ft.1 ≠ 0
section
variable {n0 n1 : Nat} {p : Pg} {c : CatP} {wb mb : Nat} {sl : Value} {vs : List Fld} {w : World}
theorem LkA.ft {R : Except Flt (List Fld)} {en : Ending} {w' : World} (h : LkA n0 n1 p c wb mb sl w R en w') : ∃ sl' vs' ft, en = .returned (ftV ft) ∧ Wk n0 n1 p c wb mb sl' vs' w' ∧ Kw wb mb sl sl' w w' ∧ FtR R ft vs' := by
 obtain ⟨sl', vs', h1, h2, h3⟩ := h
 cases R with
 | ok v => exact ⟨sl', vs', (0, 0), h3.1, h1, h2, rfl, h3.2⟩
 | error e => exact ⟨sl', vs', e, h3.1, h1, h2, rfl, h3.2⟩
theorem LkA.of {R : Except Flt (List Fld)} {sl' : Value} {vs' : List Fld} {ft : Flt} {w' : World} (h1 : Wk n0 n1 p c wb mb sl' vs' w') (h2 : Kw wb mb sl sl' w w') (h3 : FtR R ft vs') : LkA n0 n1 p c wb mb sl w R (.returned (ftV ft)) w' := by
 refine ⟨sl', vs', h1, h2, ?_⟩
 cases R with
 | ok v => exact ⟨by rw [h3.1], h3.2⟩
 | error e => exact ⟨by rw [h3.1], by rw [← h3.1]; exact h3.2⟩
theorem Qjk (h : Wk n0 n1 p c wb mb sl vs w) (x : Ex) (hk : x.kind = 1) (xa : Option Addr) (xn xc : Nat) {own : Txt} (hty : typV vs x.txt = some own) (t : Txt) :
  Calls Try.prog 126 #[.pointer (some ⟨wb, 0, none⟩), .agg #[.int .i64 x.kind, .int .i64 x.num, str x.txt, .slice xa xn xc, .int .i64 x.at_], str t] w fun en w' => LkA n0 n1 p c wb mb sl w (if belowP p own t = true then .ok vs else .error (13, x.at_)) en w' := by
 obtain ⟨w2, hw2, b2, nx, nf, s2⟩ := Qbo w #[.int .i64 x.kind, .int .i64 x.num, str x.txt, .slice xa xn xc, .int .i64 x.at_] 126
 have h2 := h.later b2
 have hvl := Qot h2 x hk xa xn xc hty
 obtain ⟨x_0, x_1, x_2, x_3, x_4, xf⟩ := cl5 nx
 have g2 : (x.kind == 2) = false := by rw [hk]; rfl
 have g3 : (x.kind == 3) = false := by rw [hk]; rfl
 obtain ⟨R, hR⟩ : ∃ R : Except Flt (List Fld), (if belowP p own t = true then .ok vs else .error (13, x.at_)) = R := ⟨_, rfl⟩
 rw [hR]
 have hn1 := h.n1le
 have HW := hide hw2
 have HH := hide (Ya b2 (Ya nx (Ya nf (Ya s2 (Ya h hR)))))
 clear hw2 b2 nx nf s2 h h2 hk hty hR
 unfold ftV at hvl
 go_enter Try.func126, Try.ntmps126
 go_upto_region 1 with fail
 rw [← Qa HW]
 go_wp2_with fail
 refine hvl.mono ?_
 clear hvl x_0 x_1 x_2 x_3 x_4 xf
 rintro en w3 ⟨rfl, b3⟩
 obtain ⟨b2, nx, nf, s2, h, hR⟩ := Qa HH
 obtain ⟨w4, hw4⟩ : ∃ w4, w4 = w3.alloc (.cells #[.int .i64 0, .int .i64 0] 31) := ⟨_, rfl⟩
 have b4 := bnw hw4
 have n4 := nnw hw4
 have b24 := b3.trans (b4.mono b3.size)
 have nx4 := (b24.block _ (by omega)).trans nx
 have nf4 := (b24.block _ (by omega)).trans nf
 have b04 := b2.trans (b24.mono b2.size)
 have h4 := h.later b04
 have hcl := Qea h4.cat own t
 obtain ⟨x_0, x_1, x_2, x_3, x_4, xf⟩ := cl5 nx4
 obtain ⟨k_0, k_1, kf⟩ := cl2 n4
 obtain ⟨q_0, q_1, q_2, q_3, q_4, q_5, qf⟩ := cl6 h4.box
 unfold fnV at q_1
 obtain ⟨bb, hbb⟩ : ∃ bb, belowP p own t = bb := ⟨_, rfl⟩
 rw [hbb] at hcl hR
 have H4 := hide (Ya b04 (Ya nx4 (Ya nf4 (Ya h4 hR))))
 have HW4 := hide hw4
 clear b2 nx nf s2 h hR b3 hw4 b4 n4 b24 nx4 nf4 b04 h4 hbb q_0 q_2 q_3 q_4 q_5 x_1 x_2 x_3 x_4 HH
 go_upto_region 2 with fail
 rw [← Qa HW4]
 go_wp2_with fail
 refine hcl.mono ?_
 clear hcl x_0 xf k_0 k_1 kf q_1 qf
 rintro en w5 ⟨rfl, b5⟩
 obtain ⟨b04, nx4, nf4, h4, hR⟩ := Qa H4
 have hs4 := b04.size
 have nx5 := (b5.block _ (Qab nx4)).trans nx4
 have nf5 := (b5.block _ (Qab nf4)).trans nf4
 have h5 := h4.later b5
 have b05 := b04.trans (b5.mono hs4)
 have HR := hide hR
 cases bb
 ·
  have hwr := Qgf w5 13 x.kind x.num x.txt (.slice xa xn xc) ⟨_, _, _, rfl⟩ x.at_
  obtain ⟨x_0, x_1, x_2, x_3, x_4, xf⟩ := cl5 nx5
  have HN := hide (Ya nf5 (Ya h5 b05))
  clear b04 nx4 nf4 h4 hR hs4 nx5 nf5 h5 b05 b5
  go_wp2_with fail
  refine hwr.mono ?_
  clear hwr x_0 x_1 x_2 x_3 x_4 xf
  rintro en w9 ⟨rfl, b9⟩
  obtain ⟨nf8, h8, b08⟩ := Qa HN
  have hs8 := b08.size
  have nf9 := (b9.block _ (Qab nf8)).trans nf8
  have h9 := h8.later b9
  have b09 := b08.trans (b9.mono hs8)
  obtain ⟨W7, hW7, sc⟩ := sc2 nf9 (.int .i64 13) (.int .i64 x.at_)
  obtain ⟨y_0, y_1, yf⟩ := cl2 nf9
  have HE := hide (Ya (Wk.sc h9 sc (by omega) (Wk.offT h9 nf9 (by decide) (by decide))) (Ya (Kw.sc (Kw.of_below (wb := wb) (mb := mb) (sl := sl) b09) sc (by omega)) sc.box))
  have HWW := hide hW7
  clear nf8 h8 b08 hs8 nf9 h9 b09 b9 hW7 sc
  go_wp2_with fail
  rw [← Qa HWW]
  obtain ⟨z_0, z_1, zf⟩ := cl2 (Qa HE).2.2
  refine bodyPost_ret (v := ftV (13, x.at_)) (by simp [results, Try.results126, go_sem, z_0, z_1, ftV]) rfl ?_
  exact ⟨_, _, (Qa HE).1, (Qa HE).2.1, by rw [← Qa HR]; exact ⟨rfl, by simp⟩⟩
 obtain ⟨W7, hW7, sc⟩ := sc2 nf5 (.int .i64 0) (.int .i64 0)
 obtain ⟨y_0, y_1, yf⟩ := cl2 nf5
 have HE := hide (Ya (Wk.sc h5 sc (by omega) (Wk.offT h5 nf5 (by decide) (by decide))) (Ya (Kw.sc (Kw.of_below (wb := wb) (mb := mb) (sl := sl) b05) sc (by omega)) sc.box))
 have HWW := hide hW7
 clear b04 nx4 nf4 h4 hR hs4 nx5 nf5 h5 b05 b5 hW7 sc
 go_wp2_with fail
 rw [← Qa HWW]
 obtain ⟨z_0, z_1, zf⟩ := cl2 (Qa HE).2.2
 refine bodyPost_ret (v := ftV (0, 0)) (by simp [results, Try.results126, go_sem, z_0, z_1, ftV]) rfl ?_
 exact ⟨_, _, (Qa HE).1, (Qa HE).2.1, by rw [← Qa HR]; exact ⟨rfl, rfl⟩⟩
theorem Qjp (h : Wk n0 n1 p c wb mb sl vs w) (hl : vs.length ≤ 1000000000) (x : Ex) (hk : x.kind = 1) (xa : Option Addr) (xn xc : Nat) (t : Txt) :
  Calls Try.prog 131 #[.pointer (some ⟨wb, 0, none⟩), .agg #[.int .i64 x.kind, .int .i64 x.num, str x.txt, .slice xa xn xc, .int .i64 x.at_], str t] w fun en w' => LkA n0 n1 p c wb mb sl w (narP p vs x t) en w' := by
 obtain ⟨w2, hw2, b2, nx, nf, s2⟩ := Qbo w #[.int .i64 x.kind, .int .i64 x.num, str x.txt, .slice xa xn xc, .int .i64 x.at_] 126
 have h2 := h.later b2
 have hcl := Qli h2 hl x hk (.slice xa xn xc) ⟨_, _, _, rfl⟩ t
 obtain ⟨x_0, x_1, x_2, x_3, x_4, xf⟩ := cl5 nx
 have g1 : (x.kind == 1) = true := by rw [hk]; rfl
 obtain ⟨R, hR⟩ : ∃ R, narP p vs x t = R := ⟨_, rfl⟩
 rw [hR] at hcl ⊢
 have hn1 := h.n1le
 have HW := hide hw2
 have HH := hide (Ya b2 (Ya nf (Ya s2 h2)))
 clear hw2 b2 nx nf s2 h h2 hk hR
 go_enter Try.func131, Try.ntmps131
 go_upto_region 1 with fail
 rw [← Qa HW]
 go_wp2_with fail
 refine hcl.mono ?_
 clear hcl x_0 x_1 x_2 x_3 x_4 xf
 rintro en w3 hlk
 obtain ⟨sl3, vs3, ft, rfl, h3, k3, hR4⟩ := hlk.ft
 clear hlk
 obtain ⟨b2, nf, s2, h2⟩ := Qa HH
 have nf3 := k3.keep nf (h2.offT nf (by decide) (by decide))
 obtain ⟨W7, hW7, sc⟩ := sc2 nf3 (.int .i64 ft.1) (.int .i64 ft.2)
 obtain ⟨y_0, y_1, yf⟩ := cl2 nf3
 have HE := hide (Ya (h3.sc sc (by omega) (h3.offT nf3 (by decide) (by decide))) (Ya (((Kw.of_below b2).trans k3).sc sc (by omega)) (Ya sc.box hR4)))
 have HWW := hide hW7
 clear b2 nf s2 h2 h3 k3 hR4 nf3 hW7 sc HH
 unfold ftV
 go_wp2_with fail
 rw [← Qa HWW]
 obtain ⟨e1, e2, e3, e4⟩ := Qa HE
 obtain ⟨z_0, z_1, zf⟩ := cl2 e3
 refine bodyPost_ret (v := ftV ft) (by simp [results, Try.results131, go_sem, z_0, z_1, ftV]) rfl ?_
 exact LkA.of e1 e2 e4
end
end
section
open Go.RowKit Go.Maps
section
variable {n0 n1 : Nat} {p : Pg} {c : CatP} {wb mb : Nat} {sl : Value} {vs : List Fld} {w : World}
theorem Qgq (h : Wk n0 n1 p c wb mb sl vs w) (a : Atm) {aa : Option Addr} {an ac : Nat} {d : Dcl} (hd : declP2 p a.rel = some d) (F : Value) (hFv : ∃ f x y, F = .func f x y) {R : Except Flt (List Fld)}
  (hE : ∀ (W : World) (xa : Option Addr) (xc : Nat), Below w.heap.size w W → LsAt PF 2 (fun b => b < n0) W (.slice xa d.cols.length xc) d.cols → Calls Try.prog 134 #[.slice aa an ac, .slice xa d.cols.length xc, F] W fun en w' => LkA n0 n1 p c wb mb sl W R en w') :
  Calls Try.prog 125 #[.pointer (some ⟨wb, 0, none⟩), .agg #[str a.rel, .slice aa an ac, .int .i64 a.at_], F] w fun en w' => LkA n0 n1 p c wb mb sl w R en w' := by
 obtain ⟨Ff, Fx, Fy, rfl⟩ := hFv
 obtain ⟨w2, hw2, b2, nx, nf, s2⟩ := Qbo w #[str a.rel, .slice aa an ac, .int .i64 a.at_] 75
 have HC := hide (show ∀ W : World, Below w2.heap.size w2 W → W.heap[w.heap.size]? = some (.cells #[str a.rel, .slice aa an ac, .int .i64 a.at_] 75 (0, 0)) ∧ W.cell? ⟨wb, 2, none⟩ = some (.func (.func 107) #[.pointer (some ⟨c.cb, 0, none⟩)] #[]) from fun W bW => ⟨(bW.block _ (by omega)).trans nx, (cl6 (h.later (b2.trans (bW.mono b2.size))).box).2.2.1⟩)
 have HCL := hide (show ∀ W : World, Below w2.heap.size w2 W → Calls Try.prog 107 #[.pointer (some ⟨c.cb, 0, none⟩), str a.rel] W fun en w' => ∃ v, en = .returned v ∧ DcA (fun b => b < n0) w' (some d) v ∧ Below W.heap.size W w' from fun W bW => by have := Qfk (Ct.later h.cat (b2.trans (bW.mono b2.size))) a.rel; rw [hd] at this; exact this)
 have hn1 := h.n1le
 have hl0 := h.lo.1
 have HB := hide (show n0 ≤ w2.heap.size by omega)
 have HW := hide hw2
 have HH := hide (Ya b2 (Ya nx (Ya nf (Ya s2 (Ya h (Ya hd hE))))))
 clear hw2 b2 nx nf s2 h hd hE
 go_enter Try.func125, Try.ntmps125
 go_upto_region 1 with fail
 rw [← Qa HW]
 go_cut [7] from 8 (fun u wc => ∃ (db : Nat) (xa : Option Addr) (xc : Nat), u = .pointer (some ⟨db, 0, none⟩) ∧ Hid (Below w2.heap.size w2 wc ∧ wc.heap[db]? = some (.cells #[str d.name, .slice xa d.cols.length xc, .bool d.input, .bool d.output, .int .i64 d.at_] 43 (0, 0)) ∧ LsAt PF 2 (fun b => b < n0) wc (.slice xa d.cols.length xc) d.cols))
 case first =>
  go_wp2_with fail
  refine Qcz (tr := (.take 0 (.take 1 (.take 2 (.take 3 (.take 4 (.take 5 (.two 6 10 (.take 7 (.take 8 (.take 9 (.one 10 (.one 11 (.take 12 .nil)))))) (.one 6 (.take 7 (.take 8 (.take 9 (.one 11 (.take 12 .nil)))))))))))))) (fun W => W.heap[w.heap.size]? = some (.cells #[str a.rel, .slice aa an ac, .int .i64 a.at_] 75 (0, 0)) ∧ W.cell? ⟨wb, 2, none⟩ = some (.func (.func 107) #[.pointer (some ⟨c.cb, 0, none⟩)] #[])) mixedO (by kernel_rfl) rfl (by kernel_rfl) (fun PP hPP => ?_)
  refine Qag (v := ?_) rfl (by kernel_rfl) (fun w' hw => ?_) ?_
  rotate_left
  · (obtain ⟨k_b, k_f⟩ := hw; obtain ⟨k_0, k_1, k_2, kf⟩ := cl3 k_b; go_simp <;> rfl)
  refine Qag (v := ?_) rfl (by kernel_rfl) (fun w' hw => ?_) ?_
  rotate_left
  · (obtain ⟨k_b, k_f⟩ := hw; obtain ⟨k_0, k_1, k_2, kf⟩ := cl3 k_b; go_simp <;> rfl)
  refine Qag (v := ?_) rfl (by kernel_rfl) (fun w' hw => ?_) ?_
  rotate_left
  · (obtain ⟨k_b, k_f⟩ := hw; obtain ⟨k_0, k_1, k_2, kf⟩ := cl3 k_b; go_simp <;> rfl)
  refine Qag (v := ?_) rfl (by kernel_rfl) (fun w' hw => ?_) ?_
  rotate_left
  · (obtain ⟨k_b, k_f⟩ := hw; obtain ⟨k_0, k_1, k_2, kf⟩ := cl3 k_b; go_simp <;> rfl)
  refine Qag (v := ?_) rfl (by kernel_rfl) (fun w' hw => ?_) ?_
  rotate_left
  · (obtain ⟨k_b, k_f⟩ := hw; obtain ⟨k_0, k_1, k_2, kf⟩ := cl3 k_b; go_simp <;> rfl)
  refine Qag (v := ?_) rfl (by kernel_rfl) (fun w' hw => ?_) ?_
  rotate_left
  · (obtain ⟨k_b, k_f⟩ := hw; obtain ⟨k_0, k_1, k_2, kf⟩ := cl3 k_b; go_simp <;> rfl)
  refine Qdt rfl rfl (Qa HC w2.drew (Below.refl _ w2).drew) (fun K hK2 => ?_) (fun K hK2 => ?_)
  ·
   go_simp
   refine (Qa HCL w2.drew (Below.refl _ w2).drew).mono ?_
   rintro en w5 ⟨v5, rfl, hv5, b5⟩
   obtain ⟨xa, xc, rfl, hL⟩ := hv5
   show K _ _
   refine hK2 _ _ ?_
   clear hK2 K
   have b05 : Below w2.heap.size w2 w5 := (Below.refl _ w2).drew.trans b5
   have bw5 := b05
   refine Qag (v := ?_) rfl (by kernel_rfl) (fun w' hw => ?_) ?_
   rotate_left
   · (obtain ⟨k_b, k_f⟩ := hw; obtain ⟨k_0, k_1, k_2, kf⟩ := cl3 k_b; go_simp <;> rfl)
   refine Qag (v := ?_) rfl (by kernel_rfl) (fun w' hw => ?_) ?_
   rotate_left
   · (obtain ⟨k_b, k_f⟩ := hw; obtain ⟨k_0, k_1, k_2, kf⟩ := cl3 k_b; go_simp <;> rfl)
   refine Qag (v := ?_) rfl (by kernel_rfl) (fun w' hw => ?_) ?_
   rotate_left
   · (obtain ⟨k_b, k_f⟩ := hw; obtain ⟨k_0, k_1, k_2, kf⟩ := cl3 k_b; go_simp <;> rfl)
   refine Qat rfl (Qa HC w5 bw5) (fun K hK2 => ?_)
   go_simp
   refine hK2 _ _ ?_
   clear hK2 K
   have b6 : Below w5.heap.size w5 (w5.alloc (.cells #[.string ⟨#[]⟩, .slice none 0 0, .bool false, .bool false, .int .i64 0] 43)) := (Below.refl _ w5).alloc (Nat.le_refl _) _
   refine Qat rfl (Qa HC _ (bw5.trans (b6.mono bw5.size))) (fun K hK2 => ?_)
   go_simp
   refine hK2 _ _ ?_
   clear hK2 K
   obtain ⟨W7, hW7⟩ : ∃ W7, W7 = w5.alloc (.cells #[str d.name, .slice xa d.cols.length xc, .bool d.input, .bool d.output, .int .i64 d.at_] 43) := ⟨_, rfl⟩
   have b7 := bnw hW7
   have n7 := nnw hW7
   rw [← hW7]
   have bw7 := bw5.trans (b7.mono bw5.size)
   refine Qag (v := ?_) rfl (by kernel_rfl) (fun w' hw => ?_) ?_
   rotate_left
   · (obtain ⟨k_b, k_f⟩ := hw; obtain ⟨k_0, k_1, k_2, kf⟩ := cl3 k_b; go_simp <;> rfl)
   refine Qbl (Qa HC _ bw7) (hPP _ _ ?_)
   clear hPP PP
   have HEND := hide (Ya bw7 (Ya n7 (hL.same Qaz b7.size (fun q _ hl => b7.block q hl))))
   clear hL b5 b05 bw5 b6 hW7 b7 n7 bw7
   go_wp2_with fail
   go_meet
   exact ⟨_, xa, xc, rfl, HEND⟩
  go_simp
  refine hK2 _ _ ?_
  clear hK2 K
  obtain ⟨w4, hw4⟩ : ∃ w4, w4 = (w2.alloc (.cells #[.string ⟨#[]⟩, .slice none 0 0, .bool false, .bool false, .int .i64 0] 43)).drew := ⟨_, rfl⟩
  have b4 : Below w2.heap.size w2 w4 := by rw [hw4]; exact ((Below.refl _ _).alloc (Nat.le_refl _) _).drew
  have n4 : w4.heap[w2.heap.size]? = some (.cells #[.string ⟨#[]⟩, .slice none 0 0, .bool false, .bool false, .int .i64 0] 43 (0, 0)) := by rw [hw4]; exact heap_alloc_new w2 _
  have bw4 := b4
  rw [← hw4]
  clear hw4
  refine Qat rfl (Qa HC w4 bw4) (fun K hK2 => ?_)
  go_simp
  refine (Qa HCL w4 bw4).mono ?_
  rintro en w5 ⟨v5, rfl, hv5, b5⟩
  obtain ⟨xa, xc, rfl, hL⟩ := hv5
  show K _ _
  refine hK2 _ _ ?_
  clear hK2 K
  have bw5 := bw4.trans (b5.mono bw4.size)
  have n5 := (b5.block _ (Qab n4)).trans n4
  refine Qag (v := ?_) rfl (by kernel_rfl) (fun w' hw => ?_) ?_
  rotate_left
  · (obtain ⟨k_b, k_f⟩ := hw; obtain ⟨k_0, k_1, k_2, kf⟩ := cl3 k_b; go_simp <;> rfl)
  refine Qag (v := ?_) rfl (by kernel_rfl) (fun w' hw => ?_) ?_
  rotate_left
  · (obtain ⟨k_b, k_f⟩ := hw; obtain ⟨k_0, k_1, k_2, kf⟩ := cl3 k_b; go_simp <;> rfl)
  refine Qag (v := ?_) rfl (by kernel_rfl) (fun w' hw => ?_) ?_
  rotate_left
  · (obtain ⟨k_b, k_f⟩ := hw; obtain ⟨k_0, k_1, k_2, kf⟩ := cl3 k_b; go_simp <;> rfl)
  obtain ⟨W7, hW7, sc⟩ := sc5 n5 (str d.name) (.slice xa d.cols.length xc) (.bool d.input) (.bool d.output) (.int .i64 d.at_)
  obtain ⟨y_0, y_1, y_2, y_3, y_4, yf⟩ := cl5 n5
  refine Qat rfl (Qa HC w5 bw5) (fun K hK2 => ?_)
  go_simp
  rw [← hW7]
  refine hK2 _ _ ?_
  clear hK2 K
  have bw7 := sc.below bw5 (Nat.le_refl _)
  refine Qag (v := ?_) rfl (by kernel_rfl) (fun w' hw => ?_) ?_
  rotate_left
  · (obtain ⟨k_b, k_f⟩ := hw; obtain ⟨k_0, k_1, k_2, kf⟩ := cl3 k_b; go_simp <;> rfl)
  refine Qbl (Qa HC _ bw7) (hPP _ _ ?_)
  clear hPP PP
  have HEND := hide (Ya bw7 (Ya sc.box (hL.same Qaz (by rw [sc.size]; exact Nat.le_refl _) (fun q hq _ => sc.oth q (by have hq2 : q < n0 := hq; have := Qa HB; omega)))))
  clear hL b4 n4 bw4 b5 bw5 n5 hW7 sc bw7
  go_wp2_with fail
  go_meet
  exact ⟨_, xa, xc, rfl, HEND⟩
 obtain ⟨db, xa, xc, rfl, HE⟩ := hcut
 obtain ⟨WX, hWX⟩ : ∃ WX, WX = wc := ⟨_, rfl⟩
 subst hWX
 obtain ⟨bX, nX, hL⟩ := Qa HE
 obtain ⟨b2, nx, nf, s2, h, hd, hE⟩ := Qa HH
 have hcl := hE WX xa xc (b2.trans (bX.mono b2.size)) hL
 have nxX := (bX.block _ (by omega)).trans nx
 have nfX := (bX.block _ (by omega)).trans nf
 obtain ⟨x_0, x_1, x_2, xf⟩ := cl3 nxX
 obtain ⟨d_0, d_1, d_2, d_3, d_4, df⟩ := cl5 nX
 have HX := hide (Ya (b2.trans (bX.mono b2.size)) (Ya nfX (h.later (b2.trans (bX.mono b2.size)))))
 clear b2 nx nf s2 h hd hE bX nX nxX nfX hL HE
 go_wp2_with fail
 refine hcl.mono ?_
 clear hcl x_0 x_1 x_2 xf d_0 d_1 d_2 d_3 d_4 df
 rintro en w9 hlk
 obtain ⟨sl9, vs9, ft, rfl, h9, k9, hR9⟩ := hlk.ft
 clear hlk
 obtain ⟨bX, nfX, hX⟩ := Qa HX
 have nf9 := k9.keep nfX (hX.offT nfX (by decide) (by decide))
 obtain ⟨W7, hW7, sc⟩ := sc2 nf9 (.int .i64 ft.1) (.int .i64 ft.2)
 obtain ⟨y_0, y_1, yf⟩ := cl2 nf9
 have HE := hide (Ya (h9.sc sc (by omega) (h9.offT nf9 (by decide) (by decide))) (Ya (((Kw.of_below bX).trans k9).sc sc (by omega)) (Ya sc.box hR9)))
 have HWW := hide hW7
 clear bX nfX hX h9 k9 hR9 nf9 hW7 sc
 unfold ftV
 go_wp2_with fail
 rw [← Qa HWW]
 obtain ⟨e1, e2, e3, e4⟩ := Qa HE
 obtain ⟨z_0, z_1, zf⟩ := cl2 e3
 refine bodyPost_ret (v := ftV ft) (by simp [results, Try.results125, go_sem, z_0, z_1, ftV]) rfl ?_
 exact LkA.of e1 e2 e4
end
end
section
open Go.RowKit Go.Maps
section
variable {n0 n1 : Nat} {p : Pg} {c : CatP} {wb mb : Nat} {sl : Value} {vs : List Fld} {w : World}
theorem Qgl (h : Wk n0 n1 p c wb mb sl vs w) (a : Atm) {aa : Option Addr} {an ac : Nat} (ha : a.args.length = an) (hd : declP2 p a.rel = none) :
  Calls Try.prog 130 #[.pointer (some ⟨wb, 0, none⟩), .agg #[str a.rel, .slice aa an ac, .int .i64 a.at_]] w fun en w' => en = .returned (ftV (watP p a)) ∧ Below w.heap.size w w' := by
 obtain ⟨w2, hw2, b2, nx, nf, s2⟩ := Qbo w #[str a.rel, .slice aa an ac, .int .i64 a.at_] 75
 have HC := hide (show ∀ W : World, Below w2.heap.size w2 W → W.heap[w.heap.size]? = some (.cells #[str a.rel, .slice aa an ac, .int .i64 a.at_] 75 (0, 0)) ∧ W.cell? ⟨wb, 2, none⟩ = some (.func (.func 107) #[.pointer (some ⟨c.cb, 0, none⟩)] #[]) from fun W bW => ⟨(bW.block _ (by omega)).trans nx, (cl6 (h.later (b2.trans (bW.mono b2.size))).box).2.2.1⟩)
 have HCL := hide (show ∀ W : World, Below w2.heap.size w2 W → Calls Try.prog 107 #[.pointer (some ⟨c.cb, 0, none⟩), str a.rel] W fun en w' => ∃ v, en = .returned v ∧ DcA (fun b => b < n0) w' (none) v ∧ Below W.heap.size W w' from fun W bW => by have := Qfk (Ct.later h.cat (b2.trans (bW.mono b2.size))) a.rel; rw [hd] at this; exact this)
 have hn1 := h.n1le
 have hl0 := h.lo.1
 have HB := hide (show n0 ≤ w2.heap.size by omega)
 have HW := hide hw2
 have HH := hide (Ya b2 (Ya nx (Ya nf s2)))
 obtain ⟨R, hR⟩ : ∃ R, watP p a = R := ⟨_, rfl⟩
 rw [hR]
 unfold watP at hR
 rw [hd] at hR
 have HR := hide (Ya hR ha)
 clear hw2 b2 nx nf s2 h hd hR ha
 go_enter Try.func130, Try.ntmps130
 go_upto_region 1 with fail
 rw [← Qa HW]
 go_cut [5, 6] from 7 (fun u v wc => ∃ (db : Nat), u = .pointer (some ⟨db, 0, none⟩) ∧ v = .bool false ∧ Hid (Below w2.heap.size w2 wc ∧ wc.heap[db]? = some (.cells #[.string ⟨#[]⟩, .slice none 0 0, .bool false, .bool false, .int .i64 0] 43 (0, 0)) ∧ True))
 case first =>
  go_wp2_with fail
  refine Qcz (tr := (.take 0 (.take 1 (.take 2 (.take 3 (.take 4 (.take 5 (.two 6 10 (.take 7 (.take 8 (.take 9 (.one 10 (.one 11 (.take 12 .nil)))))) (.one 6 (.take 7 (.take 8 (.take 9 (.one 11 (.take 12 .nil)))))))))))))) (fun W => W.heap[w.heap.size]? = some (.cells #[str a.rel, .slice aa an ac, .int .i64 a.at_] 75 (0, 0)) ∧ W.cell? ⟨wb, 2, none⟩ = some (.func (.func 107) #[.pointer (some ⟨c.cb, 0, none⟩)] #[])) mixedO (by kernel_rfl) rfl (by kernel_rfl) (fun PP hPP => ?_)
  refine Qag (v := ?_) rfl (by kernel_rfl) (fun w' hw => ?_) ?_
  rotate_left
  · (obtain ⟨k_b, k_f⟩ := hw; obtain ⟨k_0, k_1, k_2, kf⟩ := cl3 k_b; go_simp <;> rfl)
  refine Qag (v := ?_) rfl (by kernel_rfl) (fun w' hw => ?_) ?_
  rotate_left
  · (obtain ⟨k_b, k_f⟩ := hw; obtain ⟨k_0, k_1, k_2, kf⟩ := cl3 k_b; go_simp <;> rfl)
  refine Qag (v := ?_) rfl (by kernel_rfl) (fun w' hw => ?_) ?_
  rotate_left
  · (obtain ⟨k_b, k_f⟩ := hw; obtain ⟨k_0, k_1, k_2, kf⟩ := cl3 k_b; go_simp <;> rfl)
  refine Qag (v := ?_) rfl (by kernel_rfl) (fun w' hw => ?_) ?_
  rotate_left
  · (obtain ⟨k_b, k_f⟩ := hw; obtain ⟨k_0, k_1, k_2, kf⟩ := cl3 k_b; go_simp <;> rfl)
  refine Qag (v := ?_) rfl (by kernel_rfl) (fun w' hw => ?_) ?_
  rotate_left
  · (obtain ⟨k_b, k_f⟩ := hw; obtain ⟨k_0, k_1, k_2, kf⟩ := cl3 k_b; go_simp <;> rfl)
  refine Qag (v := ?_) rfl (by kernel_rfl) (fun w' hw => ?_) ?_
  rotate_left
  · (obtain ⟨k_b, k_f⟩ := hw; obtain ⟨k_0, k_1, k_2, kf⟩ := cl3 k_b; go_simp <;> rfl)
  refine Qdt rfl rfl (Qa HC w2.drew (Below.refl _ w2).drew) (fun K hK2 => ?_) (fun K hK2 => ?_)
  ·
   go_simp
   refine (Qa HCL w2.drew (Below.refl _ w2).drew).mono ?_
   rintro en w5 ⟨v5, rfl, hv5, b5⟩
   have hL := hv5
   subst hv5
   show K _ _
   refine hK2 _ _ ?_
   clear hK2 K
   have b05 : Below w2.heap.size w2 w5 := (Below.refl _ w2).drew.trans b5
   have bw5 := b05
   refine Qag (v := ?_) rfl (by kernel_rfl) (fun w' hw => ?_) ?_
   rotate_left
   · (obtain ⟨k_b, k_f⟩ := hw; obtain ⟨k_0, k_1, k_2, kf⟩ := cl3 k_b; go_simp <;> rfl)
   refine Qag (v := ?_) rfl (by kernel_rfl) (fun w' hw => ?_) ?_
   rotate_left
   · (obtain ⟨k_b, k_f⟩ := hw; obtain ⟨k_0, k_1, k_2, kf⟩ := cl3 k_b; go_simp <;> rfl)
   refine Qag (v := ?_) rfl (by kernel_rfl) (fun w' hw => ?_) ?_
   rotate_left
   · (obtain ⟨k_b, k_f⟩ := hw; obtain ⟨k_0, k_1, k_2, kf⟩ := cl3 k_b; go_simp <;> rfl)
   refine Qat rfl (Qa HC w5 bw5) (fun K hK2 => ?_)
   go_simp
   refine hK2 _ _ ?_
   clear hK2 K
   have b6 : Below w5.heap.size w5 (w5.alloc (.cells #[.string ⟨#[]⟩, .slice none 0 0, .bool false, .bool false, .int .i64 0] 43)) := (Below.refl _ w5).alloc (Nat.le_refl _) _
   refine Qat rfl (Qa HC _ (bw5.trans (b6.mono bw5.size))) (fun K hK2 => ?_)
   go_simp
   refine hK2 _ _ ?_
   clear hK2 K
   obtain ⟨W7, hW7⟩ : ∃ W7, W7 = w5.alloc (.cells #[.string ⟨#[]⟩, .slice none 0 0, .bool false, .bool false, .int .i64 0] 43) := ⟨_, rfl⟩
   have b7 := bnw hW7
   have n7 := nnw hW7
   rw [← hW7]
   have bw7 := bw5.trans (b7.mono bw5.size)
   refine Qag (v := ?_) rfl (by kernel_rfl) (fun w' hw => ?_) ?_
   rotate_left
   · (obtain ⟨k_b, k_f⟩ := hw; obtain ⟨k_0, k_1, k_2, kf⟩ := cl3 k_b; go_simp <;> rfl)
   refine Qbl (Qa HC _ bw7) (hPP _ _ ?_)
   clear hPP PP
   have HEND := hide (Ya bw7 (Ya n7 (show True from trivial)))
   clear b5 b05 bw5 b6 hW7 b7 n7 bw7
   go_wp2_with fail
   go_meet
   exact ⟨_, rfl, rfl, HEND⟩
  go_simp
  refine hK2 _ _ ?_
  clear hK2 K
  obtain ⟨w4, hw4⟩ : ∃ w4, w4 = (w2.alloc (.cells #[.string ⟨#[]⟩, .slice none 0 0, .bool false, .bool false, .int .i64 0] 43)).drew := ⟨_, rfl⟩
  have b4 : Below w2.heap.size w2 w4 := by rw [hw4]; exact ((Below.refl _ _).alloc (Nat.le_refl _) _).drew
  have n4 : w4.heap[w2.heap.size]? = some (.cells #[.string ⟨#[]⟩, .slice none 0 0, .bool false, .bool false, .int .i64 0] 43 (0, 0)) := by rw [hw4]; exact heap_alloc_new w2 _
  have bw4 := b4
  rw [← hw4]
  clear hw4
  refine Qat rfl (Qa HC w4 bw4) (fun K hK2 => ?_)
  go_simp
  refine (Qa HCL w4 bw4).mono ?_
  rintro en w5 ⟨v5, rfl, hv5, b5⟩
  have hL := hv5
  subst hv5
  show K _ _
  refine hK2 _ _ ?_
  clear hK2 K
  have bw5 := bw4.trans (b5.mono bw4.size)
  have n5 := (b5.block _ (Qab n4)).trans n4
  refine Qag (v := ?_) rfl (by kernel_rfl) (fun w' hw => ?_) ?_
  rotate_left
  · (obtain ⟨k_b, k_f⟩ := hw; obtain ⟨k_0, k_1, k_2, kf⟩ := cl3 k_b; go_simp <;> rfl)
  refine Qag (v := ?_) rfl (by kernel_rfl) (fun w' hw => ?_) ?_
  rotate_left
  · (obtain ⟨k_b, k_f⟩ := hw; obtain ⟨k_0, k_1, k_2, kf⟩ := cl3 k_b; go_simp <;> rfl)
  refine Qag (v := ?_) rfl (by kernel_rfl) (fun w' hw => ?_) ?_
  rotate_left
  · (obtain ⟨k_b, k_f⟩ := hw; obtain ⟨k_0, k_1, k_2, kf⟩ := cl3 k_b; go_simp <;> rfl)
  obtain ⟨W7, hW7, sc⟩ := sc5 n5 (.string ⟨#[]⟩) (.slice none 0 0) (.bool false) (.bool false) (.int .i64 0)
  obtain ⟨y_0, y_1, y_2, y_3, y_4, yf⟩ := cl5 n5
  refine Qat rfl (Qa HC w5 bw5) (fun K hK2 => ?_)
  go_simp
  rw [← hW7]
  refine hK2 _ _ ?_
  clear hK2 K
  have bw7 := sc.below bw5 (Nat.le_refl _)
  refine Qag (v := ?_) rfl (by kernel_rfl) (fun w' hw => ?_) ?_
  rotate_left
  · (obtain ⟨k_b, k_f⟩ := hw; obtain ⟨k_0, k_1, k_2, kf⟩ := cl3 k_b; go_simp <;> rfl)
  refine Qbl (Qa HC _ bw7) (hPP _ _ ?_)
  clear hPP PP
  have HEND := hide (Ya bw7 (Ya sc.box (show True from trivial)))
  clear b4 n4 bw4 b5 bw5 n5 hW7 sc bw7
  go_wp2_with fail
  go_meet
  exact ⟨_, rfl, rfl, HEND⟩
 obtain ⟨db, rfl, rfl, HE⟩ := hcut
 obtain ⟨WX, hWX⟩ : ∃ WX, WX = wc := ⟨_, rfl⟩
 subst hWX
 obtain ⟨bX, nX, hL⟩ := Qa HE
 obtain ⟨b2, nx, nf, s2⟩ := Qa HH
 have nxX := (bX.block _ (by omega)).trans nx
 have nfX := (bX.block _ (by omega)).trans nf
 have b0X := b2.trans (bX.mono b2.size)
 obtain ⟨x_0, x_1, x_2, xf⟩ := cl3 nxX
 obtain ⟨W7, hW7, sc⟩ := sc2 nfX (.int .i64 6) (.int .i64 a.at_)
 obtain ⟨y_0, y_1, yf⟩ := cl2 nfX
 have HG := hide (Ya (sc.below b0X (by omega)) sc.box)
 have HWW := hide hW7
 clear b2 nx nf s2 bX nX nxX nfX b0X hL hW7 sc
 go_wp2_with fail
 rw [← Qa HWW]
 obtain ⟨z_0, z_1, zf⟩ := cl2 (Qa HG).2
 refine bodyPost_ret (v := ftV (6, a.at_)) (by simp [results, Try.results130, go_sem, z_0, z_1, ftV]) rfl ?_
 exact ⟨by rw [← (Qa HR).1], (Qa HG).1⟩
theorem Qgm (h : Wk n0 n1 p c wb mb sl vs w) (a : Atm) {aa : Option Addr} {an ac : Nat} (ha : a.args.length = an) {d : Dcl} (hd : declP2 p a.rel = some d) :
  Calls Try.prog 130 #[.pointer (some ⟨wb, 0, none⟩), .agg #[str a.rel, .slice aa an ac, .int .i64 a.at_]] w fun en w' => en = .returned (ftV (watP p a)) ∧ Below w.heap.size w w' := by
 obtain ⟨w2, hw2, b2, nx, nf, s2⟩ := Qbo w #[str a.rel, .slice aa an ac, .int .i64 a.at_] 75
 have HC := hide (show ∀ W : World, Below w2.heap.size w2 W → W.heap[w.heap.size]? = some (.cells #[str a.rel, .slice aa an ac, .int .i64 a.at_] 75 (0, 0)) ∧ W.cell? ⟨wb, 2, none⟩ = some (.func (.func 107) #[.pointer (some ⟨c.cb, 0, none⟩)] #[]) from fun W bW => ⟨(bW.block _ (by omega)).trans nx, (cl6 (h.later (b2.trans (bW.mono b2.size))).box).2.2.1⟩)
 have HCL := hide (show ∀ W : World, Below w2.heap.size w2 W → Calls Try.prog 107 #[.pointer (some ⟨c.cb, 0, none⟩), str a.rel] W fun en w' => ∃ v, en = .returned v ∧ DcA (fun b => b < n0) w' (some d) v ∧ Below W.heap.size W w' from fun W bW => by have := Qfk (Ct.later h.cat (b2.trans (bW.mono b2.size))) a.rel; rw [hd] at this; exact this)
 have hn1 := h.n1le
 have hl0 := h.lo.1
 have HB := hide (show n0 ≤ w2.heap.size by omega)
 have HW := hide hw2
 have HH := hide (Ya b2 (Ya nx (Ya nf s2)))
 obtain ⟨R, hR⟩ : ∃ R, watP p a = R := ⟨_, rfl⟩
 rw [hR]
 unfold watP at hR
 rw [hd] at hR
 have HR := hide (Ya hR ha)
 clear hw2 b2 nx nf s2 h hd hR ha
 go_enter Try.func130, Try.ntmps130
 go_upto_region 1 with fail
 rw [← Qa HW]
 go_cut [5, 6] from 7 (fun u v wc => ∃ (db : Nat) (xa : Option Addr) (xc : Nat), u = .pointer (some ⟨db, 0, none⟩) ∧ v = .bool true ∧ Hid (Below w2.heap.size w2 wc ∧ wc.heap[db]? = some (.cells #[str d.name, .slice xa d.cols.length xc, .bool d.input, .bool d.output, .int .i64 d.at_] 43 (0, 0)) ∧ LsAt PF 2 (fun b => b < n0) wc (.slice xa d.cols.length xc) d.cols))
 case first =>
  go_wp2_with fail
  refine Qcz (tr := (.take 0 (.take 1 (.take 2 (.take 3 (.take 4 (.take 5 (.two 6 10 (.take 7 (.take 8 (.take 9 (.one 10 (.one 11 (.take 12 .nil)))))) (.one 6 (.take 7 (.take 8 (.take 9 (.one 11 (.take 12 .nil)))))))))))))) (fun W => W.heap[w.heap.size]? = some (.cells #[str a.rel, .slice aa an ac, .int .i64 a.at_] 75 (0, 0)) ∧ W.cell? ⟨wb, 2, none⟩ = some (.func (.func 107) #[.pointer (some ⟨c.cb, 0, none⟩)] #[])) mixedO (by kernel_rfl) rfl (by kernel_rfl) (fun PP hPP => ?_)
  refine Qag (v := ?_) rfl (by kernel_rfl) (fun w' hw => ?_) ?_
  rotate_left
  · (obtain ⟨k_b, k_f⟩ := hw; obtain ⟨k_0, k_1, k_2, kf⟩ := cl3 k_b; go_simp <;> rfl)
  refine Qag (v := ?_) rfl (by kernel_rfl) (fun w' hw => ?_) ?_
  rotate_left
  · (obtain ⟨k_b, k_f⟩ := hw; obtain ⟨k_0, k_1, k_2, kf⟩ := cl3 k_b; go_simp <;> rfl)
  refine Qag (v := ?_) rfl (by kernel_rfl) (fun w' hw => ?_) ?_
  rotate_left
  · (obtain ⟨k_b, k_f⟩ := hw; obtain ⟨k_0, k_1, k_2, kf⟩ := cl3 k_b; go_simp <;> rfl)
  refine Qag (v := ?_) rfl (by kernel_rfl) (fun w' hw => ?_) ?_
  rotate_left
  · (obtain ⟨k_b, k_f⟩ := hw; obtain ⟨k_0, k_1, k_2, kf⟩ := cl3 k_b; go_simp <;> rfl)
  refine Qag (v := ?_) rfl (by kernel_rfl) (fun w' hw => ?_) ?_
  rotate_left
  · (obtain ⟨k_b, k_f⟩ := hw; obtain ⟨k_0, k_1, k_2, kf⟩ := cl3 k_b; go_simp <;> rfl)
  refine Qag (v := ?_) rfl (by kernel_rfl) (fun w' hw => ?_) ?_
  rotate_left
  · (obtain ⟨k_b, k_f⟩ := hw; obtain ⟨k_0, k_1, k_2, kf⟩ := cl3 k_b; go_simp <;> rfl)
  refine Qdt rfl rfl (Qa HC w2.drew (Below.refl _ w2).drew) (fun K hK2 => ?_) (fun K hK2 => ?_)
  ·
   go_simp
   refine (Qa HCL w2.drew (Below.refl _ w2).drew).mono ?_
   rintro en w5 ⟨v5, rfl, hv5, b5⟩
   obtain ⟨xa, xc, rfl, hL⟩ := hv5
   show K _ _
   refine hK2 _ _ ?_
   clear hK2 K
   have b05 : Below w2.heap.size w2 w5 := (Below.refl _ w2).drew.trans b5
   have bw5 := b05
   refine Qag (v := ?_) rfl (by kernel_rfl) (fun w' hw => ?_) ?_
   rotate_left
   · (obtain ⟨k_b, k_f⟩ := hw; obtain ⟨k_0, k_1, k_2, kf⟩ := cl3 k_b; go_simp <;> rfl)
   refine Qag (v := ?_) rfl (by kernel_rfl) (fun w' hw => ?_) ?_
   rotate_left
   · (obtain ⟨k_b, k_f⟩ := hw; obtain ⟨k_0, k_1, k_2, kf⟩ := cl3 k_b; go_simp <;> rfl)
   refine Qag (v := ?_) rfl (by kernel_rfl) (fun w' hw => ?_) ?_
   rotate_left
   · (obtain ⟨k_b, k_f⟩ := hw; obtain ⟨k_0, k_1, k_2, kf⟩ := cl3 k_b; go_simp <;> rfl)
   refine Qat rfl (Qa HC w5 bw5) (fun K hK2 => ?_)
   go_simp
   refine hK2 _ _ ?_
   clear hK2 K
   have b6 : Below w5.heap.size w5 (w5.alloc (.cells #[.string ⟨#[]⟩, .slice none 0 0, .bool false, .bool false, .int .i64 0] 43)) := (Below.refl _ w5).alloc (Nat.le_refl _) _
   refine Qat rfl (Qa HC _ (bw5.trans (b6.mono bw5.size))) (fun K hK2 => ?_)
   go_simp
   refine hK2 _ _ ?_
   clear hK2 K
   obtain ⟨W7, hW7⟩ : ∃ W7, W7 = w5.alloc (.cells #[str d.name, .slice xa d.cols.length xc, .bool d.input, .bool d.output, .int .i64 d.at_] 43) := ⟨_, rfl⟩
   have b7 := bnw hW7
   have n7 := nnw hW7
   rw [← hW7]
   have bw7 := bw5.trans (b7.mono bw5.size)
   refine Qag (v := ?_) rfl (by kernel_rfl) (fun w' hw => ?_) ?_
   rotate_left
   · (obtain ⟨k_b, k_f⟩ := hw; obtain ⟨k_0, k_1, k_2, kf⟩ := cl3 k_b; go_simp <;> rfl)
   refine Qbl (Qa HC _ bw7) (hPP _ _ ?_)
   clear hPP PP
   have HEND := hide (Ya bw7 (Ya n7 (hL.same Qaz b7.size (fun q _ hl => b7.block q hl))))
   clear hL b5 b05 bw5 b6 hW7 b7 n7 bw7
   go_wp2_with fail
   go_meet
   exact ⟨_, xa, xc, rfl, rfl, HEND⟩
  go_simp
  refine hK2 _ _ ?_
  clear hK2 K
  obtain ⟨w4, hw4⟩ : ∃ w4, w4 = (w2.alloc (.cells #[.string ⟨#[]⟩, .slice none 0 0, .bool false, .bool false, .int .i64 0] 43)).drew := ⟨_, rfl⟩
  have b4 : Below w2.heap.size w2 w4 := by rw [hw4]; exact ((Below.refl _ _).alloc (Nat.le_refl _) _).drew
  have n4 : w4.heap[w2.heap.size]? = some (.cells #[.string ⟨#[]⟩, .slice none 0 0, .bool false, .bool false, .int .i64 0] 43 (0, 0)) := by rw [hw4]; exact heap_alloc_new w2 _
  have bw4 := b4
  rw [← hw4]
  clear hw4
  refine Qat rfl (Qa HC w4 bw4) (fun K hK2 => ?_)
  go_simp
  refine (Qa HCL w4 bw4).mono ?_
  rintro en w5 ⟨v5, rfl, hv5, b5⟩
  obtain ⟨xa, xc, rfl, hL⟩ := hv5
  show K _ _
  refine hK2 _ _ ?_
  clear hK2 K
  have bw5 := bw4.trans (b5.mono bw4.size)
  have n5 := (b5.block _ (Qab n4)).trans n4
  refine Qag (v := ?_) rfl (by kernel_rfl) (fun w' hw => ?_) ?_
  rotate_left
  · (obtain ⟨k_b, k_f⟩ := hw; obtain ⟨k_0, k_1, k_2, kf⟩ := cl3 k_b; go_simp <;> rfl)
  refine Qag (v := ?_) rfl (by kernel_rfl) (fun w' hw => ?_) ?_
  rotate_left
  · (obtain ⟨k_b, k_f⟩ := hw; obtain ⟨k_0, k_1, k_2, kf⟩ := cl3 k_b; go_simp <;> rfl)
  refine Qag (v := ?_) rfl (by kernel_rfl) (fun w' hw => ?_) ?_
  rotate_left
  · (obtain ⟨k_b, k_f⟩ := hw; obtain ⟨k_0, k_1, k_2, kf⟩ := cl3 k_b; go_simp <;> rfl)
  obtain ⟨W7, hW7, sc⟩ := sc5 n5 (str d.name) (.slice xa d.cols.length xc) (.bool d.input) (.bool d.output) (.int .i64 d.at_)
  obtain ⟨y_0, y_1, y_2, y_3, y_4, yf⟩ := cl5 n5
  refine Qat rfl (Qa HC w5 bw5) (fun K hK2 => ?_)
  go_simp
  rw [← hW7]
  refine hK2 _ _ ?_
  clear hK2 K
  have bw7 := sc.below bw5 (Nat.le_refl _)
  refine Qag (v := ?_) rfl (by kernel_rfl) (fun w' hw => ?_) ?_
  rotate_left
  · (obtain ⟨k_b, k_f⟩ := hw; obtain ⟨k_0, k_1, k_2, kf⟩ := cl3 k_b; go_simp <;> rfl)
  refine Qbl (Qa HC _ bw7) (hPP _ _ ?_)
  clear hPP PP
  have HEND := hide (Ya bw7 (Ya sc.box (hL.same Qaz (by rw [sc.size]; exact Nat.le_refl _) (fun q hq _ => sc.oth q (by have hq2 : q < n0 := hq; have := Qa HB; omega)))))
  clear hL b4 n4 bw4 b5 bw5 n5 hW7 sc bw7
  go_wp2_with fail
  go_meet
  exact ⟨_, xa, xc, rfl, rfl, HEND⟩
 obtain ⟨db, xa, xc, rfl, rfl, HE⟩ := hcut
 obtain ⟨WX, hWX⟩ : ∃ WX, WX = wc := ⟨_, rfl⟩
 subst hWX
 obtain ⟨bX, nX, hL⟩ := Qa HE
 obtain ⟨b2, nx, nf, s2⟩ := Qa HH
 have nxX := (bX.block _ (by omega)).trans nx
 have nfX := (bX.block _ (by omega)).trans nf
 have b0X := b2.trans (bX.mono b2.size)
 obtain ⟨x_0, x_1, x_2, xf⟩ := cl3 nxX
 obtain ⟨d_0, d_1, d_2, d_3, d_4, df⟩ := cl5 nX
 have hdc := hL.cap rfl
 obtain ⟨dn, hdn⟩ : ∃ dn, d.cols.length = dn := ⟨_, rfl⟩
 rw [hdn] at d_1 hdc
 have HDN := hide hdn
 clear hdn
 by_cases e : an = dn
 ·
  have g1 : ((an : Int) != (dn : Int)) = false := by simp [e]
  have E := hide e
  clear e
  obtain ⟨W7, hW7, sc⟩ := sc2 nfX (.int .i64 0) (.int .i64 0)
  obtain ⟨y_0, y_1, yf⟩ := cl2 nfX
  have HG := hide (Ya (sc.below b0X (by omega)) sc.box)
  have HWW := hide hW7
  clear b2 nx nf s2 bX nX nxX nfX b0X hL hW7 sc
  go_wp2_with fail
  rw [← Qa HWW]
  obtain ⟨z_0, z_1, zf⟩ := cl2 (Qa HG).2
  refine bodyPost_ret (v := ftV (0, 0)) (by simp [results, Try.results130, go_sem, z_0, z_1, ftV]) rfl ?_
  exact ⟨by rw [← (Qa HR).1, if_neg (by simp [(Qa HR).2, Qa HDN, Qa E])], (Qa HG).1⟩
 have g1 : ((an : Int) != (dn : Int)) = true := by simp; omega
 have E := hide e
 clear e
 obtain ⟨W7, hW7, sc⟩ := sc2 nfX (.int .i64 14) (.int .i64 a.at_)
 obtain ⟨y_0, y_1, yf⟩ := cl2 nfX
 have HG := hide (Ya (sc.below b0X (by omega)) sc.box)
 have HWW := hide hW7
 clear b2 nx nf s2 bX nX nxX nfX b0X hL hW7 sc
 go_wp2_with fail
 rw [← Qa HWW]
 obtain ⟨z_0, z_1, zf⟩ := cl2 (Qa HG).2
 refine bodyPost_ret (v := ftV (14, a.at_)) (by simp [results, Try.results130, go_sem, z_0, z_1, ftV]) rfl ?_
 exact ⟨by rw [← (Qa HR).1, if_pos (by rw [(Qa HR).2, Qa HDN]; exact Qa E)], (Qa HG).1⟩
theorem Qel (h : Wk n0 n1 p c wb mb sl vs w) (a : Atm) {aa : Option Addr} {an ac : Nat} (hA : LsAt PE 5 (fun b => b < n0) w (.slice aa an ac) a.args) :
  Calls Try.prog 130 #[.pointer (some ⟨wb, 0, none⟩), .agg #[str a.rel, .slice aa an ac, .int .i64 a.at_]] w fun en w' => en = .returned (ftV (watP p a)) ∧ Below w.heap.size w w' := by
 have ha : a.args.length = an := by obtain ⟨_, _, e⟩ := hA.sl; cases e; rfl
 cases hd : declP2 p a.rel with
 | none => exact Qgl h a ha hd
 | some d => exact Qgm h a ha hd
end
end
end Go.Proofs.Ytfmbpaoapjmdnaa
