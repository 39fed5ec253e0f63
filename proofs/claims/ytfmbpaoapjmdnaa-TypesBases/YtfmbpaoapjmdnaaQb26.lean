/- types: each, with pattern. types: each, with fitting. -/
import Derived.Test.YtfmbpaoapjmdnaaQb17
set_option maxRecDepth 100000
set_option maxHeartbeats 32000000
namespace Go.Proofs.Ytfmbpaoapjmdnaa
section
open Go.RowKit Go.Maps
section
variable {n0 n1 : Nat} {p : Pg} {c : CatP} {wb mb : Nat} {sl : Value} {vs : List Fld} {w : World}
theorem Qpk (h : Wk n0 n1 p c wb mb sl vs w) {N : Nat} {sz : Ex → Nat} {step : Ex → Txt → List Fld → Except Flt (List Fld)} {xs : List Ex} {fs : List Fld} (hF : LkF 131 n0 n1 p c wb mb N sz step xs) (hsz : vs.length + szL sz xs ≤ N) (hlen : xs.length ≤ fs.length)
  {la fa : Option Addr} {ln lc fn fc : Nat} (hX : LsAt PE 5 (fun b => b < n0) w (.slice la ln lc) xs) (hFs : LsAt PF 2 (fun b => b < n0) w (.slice fa fn fc) fs) :
  Calls Try.prog 134 #[.slice la ln lc, .slice fa fn fc, .func (.func 131) #[.pointer (some ⟨wb, 0, none⟩)] #[]] w fun en w' => LkA n0 n1 p c wb mb sl w (eachP step xs fs vs) en w' := by
 obtain ⟨w1, hw1⟩ : ∃ w1, w1 = w.alloc (.cells #[.int .i64 0, .int .i64 0] 31) := ⟨_, rfl⟩
 have b1 := bnw hw1
 have nf1 := nnw hw1
 have s1 : w1.heap.size = w.heap.size + 1 := by rw [hw1]; simp
 obtain ⟨_, _, el⟩ := hX.sl
 cases el
 obtain ⟨_, _, el⟩ := hFs.sl
 cases el
 have hlc := hX.cap rfl
 have hfc := hFs.cap rfl
 obtain ⟨n, hn⟩ : ∃ n, xs.length = n := ⟨_, rfl⟩
 obtain ⟨m, hm⟩ : ∃ m, fs.length = m := ⟨_, rfl⟩
 obtain ⟨RR, hRR⟩ : ∃ RR, eachP step xs fs vs = RR := ⟨_, rfl⟩
 rw [hRR]
 rw [hn] at hlc hlen ⊢
 rw [hm] at hfc hlen ⊢
 have hwl := Qab h.box
 have H1 := hide (Ya b1 (Ya nf1 (Ya s1 h)))
 have HX := hide (Ya hX (Ya hFs (Ya hn (Ya hm (Ya hF (Ya hsz hRR))))))
 have HW1 := hide hw1
 have hn1 := h.n1le
 clear h hF hsz hX hFs hn hm hRR hw1 b1 nf1 s1
 go_enter Try.func134, Try.ntmps134
 go_upto_region 1 with fail
 rw [← Qa HW1]
 go_wp2_with fail
 go_loopw [12] (fun v wr => ∃ (j : Nat), v = .int .i64 (j : Int) ∧ j ≤ n ∧ Hid (∃ sl' vs', Wk n0 n1 p c wb mb sl' vs' wr ∧ Kw wb mb sl sl' w wr ∧ wr.heap[w.heap.size]? = some (.cells #[.int .i64 0, .int .i64 0] 31 (0, 0)) ∧ vs'.length + szL sz (xs.drop j) ≤ N ∧ RR = eachP step (xs.drop j) (fs.drop j) vs')) (fun v _ => n - (intOf v).toNat)
 case atStart =>
  obtain ⟨b1, nf1, s1, h⟩ := Qa H1
  exact ⟨0, rfl, Nat.zero_le _, hide ⟨sl, vs, h.later b1, Kw.of_below b1, nf1, (Qa HX).2.2.2.2.2.1, (Qa HX).2.2.2.2.2.2.symm⟩⟩
 obtain ⟨j, rfl, hj, HI⟩ := hrel
 by_cases hlt : j < n
 ·
  obtain ⟨sl', vs', hW, hK, hnf, hsz, hR⟩ := Qa HI
  obtain ⟨hX, hFs, hn, hm, hF, _, _⟩ := Qa HX
  obtain ⟨b1, nf1, s1, h⟩ := Qa H1
  obtain ⟨x, hxj⟩ : ∃ x, xs[j]? = some x := ⟨xs[j]'(by omega), List.getElem?_eq_getElem _⟩
  obtain ⟨f, hfj⟩ : ∃ f, fs[j]? = some f := ⟨fs[j]'(by omega), List.getElem?_eq_getElem _⟩
  have hlow : ∀ b, b < n0 → b < w.heap.size → wr.heap[b]? = w.heap[b]? := fun b hb hl => hK.block b hl (h.low hb).1 (h.low hb).2.1 (h.low hb).2.2
  have hXr := hX.same Qae hK.size (fun b hb hl => hlow b hb hl)
  have hFr := hFs.same Qaz hK.size (fun b hb hl => hlow b hb hl)
  obtain ⟨gb, cap, cs, e1, hgl, hgS, hcl, hxs, hce⟩ := hXr.elem hxj
  obtain ⟨fb2, cap2, cs2, e2, hfl, hfS, _, hfs, hfe⟩ := hFr.elem hfj
  simp only [Value.slice.injEq] at e1 e2
  obtain ⟨rfl, -, rfl⟩ := e1
  obtain ⟨rfl, -, rfl⟩ := e2
  obtain ⟨xv, ecs, ⟨xa, xc, exv⟩, _⟩ := hxs.cells
  subst exv
  subst ecs
  obtain ⟨xn, hxn⟩ : ∃ xn, x.kids.length = xn := ⟨_, rfl⟩
  rw [hxn] at hxs hce
  clear hxn
  subst hfs
  obtain ⟨c_0, c_1, c_2, c_3, c_4⟩ := cs5 hce
  have d_1 := hfe 1 _ rfl
  obtain ⟨w2, hw2⟩ : ∃ w2, w2 = wr.alloc (.cells #[.int .i64 x.kind, .int .i64 x.num, str x.txt, .slice xa xn xc, .int .i64 x.at_] 126) := ⟨_, rfl⟩
  obtain ⟨xb, hxb⟩ : ∃ xb, wr.heap.size = xb := ⟨_, rfl⟩
  have b2 := bnw hw2
  have n2 := nnw hw2
  rw [hxb] at n2
  have HW2 := hide (Ya hw2 hxb)
  have H2 := hide (Ya b2 (Ya n2 (Ya hxs (Ya hxj (Ya hfj (Ya hfl hfS))))))
  clear hW hK hnf hsz hR hX hFs hn hm hF b1 nf1 s1 h hlow hXr hFr hgl hgS hcl hxs hce hfl hfS hfe hw2 hxb b2 n2 hxj hfj
  go_upto_region 4 with fail
  rw [← (Qa HW2).1, (Qa HW2).2]
  clear c_0 c_1 c_2 c_3 c_4
  go_cut [9, 12] from 12 to 29 (fun u v wc => ∃ (fb : Nat) (ft : Flt), u = .pointer (some ⟨fb, 0, none⟩) ∧ v = .int .i64 (j : Int) ∧ Hid (∃ sl' vs', Wk n0 n1 p c wb mb sl' vs' wr ∧ Kw wb mb sl sl' w wr ∧ vs'.length + szL sz (xs.drop j) ≤ N ∧ RR = eachP step (xs.drop j) (fs.drop j) vs' ∧ EaI n0 n1 p c wb mb sl' wr fb ft (step x f.type vs') wc ∧ wc.heap[w.heap.size]? = some (.cells #[.int .i64 0, .int .i64 0] 31 (0, 0))))
  case first =>
   obtain ⟨sl', vs', hW, hK, hnf, hsz, hR⟩ := Qa HI
   obtain ⟨hX, hFs, hn, hm, hF, _, _⟩ := Qa HX
   obtain ⟨b2, n2, hxs, hxj, hfj, hfl, hfS⟩ := Qa H2
   obtain ⟨b1, nf1, s1, h⟩ := Qa H1
   have hs2 := b2.size
   have hKs := hK.size
   have s2 : w2.heap.size = xb + 1 := by rw [(Qa HW2).1, ← (Qa HW2).2]; simp
   have hxb : wr.heap.size = xb := (Qa HW2).2
   have hcall : ∀ W, Below wr.heap.size wr W → Calls Try.prog 131 #[.pointer (some ⟨wb, 0, none⟩), .agg #[.int .i64 x.kind, .int .i64 x.num, str x.txt, .slice xa xn xc, .int .i64 x.at_], str f.type] W fun en w' => LkA n0 n1 p c wb mb sl' W (step x f.type vs') en w' := fun W bW =>
    hF.call x (List.mem_of_getElem? hxj) W sl' vs' xa xn xc f.type (hW.later bW) (Qae.same _ _ _ _ _ hxs bW.size (fun q _ hl => bW.block q hl)) (by rw [Qei sz xs j x hxj] at hsz; omega)
   have HCL := hide hcall
   have BD : Below wr.heap.size wr w2.drew := b2.drew
   have cE : ∀ W : World, W.heap[xb]? = some (.cells #[.int .i64 x.kind, .int .i64 x.num, str x.txt, .slice xa xn xc, .int .i64 x.at_] 126 (0, 0)) → (∀ b, b < n0 → b < wr.heap.size → W.heap[b]? = wr.heap[b]?) → W.heap[xb]? = some (.cells #[.int .i64 x.kind, .int .i64 x.num, str x.txt, .slice xa xn xc, .int .i64 x.at_] 126 (0, 0)) ∧ W.cell? ⟨fb2, j * 2 + 1, none⟩ = some (str f.type) := fun W hb hl => ⟨hb, by
    have := d_1
    simp only [World.cell?] at this ⊢
    rw [hl fb2 hfS hfl]; exact this⟩
   have HCE := hide cE
   have hnf2 : w2.heap[w.heap.size]? = some (.cells #[.int .i64 0, .int .i64 0] 31 (0, 0)) := (b2.block _ (Qab hnf)).trans hnf
   have HF := hide (Ya hW (Ya hK (Ya hnf (Ya hsz (Ya hR (Ya b2 (Ya n2 (Ya hnf2 (Ya s2 hxb)))))))))
   clear hX hFs hn hm hF hxs hxj hfj hfl hfS b1 nf1 s1 h hs2 hKs hcall cE hW hK hnf hsz hR b2 n2 hnf2 s2 hxb
   have hjm : j < m := by omega
   go_wp2_with fail
   refine Qcz (tr := (.take 0 (.take 1 (.take 2 (.take 3 (.take 4 (.take 5 (.take 6 (.two 7 8 (.one 8 (.one 9 .nil)) (.one 7 (.one 9 .nil)))))))))) ) (fun W => W.heap[xb]? = some (.cells #[.int .i64 x.kind, .int .i64 x.num, str x.txt, .slice xa xn xc, .int .i64 x.at_] 126 (0, 0)) ∧ W.cell? ⟨fb2, j * 2 + 1, none⟩ = some (str f.type)) mixedO (by kernel_rfl) rfl (by kernel_rfl) (fun PP hPP => ?_)
   refine Qag (v := ?_) rfl (by kernel_rfl) (fun w' hw => ?_) ?_
   rotate_left
   · (obtain ⟨k_b, k_f⟩ := hw; obtain ⟨k_0, k_1, k_2, k_3, k_4, kf⟩ := cl5 k_b; go_simp <;> rfl)
   refine Qag (v := ?_) rfl (by kernel_rfl) (fun w' hw => ?_) ?_
   rotate_left
   · (obtain ⟨k_b, k_f⟩ := hw; obtain ⟨k_0, k_1, k_2, k_3, k_4, kf⟩ := cl5 k_b; go_simp <;> rfl)
   refine Qag (v := ?_) rfl (by kernel_rfl) (fun w' hw => ?_) ?_
   rotate_left
   · (obtain ⟨k_b, k_f⟩ := hw; obtain ⟨k_0, k_1, k_2, k_3, k_4, kf⟩ := cl5 k_b; go_simp <;> rfl)
   refine Qag (v := ?_) rfl (by kernel_rfl) (fun w' hw => ?_) ?_
   rotate_left
   · (obtain ⟨k_b, k_f⟩ := hw; obtain ⟨k_0, k_1, k_2, k_3, k_4, kf⟩ := cl5 k_b; go_simp <;> rfl)
   refine Qag (v := ?_) rfl (by kernel_rfl) (fun w' hw => ?_) ?_
   rotate_left
   · (obtain ⟨k_b, k_f⟩ := hw; obtain ⟨k_0, k_1, k_2, k_3, k_4, kf⟩ := cl5 k_b; go_simp <;> rfl)
   refine Qag (v := ?_) rfl (by kernel_rfl) (fun w' hw => ?_) ?_
   rotate_left
   · (obtain ⟨k_b, k_f⟩ := hw; obtain ⟨k_0, k_1, k_2, k_3, k_4, kf⟩ := cl5 k_b; go_simp <;> rfl)
   refine Qag (v := ?_) rfl (by kernel_rfl) (fun w' hw => ?_) ?_
   rotate_left
   · (obtain ⟨k_b, k_f⟩ := hw; obtain ⟨k_0, k_1, k_2, k_3, k_4, kf⟩ := cl5 k_b; go_simp <;> rfl)
   obtain ⟨hW, hK, hnf, hsz, hR, b2, n2, hnf2, s2, hxb⟩ := Qa HF
   refine Qdt rfl rfl (Qa HCE w2.drew n2 (fun b _ hl => b2.block b hl)) (fun K hK2 => ?_) (fun K hK2 => ?_)
   ·
    go_simp
    refine (Qa HCL w2.drew BD).mono ?_
    rintro en w5 ⟨sl5, vs5, hW5, hK5, hR5⟩
    obtain ⟨ft, hft, hR6⟩ : ∃ ft : Flt, en = .returned (ftV ft) ∧ match step x f.type vs' with | .ok v => ft = (0, 0) ∧ vs5 = v | .error e => ft = e ∧ ft.1 ≠ 0 := by
     cases hq : step x f.type vs' with
     | ok v => rw [hq] at hR5; exact ⟨(0, 0), hR5.1, rfl, hR5.2⟩
     | error e => rw [hq] at hR5; exact ⟨e, hR5.1, rfl, hR5.2⟩
    subst hft
    show K _ _
    refine hK2 _ _ ?_
    clear hK2 K
    have n5 := hK5.keep (show w2.drew.heap[xb]? = _ from n2) ((hW.later BD).offT (show w2.drew.heap[xb]? = _ from n2) (by decide) (by decide))
    have nr5 := hK5.keep (show w2.drew.heap[w.heap.size]? = _ from hnf2) ((hW.later BD).offT (show w2.drew.heap[w.heap.size]? = _ from hnf2) (by decide) (by decide))
    have low5 : ∀ b, b < n0 → b < wr.heap.size → w5.heap[b]? = wr.heap[b]? := fun b hb hl => (hK5.block b (by have : w2.drew.heap.size = w2.heap.size := rfl; omega) (hW.low hb).1 (hW.low hb).2.1 (hW.low hb).2.2).trans (b2.block b hl)
    refine Qat rfl (Qa HCE w5 n5 low5) (fun K hK2 => ?_)
    go_simp
    refine hK2 _ _ ?_
    clear hK2 K
    have b6 : Below w5.heap.size w5 (w5.alloc (.cells #[.int .i64 0, .int .i64 0] 31)) := (Below.refl _ w5).alloc (Nat.le_refl _) _
    refine Qat rfl (Qa HCE _ ((b6.block _ (Qab n5)).trans n5) (fun b hb hl => (b6.block b (by have := hK5.size; have : w2.drew.heap.size = w2.heap.size := rfl; omega)).trans (low5 b hb hl))) (fun K hK2 => ?_)
    unfold ftV
    go_simp
    refine hK2 _ _ ?_
    clear hK2 K
    obtain ⟨W7, hW7, b7, n7⟩ : ∃ W7, W7 = w5.alloc (.cells #[.int .i64 ft.1, .int .i64 ft.2] 31) ∧ Below w5.heap.size w5 W7 ∧ W7.heap[w5.heap.size]? = some (.cells #[.int .i64 ft.1, .int .i64 ft.2] 31 (0, 0)) := ⟨_, rfl, (Below.refl _ w5).alloc (Nat.le_refl _) _, heap_alloc_new w5 _⟩
    rw [← hW7]
    refine Qbl (Qa HCE _ ((b7.block _ (Qab n5)).trans n5) (fun b hb hl => (b7.block b (by have := hK5.size; have : w2.drew.heap.size = w2.heap.size := rfl; omega)).trans (low5 b hb hl))) (hPP _ _ ?_)
    clear hPP PP
    have HEND := hide (show ∃ sl' vs', Wk n0 n1 p c wb mb sl' vs' wr ∧ Kw wb mb sl sl' w wr ∧ vs'.length + szL sz (xs.drop j) ≤ N ∧ RR = eachP step (xs.drop j) (fs.drop j) vs' ∧ EaI n0 n1 p c wb mb sl' wr w5.heap.size ft (step x f.type vs') W7 ∧ W7.heap[w.heap.size]? = some (.cells #[.int .i64 0, .int .i64 0] 31 (0, 0)) from ⟨sl', vs', hW, hK, hsz, hR, ⟨⟨sl5, vs5, hW5.later b7, ((Kw.of_below (b2.drew)).trans hK5).trans (Kw.of_below b7), hR6⟩, n7⟩, (b7.block _ (Qab nr5)).trans nr5⟩)
    clear hW hK hnf hsz hR b2 n2 hnf2 s2 hxb hW5 hK5 hR5 hR6 n5 nr5 low5 b6 hW7 b7 n7
    go_wp2_with fail
    go_meet
    exact ⟨_, ft, rfl, rfl, HEND⟩
   go_simp
   refine hK2 _ _ ?_
   clear hK2 K
   obtain ⟨w4, hw4⟩ : ∃ w4, w4 = (w2.alloc (.cells #[.int .i64 0, .int .i64 0] 31)).drew := ⟨_, rfl⟩
   have b4 : Below w2.heap.size w2 w4 := by rw [hw4]; exact ((Below.refl _ _).alloc (Nat.le_refl _) _).drew
   have n4 : w4.heap[w2.heap.size]? = some (.cells #[.int .i64 0, .int .i64 0] 31 (0, 0)) := by rw [hw4]; exact heap_alloc_new w2 _
   have BD4 : Below wr.heap.size wr w4 := b2.trans (b4.mono b2.size)
   have nx4 : w4.heap[xb]? = some (.cells #[.int .i64 x.kind, .int .i64 x.num, str x.txt, .slice xa xn xc, .int .i64 x.at_] 126 (0, 0)) := (b4.block _ (Qab n2)).trans n2
   have nr4 : w4.heap[w.heap.size]? = some (.cells #[.int .i64 0, .int .i64 0] 31 (0, 0)) := (b4.block _ (Qab hnf2)).trans hnf2
   rw [← hw4]
   rw [s2] at n4
   clear hw4
   refine Qat rfl (Qa HCE w4 nx4 (fun b hb hl => BD4.block b hl)) (fun K hK2 => ?_)
   go_simp
   refine (Qa HCL w4 BD4).mono ?_
   rintro en w5 ⟨sl5, vs5, hW5, hK5, hR5⟩
   obtain ⟨ft, hft, hR6⟩ : ∃ ft : Flt, en = .returned (ftV ft) ∧ match step x f.type vs' with | .ok v => ft = (0, 0) ∧ vs5 = v | .error e => ft = e ∧ ft.1 ≠ 0 := by
    cases hq : step x f.type vs' with
    | ok v => rw [hq] at hR5; exact ⟨(0, 0), hR5.1, rfl, hR5.2⟩
    | error e => rw [hq] at hR5; exact ⟨e, hR5.1, rfl, hR5.2⟩
   subst hft
   show K _ _
   refine hK2 _ _ ?_
   clear hK2 K
   have n5 := hK5.keep nx4 ((hW.later BD4).offT nx4 (by decide) (by decide))
   have nr5 := hK5.keep nr4 ((hW.later BD4).offT nr4 (by decide) (by decide))
   have nf5 := hK5.keep n4 ((hW.later BD4).offT n4 (by decide) (by decide))
   have low5 : ∀ b, b < n0 → b < wr.heap.size → w5.heap[b]? = wr.heap[b]? := fun b hb hl => (hK5.block b (by have := BD4.size; omega) (hW.low hb).1 (hW.low hb).2.1 (hW.low hb).2.2).trans (BD4.block b hl)
   obtain ⟨W7, hW7, sc⟩ := sc2 nf5 (.int .i64 ft.1) (.int .i64 ft.2)
   obtain ⟨y_0, y_1, yf⟩ := cl2 nf5
   refine Qat rfl (Qa HCE w5 n5 low5) (fun K hK2 => ?_)
   unfold ftV
   go_simp
   rw [← hW7]
   refine hK2 _ _ ?_
   clear hK2 K
   have hne1 : xb ≠ xb + 1 := by omega
   have hne2 : w.heap.size ≠ xb + 1 := by have := Qab hnf2; omega
   refine Qbl (Qa HCE _ ((sc.oth _ hne1).trans n5) (fun b hb hl => (sc.oth b (by omega)).trans (low5 b hb hl))) (hPP _ _ ?_)
   clear hPP PP
   have hoff := hW5.offT nf5 (by decide) (by decide)
   have HEND := hide (show ∃ sl' vs', Wk n0 n1 p c wb mb sl' vs' wr ∧ Kw wb mb sl sl' w wr ∧ vs'.length + szL sz (xs.drop j) ≤ N ∧ RR = eachP step (xs.drop j) (fs.drop j) vs' ∧ EaI n0 n1 p c wb mb sl' wr (xb + 1) ft (step x f.type vs') W7 ∧ W7.heap[w.heap.size]? = some (.cells #[.int .i64 0, .int .i64 0] 31 (0, 0)) from ⟨sl', vs', hW, hK, hsz, hR, ⟨⟨sl5, vs5, hW5.sc sc (by have := hW.n1le; omega) hoff, ((Kw.of_below BD4).trans hK5).sc sc (by omega), hR6⟩, sc.box⟩, (sc.oth _ hne2).trans nr5⟩)
   clear hW hK hnf hsz hR b2 n2 hnf2 s2 hxb hW5 hK5 hR5 hR6 n5 nr5 nf5 low5 b4 n4 BD4 nx4 nr4 hW7 sc hne1 hne2 hoff
   go_wp2_with fail
   go_meet
   exact ⟨_, ft, rfl, rfl, HEND⟩
  obtain ⟨fb, ft, rfl, rfl, HE⟩ := hcut
  obtain ⟨WX, hWX⟩ : ∃ WX, WX = wc := ⟨_, rfl⟩
  subst hWX
  obtain ⟨sl', vs', hW, hK, hsz, hR, ⟨⟨sl5, vs5, hW5, hK5, hR5⟩, hbx⟩, hnr⟩ := Qa HE
  obtain ⟨b_0, b_1, bf⟩ := cl2 hbx
  obtain ⟨_, _, hn, hm, hF, _, _⟩ := Qa HX
  obtain ⟨_, _, _, hxj, hfj, _⟩ := Qa H2
  rw [Qgr step hxj hfj] at hR
  by_cases e0 : ft.1 = 0
  ·
   have g0 : (ft.1 != 0) = false := by simp [e0]
   have hq : ∃ v, step x f.type vs' = .ok v ∧ vs5 = v := by
    cases hq : step x f.type vs' with
    | ok v => rw [hq] at hR5; exact ⟨v, rfl, hR5.2⟩
    | error e => rw [hq] at hR5; exact absurd e0 hR5.2
   obtain ⟨v, hq, rfl⟩ := hq
   rw [hq] at hR
   have hgr := hF.grow x f.type vs' vs5 hq
   rw [Qei sz xs j x hxj] at hsz
   have HG := hide (show ∃ sl' vs', Wk n0 n1 p c wb mb sl' vs' WX ∧ Kw wb mb sl sl' w WX ∧ WX.heap[w.heap.size]? = some (.cells #[.int .i64 0, .int .i64 0] 31 (0, 0)) ∧ vs'.length + szL sz (xs.drop (j + 1)) ≤ N ∧ RR = eachP step (xs.drop (j + 1)) (fs.drop (j + 1)) vs' from ⟨sl5, vs5, hW5, hK.trans hK5, hnr, by omega, hR⟩)
   clear hW hK hsz hR hW5 hK5 hR5 hbx hnr hn hm hF hxj hfj hq hgr e0
   go_wp2_with fail
   go_roundw
   case rel => exact ⟨j + 1, by simp, by omega, HG⟩
   case measure => simp [intOf]; omega
  have g0 : (ft.1 != 0) = true := by simp [e0]
  have hq : step x f.type vs' = .error ft := by
   cases hq : step x f.type vs' with
   | ok v => rw [hq] at hR5; exact absurd (by rw [hR5.1]) e0
   | error e => rw [hq] at hR5; rw [hR5.1]
  rw [hq] at hR
  have hR' : RR = .error ft := hR
  obtain ⟨W7, hW7, sc⟩ := sc2 hnr (.int .i64 ft.1) (.int .i64 ft.2)
  obtain ⟨y_0, y_1, yf⟩ := cl2 hnr
  have hoff := hW5.offT hnr (by decide) (by decide)
  have HG := hide (Ya (hW5.sc sc hn1 hoff) (Ya ((hK.trans hK5).sc sc (Nat.le_refl _)) (Ya sc.box (Ya hR' e0))))
  have HWW := hide hW7
  clear hW hK hsz hR hR' hW5 hK5 hR5 hbx hnr hn hm hF hxj hfj hq e0 hW7 sc hoff
  go_wp2_with fail
  rw [← Qa HWW]
  obtain ⟨h1, h2, h3, h4, h5⟩ := Qa HG
  obtain ⟨z_0, z_1, zf⟩ := cl2 h3
  refine bodyPost_ret (v := ftV ft) (by simp [results, Try.results134, go_sem, z_0, z_1, ftV]) rfl ?_
  refine ⟨_, _, h1, h2, ?_⟩
  rw [h4]
  exact ⟨rfl, h5⟩
 obtain ⟨sl', vs', hW, hK, hnf, hsz, hR⟩ := Qa HI
 have hdn : xs.drop j = [] := List.drop_eq_nil_of_le (by have := (Qa HX).2.2.1; omega)
 have hR' : RR = .ok vs' := by rw [hR, hdn]; rfl
 obtain ⟨W7, hW7, sc⟩ := sc2 hnf (.int .i64 0) (.int .i64 0)
 obtain ⟨y_0, y_1, yf⟩ := cl2 hnf
 have hoff := hW.offT hnf (by decide) (by decide)
 have HG := hide (Ya (hW.sc sc hn1 hoff) (Ya (hK.sc sc (Nat.le_refl _)) (Ya sc.box hR')))
 have HWW := hide hW7
 clear hW hK hnf hsz hR hdn hR' hW7 sc hoff
 go_wp2_with fail
 rw [← Qa HWW]
 obtain ⟨h1, h2, h3, h4⟩ := Qa HG
 obtain ⟨z_0, z_1, zf⟩ := cl2 h3
 refine bodyPost_ret (v := ftV (0, 0)) (by simp [results, Try.results134, go_sem, z_0, z_1, ftV]) rfl ?_
 refine ⟨_, _, h1, h2, ?_⟩
 rw [h4]
 exact ⟨rfl, rfl⟩
end
end
section
open Go.RowKit Go.Maps
section
variable {n0 n1 : Nat} {p : Pg} {c : CatP} {wb mb : Nat} {sl : Value} {vs : List Fld} {w : World}
theorem Qpj (h : Wk n0 n1 p c wb mb sl vs w) {N : Nat} {sz : Ex → Nat} {step : Ex → Txt → List Fld → Except Flt (List Fld)} {xs : List Ex} {fs : List Fld} (hF : LkF 126 n0 n1 p c wb mb N sz step xs) (hsz : vs.length + szL sz xs ≤ N) (hlen : xs.length ≤ fs.length)
  {la fa : Option Addr} {ln lc fn fc : Nat} (hX : LsAt PE 5 (fun b => b < n0) w (.slice la ln lc) xs) (hFs : LsAt PF 2 (fun b => b < n0) w (.slice fa fn fc) fs) :
  Calls Try.prog 134 #[.slice la ln lc, .slice fa fn fc, .func (.func 126) #[.pointer (some ⟨wb, 0, none⟩)] #[]] w fun en w' => LkA n0 n1 p c wb mb sl w (eachP step xs fs vs) en w' := by
 obtain ⟨w1, hw1⟩ : ∃ w1, w1 = w.alloc (.cells #[.int .i64 0, .int .i64 0] 31) := ⟨_, rfl⟩
 have b1 := bnw hw1
 have nf1 := nnw hw1
 have s1 : w1.heap.size = w.heap.size + 1 := by rw [hw1]; simp
 obtain ⟨_, _, el⟩ := hX.sl
 cases el
 obtain ⟨_, _, el⟩ := hFs.sl
 cases el
 have hlc := hX.cap rfl
 have hfc := hFs.cap rfl
 obtain ⟨n, hn⟩ : ∃ n, xs.length = n := ⟨_, rfl⟩
 obtain ⟨m, hm⟩ : ∃ m, fs.length = m := ⟨_, rfl⟩
 obtain ⟨RR, hRR⟩ : ∃ RR, eachP step xs fs vs = RR := ⟨_, rfl⟩
 rw [hRR]
 rw [hn] at hlc hlen ⊢
 rw [hm] at hfc hlen ⊢
 have hwl := Qab h.box
 have H1 := hide (Ya b1 (Ya nf1 (Ya s1 h)))
 have HX := hide (Ya hX (Ya hFs (Ya hn (Ya hm (Ya hF (Ya hsz hRR))))))
 have HW1 := hide hw1
 have hn1 := h.n1le
 clear h hF hsz hX hFs hn hm hRR hw1 b1 nf1 s1
 go_enter Try.func134, Try.ntmps134
 go_upto_region 1 with fail
 rw [← Qa HW1]
 go_wp2_with fail
 go_loopw [12] (fun v wr => ∃ (j : Nat), v = .int .i64 (j : Int) ∧ j ≤ n ∧ Hid (∃ sl' vs', Wk n0 n1 p c wb mb sl' vs' wr ∧ Kw wb mb sl sl' w wr ∧ wr.heap[w.heap.size]? = some (.cells #[.int .i64 0, .int .i64 0] 31 (0, 0)) ∧ vs'.length + szL sz (xs.drop j) ≤ N ∧ RR = eachP step (xs.drop j) (fs.drop j) vs')) (fun v _ => n - (intOf v).toNat)
 case atStart =>
  obtain ⟨b1, nf1, s1, h⟩ := Qa H1
  exact ⟨0, rfl, Nat.zero_le _, hide ⟨sl, vs, h.later b1, Kw.of_below b1, nf1, (Qa HX).2.2.2.2.2.1, (Qa HX).2.2.2.2.2.2.symm⟩⟩
 obtain ⟨j, rfl, hj, HI⟩ := hrel
 by_cases hlt : j < n
 ·
  obtain ⟨sl', vs', hW, hK, hnf, hsz, hR⟩ := Qa HI
  obtain ⟨hX, hFs, hn, hm, hF, _, _⟩ := Qa HX
  obtain ⟨b1, nf1, s1, h⟩ := Qa H1
  obtain ⟨x, hxj⟩ : ∃ x, xs[j]? = some x := ⟨xs[j]'(by omega), List.getElem?_eq_getElem _⟩
  obtain ⟨f, hfj⟩ : ∃ f, fs[j]? = some f := ⟨fs[j]'(by omega), List.getElem?_eq_getElem _⟩
  have hlow : ∀ b, b < n0 → b < w.heap.size → wr.heap[b]? = w.heap[b]? := fun b hb hl => hK.block b hl (h.low hb).1 (h.low hb).2.1 (h.low hb).2.2
  have hXr := hX.same Qae hK.size (fun b hb hl => hlow b hb hl)
  have hFr := hFs.same Qaz hK.size (fun b hb hl => hlow b hb hl)
  obtain ⟨gb, cap, cs, e1, hgl, hgS, hcl, hxs, hce⟩ := hXr.elem hxj
  obtain ⟨fb2, cap2, cs2, e2, hfl, hfS, _, hfs, hfe⟩ := hFr.elem hfj
  simp only [Value.slice.injEq] at e1 e2
  obtain ⟨rfl, -, rfl⟩ := e1
  obtain ⟨rfl, -, rfl⟩ := e2
  obtain ⟨xv, ecs, ⟨xa, xc, exv⟩, _⟩ := hxs.cells
  subst exv
  subst ecs
  obtain ⟨xn, hxn⟩ : ∃ xn, x.kids.length = xn := ⟨_, rfl⟩
  rw [hxn] at hxs hce
  clear hxn
  subst hfs
  obtain ⟨c_0, c_1, c_2, c_3, c_4⟩ := cs5 hce
  have d_1 := hfe 1 _ rfl
  obtain ⟨w2, hw2⟩ : ∃ w2, w2 = wr.alloc (.cells #[.int .i64 x.kind, .int .i64 x.num, str x.txt, .slice xa xn xc, .int .i64 x.at_] 126) := ⟨_, rfl⟩
  obtain ⟨xb, hxb⟩ : ∃ xb, wr.heap.size = xb := ⟨_, rfl⟩
  have b2 := bnw hw2
  have n2 := nnw hw2
  rw [hxb] at n2
  have HW2 := hide (Ya hw2 hxb)
  have H2 := hide (Ya b2 (Ya n2 (Ya hxs (Ya hxj (Ya hfj (Ya hfl hfS))))))
  clear hW hK hnf hsz hR hX hFs hn hm hF b1 nf1 s1 h hlow hXr hFr hgl hgS hcl hxs hce hfl hfS hfe hw2 hxb b2 n2 hxj hfj
  go_upto_region 4 with fail
  rw [← (Qa HW2).1, (Qa HW2).2]
  clear c_0 c_1 c_2 c_3 c_4
  go_cut [9, 12] from 12 to 29 (fun u v wc => ∃ (fb : Nat) (ft : Flt), u = .pointer (some ⟨fb, 0, none⟩) ∧ v = .int .i64 (j : Int) ∧ Hid (∃ sl' vs', Wk n0 n1 p c wb mb sl' vs' wr ∧ Kw wb mb sl sl' w wr ∧ vs'.length + szL sz (xs.drop j) ≤ N ∧ RR = eachP step (xs.drop j) (fs.drop j) vs' ∧ EaI n0 n1 p c wb mb sl' wr fb ft (step x f.type vs') wc ∧ wc.heap[w.heap.size]? = some (.cells #[.int .i64 0, .int .i64 0] 31 (0, 0))))
  case first =>
   obtain ⟨sl', vs', hW, hK, hnf, hsz, hR⟩ := Qa HI
   obtain ⟨hX, hFs, hn, hm, hF, _, _⟩ := Qa HX
   obtain ⟨b2, n2, hxs, hxj, hfj, hfl, hfS⟩ := Qa H2
   obtain ⟨b1, nf1, s1, h⟩ := Qa H1
   have hs2 := b2.size
   have hKs := hK.size
   have s2 : w2.heap.size = xb + 1 := by rw [(Qa HW2).1, ← (Qa HW2).2]; simp
   have hxb : wr.heap.size = xb := (Qa HW2).2
   have hcall : ∀ W, Below wr.heap.size wr W → Calls Try.prog 126 #[.pointer (some ⟨wb, 0, none⟩), .agg #[.int .i64 x.kind, .int .i64 x.num, str x.txt, .slice xa xn xc, .int .i64 x.at_], str f.type] W fun en w' => LkA n0 n1 p c wb mb sl' W (step x f.type vs') en w' := fun W bW =>
    hF.call x (List.mem_of_getElem? hxj) W sl' vs' xa xn xc f.type (hW.later bW) (Qae.same _ _ _ _ _ hxs bW.size (fun q _ hl => bW.block q hl)) (by rw [Qei sz xs j x hxj] at hsz; omega)
   have HCL := hide hcall
   have BD : Below wr.heap.size wr w2.drew := b2.drew
   have cE : ∀ W : World, W.heap[xb]? = some (.cells #[.int .i64 x.kind, .int .i64 x.num, str x.txt, .slice xa xn xc, .int .i64 x.at_] 126 (0, 0)) → (∀ b, b < n0 → b < wr.heap.size → W.heap[b]? = wr.heap[b]?) → W.heap[xb]? = some (.cells #[.int .i64 x.kind, .int .i64 x.num, str x.txt, .slice xa xn xc, .int .i64 x.at_] 126 (0, 0)) ∧ W.cell? ⟨fb2, j * 2 + 1, none⟩ = some (str f.type) := fun W hb hl => ⟨hb, by
    have := d_1
    simp only [World.cell?] at this ⊢
    rw [hl fb2 hfS hfl]; exact this⟩
   have HCE := hide cE
   have hnf2 : w2.heap[w.heap.size]? = some (.cells #[.int .i64 0, .int .i64 0] 31 (0, 0)) := (b2.block _ (Qab hnf)).trans hnf
   have HF := hide (Ya hW (Ya hK (Ya hnf (Ya hsz (Ya hR (Ya b2 (Ya n2 (Ya hnf2 (Ya s2 hxb)))))))))
   clear hX hFs hn hm hF hxs hxj hfj hfl hfS b1 nf1 s1 h hs2 hKs hcall cE hW hK hnf hsz hR b2 n2 hnf2 s2 hxb
   have hjm : j < m := by omega
   go_wp2_with fail
   refine Qcz (tr := (.take 0 (.take 1 (.take 2 (.take 3 (.take 4 (.take 5 (.take 6 (.two 7 8 (.one 8 (.one 9 .nil)) (.one 7 (.one 9 .nil)))))))))) ) (fun W => W.heap[xb]? = some (.cells #[.int .i64 x.kind, .int .i64 x.num, str x.txt, .slice xa xn xc, .int .i64 x.at_] 126 (0, 0)) ∧ W.cell? ⟨fb2, j * 2 + 1, none⟩ = some (str f.type)) mixedO (by kernel_rfl) rfl (by kernel_rfl) (fun PP hPP => ?_)
   refine Qag (v := ?_) rfl (by kernel_rfl) (fun w' hw => ?_) ?_
   rotate_left
   · (obtain ⟨k_b, k_f⟩ := hw; obtain ⟨k_0, k_1, k_2, k_3, k_4, kf⟩ := cl5 k_b; go_simp <;> rfl)
   refine Qag (v := ?_) rfl (by kernel_rfl) (fun w' hw => ?_) ?_
   rotate_left
   · (obtain ⟨k_b, k_f⟩ := hw; obtain ⟨k_0, k_1, k_2, k_3, k_4, kf⟩ := cl5 k_b; go_simp <;> rfl)
   refine Qag (v := ?_) rfl (by kernel_rfl) (fun w' hw => ?_) ?_
   rotate_left
   · (obtain ⟨k_b, k_f⟩ := hw; obtain ⟨k_0, k_1, k_2, k_3, k_4, kf⟩ := cl5 k_b; go_simp <;> rfl)
   refine Qag (v := ?_) rfl (by kernel_rfl) (fun w' hw => ?_) ?_
   rotate_left
   · (obtain ⟨k_b, k_f⟩ := hw; obtain ⟨k_0, k_1, k_2, k_3, k_4, kf⟩ := cl5 k_b; go_simp <;> rfl)
   refine Qag (v := ?_) rfl (by kernel_rfl) (fun w' hw => ?_) ?_
   rotate_left
   · (obtain ⟨k_b, k_f⟩ := hw; obtain ⟨k_0, k_1, k_2, k_3, k_4, kf⟩ := cl5 k_b; go_simp <;> rfl)
   refine Qag (v := ?_) rfl (by kernel_rfl) (fun w' hw => ?_) ?_
   rotate_left
   · (obtain ⟨k_b, k_f⟩ := hw; obtain ⟨k_0, k_1, k_2, k_3, k_4, kf⟩ := cl5 k_b; go_simp <;> rfl)
   refine Qag (v := ?_) rfl (by kernel_rfl) (fun w' hw => ?_) ?_
   rotate_left
   · (obtain ⟨k_b, k_f⟩ := hw; obtain ⟨k_0, k_1, k_2, k_3, k_4, kf⟩ := cl5 k_b; go_simp <;> rfl)
   obtain ⟨hW, hK, hnf, hsz, hR, b2, n2, hnf2, s2, hxb⟩ := Qa HF
   refine Qdt rfl rfl (Qa HCE w2.drew n2 (fun b _ hl => b2.block b hl)) (fun K hK2 => ?_) (fun K hK2 => ?_)
   ·
    go_simp
    refine (Qa HCL w2.drew BD).mono ?_
    rintro en w5 ⟨sl5, vs5, hW5, hK5, hR5⟩
    obtain ⟨ft, hft, hR6⟩ : ∃ ft : Flt, en = .returned (ftV ft) ∧ match step x f.type vs' with | .ok v => ft = (0, 0) ∧ vs5 = v | .error e => ft = e ∧ ft.1 ≠ 0 := by
     cases hq : step x f.type vs' with
     | ok v => rw [hq] at hR5; exact ⟨(0, 0), hR5.1, rfl, hR5.2⟩
     | error e => rw [hq] at hR5; exact ⟨e, hR5.1, rfl, hR5.2⟩
    subst hft
    show K _ _
    refine hK2 _ _ ?_
    clear hK2 K
    have n5 := hK5.keep (show w2.drew.heap[xb]? = _ from n2) ((hW.later BD).offT (show w2.drew.heap[xb]? = _ from n2) (by decide) (by decide))
    have nr5 := hK5.keep (show w2.drew.heap[w.heap.size]? = _ from hnf2) ((hW.later BD).offT (show w2.drew.heap[w.heap.size]? = _ from hnf2) (by decide) (by decide))
    have low5 : ∀ b, b < n0 → b < wr.heap.size → w5.heap[b]? = wr.heap[b]? := fun b hb hl => (hK5.block b (by have : w2.drew.heap.size = w2.heap.size := rfl; omega) (hW.low hb).1 (hW.low hb).2.1 (hW.low hb).2.2).trans (b2.block b hl)
    refine Qat rfl (Qa HCE w5 n5 low5) (fun K hK2 => ?_)
    go_simp
    refine hK2 _ _ ?_
    clear hK2 K
    have b6 : Below w5.heap.size w5 (w5.alloc (.cells #[.int .i64 0, .int .i64 0] 31)) := (Below.refl _ w5).alloc (Nat.le_refl _) _
    refine Qat rfl (Qa HCE _ ((b6.block _ (Qab n5)).trans n5) (fun b hb hl => (b6.block b (by have := hK5.size; have : w2.drew.heap.size = w2.heap.size := rfl; omega)).trans (low5 b hb hl))) (fun K hK2 => ?_)
    unfold ftV
    go_simp
    refine hK2 _ _ ?_
    clear hK2 K
    obtain ⟨W7, hW7, b7, n7⟩ : ∃ W7, W7 = w5.alloc (.cells #[.int .i64 ft.1, .int .i64 ft.2] 31) ∧ Below w5.heap.size w5 W7 ∧ W7.heap[w5.heap.size]? = some (.cells #[.int .i64 ft.1, .int .i64 ft.2] 31 (0, 0)) := ⟨_, rfl, (Below.refl _ w5).alloc (Nat.le_refl _) _, heap_alloc_new w5 _⟩
    rw [← hW7]
    refine Qbl (Qa HCE _ ((b7.block _ (Qab n5)).trans n5) (fun b hb hl => (b7.block b (by have := hK5.size; have : w2.drew.heap.size = w2.heap.size := rfl; omega)).trans (low5 b hb hl))) (hPP _ _ ?_)
    clear hPP PP
    have HEND := hide (show ∃ sl' vs', Wk n0 n1 p c wb mb sl' vs' wr ∧ Kw wb mb sl sl' w wr ∧ vs'.length + szL sz (xs.drop j) ≤ N ∧ RR = eachP step (xs.drop j) (fs.drop j) vs' ∧ EaI n0 n1 p c wb mb sl' wr w5.heap.size ft (step x f.type vs') W7 ∧ W7.heap[w.heap.size]? = some (.cells #[.int .i64 0, .int .i64 0] 31 (0, 0)) from ⟨sl', vs', hW, hK, hsz, hR, ⟨⟨sl5, vs5, hW5.later b7, ((Kw.of_below (b2.drew)).trans hK5).trans (Kw.of_below b7), hR6⟩, n7⟩, (b7.block _ (Qab nr5)).trans nr5⟩)
    clear hW hK hnf hsz hR b2 n2 hnf2 s2 hxb hW5 hK5 hR5 hR6 n5 nr5 low5 b6 hW7 b7 n7
    go_wp2_with fail
    go_meet
    exact ⟨_, ft, rfl, rfl, HEND⟩
   go_simp
   refine hK2 _ _ ?_
   clear hK2 K
   obtain ⟨w4, hw4⟩ : ∃ w4, w4 = (w2.alloc (.cells #[.int .i64 0, .int .i64 0] 31)).drew := ⟨_, rfl⟩
   have b4 : Below w2.heap.size w2 w4 := by rw [hw4]; exact ((Below.refl _ _).alloc (Nat.le_refl _) _).drew
   have n4 : w4.heap[w2.heap.size]? = some (.cells #[.int .i64 0, .int .i64 0] 31 (0, 0)) := by rw [hw4]; exact heap_alloc_new w2 _
   have BD4 : Below wr.heap.size wr w4 := b2.trans (b4.mono b2.size)
   have nx4 : w4.heap[xb]? = some (.cells #[.int .i64 x.kind, .int .i64 x.num, str x.txt, .slice xa xn xc, .int .i64 x.at_] 126 (0, 0)) := (b4.block _ (Qab n2)).trans n2
   have nr4 : w4.heap[w.heap.size]? = some (.cells #[.int .i64 0, .int .i64 0] 31 (0, 0)) := (b4.block _ (Qab hnf2)).trans hnf2
   rw [← hw4]
   rw [s2] at n4
   clear hw4
   refine Qat rfl (Qa HCE w4 nx4 (fun b hb hl => BD4.block b hl)) (fun K hK2 => ?_)
   go_simp
   refine (Qa HCL w4 BD4).mono ?_
   rintro en w5 ⟨sl5, vs5, hW5, hK5, hR5⟩
   obtain ⟨ft, hft, hR6⟩ : ∃ ft : Flt, en = .returned (ftV ft) ∧ match step x f.type vs' with | .ok v => ft = (0, 0) ∧ vs5 = v | .error e => ft = e ∧ ft.1 ≠ 0 := by
    cases hq : step x f.type vs' with
    | ok v => rw [hq] at hR5; exact ⟨(0, 0), hR5.1, rfl, hR5.2⟩
    | error e => rw [hq] at hR5; exact ⟨e, hR5.1, rfl, hR5.2⟩
   subst hft
   show K _ _
   refine hK2 _ _ ?_
   clear hK2 K
   have n5 := hK5.keep nx4 ((hW.later BD4).offT nx4 (by decide) (by decide))
   have nr5 := hK5.keep nr4 ((hW.later BD4).offT nr4 (by decide) (by decide))
   have nf5 := hK5.keep n4 ((hW.later BD4).offT n4 (by decide) (by decide))
   have low5 : ∀ b, b < n0 → b < wr.heap.size → w5.heap[b]? = wr.heap[b]? := fun b hb hl => (hK5.block b (by have := BD4.size; omega) (hW.low hb).1 (hW.low hb).2.1 (hW.low hb).2.2).trans (BD4.block b hl)
   obtain ⟨W7, hW7, sc⟩ := sc2 nf5 (.int .i64 ft.1) (.int .i64 ft.2)
   obtain ⟨y_0, y_1, yf⟩ := cl2 nf5
   refine Qat rfl (Qa HCE w5 n5 low5) (fun K hK2 => ?_)
   unfold ftV
   go_simp
   rw [← hW7]
   refine hK2 _ _ ?_
   clear hK2 K
   have hne1 : xb ≠ xb + 1 := by omega
   have hne2 : w.heap.size ≠ xb + 1 := by have := Qab hnf2; omega
   refine Qbl (Qa HCE _ ((sc.oth _ hne1).trans n5) (fun b hb hl => (sc.oth b (by omega)).trans (low5 b hb hl))) (hPP _ _ ?_)
   clear hPP PP
   have hoff := hW5.offT nf5 (by decide) (by decide)
   have HEND := hide (show ∃ sl' vs', Wk n0 n1 p c wb mb sl' vs' wr ∧ Kw wb mb sl sl' w wr ∧ vs'.length + szL sz (xs.drop j) ≤ N ∧ RR = eachP step (xs.drop j) (fs.drop j) vs' ∧ EaI n0 n1 p c wb mb sl' wr (xb + 1) ft (step x f.type vs') W7 ∧ W7.heap[w.heap.size]? = some (.cells #[.int .i64 0, .int .i64 0] 31 (0, 0)) from ⟨sl', vs', hW, hK, hsz, hR, ⟨⟨sl5, vs5, hW5.sc sc (by have := hW.n1le; omega) hoff, ((Kw.of_below BD4).trans hK5).sc sc (by omega), hR6⟩, sc.box⟩, (sc.oth _ hne2).trans nr5⟩)
   clear hW hK hnf hsz hR b2 n2 hnf2 s2 hxb hW5 hK5 hR5 hR6 n5 nr5 nf5 low5 b4 n4 BD4 nx4 nr4 hW7 sc hne1 hne2 hoff
   go_wp2_with fail
   go_meet
   exact ⟨_, ft, rfl, rfl, HEND⟩
  obtain ⟨fb, ft, rfl, rfl, HE⟩ := hcut
  obtain ⟨WX, hWX⟩ : ∃ WX, WX = wc := ⟨_, rfl⟩
  subst hWX
  obtain ⟨sl', vs', hW, hK, hsz, hR, ⟨⟨sl5, vs5, hW5, hK5, hR5⟩, hbx⟩, hnr⟩ := Qa HE
  obtain ⟨b_0, b_1, bf⟩ := cl2 hbx
  obtain ⟨_, _, hn, hm, hF, _, _⟩ := Qa HX
  obtain ⟨_, _, _, hxj, hfj, _⟩ := Qa H2
  rw [Qgr step hxj hfj] at hR
  by_cases e0 : ft.1 = 0
  ·
   have g0 : (ft.1 != 0) = false := by simp [e0]
   have hq : ∃ v, step x f.type vs' = .ok v ∧ vs5 = v := by
    cases hq : step x f.type vs' with
    | ok v => rw [hq] at hR5; exact ⟨v, rfl, hR5.2⟩
    | error e => rw [hq] at hR5; exact absurd e0 hR5.2
   obtain ⟨v, hq, rfl⟩ := hq
   rw [hq] at hR
   have hgr := hF.grow x f.type vs' vs5 hq
   rw [Qei sz xs j x hxj] at hsz
   have HG := hide (show ∃ sl' vs', Wk n0 n1 p c wb mb sl' vs' WX ∧ Kw wb mb sl sl' w WX ∧ WX.heap[w.heap.size]? = some (.cells #[.int .i64 0, .int .i64 0] 31 (0, 0)) ∧ vs'.length + szL sz (xs.drop (j + 1)) ≤ N ∧ RR = eachP step (xs.drop (j + 1)) (fs.drop (j + 1)) vs' from ⟨sl5, vs5, hW5, hK.trans hK5, hnr, by omega, hR⟩)
   clear hW hK hsz hR hW5 hK5 hR5 hbx hnr hn hm hF hxj hfj hq hgr e0
   go_wp2_with fail
   go_roundw
   case rel => exact ⟨j + 1, by simp, by omega, HG⟩
   case measure => simp [intOf]; omega
  have g0 : (ft.1 != 0) = true := by simp [e0]
  have hq : step x f.type vs' = .error ft := by
   cases hq : step x f.type vs' with
   | ok v => rw [hq] at hR5; exact absurd (by rw [hR5.1]) e0
   | error e => rw [hq] at hR5; rw [hR5.1]
  rw [hq] at hR
  have hR' : RR = .error ft := hR
  obtain ⟨W7, hW7, sc⟩ := sc2 hnr (.int .i64 ft.1) (.int .i64 ft.2)
  obtain ⟨y_0, y_1, yf⟩ := cl2 hnr
  have hoff := hW5.offT hnr (by decide) (by decide)
  have HG := hide (Ya (hW5.sc sc hn1 hoff) (Ya ((hK.trans hK5).sc sc (Nat.le_refl _)) (Ya sc.box (Ya hR' e0))))
  have HWW := hide hW7
  clear hW hK hsz hR hR' hW5 hK5 hR5 hbx hnr hn hm hF hxj hfj hq e0 hW7 sc hoff
  go_wp2_with fail
  rw [← Qa HWW]
  obtain ⟨h1, h2, h3, h4, h5⟩ := Qa HG
  obtain ⟨z_0, z_1, zf⟩ := cl2 h3
  refine bodyPost_ret (v := ftV ft) (by simp [results, Try.results134, go_sem, z_0, z_1, ftV]) rfl ?_
  refine ⟨_, _, h1, h2, ?_⟩
  rw [h4]
  exact ⟨rfl, h5⟩
 obtain ⟨sl', vs', hW, hK, hnf, hsz, hR⟩ := Qa HI
 have hdn : xs.drop j = [] := List.drop_eq_nil_of_le (by have := (Qa HX).2.2.1; omega)
 have hR' : RR = .ok vs' := by rw [hR, hdn]; rfl
 obtain ⟨W7, hW7, sc⟩ := sc2 hnf (.int .i64 0) (.int .i64 0)
 obtain ⟨y_0, y_1, yf⟩ := cl2 hnf
 have hoff := hW.offT hnf (by decide) (by decide)
 have HG := hide (Ya (hW.sc sc hn1 hoff) (Ya (hK.sc sc (Nat.le_refl _)) (Ya sc.box hR')))
 have HWW := hide hW7
 clear hW hK hnf hsz hR hdn hR' hW7 sc hoff
 go_wp2_with fail
 rw [← Qa HWW]
 obtain ⟨h1, h2, h3, h4⟩ := Qa HG
 obtain ⟨z_0, z_1, zf⟩ := cl2 h3
 refine bodyPost_ret (v := ftV (0, 0)) (by simp [results, Try.results134, go_sem, z_0, z_1, ftV]) rfl ?_
 refine ⟨_, _, h1, h2, ?_⟩
 rw [h4]
 exact ⟨rfl, rfl⟩
end
end
end Go.Proofs.Ytfmbpaoapjmdnaa
