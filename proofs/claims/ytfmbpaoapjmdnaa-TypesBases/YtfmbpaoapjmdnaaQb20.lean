/- types: wrongAtoms. types: lit, an atom and a negation. types: clause. types: infer. -/
import Derived.Test.YtfmbpaoapjmdnaaQb18
import Derived.Test.YtfmbpaoapjmdnaaQb19
import Derived.Laws.EntriesVeiled
set_option maxRecDepth 100000
set_option maxHeartbeats 32000000
namespace Go.Proofs.Ytfmbpaoapjmdnaa
section
open Go.RowKit Go.Maps
theorem Qrb {w : World} {b o : Nat} {cs : List Value} (hl : cs.length = 16) (h : ∀ q c, cs[q]? = some c → w.cell? ⟨b, o + q, none⟩ = some c) : (ltLoad (.pointer (some ⟨b, o, none⟩))).run Try.prog w = .ok (.agg cs.toArray) w :=
 run_loadAt_mid w b o 128 cs _ (fun q v hq => h q v hq) Try.underlying128 rfl (by rw [hl]; exact Qg)
theorem Qnl (w : World) {cs : List Value} (hl : cs.length = 16) (h1 : ∀ c ∈ cs, c.oneCell' = true) : (ltStore (.pointer (some ⟨w.heap.size, 0, none⟩)) (.agg cs.toArray)).run Try.prog (w.alloc (.cells #[.int .i64 0, .string ⟨#[]⟩, .slice none 0 0, .int .i64 0, .string ⟨#[]⟩, .int .i64 0, .int .i64 0, .string ⟨#[]⟩, .slice none 0 0, .int .i64 0, .int .i64 0, .int .i64 0, .string ⟨#[]⟩, .slice none 0 0, .int .i64 0, .int .i64 0] 128)) = .ok () (w.alloc (.cells cs.toArray 128)) :=
 run_storeAt_new w 128 _ _ (by rw [List.size_toArray, hl]; exact Qg) (by simp [hl]) (by simpa using h1)
theorem Qlz (p : Pg) {ls : List Lt} {j : Nat} {y : Lt} (h : ls[j]? = some y) : watsP p (ls.drop j) = if y.kind ≠ 1 ∧ y.kind ≠ 2 then watsP p (ls.drop (j + 1)) else if (watP p y.atom).1 ≠ 0 then watP p y.atom else watsP p (ls.drop (j + 1)) := by
 rw [List.drop_eq_getElem_cons (List.getElem?_eq_some_iff.1 h).1, (List.getElem?_eq_some_iff.1 h).2]
 rfl
section
variable {n0 n1 : Nat} {p : Pg} {c : CatP} {wb mb : Nat} {sl : Value} {vs : List Fld} {w : World}
attribute [local go_sem ↓] Qbj Qbv
theorem Qgn (h : Wk n0 n1 p c wb mb sl vs w) (x : Cls) {aa ba : Option Addr} {an ac bn bc : Nat} (hA : LsAt PE 5 (fun b => b < n0) w (.slice aa an ac) x.head.args) (hB : LsAt PLt 16 (fun b => b < n0) w (.slice ba bn bc) x.body) :
  Calls Try.prog 123 #[.pointer (some ⟨wb, 0, none⟩), .agg #[str x.head.rel, .slice aa an ac, .int .i64 x.head.at_, .slice ba bn bc, .int .i64 x.at_]] w fun en w' => en = .returned (ftV (if (watP p x.head).1 ≠ 0 then watP p x.head else watsP p x.body)) ∧ Below w.heap.size w w' := by
 obtain ⟨w2, hw2, b2, nx, nf, s2⟩ := Qbo w #[str x.head.rel, .slice aa an ac, .int .i64 x.head.at_, .slice ba bn bc, .int .i64 x.at_] 78
 have hcl := Qel (h.later b2) x.head (hA.same Qae b2.size (fun q _ hl => b2.block q hl))
 obtain ⟨x_0, x_1, x_2, x_3, x_4, xf⟩ := cl5 nx
 obtain ⟨R, hR⟩ : ∃ R, (if (watP p x.head).1 ≠ 0 then watP p x.head else watsP p x.body) = R := ⟨_, rfl⟩
 rw [hR]
 obtain ⟨ft, hft⟩ : ∃ ft, watP p x.head = ft := ⟨_, rfl⟩
 rw [hft] at hcl hR
 unfold ftV at hcl
 have hbn : x.body.length = bn := by obtain ⟨_, _, e⟩ := hB.sl; cases e; rfl
 have hbc := hB.cap rfl
 have HW := hide hw2
 have HH := hide (Ya b2 (Ya nx (Ya nf (Ya s2 (Ya h (Ya hR (Ya hB hbn)))))))
 clear hw2 b2 nx nf s2 h hA hB hR hft hbn
 go_enter Try.func123, Try.ntmps123
 go_upto_region 1 with fail
 rw [← Qa HW]
 go_wp2_with fail
 refine hcl.mono ?_
 clear hcl x_0 x_1 x_2 x_3 x_4 xf
 rintro en w3 ⟨rfl, b3⟩
 obtain ⟨b2, nx, nf, s2, h, hR, hB, hbn⟩ := Qa HH
 obtain ⟨w4, hw4⟩ : ∃ w4, w4 = w3.alloc (.cells #[.int .i64 ft.1, .int .i64 ft.2] 31) := ⟨_, rfl⟩
 have b4 := bnw hw4
 have n4 := nnw hw4
 have b24 := b3.trans (b4.mono b3.size)
 have nx4 := (b24.block _ (by omega)).trans nx
 have nf4 := (b24.block _ (by omega)).trans nf
 have b04 := b2.trans (b24.mono b2.size)
 obtain ⟨x_0, x_1, x_2, x_3, x_4, xf⟩ := cl5 nx4
 obtain ⟨k_0, k_1, kf⟩ := cl2 n4
 have HW4 := hide hw4
 have H4 := hide (Ya b04 (Ya nx4 (Ya nf4 (Ya (h.later b04) (Ya (hB.same Qay b04.size (fun q _ hl => b04.block q hl)) (Ya hbn hR))))))
 by_cases e0 : ft.1 = 0
 ·
  have g0 : (ft.1 != 0) = false := by simp [e0]
  rw [if_neg (by simp [e0])] at hR
  have HR := hide hR
  clear b2 nx nf s2 h hR hB hbn b3 hw4 b4 n4 b24 nx4 nf4 b04 e0 HH
  go_upto_region 2 with fail
  rw [← Qa HW4]
  go_wp2_with fail
  clear x_0 x_1 x_2 x_3 x_4 xf k_0 k_1 kf
  go_loopw [20] (fun v wr => ∃ (j : Nat), v = .int .i64 (j : Int) ∧ j ≤ bn ∧ Hid (Below w4.heap.size w4 wr ∧ R = watsP p (x.body.drop j))) (fun v _ => bn - (intOf v).toNat)
  case atStart => exact ⟨0, rfl, Nat.zero_le _, hide ⟨Below.refl _ _, (Qa HR).symm⟩⟩
  obtain ⟨j, rfl, hj, HI⟩ := hrel
  obtain ⟨br, hRj⟩ := Qa HI
  obtain ⟨b04, nx4, nf4, h4, hB4, hbn, _⟩ := Qa H4
  by_cases hlt : j < bn
  ·
   obtain ⟨y, hyj⟩ : ∃ y, x.body[j]? = some y := ⟨x.body[j]'(by omega), List.getElem?_eq_getElem _⟩
   rw [Qlz p hyj] at hRj
   obtain ⟨gb, cap, cs, e1, hgl, hgS, hcl16, hPL, hce⟩ := (hB4.same Qay br.size (fun q _ hl => br.block q hl)).elem hyj
   simp only [Value.slice.injEq] at e1
   obtain ⟨rfl, -, rfl⟩ := e1
   have hone := Qhr hPL
   obtain ⟨pa, pn, pc, xa, xn, xc, ya, yn, yc, rfl, hPA, hPl, hPr⟩ := hPL
   have L1 := Qrb rfl hce
   have N1 := Qnl wr rfl hone
   obtain ⟨w5, hw5⟩ : ∃ w5, w5 = wr.alloc (.cells #[.int .i64 y.kind, str y.atom.rel, .slice pa pn pc, .int .i64 y.atom.at_, str y.op, .int .i64 y.l.kind, .int .i64 y.l.num, str y.l.txt, .slice xa xn xc, .int .i64 y.l.at_, .int .i64 y.r.kind, .int .i64 y.r.num, str y.r.txt, .slice ya yn yc, .int .i64 y.r.at_, .int .i64 y.at_] 128) := ⟨_, rfl⟩
   have b5 := bnw hw5
   have n5 := nnw hw5
   have N1' : (ltStore (.pointer (some ⟨wr.heap.size, 0, none⟩)) (.agg #[.int .i64 y.kind, str y.atom.rel, .slice pa pn pc, .int .i64 y.atom.at_, str y.op, .int .i64 y.l.kind, .int .i64 y.l.num, str y.l.txt, .slice xa xn xc, .int .i64 y.l.at_, .int .i64 y.r.kind, .int .i64 y.r.num, str y.r.txt, .slice ya yn yc, .int .i64 y.r.at_, .int .i64 y.at_])).run Try.prog (wr.alloc (.cells #[.int .i64 0, .string ⟨#[]⟩, .slice none 0 0, .int .i64 0, .string ⟨#[]⟩, .int .i64 0, .int .i64 0, .string ⟨#[]⟩, .slice none 0 0, .int .i64 0, .int .i64 0, .int .i64 0, .string ⟨#[]⟩, .slice none 0 0, .int .i64 0, .int .i64 0] 128)) = .ok () w5 := by rw [hw5]; exact N1
   have L1' : (ltLoad (.pointer (some ⟨gb, j * 16, none⟩))).run Try.prog wr = .ok (.agg #[.int .i64 y.kind, str y.atom.rel, .slice pa pn pc, .int .i64 y.atom.at_, str y.op, .int .i64 y.l.kind, .int .i64 y.l.num, str y.l.txt, .slice xa xn xc, .int .i64 y.l.at_, .int .i64 y.r.kind, .int .i64 y.r.num, str y.r.txt, .slice ya yn yc, .int .i64 y.r.at_, .int .i64 y.at_]) wr := L1
   obtain ⟨lb, hlb⟩ : ∃ lb, wr.heap.size = lb := ⟨_, rfl⟩
   rw [hlb] at n5
   have br5 := br.trans (b5.mono br.size)
   have b05 := b04.trans (br5.mono b04.size)
   obtain ⟨l_0, l_1, l_2, l_3, l_4, l_5, l_6, l_7, l_8, l_9, l_10, l_11, l_12, l_13, l_14, l_15, lf⟩ := cl16 n5
   have nf5 := (br5.block _ (Qab nf4)).trans nf4
   have h5 := h4.later br5
   have HLB := hide hlb
   by_cases k1 : y.kind ≠ 1 ∧ y.kind ≠ 2
   ·
    have g1 : (y.kind != 1) = true := by simpa using k1.1
    have g2 : (y.kind != 2) = true := by simpa using k1.2
    rw [if_pos k1] at hRj
    have HE := hide (Ya br5 hRj)
    clear br hRj b04 nx4 nf4 h4 hB4 hbn hyj hgl hgS hcl16 hce hone hPA hPl hPr L1 N1 hw5 b5 n5 hlb br5 b05 nf5 h5 k1 l_1 l_2 l_3 l_4 l_5 l_6 l_7 l_8 l_9 l_10 l_11 l_12 l_13 l_14 l_15
    go_upto_region 7 with fail
    rw [Qa HLB]
    go_wp2_with fail
    go_roundw
    case rel => exact ⟨j + 1, by simp, by omega, HE⟩
    case measure => simp [intOf]; omega
   rw [if_neg k1] at hRj
   have hk : y.kind = 1 ∨ y.kind = 2 := by omega
   have hcl := Qel h5 y.atom (hPA.same Qae b5.size (fun q _ hl => b5.block q hl))
   obtain ⟨fy, hfy⟩ : ∃ fy, watP p y.atom = fy := ⟨_, rfl⟩
   rw [hfy] at hcl hRj
   unfold ftV at hcl
   have HK := hide (Ya b05 (Ya nf5 (Ya br5 hRj)))
   clear br hRj b04 nx4 nf4 h4 hB4 hbn hyj hgl hgS hcl16 hce hone hPA hPl hPr L1 N1 hw5 b5 n5 hlb br5 b05 nf5 h5 k1 hfy
   rcases hk with ek | ek
   ·
    have g1 : (y.kind != 1) = false := by simp [ek]
    clear ek
    go_upto_region 7 with fail
    rw [Qa HLB]
    go_wp2_with fail
    refine hcl.mono ?_
    clear hcl L1' N1' l_0 l_1 l_2 l_3 l_4 l_5 l_6 l_7 l_8 l_9 l_10 l_11 l_12 l_13 l_14 l_15 lf
    rintro en w6 ⟨rfl, b6⟩
    obtain ⟨b05, nf5, br5, hRj⟩ := Qa HK
    obtain ⟨w7, hw7⟩ : ∃ w7, w7 = w6.alloc (.cells #[.int .i64 fy.1, .int .i64 fy.2] 31) := ⟨_, rfl⟩
    have b7 := bnw hw7
    have n7 := nnw hw7
    have b57 := b6.trans (b7.mono b6.size)
    have nf7 := (b57.block _ (Qab nf5)).trans nf5
    have b07 := b05.trans (b57.mono b05.size)
    have br7 := br5.trans (b57.mono br5.size)
    obtain ⟨k_0, k_1, kf⟩ := cl2 n7
    have HW7 := hide hw7
    by_cases e1 : fy.1 = 0
    ·
     have g4 : (fy.1 != 0) = false := by simp [e1]
     rw [if_neg (by simp [e1])] at hRj
     have HE := hide (Ya br7 hRj)
     clear b05 nf5 br5 hRj b6 hw7 b7 n7 b57 nf7 b07 br7 e1
     go_upto_region 9 with fail
     rw [← Qa HW7]
     go_wp2_with fail
     go_roundw
     case rel => exact ⟨j + 1, by simp, by omega, HE⟩
     case measure => simp [intOf]; omega
    have g4 : (fy.1 != 0) = true := by simp [e1]
    rw [if_pos e1] at hRj
    have HRJ := hide hRj
    obtain ⟨W7, hW7, sc⟩ := sc2 nf7 (.int .i64 fy.1) (.int .i64 fy.2)
    obtain ⟨y_0, y_1, yf⟩ := cl2 nf7
    have HG := hide (Ya (sc.below b07 (by omega)) sc.box)
    have HWW := hide hW7
    clear b05 nf5 br5 hRj b6 hw7 b7 n7 b57 nf7 b07 br7 e1 HK HI hW7 sc
    go_upto_region 9 with fail
    rw [← Qa HW7]
    go_wp2_with fail
    rw [← Qa HWW]
    obtain ⟨z_0, z_1, zf⟩ := cl2 (Qa HG).2
    refine bodyPost_ret (v := ftV (fy.1, fy.2)) (by simp [results, Try.results123, go_sem, z_0, z_1, ftV]) rfl ?_
    exact ⟨by rw [Qa HRJ], (Qa HG).1⟩
   have g1 : (y.kind != 1) = true := by simp [ek]
   have g2 : (y.kind != 2) = false := by simp [ek]
   clear ek
   go_upto_region 7 with fail
   rw [Qa HLB]
   go_wp2_with fail
   refine hcl.mono ?_
   clear hcl L1' N1' l_0 l_1 l_2 l_3 l_4 l_5 l_6 l_7 l_8 l_9 l_10 l_11 l_12 l_13 l_14 l_15 lf
   rintro en w6 ⟨rfl, b6⟩
   obtain ⟨b05, nf5, br5, hRj⟩ := Qa HK
   obtain ⟨w7, hw7⟩ : ∃ w7, w7 = w6.alloc (.cells #[.int .i64 fy.1, .int .i64 fy.2] 31) := ⟨_, rfl⟩
   have b7 := bnw hw7
   have n7 := nnw hw7
   have b57 := b6.trans (b7.mono b6.size)
   have nf7 := (b57.block _ (Qab nf5)).trans nf5
   have b07 := b05.trans (b57.mono b05.size)
   have br7 := br5.trans (b57.mono br5.size)
   obtain ⟨k_0, k_1, kf⟩ := cl2 n7
   have HW7 := hide hw7
   by_cases e1 : fy.1 = 0
   ·
    have g4 : (fy.1 != 0) = false := by simp [e1]
    rw [if_neg (by simp [e1])] at hRj
    have HE := hide (Ya br7 hRj)
    clear b05 nf5 br5 hRj b6 hw7 b7 n7 b57 nf7 b07 br7 e1
    go_upto_region 9 with fail
    rw [← Qa HW7]
    go_wp2_with fail
    go_roundw
    case rel => exact ⟨j + 1, by simp, by omega, HE⟩
    case measure => simp [intOf]; omega
   have g4 : (fy.1 != 0) = true := by simp [e1]
   rw [if_pos e1] at hRj
   have HRJ := hide hRj
   obtain ⟨W7, hW7, sc⟩ := sc2 nf7 (.int .i64 fy.1) (.int .i64 fy.2)
   obtain ⟨y_0, y_1, yf⟩ := cl2 nf7
   have HG := hide (Ya (sc.below b07 (by omega)) sc.box)
   have HWW := hide hW7
   clear b05 nf5 br5 hRj b6 hw7 b7 n7 b57 nf7 b07 br7 e1 HK HI hW7 sc
   go_upto_region 9 with fail
   rw [← Qa HW7]
   go_wp2_with fail
   rw [← Qa HWW]
   obtain ⟨z_0, z_1, zf⟩ := cl2 (Qa HG).2
   refine bodyPost_ret (v := ftV (fy.1, fy.2)) (by simp [results, Try.results123, go_sem, z_0, z_1, ftV]) rfl ?_
   exact ⟨by rw [Qa HRJ], (Qa HG).1⟩
  have hdn : x.body.drop j = [] := List.drop_eq_nil_of_le (by omega)
  rw [hdn] at hRj
  have hR0 : R = (0, 0) := hRj
  subst hR0
  have nfr := (br.block _ (Qab nf4)).trans nf4
  have b0r := b04.trans (br.mono b04.size)
  obtain ⟨W7, hW7, sc⟩ := sc2 nfr (.int .i64 0) (.int .i64 0)
  obtain ⟨y_0, y_1, yf⟩ := cl2 nfr
  have HG := hide (Ya (sc.below b0r (by omega)) sc.box)
  have HWW := hide hW7
  clear br hRj hdn b04 nx4 nf4 h4 hB4 hbn nfr b0r HI hW7 sc
  go_wp2_with fail
  rw [← Qa HWW]
  obtain ⟨z_0, z_1, zf⟩ := cl2 (Qa HG).2
  refine bodyPost_ret (v := ftV (0, 0)) (by simp [results, Try.results123, go_sem, z_0, z_1, ftV]) rfl ?_
  exact ⟨rfl, (Qa HG).1⟩
 have g0 : (ft.1 != 0) = true := by simp [e0]
 rw [if_pos e0] at hR
 subst hR
 obtain ⟨W7, hW7, sc⟩ := sc2 nf4 (.int .i64 ft.1) (.int .i64 ft.2)
 obtain ⟨y_0, y_1, yf⟩ := cl2 nf4
 have HG := hide (Ya (sc.below b04 (by omega)) sc.box)
 have HWW := hide hW7
 clear b2 nx nf s2 h hB hbn b3 hw4 b4 n4 b24 nx4 nf4 b04 e0 HH H4 hW7 sc
 go_upto_region 2 with fail
 rw [← Qa HW4]
 go_wp2_with fail
 rw [← Qa HWW]
 obtain ⟨z_0, z_1, zf⟩ := cl2 (Qa HG).2
 refine bodyPost_ret (v := ftV (ft.1, ft.2)) (by simp [results, Try.results123, go_sem, z_0, z_1, ftV]) rfl ?_
 exact ⟨rfl, (Qa HG).1⟩
end
end
section
open Go.RowKit Go.Maps
section
variable {n0 n1 : Nat} {p : Pg} {c : CatP} {wb mb : Nat} {sl : Value} {vs : List Fld} {w : World}
attribute [local go_sem ↓] Qbj Qbv
theorem Qps (h : Wk n0 n1 p c wb mb sl vs w) (y : Lt) (hk : y.kind = 1) {pa xa ya : Option Addr} {pn pc xn xc yn yc : Nat} {R : Except Flt (List Fld)}
  (hC : ∀ W : World, Below w.heap.size w W → Calls Try.prog 125 #[.pointer (some ⟨wb, 0, none⟩), .agg #[str y.atom.rel, .slice pa pn pc, .int .i64 y.atom.at_], .func (.func 131) #[.pointer (some ⟨wb, 0, none⟩)] #[]] W fun en w' => LkA n0 n1 p c wb mb sl W R en w') :
  Calls Try.prog 124 #[.pointer (some ⟨wb, 0, none⟩), .agg #[.int .i64 y.kind, str y.atom.rel, .slice pa pn pc, .int .i64 y.atom.at_, str y.op, .int .i64 y.l.kind, .int .i64 y.l.num, str y.l.txt, .slice xa xn xc, .int .i64 y.l.at_, .int .i64 y.r.kind, .int .i64 y.r.num, str y.r.txt, .slice ya yn yc, .int .i64 y.r.at_, .int .i64 y.at_]] w fun en w' => LkA n0 n1 p c wb mb sl w R en w' := by
 obtain ⟨w2, hw2, b2, nx, nf, s2⟩ := Qbo w #[.int .i64 y.kind, str y.atom.rel, .slice pa pn pc, .int .i64 y.atom.at_, str y.op, .int .i64 y.l.kind, .int .i64 y.l.num, str y.l.txt, .slice xa xn xc, .int .i64 y.l.at_, .int .i64 y.r.kind, .int .i64 y.r.num, str y.r.txt, .slice ya yn yc, .int .i64 y.r.at_, .int .i64 y.at_] 128
 have hcl := hC w2 b2
 obtain ⟨l_0, l_1, l_2, l_3, l_4, l_5, l_6, l_7, l_8, l_9, l_10, l_11, l_12, l_13, l_14, l_15, lf⟩ := cl16 nx
 have g1 : (y.kind == 1) = true := by rw [hk]; rfl
 have hn1 := h.n1le
 have HW := hide hw2
 have HH := hide (Ya b2 (Ya nf (Ya s2 (h.later b2))))
 clear hw2 b2 nx nf s2 h hk hC l_4 l_5 l_6 l_7 l_8 l_9 l_10 l_11 l_12 l_13 l_14 l_15
 go_enter Try.func124, Try.ntmps124
 go_upto_region 1 with fail
 rw [← Qa HW]
 go_wp2_with fail
 refine hcl.mono ?_
 clear hcl l_0 l_1 l_2 l_3 lf
 rintro en w3 hlk
 obtain ⟨sl3, vs3, ft, rfl, h3, k3, hR4⟩ := hlk.ft
 clear hlk
 obtain ⟨b2, nf, s2, h2⟩ := Qa HH
 have nf3 := k3.keep nf (h2.offT nf (by decide) (by decide))
 obtain ⟨W7, hW7, sc⟩ := sc2 nf3 (.int .i64 ft.1) (.int .i64 ft.2)
 obtain ⟨y_0, y_1, yf⟩ := cl2 nf3
 have HE := hide (Ya (h3.sc sc (by omega) (h3.offT nf3 (by decide) (by decide))) (Ya (((Kw.of_below b2).trans k3).sc sc (by omega)) (Ya sc.box hR4)))
 have HWW := hide hW7
 clear b2 nf s2 h2 h3 k3 hR4 nf3 hW7 sc HH
 unfold ftV
 go_wp2_with fail
 rw [← Qa HWW]
 obtain ⟨e1, e2, e3, e4⟩ := Qa HE
 obtain ⟨z_0, z_1, zf⟩ := cl2 e3
 refine bodyPost_ret (v := ftV ft) (by simp [results, Try.results124, go_sem, z_0, z_1, ftV]) rfl ?_
 exact LkA.of e1 e2 e4
end
end
section
open Go.RowKit Go.Maps
theorem Qdg (p : Pg) : ∀ (ls ms : List Lt) (vs : List Fld), litsP p (ls ++ ms) vs = match litsP p ls vs with | .error e => .error e | .ok vs' => litsP p ms vs'
 | [], ms, vs => rfl
 | l :: ls, ms, vs => by
  rw [List.cons_append, litsP, litsP]
  cases litP2 p l vs with
  | error e => rfl
  | ok v => simp only; exact Qdg p ls ms v
theorem Qlh (p : Pg) {ls : List Lt} {j : Nat} {y : Lt} (h : ls[j]? = some y) {vs v' : List Fld} {vs0 : List Fld} (h1 : litsP p (ls.take j) vs0 = .ok vs) (h2 : litP2 p y vs = .ok v') : litsP p (ls.take (j + 1)) vs0 = .ok v' := by
 rw [List.take_add_one, h, Qdg, h1]
 simp [litsP, h2]
theorem Qnc (p : Pg) {ls : List Lt} {j : Nat} {y : Lt} (h : ls[j]? = some y) {vs : List Fld} {e : Flt} {vs0 : List Fld} (h1 : litsP p (ls.take j) vs0 = .ok vs) (h2 : litP2 p y vs = .error e) : litsP p ls vs0 = .error e := by
 have hl := (List.getElem?_eq_some_iff.1 h).1
 rw [← List.take_append_drop j ls, Qdg, h1, List.drop_eq_getElem_cons hl, (List.getElem?_eq_some_iff.1 h).2]
 simp [litsP, h2]
section
variable {n0 n1 : Nat} {p : Pg} {c : CatP} {wb mb : Nat} {sl : Value} {w : World}
attribute [local go_sem ↓] Qbj Qbv
theorem Qmh (h : Wk n0 n1 p c wb mb sl [] w) (x : Cls) {aa ba : Option Addr} {an ac bn bc : Nat} (hA : LsAt PE 5 (fun b => b < n0) w (.slice aa an ac) x.head.args) (hB : LsAt PLt 16 (fun b => b < n0) w (.slice ba bn bc) x.body)
  (hlit : ∀ (j : Nat) (y : Lt) (vs : List Fld), x.body[j]? = some y → litsP p (x.body.take j) [] = .ok vs → ∀ (W : World) (sl' : Value) (pa xa ya : Option Addr) (pn pc xn xc yn yc : Nat), Wk n0 n1 p c wb mb sl' vs W → LsAt PE 5 (fun b => b < n0) W (.slice pa pn pc) y.atom.args → Calls Try.prog 124 #[.pointer (some ⟨wb, 0, none⟩), .agg #[.int .i64 y.kind, str y.atom.rel, .slice pa pn pc, .int .i64 y.atom.at_, str y.op, .int .i64 y.l.kind, .int .i64 y.l.num, str y.l.txt, .slice xa xn xc, .int .i64 y.l.at_, .int .i64 y.r.kind, .int .i64 y.r.num, str y.r.txt, .slice ya yn yc, .int .i64 y.r.at_, .int .i64 y.at_]] W fun en w' => LkA n0 n1 p c wb mb sl' W (litP2 p y vs) en w')
  (hhead : ∀ (vs : List Fld), litsP p x.body [] = .ok vs → ∀ (W : World) (sl' : Value), Wk n0 n1 p c wb mb sl' vs W → LsAt PE 5 (fun b => b < n0) W (.slice aa an ac) x.head.args → Calls Try.prog 125 #[.pointer (some ⟨wb, 0, none⟩), .agg #[str x.head.rel, .slice aa an ac, .int .i64 x.head.at_], .func (.func 126) #[.pointer (some ⟨wb, 0, none⟩)] #[]] W fun en w' => LkA n0 n1 p c wb mb sl' W (match fitsP p vs x.head.args (colsP p x.head) with | .error e => .error e | .ok _ => .ok vs) en w') :
  Calls Try.prog 109 #[.pointer (some ⟨wb, 0, none⟩), .agg #[str x.head.rel, .slice aa an ac, .int .i64 x.head.at_, .slice ba bn bc, .int .i64 x.at_]] w fun en w' => LkA n0 n1 p c wb mb sl w (infP p x) en w' := by
 obtain ⟨w2, hw2, b2, nx, nf, s2⟩ := Qbo w #[str x.head.rel, .slice aa an ac, .int .i64 x.head.at_, .slice ba bn bc, .int .i64 x.at_] 78
 have hcl := Qgn (h.later b2) x (hA.same Qae b2.size (fun q _ hl => b2.block q hl)) (hB.same Qay b2.size (fun q _ hl => b2.block q hl))
 obtain ⟨x_0, x_1, x_2, x_3, x_4, xf⟩ := cl5 nx
 obtain ⟨R, hR⟩ : ∃ R, infP p x = R := ⟨_, rfl⟩
 rw [hR]
 obtain ⟨fw, hfw⟩ : ∃ fw, (if (watP p x.head).1 ≠ 0 then watP p x.head else watsP p x.body) = fw := ⟨_, rfl⟩
 rw [hfw] at hcl
 unfold ftV at hcl
 have hbn : x.body.length = bn := by obtain ⟨_, _, e⟩ := hB.sl; cases e; rfl
 have hbc := hB.cap rfl
 have hn1 := h.n1le
 have HW := hide hw2
 have HH := hide (Ya b2 (Ya nx (Ya nf (Ya s2 (Ya h (Ya hR (Ya hA (Ya hB (Ya hbn hfw)))))))))
 have HF := hide (Ya hlit hhead)
 clear hw2 b2 nx nf s2 h hA hB hR hfw hbn hlit hhead
 go_enter Try.func109, Try.ntmps109
 go_upto_region 1 with fail
 rw [← Qa HW]
 go_wp2_with fail
 refine hcl.mono ?_
 clear hcl x_0 x_1 x_2 x_3 x_4 xf
 rintro en w3 ⟨rfl, b3⟩
 obtain ⟨b2, nx, nf, s2, h, hR, hA, hB, hbn, hfw⟩ := Qa HH
 obtain ⟨w4, hw4⟩ : ∃ w4, w4 = w3.alloc (.cells #[.int .i64 fw.1, .int .i64 fw.2] 31) := ⟨_, rfl⟩
 have b4 := bnw hw4
 have n4 := nnw hw4
 have b24 := b3.trans (b4.mono b3.size)
 have nx4 := (b24.block _ (by omega)).trans nx
 have nf4 := (b24.block _ (by omega)).trans nf
 have b04 := b2.trans (b24.mono b2.size)
 obtain ⟨x_0, x_1, x_2, x_3, x_4, xf⟩ := cl5 nx4
 obtain ⟨k_0, k_1, kf⟩ := cl2 n4
 have h4 := h.later b04
 have HW4 := hide hw4
 by_cases e0 : fw.1 = 0
 ·
  have g0 : (fw.1 != 0) = false := by simp [e0]
  have hw0 : (watP p x.head).1 = 0 ∧ (watsP p x.body).1 = 0 := by
   by_cases e : (watP p x.head).1 = 0
   · rw [if_neg (by simp [e])] at hfw; rw [hfw]; exact ⟨e, e0⟩
   · rw [if_pos e] at hfw; rw [hfw] at e; exact absurd e0 e
  have hR2 : R = match litsP p x.body [] with | .error e => .error e | .ok vs => match fitsP p vs x.head.args (colsP p x.head) with | .error e => .error e | .ok _ => .ok vs := by
   rw [← hR]; unfold infP; rw [if_neg (by simp [hw0.1]), if_neg (by simp [hw0.2])]; rfl
  have H4 := hide (Ya b04 (Ya nx4 (Ya nf4 (Ya h4 (Ya (hA.same Qae b04.size (fun q _ hl => b04.block q hl)) (Ya (hB.same Qay b04.size (fun q _ hl => b04.block q hl)) (Ya hbn (Ya hR2 h))))))))
  clear b2 nx nf s2 h hR hA hB hbn b3 hw4 b4 n4 b24 nx4 nf4 b04 e0 HH hfw hw0 hR2 h4
  go_upto_region 2 with fail
  rw [← Qa HW4]
  go_wp2_with fail
  clear x_0 x_1 x_2 x_3 x_4 xf k_0 k_1 kf
  go_loopw [19] (fun v wr => ∃ (j : Nat), v = .int .i64 (j : Int) ∧ j ≤ bn ∧ Hid (∃ sl' vs, Wk n0 n1 p c wb mb sl' vs wr ∧ Kw wb mb sl sl' w4 wr ∧ litsP p (x.body.take j) [] = .ok vs)) (fun v _ => bn - (intOf v).toNat)
  case atStart => exact ⟨0, rfl, Nat.zero_le _, hide ⟨sl, [], (Qa H4).2.2.2.1, Kw.of_below (Below.refl _ _), rfl⟩⟩
  obtain ⟨j, rfl, hj, HI⟩ := hrel
  obtain ⟨sl', vs, hWr, hKr, hlj⟩ := Qa HI
  obtain ⟨b04, nx4, nf4, h4, hA4, hB4, hbn, hR2, h⟩ := Qa H4
  have low : ∀ b, b < n0 → b < w4.heap.size → wr.heap[b]? = w4.heap[b]? := fun b hb hl => hKr.block b hl (h4.low hb).1 (h4.low hb).2.1 (h4.low hb).2.2
  have nxr := hKr.keep nx4 (h4.offT nx4 (by decide) (by decide))
  have nfr := hKr.keep nf4 (h4.offT nf4 (by decide) (by decide))
  have hAr := hA4.same Qae hKr.size (fun q hq hl => low q hq hl)
  have hBr := hB4.same Qay hKr.size (fun q hq hl => low q hq hl)
  have k0r := (Kw.of_below (wb := wb) (mb := mb) (sl := sl) b04).trans hKr
  have hsr := k0r.size
  by_cases hlt : j < bn
  ·
   obtain ⟨y, hyj⟩ : ∃ y, x.body[j]? = some y := ⟨x.body[j]'(by omega), List.getElem?_eq_getElem _⟩
   obtain ⟨gb, cap, cs, e1, hgl, hgS, hcl16, hPL, hce⟩ := hBr.elem hyj
   simp only [Value.slice.injEq] at e1
   obtain ⟨rfl, -, rfl⟩ := e1
   have hone := Qhr hPL
   obtain ⟨pa, pn, pc, xa, xn, xc, ya, yn, yc, rfl, hPA, hPl, hPr⟩ := hPL
   have L1 := Qrb rfl hce
   have N1 := Qnl wr rfl hone
   obtain ⟨w5, hw5⟩ : ∃ w5, w5 = wr.alloc (.cells #[.int .i64 y.kind, str y.atom.rel, .slice pa pn pc, .int .i64 y.atom.at_, str y.op, .int .i64 y.l.kind, .int .i64 y.l.num, str y.l.txt, .slice xa xn xc, .int .i64 y.l.at_, .int .i64 y.r.kind, .int .i64 y.r.num, str y.r.txt, .slice ya yn yc, .int .i64 y.r.at_, .int .i64 y.at_] 128) := ⟨_, rfl⟩
   have b5 := bnw hw5
   have n5 := nnw hw5
   have N1' : (ltStore (.pointer (some ⟨wr.heap.size, 0, none⟩)) (.agg #[.int .i64 y.kind, str y.atom.rel, .slice pa pn pc, .int .i64 y.atom.at_, str y.op, .int .i64 y.l.kind, .int .i64 y.l.num, str y.l.txt, .slice xa xn xc, .int .i64 y.l.at_, .int .i64 y.r.kind, .int .i64 y.r.num, str y.r.txt, .slice ya yn yc, .int .i64 y.r.at_, .int .i64 y.at_])).run Try.prog (wr.alloc (.cells #[.int .i64 0, .string ⟨#[]⟩, .slice none 0 0, .int .i64 0, .string ⟨#[]⟩, .int .i64 0, .int .i64 0, .string ⟨#[]⟩, .slice none 0 0, .int .i64 0, .int .i64 0, .int .i64 0, .string ⟨#[]⟩, .slice none 0 0, .int .i64 0, .int .i64 0] 128)) = .ok () w5 := by rw [hw5]; exact N1
   have L1' : (ltLoad (.pointer (some ⟨gb, j * 16, none⟩))).run Try.prog wr = .ok (.agg #[.int .i64 y.kind, str y.atom.rel, .slice pa pn pc, .int .i64 y.atom.at_, str y.op, .int .i64 y.l.kind, .int .i64 y.l.num, str y.l.txt, .slice xa xn xc, .int .i64 y.l.at_, .int .i64 y.r.kind, .int .i64 y.r.num, str y.r.txt, .slice ya yn yc, .int .i64 y.r.at_, .int .i64 y.at_]) wr := L1
   have L5 : (ltLoad (.pointer (some ⟨wr.heap.size, 0, none⟩))).run Try.prog w5 = .ok (.agg #[.int .i64 y.kind, str y.atom.rel, .slice pa pn pc, .int .i64 y.atom.at_, str y.op, .int .i64 y.l.kind, .int .i64 y.l.num, str y.l.txt, .slice xa xn xc, .int .i64 y.l.at_, .int .i64 y.r.kind, .int .i64 y.r.num, str y.r.txt, .slice ya yn yc, .int .i64 y.r.at_, .int .i64 y.at_]) w5 := Qnk n5
   have h5 := hWr.later b5
   have hcl := (Qa HF).1 j y vs hyj hlj w5 sl' pa xa ya pn pc xn xc yn yc h5 (hPA.same Qae b5.size (fun q _ hl => b5.block q hl))
   have nf5 := (b5.block _ (Qab nfr)).trans nfr
   obtain ⟨lb, hlb⟩ : ∃ lb, wr.heap.size = lb := ⟨_, rfl⟩
   rw [hlb] at L5
   have HLB := hide hlb
   have HK := hide (Ya h5 (Ya nf5 (Ya (k0r.trans (Kw.of_below b5)) (Ya (hKr.trans (Kw.of_below b5)) (Ya hyj (Ya hlj (Ya hR2 hsr)))))))
   clear hWr hKr hlj b04 nx4 nf4 h4 hA4 hB4 hbn hR2 h low nxr nfr hAr hBr k0r hsr hyj hgl hgS hcl16 hce hone hPA hPl hPr L1 N1 hw5 b5 n5 h5 nf5 hlb
   go_upto_region 7 with fail
   rw [Qa HLB]
   go_wp2_with fail
   refine hcl.mono ?_
   clear hcl L1' N1' L5
   rintro en w6 hlk
   obtain ⟨sl6, vs6, ft, rfl, h6, k6, hR6⟩ := hlk.ft
   clear hlk
   obtain ⟨h5, nf5, k05, kr5, hyj, hlj, hR2, hsr⟩ := Qa HK
   obtain ⟨w7, hw7⟩ : ∃ w7, w7 = w6.alloc (.cells #[.int .i64 ft.1, .int .i64 ft.2] 31) := ⟨_, rfl⟩
   have b7 := bnw hw7
   have n7 := nnw hw7
   have nf7 := (b7.block _ (Qab (k6.keep nf5 (h5.offT nf5 (by decide) (by decide))))).trans (k6.keep nf5 (h5.offT nf5 (by decide) (by decide)))
   have h7 := h6.later b7
   have k07 := (k05.trans k6).trans (Kw.of_below b7)
   have kr7 := (kr5.trans k6).trans (Kw.of_below b7)
   obtain ⟨k_0, k_1, kf⟩ := cl2 n7
   have HW7 := hide hw7
   unfold ftV
   by_cases e1 : ft.1 = 0
   ·
    have g4 : (ft.1 != 0) = false := by simp [e1]
    have hq : litP2 p y vs = .ok vs6 := by
     cases hq : litP2 p y vs with
     | ok v => rw [hq] at hR6; rw [hR6.2]
     | error e => rw [hq] at hR6; exact absurd e1 hR6.2
    have HG := hide (show ∃ sl' vs, Wk n0 n1 p c wb mb sl' vs w7 ∧ Kw wb mb sl sl' w4 w7 ∧ litsP p (x.body.take (j + 1)) [] = .ok vs from ⟨sl6, vs6, h7, kr7, Qlh p hyj hlj hq⟩)
    clear h6 k6 hR6 h5 nf5 k05 kr5 hyj hlj hR2 hsr hw7 b7 n7 nf7 h7 k07 kr7 e1 hq
    go_upto_region 8 with fail
    rw [← Qa HW7]
    go_wp2_with fail
    go_roundw
    case rel => exact ⟨j + 1, by simp, by omega, HG⟩
    case measure => simp [intOf]; omega
   have g4 : (ft.1 != 0) = true := by simp [e1]
   have hq : litP2 p y vs = .error ft := by
    cases hq : litP2 p y vs with
    | ok v => rw [hq] at hR6; exact absurd (by rw [hR6.1]) e1
    | error e => rw [hq] at hR6; rw [hR6.1]
   have hRe : FtR R ft vs6 := by rw [hR2, Qnc p hyj hlj hq]; exact ⟨rfl, e1⟩
   obtain ⟨W7, hW7, sc⟩ := sc2 nf7 (.int .i64 ft.1) (.int .i64 ft.2)
   obtain ⟨y_0, y_1, yf⟩ := cl2 nf7
   have HE := hide (Ya (Wk.sc h7 sc (by omega) (Wk.offT h7 nf7 (by decide) (by decide))) (Ya (Kw.sc k07 sc (by omega)) (Ya sc.box hRe)))
   have HWW := hide hW7
   clear h6 k6 hR6 h5 nf5 k05 kr5 hyj hlj hR2 hsr hw7 b7 n7 nf7 h7 k07 kr7 e1 hq hRe hW7 sc
   go_upto_region 8 with fail
   rw [← Qa HW7]
   go_wp2_with fail
   rw [← Qa HWW]
   obtain ⟨e1, e2, e3, e4⟩ := Qa HE
   obtain ⟨z_0, z_1, zf⟩ := cl2 e3
   refine bodyPost_ret (v := ftV ft) (by simp [results, Try.results109, go_sem, z_0, z_1, ftV]) rfl ?_
   exact LkA.of e1 e2 e4
  have hjn : j = bn := by omega
  rw [hjn, ← hbn, List.take_length] at hlj
  rw [hlj] at hR2
  have hcl := (Qa HF).2 vs hlj wr sl' hWr hAr
  obtain ⟨x_0, x_1, x_2, x_3, x_4, xf⟩ := cl5 nxr
  have hR3 : R = (match fitsP p vs x.head.args (colsP p x.head) with | .error e => .error e | .ok _ => .ok vs) := hR2
  rw [← hR3] at hcl
  have HK := hide (Ya hWr (Ya nfr (Ya k0r hsr)))
  clear hWr hKr hlj b04 nx4 nf4 h4 hA4 hB4 hbn hR2 hR3 h low nxr nfr hAr hBr k0r hsr hjn
  go_wp2_with fail
  refine hcl.mono ?_
  clear hcl x_0 x_1 x_2 x_3 x_4 xf
  rintro en w9 hlk
  obtain ⟨sl9, vs9, ft, rfl, h9, k9, hR9⟩ := hlk.ft
  clear hlk
  obtain ⟨hWr, nfr, k0r, hsr⟩ := Qa HK
  have nf9 := k9.keep nfr (hWr.offT nfr (by decide) (by decide))
  have k09 := k0r.trans k9
  unfold ftV
  obtain ⟨W7, hW7, sc⟩ := sc2 nf9 (.int .i64 ft.1) (.int .i64 ft.2)
  obtain ⟨y_0, y_1, yf⟩ := cl2 nf9
  have HE := hide (Ya (Wk.sc h9 sc (by omega) (Wk.offT h9 nf9 (by decide) (by decide))) (Ya (Kw.sc k09 sc (by omega)) (Ya sc.box hR9)))
  have HWW := hide hW7
  clear h9 k9 hR9 hWr nfr k0r hsr nf9 k09 hW7 sc
  go_wp2_with fail
  rw [← Qa HWW]
  obtain ⟨e1, e2, e3, e4⟩ := Qa HE
  obtain ⟨z_0, z_1, zf⟩ := cl2 e3
  refine bodyPost_ret (v := ftV ft) (by simp [results, Try.results109, go_sem, z_0, z_1, ftV]) rfl ?_
  exact LkA.of e1 e2 e4
 have g0 : (fw.1 != 0) = true := by simp [e0]
 obtain ⟨ft, hft⟩ : ∃ ft, fw = ft := ⟨_, rfl⟩
 subst hft
 have hRe : FtR R fw [] := by
  rw [← hR]
  unfold infP
  by_cases e : (watP p x.head).1 = 0
  ·
   rw [if_neg (by simp [e])] at hfw ⊢
   rw [hfw, if_pos e0]; exact ⟨rfl, e0⟩
  rw [if_pos e] at hfw ⊢
  rw [hfw]; exact ⟨rfl, e0⟩
 have k04 := Kw.of_below (wb := wb) (mb := mb) (sl := sl) b04
 obtain ⟨W7, hW7, sc⟩ := sc2 nf4 (.int .i64 fw.1) (.int .i64 fw.2)
 obtain ⟨y_0, y_1, yf⟩ := cl2 nf4
 have HE := hide (Ya (Wk.sc h4 sc (by omega) (Wk.offT h4 nf4 (by decide) (by decide))) (Ya (Kw.sc k04 sc (by omega)) (Ya sc.box hRe)))
 have HWW := hide hW7
 clear b2 nx nf s2 h hR hA hB hbn b3 hw4 b4 n4 b24 nx4 nf4 b04 e0 HH hfw hRe k04 h4 hW7 sc
 go_upto_region 2 with fail
 rw [← Qa HW4]
 go_wp2_with fail
 rw [← Qa HWW]
 obtain ⟨e1, e2, e3, e4⟩ := Qa HE
 obtain ⟨z_0, z_1, zf⟩ := cl2 e3
 refine bodyPost_ret (v := ftV fw) (by simp [results, Try.results109, go_sem, z_0, z_1, ftV]) rfl ?_
 exact LkA.of e1 e2 e4
end
end
section
open Go.RowKit Go.Maps
def InfA (R : Except Flt (List Fld)) (w : World) (en : Ending) (w' : World) : Prop := Below w.heap.size w w' ∧ match R with
 | .ok vs => ∃ sl, en = .returned (.tuple #[sl, ftV (0, 0)]) ∧ w'.ownsRow w.heap.size 103 2 sl vs.length (fdCells vs)
 | .error f => en = .returned (.tuple #[.slice none 0 0, ftV f]) ∧ f.1 ≠ 0
section
variable {n0 : Nat} {p : Pg} {c : CatP} {w : World}
theorem Qpp (h : Cs n0 p c w) (x : Cls) {aa ba : Option Addr} {an ac bn bc : Nat} (hA : LsAt PE 5 (fun b => b < n0) w (.slice aa an ac) x.head.args) (hB : LsAt PLt 16 (fun b => b < n0) w (.slice ba bn bc) x.body)
  (hcl : ∀ (n1 wb mb : Nat) (W : World), Wk n0 n1 p c wb mb (.slice none 0 0) [] W → LsAt PE 5 (fun b => b < n0) W (.slice aa an ac) x.head.args → LsAt PLt 16 (fun b => b < n0) W (.slice ba bn bc) x.body → Calls Try.prog 109 #[.pointer (some ⟨wb, 0, none⟩), .agg #[str x.head.rel, .slice aa an ac, .int .i64 x.head.at_, .slice ba bn bc, .int .i64 x.at_]] W fun en w' => LkA n0 n1 p c wb mb (.slice none 0 0) W (infP p x) en w') :
  Calls Try.prog 80 #[.pointer (some ⟨c.cb, 0, none⟩), .agg #[str x.head.rel, .slice aa an ac, .int .i64 x.head.at_, .slice ba bn bc, .int .i64 x.at_]] w fun en w' => InfA (infP p x) w en w' := by
 obtain ⟨w2, hw2, b2, nx, nf, s2⟩ := Qbo w #[str x.head.rel, .slice aa an ac, .int .i64 x.head.at_, .slice ba bn bc, .int .i64 x.at_] 78
 obtain ⟨w3, hw3⟩ : ∃ w3, w3 = w2.alloc (.map #[] 0) := ⟨_, rfl⟩
 obtain ⟨w4, hw4⟩ : ∃ w4, w4 = w3.alloc (.cells #[.func (.func 37) #[.pointer (some ⟨c.cb, 0, none⟩)] #[], .func (.func 39) #[.pointer (some ⟨c.cb, 0, none⟩)] #[], .func (.func 107) #[.pointer (some ⟨c.cb, 0, none⟩)] #[], .func (.func 108) #[.pointer (some ⟨c.cb, 0, none⟩)] #[], .slice none 0 0, .map (some (w.heap.size + 2))] 183) := ⟨_, rfl⟩
 have b3 := bnw hw3
 have b4 := bnw hw4
 have s3 : w3.heap.size = w.heap.size + 3 := by rw [hw3]; simp; omega
 have m3 : MpS w3 (w.heap.size + 2) [] := by rw [hw3, ← s2]; exact MpS.new w2
 have n4 := nnw hw4
 rw [s3] at n4
 have b24 := b3.trans (b4.mono b3.size)
 have b04 := b2.trans (b24.mono b2.size)
 have s4 : w4.heap.size = w.heap.size + 4 := by rw [hw4]; simp; omega
 have hl0 := h.l0
 have lt1 := Qab h.box
 have lt2 := h.row.lt
 have lt3 := h.mt.lt
 have lt4 := h.md.lt
 have lt5 := h.mc.lt
 have hW : Wk n0 w.heap.size p c (w.heap.size + 3) (w.heap.size + 2) (.slice none 0 0) [] w4 :=
  ⟨Ct.later h b04, n4, World.ownsRow_nil _ _ _ _, ⟨[], m3.keep (b4.block _ (by omega)), fun t => rfl⟩, by omega, by simp⟩
 have hc2 := hcl w.heap.size (w.heap.size + 3) (w.heap.size + 2) w4 hW (hA.same Qae b04.size (fun q _ hl => b04.block q hl)) (hB.same Qay b04.size (fun q _ hl => b04.block q hl))
 have nx4 := (b24.block _ (by omega)).trans nx
 have nf4 := (b24.block _ (by omega)).trans nf
 obtain ⟨x_0, x_1, x_2, x_3, x_4, xf⟩ := cl5 nx4
 obtain ⟨R, hR⟩ : ∃ R, infP p x = R := ⟨_, rfl⟩
 rw [hR] at hc2 ⊢
 have hmk : (Instr.makeMap 61 none).run Try.prog w2 = .ok (.map (some (w.heap.size + 2))) w3 := by
  rw [hw3, ← s2]
  rfl
 have HW2 := hide hw2
 have HW3 := hide (Ya hw3 s2)
 have HW4 := hide (Ya hw4 s3)
 have HH := hide (Ya b04 (Ya nf4 (Ya hW s4)))
 clear hw2 b2 nx nf s2 hw3 hw4 b3 b4 s3 m3 n4 b24 b04 s4 hl0 lt1 lt2 lt3 lt4 lt5 hW nx4 nf4 h hA hB hcl hR
 go_enter Try.func80, Try.ntmps80
 go_upto_region 1 with fail
 rw [← Qa HW2]
 go_upto_region 2 with fail
 rw [(Qa HW4).2, ← (Qa HW4).1]
 go_wp2_with fail
 refine hc2.mono ?_
 clear hc2 x_0 x_1 x_2 x_3 x_4 xf hmk
 rintro en w5 hlk
 obtain ⟨sl5, vs5, ft, rfl, h5, k5, hR5⟩ := hlk.ft
 clear hlk
 obtain ⟨b04, nf4, hW, s4⟩ := Qa HH
 obtain ⟨w6, hw6⟩ : ∃ w6, w6 = w5.alloc (.cells #[.int .i64 ft.1, .int .i64 ft.2] 31) := ⟨_, rfl⟩
 have b6 := bnw hw6
 have n6 := nnw hw6
 have h6 := h5.later b6
 have nf5 := k5.keep nf4 (hW.offT nf4 (by decide) (by decide))
 have nf6 := (b6.block _ (Qab nf5)).trans nf5
 have hs5 := k5.size
 have b06 : Below w.heap.size w w6 := by
  have k6 := k5.trans (Kw.of_below b6)
  refine b04.trans ⟨k6.os, k6.tape, k6.output, k6.size, fun q hq => k6.block q (by omega) (by omega) (by omega) (by simp [Value.ownBlock])⟩
 obtain ⟨k_0, k_1, kf⟩ := cl2 n6
 have HW6 := hide hw6
 unfold ftV
 by_cases e1 : ft.1 = 0
 ·
  have g4 : (ft.1 != 0) = false := by simp [e1]
  have hq : R = .ok vs5 := by
   cases R with
   | ok v => rw [hR5.2]
   | error e => exact absurd e1 hR5.2
  obtain ⟨W7, hW7, sc⟩ := sc2 nf6 (.int .i64 0) (.int .i64 0)
  obtain ⟨y_0, y_1, yf⟩ := cl2 nf6
  obtain ⟨q_0, q_1, q_2, q_3, q_4, q_5, qf⟩ := cl6 h6.box
  have h7 := h6.sc sc (by omega) (h6.offT nf6 (by decide) (by decide))
  have HE := hide (Ya (sc.below b06 (by omega)) (Ya sc.box (Ya h7.row hq)))
  have HWW := hide hW7
  clear b04 nf4 hW s4 hw6 b6 n6 h5 k5 hR5 h6 nf5 nf6 hs5 b06 e1 hq hW7 sc h7 q_0 q_1 q_2 q_3 q_5 HH
  go_upto_region 3 with fail
  rw [← Qa HW6]
  go_wp2_with fail
  rw [← Qa HWW]
  obtain ⟨z_0, z_1, zf⟩ := cl2 (Qa HE).2.1
  refine bodyPost_ret (v := .tuple #[sl5, ftV (0, 0)]) (by simp [results, Try.results80, go_sem, z_0, z_1, ftV]) rfl ?_
  refine ⟨(Qa HE).1, ?_⟩
  rw [(Qa HE).2.2.2]
  exact ⟨_, rfl, (Qa HE).2.2.1⟩
 have g4 : (ft.1 != 0) = true := by simp [e1]
 have hq : R = .error ft := by
  cases R with
  | ok v => exact absurd (by rw [hR5.1]) e1
  | error e => rw [hR5.1]
 obtain ⟨W7, hW7, sc⟩ := sc2 nf6 (.int .i64 ft.1) (.int .i64 ft.2)
 obtain ⟨y_0, y_1, yf⟩ := cl2 nf6
 have HE := hide (Ya (sc.below b06 (by omega)) (Ya sc.box (Ya hq e1)))
 have HWW := hide hW7
 clear b04 nf4 hW s4 hw6 b6 n6 h5 k5 hR5 h6 nf5 nf6 hs5 b06 e1 hq hW7 sc HH
 go_upto_region 3 with fail
 rw [← Qa HW6]
 go_wp2_with fail
 go_region
 rw [← Qa HWW]
 go_wp2_with fail
 obtain ⟨z_0, z_1, zf⟩ := cl2 (Qa HE).2.1
 refine bodyPost_ret (v := .tuple #[.slice none 0 0, ftV ft]) (by simp [results, Try.results80, go_sem, z_0, z_1, ftV]) rfl ?_
 refine ⟨(Qa HE).1.drew, ?_⟩
 rw [(Qa HE).2.2.1]
 exact ⟨rfl, (Qa HE).2.2.2⟩
end
end
end Go.Proofs.Ytfmbpaoapjmdnaa
