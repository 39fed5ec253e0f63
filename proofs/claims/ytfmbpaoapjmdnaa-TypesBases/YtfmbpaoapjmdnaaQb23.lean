/- types: addKinds. types: Base and Below of a program. types: what check looks for in fields. types: twice. -/
import Derived.Test.YtfmbpaoapjmdnaaQb22
set_option maxRecDepth 100000
set_option maxHeartbeats 32000000
namespace Go.Proofs.Ytfmbpaoapjmdnaa
section
open Go.RowKit Go.Maps
theorem sc3 {w : World} {b : Nat} {T : TypeId} {u0 u1 u2 : Value} (n : w.heap[b]? = some (.cells #[u0, u1, u2] T (0, 0))) (v0 v1 v2 : Value) : ∃ W, W = (((w.setCell ⟨b, 0, none⟩ v0).setCell ⟨b, 1, none⟩ v1).setCell ⟨b, 2, none⟩ v2) ∧ Sc b T #[v0, v1, v2] w W :=
 ⟨_, rfl, (Qah (Qah (Qah n 0 _) 1 _) 2 _).trans (by simp), by simp, fun q hq => by rw [hpS hq, hpS hq, hpS hq], rfl, rfl, rfl⟩
theorem Qip {w W : World} {b0 k n : Nat} {T : TypeId} {sl : Value} {xs : List Value} (h : w.ownsRow b0 T k sl n xs) (b : ∀ q, some q = sl.ownBlock → W.heap[q]? = w.heap[q]?) : W.ownsRow b0 T k sl n xs := by
 refine ⟨h.1, ?_⟩
 rcases h.2 with e | ⟨g, cap, cur, e1, e2, e3, e4⟩
 · exact .inl e
 · exact .inr ⟨g, cap, cur, e1, e2, (b g (by rw [e1]; rfl)).trans e3, e4⟩
theorem Qmz {p : Pg} {j : Nat} {x : Typ} (h : p.types[j]? = some x) : kName p (3 + j) = x.name ∧ kSub p (3 + j) = tyNo p x.sub ∧ kInit p (3 + j) = if x.sub = [] then ((3 + j : Nat) : Int) else -1 := by
 have e : 3 + j - 3 = j := by omega
 refine ⟨?_, ?_, ?_⟩
 ·
  unfold kName
  rw [if_neg (by omega), if_neg (by omega), if_neg (by omega), e, h]
  rfl
 ·
  unfold kSub
  rw [if_neg (by omega), e, h]
  rfl
 unfold kInit
 rw [if_neg (by omega), e, h]
section
variable {n0 n1 : Nat} {p : Pg} {c : CatP} {kv : Value} {rt rd : List (Txt × Nat)} {rc : List (Txt × (Nat × Nat))} {w w' : World}
theorem Nc.look (h : Nc n0 n1 p c kv (tyRow p.types) rd rc w) (t : Txt) : (Instr.lookup 61 (.map (some c.mt)) (str t) false).run Try.prog w = .ok (.int .i64 (tyNo p t : Int)) w := by
 obtain ⟨ms, h1, h2⟩ := h.mt
 rw [Qef uS mI zI w c.mt ms t h1 false, h2 t]
 unfold tyNo
 cases asc (tyRow p.types) t <;> rfl
theorem Nc.three (h : Nc n0 n1 p c kv rt rd rc w) : ∃ W, W = (w.alloc (.cells #[.string ⟨#[]⟩, .int .i64 0, .int .i64 0, .string ⟨#[110, 117, 109, 98, 101, 114]⟩, .int .i64 0, .int .i64 1, .string ⟨#[115, 121, 109, 98, 111, 108]⟩, .int .i64 0, .int .i64 2] 151)).setCell ⟨c.cb, 5, none⟩ (.slice (some ⟨w.heap.size, 0, none⟩) 3 3) ∧
  Nc n0 n1 p c (.slice (some ⟨w.heap.size, 0, none⟩) 3 3) rt rd rc W ∧ W.ownsRow (n1 + 1) 151 3 (.slice (some ⟨w.heap.size, 0, none⟩) 3 3) (3 + 0) (kdC p (3 + 0)) ∧ Below n1 w W := by
 obtain ⟨w2, hw2⟩ : ∃ w2, w2 = w.alloc (.cells #[.string ⟨#[]⟩, .int .i64 0, .int .i64 0, .string ⟨#[110, 117, 109, 98, 101, 114]⟩, .int .i64 0, .int .i64 1, .string ⟨#[115, 121, 109, 98, 111, 108]⟩, .int .i64 0, .int .i64 2] 151) := ⟨_, rfl⟩
 have b2 := bnw hw2
 have n2 := nnw hw2
 have h2 := h.later b2
 have hl0 := h.l0
 have hcb := Qab h.box
 have o : ∀ q, q ≠ c.cb → (w2.setCell ⟨c.cb, 5, none⟩ (.slice (some ⟨w.heap.size, 0, none⟩) 3 3)).heap[q]? = w2.heap[q]? := fun q hq => hpS hq
 refine ⟨_, rfl, ?_, ?_, ?_⟩
 ·
  rw [← hw2]
  exact ⟨(Qah h2.box 5 _).trans rfl, (o _ (by omega)).trans h2.par, Qar.same _ _ _ _ _ h2.prg (by simp) (fun q hq _ => o q (by have hq' : q < n0 := hq; have := h.n01; omega)), h2.mt.keep (o _ (Ne.symm (h2.mt.cells_ne h2.box))), h2.md.keep (o _ (Ne.symm (h2.md.cells_ne h2.box))), h2.mc.keep (o _ (Ne.symm (h2.mc.cells_ne h2.box))), h.l0, h.n01, h.ne⟩
 ·
  rw [← hw2]
  exact ⟨rfl, .inr ⟨w.heap.size, 3, _, rfl, by omega, (o _ (by omega)).trans n2, Nat.le_refl _, by unfold maxLen; decide, rfl, rfl⟩⟩
 rw [← hw2]
 exact ⟨b2.os, b2.tape, b2.output, by simp; exact b2.size, fun q hq => (o q (by omega)).trans (b2.block q (by omega))⟩
end
theorem KRow.congr {w : World} {kb n cap : Nat} {nm : Nat → Txt} {sb : Nat → Nat} {bs bs' : Nat → Int} (h : KRow w kb n cap nm sb bs) (e : ∀ k, k < n → bs k = bs' k) : KRow w kb n cap nm sb bs' := by
 obtain ⟨cur, h1, h2⟩ := h.ex
 exact ⟨h.le, h.cm, cur, h1, fun j hj => by rw [← e j hj]; exact h2 j hj⟩
theorem Qqh (p : Pg) : StB p [] (kInit p) := fun k _ => by
 by_cases h : kInit p k = -1
 · exact .inr (.inl ⟨h, h, by simp⟩)
 · exact .inl (Qgu h).symm
theorem Nc.ct {n0 n1 : Nat} {p : Pg} {c : CatP} {w : World} {sl : Value} (h : Nc n0 n1 p c sl (tyRow p.types) (dcRow p.decls) (ctRow p.types) w) (row : w.ownsRow (n1 + 1) 151 3 sl (3 + p.types.length) (kdC p (3 + p.types.length))) : ∃ kb kc, sl = .slice (some ⟨kb, 0, none⟩) (3 + p.types.length) kc ∧ Ct n0 p { c with kb := kb, kc := kc } (kInit p) w ∧ n1 < kb := by
 obtain ⟨kb, kc, rfl, hkb, hk⟩ := KRow.of_own (by omega) row
 have := h.l0
 have := h.n01
 refine ⟨kb, kc, rfl, ⟨?_, h.prg, ?_, h.mt, h.md, h.mc, ?_⟩, hkb⟩
 ·
  have hb := h.box
  rw [Nat.add_comm 3] at hb
  exact hb
 ·
  rw [Nat.add_comm 3] at hk
  exact hk
 show n0 ≤ c.cb ∧ n0 ≤ kb ∧ n0 ≤ c.mt ∧ n0 ≤ c.md ∧ n0 ≤ c.mc
 omega
theorem Qif {n0 n1 : Nat} {p : Pg} (hts : p.types.length ≤ 1000000000) : AkA n0 n1 p := by
 intro c w h
 obtain ⟨a0, k0, c0, hv0⟩ : ∃ a n d, c.v0 = .slice a n d := by
  obtain ⟨_, _, e⟩ := h.types.sl
  exact ⟨_, _, _, e⟩
 have hk0 : k0 = p.types.length := by
  obtain ⟨_, _, e⟩ := h.types.sl
  rw [hv0] at e
  cases e
  rfl
 have hcap := h.types.cap hv0
 have hk9 : k0 ≤ 1000000000 := by omega
 obtain ⟨W1, hW1, nc1, row1, b1⟩ := h.three
 obtain ⟨x_0, x_1, x_2, x_3, x_4, x_5, x_6, x_7, x_8, xf⟩ := cl9 h.box
 obtain ⟨v_0, v_1, v_2, v_3, v_4, v_5, v_6, v_7, v_8, vf⟩ := cl9 (h.later ((Below.refl w.heap.size w).alloc (Nat.le_refl _) (.cells #[.string ⟨#[]⟩, .int .i64 0, .int .i64 0, .string ⟨#[110, 117, 109, 98, 101, 114]⟩, .int .i64 0, .int .i64 1, .string ⟨#[115, 121, 109, 98, 111, 108]⟩, .int .i64 0, .int .i64 2] 151))).box
 obtain ⟨z_0, z_1, z_2, z_3, z_4, z_5, z_6, z_7, z_8, zf⟩ := cl9 nc1.box
 rw [hv0] at x_0 z_0
 have HW1 := hide hW1
 have H0 := hide (Ya hv0 hk0)
 have H1 := hide (Ya nc1 (Ya row1 b1))
 obtain ⟨s1, hs1⟩ : ∃ s1, Value.slice (some ⟨w.heap.size, 0, none⟩) 3 3 = s1 := ⟨_, rfl⟩
 have H1' := hide (show ∃ sl, Nc n0 n1 p c sl (tyRow p.types) (dcRow p.decls) (ctRow p.types) W1 ∧ W1.ownsRow (n1 + 1) 151 3 sl (3 + 0) (kdC p (3 + 0)) ∧ Below n1 w W1 from ⟨_, nc1, row1, b1⟩)
 clear hts h hv0 hk0 hW1 nc1 row1 b1 hs1 z_1 z_2 z_3 z_4 z_5 z_6 z_7 z_8 x_0 x_1 x_2 x_3 x_4 x_6 x_7 x_8 v_0 v_1 v_2 v_3 v_4 v_6 v_7 v_8 H1
 go_enter Try.func78, Try.ntmps78
 go_upto_region 1 with fail
 first | rw [← Qa HW1] | rw [← show W1 = _ from Qa HW1]
 go_wp2_with fail
 clear x_5 xf z_0 zf v_5 vf
 go_loopw [19] (fun v wr => ∃ j : Nat, v = .int .i64 (j : Int) ∧ j ≤ k0 ∧ Hid (∃ sl, Nc n0 n1 p c sl (tyRow p.types) (dcRow p.decls) (ctRow p.types) wr ∧ wr.ownsRow (n1 + 1) 151 3 sl (3 + j) (kdC p (3 + j)) ∧ Below n1 w wr)) (fun v _ => k0 - (intOf v).toNat)
 case atStart => exact ⟨0, rfl, Nat.zero_le _, H1'⟩
 obtain ⟨j, rfl, hj, HI⟩ := hrel
 by_cases hlt : j < k0
 ·
  obtain ⟨sl, nc, row, bw⟩ := Qa HI
  obtain ⟨x, hxj⟩ : ∃ x, p.types[j]? = some x := ⟨p.types[j]'(by have := (Qa H0).2; omega), List.getElem?_eq_getElem _⟩
  obtain ⟨gb, cap, csx, e1, hgb, hS, _, hcs, hc⟩ := nc.types.elem hxj
  obtain ⟨xa, xn, xc, rfl, hX⟩ := hcs
  rw [(Qa H0).1] at e1
  simp only [Value.slice.injEq] at e1
  obtain ⟨rfl, -, -⟩ := e1
  have y0 : wr.cell? ⟨gb, j * 4, none⟩ = some (str x.name) := hc 0 _ rfl
  have y1 : wr.cell? ⟨gb, j * 4 + 1, none⟩ = some (str x.sub) := hc 1 _ rfl
  have y2 : wr.cell? ⟨gb, j * 4 + 2, none⟩ = some (.slice xa xn xc) := hc 2 _ rfl
  have y3 : wr.cell? ⟨gb, j * 4 + 3, none⟩ = some (.int .i64 x.at_) := hc 3 _ rfl
  obtain ⟨w3, hw3⟩ : ∃ w3, w3 = wr.alloc (.cells #[str x.name, str x.sub, .slice xa xn xc, .int .i64 x.at_] 68) := ⟨_, rfl⟩
  have b3 := bnw hw3
  have n3 := nnw hw3
  obtain ⟨tb, htb⟩ : ∃ tb, wr.heap.size = tb := ⟨_, rfl⟩
  rw [htb] at n3
  have hn1 : n1 ≤ wr.heap.size := Nat.le_of_lt (Qab nc.par)
  have nc3 := nc.later b3
  have row3 : w3.ownsRow (n1 + 1) 151 3 sl (3 + j) (kdC p (3 + j)) := by rw [hw3]; exact World.ownsRow.alloc row _
  have HC3 := hide (show ∀ W', Below w3.heap.size w3 W' → W'.cell? ⟨c.cb, 6, none⟩ = some (.map (some c.mt)) ∧ W'.cell? ⟨tb, 0, none⟩ = some (str x.name) ∧ W'.cell? ⟨tb, 1, none⟩ = some (str x.sub) ∧ (Instr.lookup 61 (.map (some c.mt)) (str x.sub) false).run Try.prog W' = .ok (.int .i64 (tyNo p x.sub : Int)) W' from fun W' bW => ⟨(cl9 (nc3.later bW).box).2.2.2.2.2.2.1, (cl4 ((bW.block _ (Qab n3)).trans n3)).1, (cl4 ((bW.block _ (Qab n3)).trans n3)).2.1, (nc3.later bW).look x.sub⟩)
  have H3 := hide (Ya (bw.trans (b3.mono hn1)) (Ya nc3 (Ya row3 (Ya n3 (Ya hxj (Ya hn1 b3.size))))))
  have HW3 := hide (Ya hw3 htb)
  obtain ⟨tn, htn⟩ : ∃ tn : Int, (tyNo p x.sub : Int) = tn := ⟨_, rfl⟩
  rw [htn] at HC3
  have HTN := hide htn
  clear nc row bw hxj hgb hS hc hX hw3 b3 n3 htb hn1 nc3 row3 htn
  go_upto_region 4 with fail
  rw [← (Qa HW3).1, (Qa HW3).2]
  clear y0 y1 y2 y3
  refine Qav (md := [(0, true), (1, true), (2, true), (3, true), (4, true), (5, true), (6, true), (7, true), (8, true), (9, true), (10, false), (11, false)]) (Below w3.heap.size w3) mixedO (by kernel_rfl) rfl (by kernel_rfl) (fun PP hPP => ?_)
  iterate 10 refine Qac rfl (by kernel_rfl) (fun w' hw => by obtain ⟨k_0, k_1, k_2, k_3⟩ := Qa HC3 w' hw; go_simp <;> rfl) ?_
  have bd := (Below.refl w3.heap.size w3).drew
  refine Qal rfl bd (fun K hK => ?_)
  go_simp
  refine hK _ _ ?_
  clear hK K
  obtain ⟨wz, hwz⟩ : ∃ wz, wz = (w3.alloc (.cells #[.string ⟨#[]⟩, .int .i64 0, .int .i64 0] 151)).drew := ⟨_, rfl⟩
  have bz : Below w3.heap.size w3 wz := by rw [hwz]; exact ((Below.refl _ w3).alloc (Nat.le_refl _) _).drew
  have nz : wz.heap[w3.heap.size]? = some (.cells #[.string ⟨#[]⟩, .int .i64 0, .int .i64 0] 151 (0, 0)) := by rw [hwz]; exact heap_alloc_new w3 _
  rw [← hwz]
  obtain ⟨kx, hkx⟩ : ∃ kx, w3.heap.size = kx := ⟨_, rfl⟩
  rw [hkx] at nz bz ⊢
  obtain ⟨w4, hw4, sc⟩ := sc3 nz (str x.name) (.int .i64 tn) (.int .i64 (-1))
  obtain ⟨z_0, z_1, z_2, zf⟩ := cl3 nz
  have b4 := sc.below bz (Nat.le_refl _)
  have n4 := sc.box
  have H4 := hide (Ya b4 (Ya n4 hkx))
  have HW4 := hide hw4
  clear hwz nz hw4 sc bd hkx n4
  refine Qal rfl bz (fun K hK => ?_)
  clear bz b4
  go_simp
  refine hK _ _ ?_
  clear hK K z_0 z_1 z_2 zf
  rw [← Qa HW4]
  refine Qaw (Qa H4).1 (hPP _ _ ?_)
  clear hPP PP
  obtain ⟨b4, n4, hkx⟩ := Qa H4
  obtain ⟨bw3, nc3, row3, n3, hxj, hn1, s3⟩ := Qa H3
  have n34 := (b4.block tb (by have := Qab n3; omega)).trans n3
  obtain ⟨t_0, t_1, t_2, t_3, tf⟩ := cl4 n34
  have b34 : Below w3.heap.size w3 w4 := b4.mono (Nat.le_of_eq hkx)
  have nc4 := nc3.later b34
  have row4 : w4.ownsRow (n1 + 1) 151 3 sl (3 + j) (kdC p (3 + j)) := Qip row3 (fun q e => b34.block q (World.ownsRow.lt row3 q e.symm).2)
  have hkc : kx ≠ c.cb := by have := Qab nc3.box; omega
  have hown : ∀ q, some q = sl.ownBlock → q < kx := fun q e => by
   have := (World.ownsRow.lt row3 q e.symm).2
   omega
  have bw4 := bw3.trans (b34.mono (by omega))
  have hn14 : n1 ≤ w4.heap.size := by have := b4.size; omega
  by_cases hsub : x.sub = []
  ·
   have g5 : List.isEmpty x.sub = true := by rw [hsub]; rfl
   obtain ⟨w5, hw5⟩ : ∃ w5, w5 = w4.setCell ⟨kx, 2, none⟩ (.int .i64 (3 + (j : Int))) := ⟨_, rfl⟩
   have HW5 := hide hw5
   have b35 : Below w3.heap.size w3 w5 := by
    refine ⟨by rw [hw5]; exact b34.os, by rw [hw5]; exact b34.tape, by rw [hw5]; exact b34.output, by rw [hw5]; simp; exact b34.size, fun q hq => ?_⟩
    rw [hw5]
    exact (hpS (show q ≠ kx by omega)).trans (b34.block q hq)
   obtain ⟨f_0, f_1, f_2, ff⟩ := cl3 n4
   have nz5 : w5.heap[kx]? = some (.cells #[str x.name, .int .i64 tn, .int .i64 (3 + (j : Int))] 151 (0, 0)) := by rw [hw5]; exact (Qah n4 2 _).trans rfl
   have nc5 := nc3.later b35
   have row5 : w5.ownsRow (n1 + 1) 151 3 sl (3 + j) (kdC p (3 + j)) := Qip row3 (fun q e => b35.block q (World.ownsRow.lt row3 q e.symm).2)
   have bw5 := bw3.trans (b35.mono (by omega))
   have hn15 : n1 ≤ w5.heap.size := by have := b35.size; omega
   have row5d : w5.drew.ownsRow (n1 + 1) 151 3 sl (3 + j) (kdC p (3 + j)) := row5
   have hkb' : ∀ q, some q = sl.ownBlock → q < kx := hown
   clear b4 n4 bw3 nc3 row3 n3 hxj hn1 s3 n34 b34 nc4 row4 bw4 hn14 hown hw5 b35
   obtain ⟨kb, kc, rfl, hkb, hkr⟩ := KRow.of_own (by omega) row5
   obtain ⟨hko1, hko2, hko3⟩ := Qmz (Qa H3).2.2.2.2.1
   obtain ⟨ra, rn, rc', w6, hrun, box6, same6, nc7, row7, b7⟩ := (nc5.later (Below.refl _ w5).drew).more (n := 3 + j) row5d (by omega) hko1 ((congrArg Nat.cast hko2).trans (Qa HTN)) (show kInit p (3 + j) = 3 + (j : Int) from by rw [hko3, if_pos hsub]; omega)
   obtain ⟨q_0, q_1, q_2, q_3, q_4, q_5, q_6, q_7, q_8, qf⟩ := cl9 nc5.box
   obtain ⟨r_0, r_1, r_2, r_3, r_4, r_5, r_6, r_7, r_8, rf⟩ := cl9 box6
   have hkx6 : w6.heap[kx]? = some (.cells #[str x.name, .int .i64 tn, .int .i64 (3 + (j : Int))] 151 (0, 0)) := (same6 kx (Qab nz5) (fun e => by
    have : kx = kb := Option.some.inj e
    have := hkb' kb rfl
    omega)).trans nz5
   have HCf := hide (show (w5.drew.cell? ⟨c.cb, 5, none⟩ = some (.slice (some ⟨kb, 0, none⟩) (3 + j) kc)) ∧ w5.drew.heap[kx]? = some (.cells #[str x.name, .int .i64 tn, .int .i64 (3 + (j : Int))] 151 (0, 0)) from ⟨q_5, nz5⟩)
   have HCa := hide (show ((w5.alloc (.cells #[str x.name, .int .i64 tn, .int .i64 (3 + (j : Int))] 151)).drew.cell? ⟨c.cb, 5, none⟩ = some (.slice (some ⟨kb, 0, none⟩) (3 + j) kc)) ∧ (w5.alloc (.cells #[str x.name, .int .i64 tn, .int .i64 (3 + (j : Int))] 151)).drew.heap[kx]? = some (.cells #[str x.name, .int .i64 tn, .int .i64 (3 + (j : Int))] 151 (0, 0)) from
    ⟨(cl9 (nc5.later (((Below.refl _ w5).alloc (Nat.le_refl _) _).drew)).box).2.2.2.2.2.1, (Below.heap_alloc _ _ _ (Qab nz5)).trans nz5⟩)
   have hrun' : (Builtin.append_ #[143, 143] 143 #[.slice (some ⟨kb, 0, none⟩) (3 + j) kc, .slice (some ⟨w5.heap.size, 0, none⟩) 1 1]).run Try.prog (w5.alloc (.cells #[str x.name, .int .i64 tn, .int .i64 (3 + (j : Int))] 151)).drew = .ok (.slice ra rn rc') w6 := hrun
   have hkx7 : (w6.setCell ⟨c.cb, 5, none⟩ (.slice ra rn rc')).heap[kx]? = some (.cells #[str x.name, .int .i64 tn, .int .i64 (3 + (j : Int))] 151 (0, 0)) := (hpS hkc).trans hkx6
   have HE := hide (show ∃ sl, Nc n0 n1 p c sl (tyRow p.types) (dcRow p.decls) (ctRow p.types) (w6.setCell ⟨c.cb, 5, none⟩ (.slice ra rn rc')) ∧ (w6.setCell ⟨c.cb, 5, none⟩ (.slice ra rn rc')).ownsRow (n1 + 1) 151 3 sl (3 + (j + 1)) (kdC p (3 + (j + 1))) ∧ Below n1 w (w6.setCell ⟨c.cb, 5, none⟩ (.slice ra rn rc')) from ⟨_, nc7, row7, bw5.trans ((((Below.refl _ w5).drew).mono hn15).trans b7)⟩)
   have HR := hide (Ya hrun' (Ya hkx6 (Ya hkx7 (Ya r_5 rf))))
   obtain ⟨m_0, m_1, m_2, mf⟩ := cl3 nz5
   clear q_0 q_1 q_2 q_3 q_4 q_6 q_7 q_8 r_0 r_1 r_2 r_3 r_4 r_5 r_6 r_7 r_8 rf hrun hrun' box6 same6 nc7 row7 b7 hko1 hko2 hko3 hkr row5 row5d nc5 bw5 hn15 hkx6 hkx7
   go_wp2_with fail
   rw [← Qa HW5]
   clear f_0 f_1 f_2 ff
   refine Qam (m := 10) (ml := [(0, 1), (1, 1), (2, 1), (3, 1), (4, 2), (5, 1), (6, 0), (7, 0), (8, 1), (9, 1), (10, 0)]) (fun f w' => (f = false → w'.cell? ⟨c.cb, 5, none⟩ = some (.slice (some ⟨kb, 0, none⟩) (3 + j) kc)) ∧ w'.heap[kx]? = some (.cells #[str x.name, .int .i64 tn, .int .i64 (3 + (j : Int))] 151 (0, 0))) mixedO (by kernel_rfl) rfl (by rfl) (by kernel_rfl) (fun PP hPP => ?_)
   clear m_0 m_1 m_2 mf q_5 qf
   iterate 4 (refine mF (v := ?_) (fun f w' hw => ?_) ?_; rotate_left; · (go_simp <;> rfl))
   refine Qaq (v := ?_) rfl (by kernel_rfl) (fun w' hw => ?_) ?_
   rotate_left
   · (have l_5 := hw.1 rfl; go_simp <;> rfl)
   iterate 1 (refine mF (v := ?_) (fun f w' hw => ?_) ?_; rotate_left; · (obtain ⟨l_0, l_1, l_2, lf⟩ := cl3 hw.2; go_simp <;> rfl))
   refine Qaa rfl ⟨fun _ => (Qa HCf).1, (Qa HCf).2⟩ (fun K hK => ?_)
   go_simp
   refine hK _ _ ?_
   clear hK K
   refine Qaa rfl ⟨fun _ => (Qa HCa).1, (Qa HCa).2⟩ (fun K hK => ?_)
   refine Qas rfl _ _ 143 rfl (.slice (some ⟨kb, 0, none⟩) (3 + j) kc) (.slice (some ⟨w5.heap.size, 0, none⟩) 1 1) (by kernel_rfl) (by kernel_rfl) (Qa HR).1 ?_
   refine hK _ _ ?_
   clear hK K
   iterate 2 (refine mF (v := ?_) (fun f w' hw => ?_) ?_; rotate_left; · (go_simp <;> rfl))
   obtain ⟨hrun', hkx6, hkx7, r_5, rf⟩ := Qa HR
   refine Qaa rfl ⟨fun _ => r_5, hkx6⟩ (fun K hK => ?_)
   clear hrun' hkx6 hkx7
   go_simp
   refine hK _ _ ?_
   clear hK K
   refine Qap ⟨fun e => (by cases e), (Qa HR).2.2.1⟩ (hPP _ _ ?_)
   clear hPP PP r_5 rf
   go_wp2_with fail
   go_roundw
   case rel => exact ⟨j + 1, by congr 1, by omega, HE⟩
   case measure => simp [intOf]; omega
  have g5 : List.isEmpty x.sub = false := by
   cases hq : x.sub with
   | nil => exact absurd hq hsub
   | cons _ _ => rfl
  have nz5 := n4
  have nc5 := nc4
  have row5 := row4
  have bw5 := bw4
  have hn15 := hn14
  have row5d : w4.drew.ownsRow (n1 + 1) 151 3 sl (3 + j) (kdC p (3 + j)) := row4
  have hkb' : ∀ q, some q = sl.ownBlock → q < kx := hown
  clear b4 n4 bw3 nc3 row3 n3 hxj hn1 s3 n34 b34 nc4 row4 bw4 hn14 hown
  obtain ⟨kb, kc, rfl, hkb, hkr⟩ := KRow.of_own (by omega) row5
  obtain ⟨hko1, hko2, hko3⟩ := Qmz (Qa H3).2.2.2.2.1
  obtain ⟨ra, rn, rc', w6, hrun, box6, same6, nc7, row7, b7⟩ := (nc5.later (Below.refl _ w4).drew).more (n := 3 + j) row5d (by omega) hko1 ((congrArg Nat.cast hko2).trans (Qa HTN)) (show kInit p (3 + j) = -1 from by rw [hko3]; rw [if_neg hsub])
  obtain ⟨q_0, q_1, q_2, q_3, q_4, q_5, q_6, q_7, q_8, qf⟩ := cl9 nc5.box
  obtain ⟨r_0, r_1, r_2, r_3, r_4, r_5, r_6, r_7, r_8, rf⟩ := cl9 box6
  have hkx6 : w6.heap[kx]? = some (.cells #[str x.name, .int .i64 tn, .int .i64 (-1)] 151 (0, 0)) := (same6 kx (Qab nz5) (fun e => by
   have : kx = kb := Option.some.inj e
   have := hkb' kb rfl
   omega)).trans nz5
  have HCf := hide (show (w4.drew.cell? ⟨c.cb, 5, none⟩ = some (.slice (some ⟨kb, 0, none⟩) (3 + j) kc)) ∧ w4.drew.heap[kx]? = some (.cells #[str x.name, .int .i64 tn, .int .i64 (-1)] 151 (0, 0)) from ⟨q_5, nz5⟩)
  have HCa := hide (show ((w4.alloc (.cells #[str x.name, .int .i64 tn, .int .i64 (-1)] 151)).drew.cell? ⟨c.cb, 5, none⟩ = some (.slice (some ⟨kb, 0, none⟩) (3 + j) kc)) ∧ (w4.alloc (.cells #[str x.name, .int .i64 tn, .int .i64 (-1)] 151)).drew.heap[kx]? = some (.cells #[str x.name, .int .i64 tn, .int .i64 (-1)] 151 (0, 0)) from
   ⟨(cl9 (nc5.later (((Below.refl _ w4).alloc (Nat.le_refl _) _).drew)).box).2.2.2.2.2.1, (Below.heap_alloc _ _ _ (Qab nz5)).trans nz5⟩)
  have hrun' : (Builtin.append_ #[143, 143] 143 #[.slice (some ⟨kb, 0, none⟩) (3 + j) kc, .slice (some ⟨w4.heap.size, 0, none⟩) 1 1]).run Try.prog (w4.alloc (.cells #[str x.name, .int .i64 tn, .int .i64 (-1)] 151)).drew = .ok (.slice ra rn rc') w6 := hrun
  have hkx7 : (w6.setCell ⟨c.cb, 5, none⟩ (.slice ra rn rc')).heap[kx]? = some (.cells #[str x.name, .int .i64 tn, .int .i64 (-1)] 151 (0, 0)) := (hpS hkc).trans hkx6
  have HE := hide (show ∃ sl, Nc n0 n1 p c sl (tyRow p.types) (dcRow p.decls) (ctRow p.types) (w6.setCell ⟨c.cb, 5, none⟩ (.slice ra rn rc')) ∧ (w6.setCell ⟨c.cb, 5, none⟩ (.slice ra rn rc')).ownsRow (n1 + 1) 151 3 sl (3 + (j + 1)) (kdC p (3 + (j + 1))) ∧ Below n1 w (w6.setCell ⟨c.cb, 5, none⟩ (.slice ra rn rc')) from ⟨_, nc7, row7, bw5.trans ((((Below.refl _ w4).drew).mono hn15).trans b7)⟩)
  have HR := hide (Ya hrun' (Ya hkx6 (Ya hkx7 (Ya r_5 rf))))
  obtain ⟨m_0, m_1, m_2, mf⟩ := cl3 nz5
  clear q_0 q_1 q_2 q_3 q_4 q_6 q_7 q_8 r_0 r_1 r_2 r_3 r_4 r_5 r_6 r_7 r_8 rf hrun hrun' box6 same6 nc7 row7 b7 hko1 hko2 hko3 hkr row5 row5d nc5 bw5 hn15 hkx6 hkx7
  go_wp2_with fail
  refine Qam (m := 10) (ml := [(0, 1), (1, 1), (2, 1), (3, 1), (4, 2), (5, 1), (6, 0), (7, 0), (8, 1), (9, 1), (10, 0)]) (fun f w' => (f = false → w'.cell? ⟨c.cb, 5, none⟩ = some (.slice (some ⟨kb, 0, none⟩) (3 + j) kc)) ∧ w'.heap[kx]? = some (.cells #[str x.name, .int .i64 tn, .int .i64 (-1)] 151 (0, 0))) mixedO (by kernel_rfl) rfl (by rfl) (by kernel_rfl) (fun PP hPP => ?_)
  clear m_0 m_1 m_2 mf q_5 qf
  iterate 4 (refine mF (v := ?_) (fun f w' hw => ?_) ?_; rotate_left; · (go_simp <;> rfl))
  refine Qaq (v := ?_) rfl (by kernel_rfl) (fun w' hw => ?_) ?_
  rotate_left
  · (have l_5 := hw.1 rfl; go_simp <;> rfl)
  iterate 1 (refine mF (v := ?_) (fun f w' hw => ?_) ?_; rotate_left; · (obtain ⟨l_0, l_1, l_2, lf⟩ := cl3 hw.2; go_simp <;> rfl))
  refine Qaa rfl ⟨fun _ => (Qa HCf).1, (Qa HCf).2⟩ (fun K hK => ?_)
  go_simp
  refine hK _ _ ?_
  clear hK K
  refine Qaa rfl ⟨fun _ => (Qa HCa).1, (Qa HCa).2⟩ (fun K hK => ?_)
  refine Qas rfl _ _ 143 rfl (.slice (some ⟨kb, 0, none⟩) (3 + j) kc) (.slice (some ⟨w4.heap.size, 0, none⟩) 1 1) (by kernel_rfl) (by kernel_rfl) (Qa HR).1 ?_
  refine hK _ _ ?_
  clear hK K
  iterate 2 (refine mF (v := ?_) (fun f w' hw => ?_) ?_; rotate_left; · (go_simp <;> rfl))
  obtain ⟨hrun', hkx6, hkx7, r_5, rf⟩ := Qa HR
  refine Qaa rfl ⟨fun _ => r_5, hkx6⟩ (fun K hK => ?_)
  clear hrun' hkx6 hkx7
  go_simp
  refine hK _ _ ?_
  clear hK K
  refine Qap ⟨fun e => (by cases e), (Qa HR).2.2.1⟩ (hPP _ _ ?_)
  clear hPP PP r_5 rf
  go_wp2_with fail
  go_roundw
  case rel => exact ⟨j + 1, by congr 1, by omega, HE⟩
  case measure => simp [intOf]; omega
 have hjx : j = k0 := by omega
 subst hjx
 obtain ⟨sl, nc, row, bw⟩ := Qa HI
 rw [(Qa H0).2] at row
 obtain ⟨kb, kc, rfl, hct, hkb⟩ := nc.ct row
 obtain ⟨x_0, x_1, x_2, x_3, x_4, x_5, x_6, x_7, x_8, xf⟩ := cl9 nc.box
 rw [← (Qa H0).2] at x_5
 have hcm := hct.row.cm
 have hcl := hct.row.le
 unfold maxLen at hcm
 rw [← (Qa H0).2] at hcl
 have H5 := hide (show ∃ bs, Ct n0 p { c with kb := kb, kc := kc } bs wr ∧ StB p [] bs ∧ (∀ k, k < 0 → bs k ≠ -1) ∧ Below n1 w wr from ⟨_, hct, Qqh p, fun k hk => absurd hk (Nat.not_lt_zero _), bw⟩)
 have hn1 := Nat.le_of_lt (Qab nc.par)
 have HK := hide (Ya hkb hn1)
 clear nc row bw hct hkb hn1 x_0 x_1 x_2 x_3 x_4 x_6 x_7 x_8
 go_wp2_with fail
 clear x_5 xf
 go_loopw [56] (fun v wq => ∃ i : Nat, v = .int .i64 (i : Int) ∧ i ≤ 3 + j ∧ Hid (∃ bs, Ct n0 p { c with kb := kb, kc := kc } bs wq ∧ StB p [] bs ∧ (∀ k, k < i → bs k ≠ -1) ∧ Below n1 w wq)) (fun v _ => 3 + j - (intOf v).toNat)
 case atStart => exact ⟨0, rfl, Nat.zero_le _, H5⟩
 obtain ⟨i, rfl, hi, HJ⟩ := hrel
 by_cases hlt2 : i < 3 + j
 ·
  obtain ⟨bs, hct, hst, hne, bq⟩ := Qa HJ
  have hj2 := (Qa H0).2
  have hcall := Qlp (p.types.length + 3) (List.range (p.types.length + 3)) [] bs wr i (by simp) (fun k hk _ => List.mem_range.2 hk) hct hst (fun v hv => by cases hv) (by omega)
  dsimp only at hcall
  obtain ⟨kv, hkv⟩ : ∃ kv, kBase p i = kv := ⟨_, rfl⟩
  have hkn : kv ≠ -1 := by rw [← hkv]; exact Qfb p i
  rw [hkv] at hcall
  have HB := hide (Ya hne (Ya bq (Ya hkn (Nat.le_trans (Nat.le_of_lt (Qa HK).1) (Nat.le_of_lt hct.row.lt)))))
  clear hct hst hne bq hj2 hkv hkn
  go_wp2_with fail
  refine hcall.mono ?_
  clear hcall
  rintro en w5 ⟨rfl, kp5, bs', hct', hst', hbi, hmo⟩
  obtain ⟨hne, bq, hkn, hnw⟩ := Qa HB
  have H6 := hide (show ∃ bs, Ct n0 p { c with kb := kb, kc := kc } bs w5 ∧ StB p [] bs ∧ (∀ k, k < i + 1 → bs k ≠ -1) ∧ Below n1 w w5 from by
   refine ⟨bs', hct', hst', fun k hk e => ?_, bq.trans (Kp.below kp5 hnw (Nat.le_of_lt (Qa HK).1))⟩
   by_cases e2 : k = i
   ·
    rw [e2, hbi] at e
    exact hkn e
   · exact hne k (by omega) (hmo k e))
  clear kp5 hct' hst' hbi hmo hne bq hkn hnw
  go_wp2_with fail
  go_roundw
  case rel => exact ⟨i + 1, by congr 1, by omega, H6⟩
  case measure => simp [intOf]; omega
 have hix : i = 3 + j := by omega
 subst hix
 have HE := hide (show ∃ kb kc, Below n1 w wr ∧ Cs n0 p { c with kb := kb, kc := kc } wr from by
  obtain ⟨bs, hct, hst, hne, bq⟩ := Qa HJ
  refine ⟨kb, kc, bq, hct.box, hct.prg, hct.row.congr (fun k hk => ?_), hct.mt, hct.md, hct.mc, hct.l0⟩
  have hj2 := (Qa H0).2
  rcases hst k hk with e | ⟨e, _⟩ | ⟨_, e⟩
  · exact e
  · exact absurd e (hne k (by omega))
  · cases e)
 go_wp2_with fail
 go_end0
 obtain ⟨kb', kc', h1, h2⟩ := Qa HE
 exact ⟨rfl, h1, kb', kc', h2⟩
end
section
open Go.RowKit Go.Maps
section
variable {n0 : Nat} {p : Pg} {w : World} {a0 a1 a2 a3 a4 : Option Addr} {k0 k1 k2 k3 k4 c0 c1 c2 c3 c4 : Nat}
theorem Qhi (hn0 : n0 ≤ w.heap.size) (hP : PgS (fun b => b < n0) w [.slice a0 k0 c0, .slice a1 k1 c1, .slice a2 k2 c2, .slice a3 k3 c3, .slice a4 k4 c4] p) (hts : p.types.length ≤ 1000000000) :
  Calls Try.prog 36 #[.agg #[.slice a0 k0 c0, .slice a1 k1 c1, .slice a2 k2 c2, .slice a3 k3 c3, .slice a4 k4 c4]] w fun en w' => ∃ c, en = .returned (.pointer (some ⟨c.cb, 0, none⟩)) ∧ Cs n0 p c w' ∧ Below w.heap.size w w' :=
 Qll hn0 hP hts (Qif hts)
theorem Qok (hn0 : n0 ≤ w.heap.size) (hP : PgS (fun b => b < n0) w [.slice a0 k0 c0, .slice a1 k1 c1, .slice a2 k2 c2, .slice a3 k3 c3, .slice a4 k4 c4] p) (hts : p.types.length ≤ 1000000000) (t : Txt) :
  Calls Try.prog 10 #[.agg #[.slice a0 k0 c0, .slice a1 k1 c1, .slice a2 k2 c2, .slice a3 k3 c3, .slice a4 k4 c4], str t] w fun en w' => en = .returned (bsV (baseP p t)) ∧ Below w.heap.size w w' := by
 obtain ⟨w1, hw1⟩ : ∃ w1, w1 = w.alloc (.cells #[.slice a0 k0 c0, .slice a1 k1 c1, .slice a2 k2 c2, .slice a3 k3 c3, .slice a4 k4 c4] 28) := ⟨_, rfl⟩
 have b1 := bnw hw1
 have nx := nnw hw1
 have hcat := Qhi (n0 := n0) (by have := b1.size; omega) (Qar.same _ _ _ _ _ hP b1.size (fun q _ hl => b1.block q hl)) hts
 obtain ⟨x_0, x_1, x_2, x_3, x_4, xf⟩ := cl5 nx
 have HW1 := hide hw1
 have HB := hide b1
 obtain ⟨s1, s2, hbv⟩ : ∃ (s : Txt) (b : Bool), bsV (baseP p t) = .tuple #[str s, .bool b] := by cases baseP p t <;> exact ⟨_, _, rfl⟩
 rw [hbv]
 have HBV := hide hbv
 clear hw1 b1 nx hP hts hn0 hbv
 go_enter Try.func10, Try.ntmps10
 go_upto_region 1 with fail
 rw [← Qa HW1]
 go_wp2_with fail
 refine hcat.mono ?_
 clear hcat x_0 x_1 x_2 x_3 x_4 xf
 rintro en w2 ⟨c, rfl, hc, b2⟩
 have hb := Qpg hc t
 rw [Qa HBV] at hb
 have HB2 := hide ((Qa HB).trans (b2.mono (Qa HB).size))
 clear hc b2
 go_wp2_with fail
 refine hb.mono ?_
 clear hb
 rintro en w3 ⟨rfl, b3⟩
 have HE := hide ((Qa HB2).trans (b3.mono (Qa HB2).size))
 clear b3
 go_wp2_with fail
 refine bodyPost_ret (v := .tuple #[str s1, .bool s2]) (by simp [results, Try.results10, go_sem]) rfl ?_
 exact ⟨rfl, Qa HE⟩
theorem Qhb (hn0 : n0 ≤ w.heap.size) (hP : PgS (fun b => b < n0) w [.slice a0 k0 c0, .slice a1 k1 c1, .slice a2 k2 c2, .slice a3 k3 c3, .slice a4 k4 c4] p) (hts : p.types.length ≤ 1000000000) (s t : Txt) :
  Calls Try.prog 12 #[.agg #[.slice a0 k0 c0, .slice a1 k1 c1, .slice a2 k2 c2, .slice a3 k3 c3, .slice a4 k4 c4], str s, str t] w fun en w' => en = .returned (.bool (belowP p s t)) ∧ Below w.heap.size w w' := by
 obtain ⟨w1, hw1⟩ : ∃ w1, w1 = w.alloc (.cells #[.slice a0 k0 c0, .slice a1 k1 c1, .slice a2 k2 c2, .slice a3 k3 c3, .slice a4 k4 c4] 28) := ⟨_, rfl⟩
 have b1 := bnw hw1
 have nx := nnw hw1
 have hcat := Qhi (n0 := n0) (by have := b1.size; omega) (Qar.same _ _ _ _ _ hP b1.size (fun q _ hl => b1.block q hl)) hts
 obtain ⟨x_0, x_1, x_2, x_3, x_4, xf⟩ := cl5 nx
 have HW1 := hide hw1
 have HB := hide b1
 obtain ⟨bv, hbv⟩ : ∃ bv, belowP p s t = bv := ⟨_, rfl⟩
 rw [hbv]
 have HBV := hide hbv
 clear hw1 b1 nx hP hts hn0 hbv
 go_enter Try.func12, Try.ntmps12
 go_upto_region 1 with fail
 rw [← Qa HW1]
 go_wp2_with fail
 refine hcat.mono ?_
 clear hcat x_0 x_1 x_2 x_3 x_4 xf
 rintro en w2 ⟨c, rfl, hc, b2⟩
 have hb := Qea hc s t
 rw [Qa HBV] at hb
 have HB2 := hide ((Qa HB).trans (b2.mono (Qa HB).size))
 clear hc b2
 go_wp2_with fail
 refine hb.mono ?_
 clear hb
 rintro en w3 ⟨rfl, b3⟩
 have HE := hide ((Qa HB2).trans (b3.mono (Qa HB2).size))
 clear b3
 go_wp2_with fail
 go_ret
 exact ⟨rfl, Qa HE⟩
end
end
section
open Go.RowKit Go.Maps
theorem Qf {α : Type} {f : α → Bool} {xs : List α} {i : Nat} {x : α} (h : xs[i]? = some x) (h0 : (xs.take i).any f = false) : (xs.take (i + 1)).any f = f x := by
 rw [List.take_add_one, h, List.any_append, h0]
 simp
section
variable {n0 : Nat} {p : Pg} {c : CatP} {w : World}
theorem Qgw (h : Cs n0 p c w) (fs : List Fld) {a : Option Addr} {n cp : Nat} (hL : LsAt PF 2 (fun b => b < n0) w (.slice a n cp) fs) :
  Calls Try.prog 114 #[.pointer (some ⟨c.cb, 0, none⟩), .slice a n cp] w fun en w' => en = .returned (.bool (noneP p fs)) ∧ Below w.heap.size w w' := by
 have hcap := hL.cap rfl
 have hn : n = fs.length := by obtain ⟨_, _, e⟩ := hL.sl; cases e; rfl
 have H0 := hide (Ya h (Ya hL hn))
 clear h hL hn
 go_enter Try.func114, Try.ntmps114
 go_wp2_with fail
 go_loopw [9] (fun v wr => ∃ i : Nat, v = .int .i64 (i : Int) ∧ i ≤ n ∧ Hid (Below w.heap.size w wr ∧ ((fs.take i).any fun f => decide (tyNo p f.type = 0)) = false)) (fun v _ => n - (intOf v).toNat)
 case atStart => exact ⟨0, rfl, Nat.zero_le _, hide ⟨Below.refl _ _, rfl⟩⟩
 obtain ⟨i, rfl, hi, HI⟩ := hrel
 by_cases hlt : i < n
 ·
  obtain ⟨h, hL, hn⟩ := Qa H0
  obtain ⟨br, hany⟩ := Qa HI
  obtain ⟨f, hf⟩ : ∃ f, fs[i]? = some f := ⟨fs[i]'(by omega), List.getElem?_eq_getElem _⟩
  obtain ⟨gb, cap, cs, e1, hgb, hS, _, hcs, hc⟩ := (hL.later Qaz br).elem hf
  have hcs' : cs = [str f.name, str f.type] := hcs
  subst hcs'
  simp only [Value.slice.injEq] at e1
  obtain ⟨rfl, -, -⟩ := e1
  have y0 : wr.cell? ⟨gb, i * 2, none⟩ = some (str f.name) := hc 0 _ rfl
  have y1 : wr.cell? ⟨gb, i * 2 + 1, none⟩ = some (str f.type) := hc 1 _ rfl
  obtain ⟨w3, hw3⟩ : ∃ w3, w3 = wr.alloc (.cells #[str f.name, str f.type] 103) := ⟨_, rfl⟩
  have b3 := bnw hw3
  have n3 := nnw hw3
  obtain ⟨tb, htb⟩ : ∃ tb, wr.heap.size = tb := ⟨_, rfl⟩
  rw [htb] at n3
  have bw3 := br.trans (b3.mono br.size)
  have hth := Qiy (Ct.later h bw3) f.type
  obtain ⟨z_0, z_1, zf⟩ := cl2 n3
  have hnx := Qf hf hany
  have HW3 := hide (Ya hw3 htb)
  have H3 := hide (Ya bw3 (Ya hnx (Ya hf hn)))
  clear h hL hn br hany hf hgb hS hc hw3 b3 n3 htb bw3 hnx
  by_cases hz : tyNo p f.type = 0
  ·
   have hd : decide (tyNo p f.type ≠ 0) = false := by simp [hz]
   rw [hd] at hth
   go_upto_region 4 with fail
   rw [← (Qa HW3).1, (Qa HW3).2]
   go_wp2_with fail
   refine hth.mono ?_
   clear hth
   rintro en w4 ⟨rfl, rfl⟩
   go_wp2_with fail
   go_ret
   obtain ⟨bw3, hnx, hf, hn⟩ := Qa H3
   refine ⟨?_, bw3⟩
   have : noneP p fs = true := by
    unfold noneP
    rw [List.any_eq_true]
    exact ⟨f, List.mem_of_getElem? hf, by simp [hz]⟩
   rw [this]
   rfl
  have hd : decide (tyNo p f.type ≠ 0) = true := by simp [hz]
  rw [hd] at hth
  go_upto_region 4 with fail
  rw [← (Qa HW3).1, (Qa HW3).2]
  go_wp2_with fail
  refine hth.mono ?_
  clear hth
  rintro en w4 ⟨rfl, rfl⟩
  go_wp2_with fail
  go_roundw
  case rel => exact ⟨i + 1, by congr 1, by omega, hide ⟨(Qa H3).1, (Qa H3).2.1.trans (by simp [hz])⟩⟩
  case measure => simp [intOf]; omega
 have hix : i = n := by omega
 subst hix
 go_wp2_with fail
 go_ret
 obtain ⟨br, hany⟩ := Qa HI
 rw [(Qa H0).2.2, List.take_length] at hany
 refine ⟨?_, br⟩
 unfold noneP
 rw [hany]
 rfl
theorem Qgk (h : Cs n0 p c w) (xs : List Ctr) {a : Option Addr} {n cp : Nat} (hL : LsAt PC 2 (fun b => b < n0) w (.slice a n cp) xs) :
  Calls Try.prog 112 #[.pointer (some ⟨c.cb, 0, none⟩), .slice a n cp] w fun en w' => en = .returned (.bool (xs.any fun c => noneP p c.fields)) ∧ Below w.heap.size w w' := by
 have hcap := hL.cap rfl
 have hn : n = xs.length := by obtain ⟨_, _, e⟩ := hL.sl; cases e; rfl
 have H0 := hide (Ya h (Ya hL hn))
 clear h hL hn
 go_enter Try.func112, Try.ntmps112
 go_wp2_with fail
 go_loopw [9] (fun v wr => ∃ i : Nat, v = .int .i64 (i : Int) ∧ i ≤ n ∧ Hid (Below w.heap.size w wr ∧ ((xs.take i).any fun c => noneP p c.fields) = false)) (fun v _ => n - (intOf v).toNat)
 case atStart => exact ⟨0, rfl, Nat.zero_le _, hide ⟨Below.refl _ _, rfl⟩⟩
 obtain ⟨i, rfl, hi, HI⟩ := hrel
 by_cases hlt : i < n
 ·
  obtain ⟨h, hL, hn⟩ := Qa H0
  obtain ⟨br, hany⟩ := Qa HI
  obtain ⟨f, hf⟩ : ∃ f, xs[i]? = some f := ⟨xs[i]'(by omega), List.getElem?_eq_getElem _⟩
  obtain ⟨gb, cap, cs, e1, hgb, hS, _, hcs, hc⟩ := (hL.later Qcd br).elem hf
  obtain ⟨xa, xn, xc, rfl, hX⟩ := hcs
  simp only [Value.slice.injEq] at e1
  obtain ⟨rfl, -, -⟩ := e1
  have y0 : wr.cell? ⟨gb, i * 2, none⟩ = some (str f.name) := hc 0 _ rfl
  have y1 : wr.cell? ⟨gb, i * 2 + 1, none⟩ = some (.slice xa xn xc) := hc 1 _ rfl
  obtain ⟨w3, hw3⟩ : ∃ w3, w3 = wr.alloc (.cells #[str f.name, .slice xa xn xc] 120) := ⟨_, rfl⟩
  have b3 := bnw hw3
  have n3 := nnw hw3
  obtain ⟨tb, htb⟩ : ∃ tb, wr.heap.size = tb := ⟨_, rfl⟩
  rw [htb] at n3
  have bw3 := br.trans (b3.mono br.size)
  have hth := Qgw (Ct.later h bw3) f.fields (hX.later Qaz b3)
  obtain ⟨z_0, z_1, zf⟩ := cl2 n3
  have hnx := Qf hf hany
  have HW3 := hide (Ya hw3 htb)
  have H3 := hide (Ya bw3 (Ya hnx (Ya hf hn)))
  clear h hL hn br hany hf hgb hS hc hX hw3 b3 n3 htb bw3 hnx
  by_cases hz : noneP p f.fields = true
  ·
   rw [hz] at hth
   go_upto_region 4 with fail
   rw [← (Qa HW3).1, (Qa HW3).2]
   go_wp2_with fail
   refine hth.mono ?_
   clear hth
   rintro en w4 ⟨rfl, b4⟩
   have HB := hide b4
   clear b4
   go_wp2_with fail
   go_ret
   obtain ⟨bw3, hnx, hf, hn⟩ := Qa H3
   refine ⟨?_, bw3.trans ((Qa HB).mono bw3.size)⟩
   have : (xs.any fun c => noneP p c.fields) = true := by
    rw [List.any_eq_true]
    exact ⟨f, List.mem_of_getElem? hf, hz⟩
   rw [this]
   rfl
  have hz' : noneP p f.fields = false := by simpa using hz
  rw [hz'] at hth
  go_upto_region 4 with fail
  rw [← (Qa HW3).1, (Qa HW3).2]
  go_wp2_with fail
  refine hth.mono ?_
  clear hth
  rintro en w4 ⟨rfl, b4⟩
  have HB := hide b4
  clear b4
  go_wp2_with fail
  go_roundw
  case rel => exact ⟨i + 1, by congr 1, by omega, hide ⟨(Qa H3).1.trans ((Qa HB).mono (Qa H3).1.size), (Qa H3).2.1.trans hz'⟩⟩
  case measure => simp [intOf]; omega
 have hix : i = n := by omega
 subst hix
 go_wp2_with fail
 go_ret
 obtain ⟨br, hany⟩ := Qa HI
 rw [(Qa H0).2.2, List.take_length] at hany
 refine ⟨?_, br⟩
 rw [hany]
 rfl
end
end
section
open Go.RowKit Go.Maps
theorem Qhl {α : Type} {xs : List α} {i : Nat} {x : α} (h : xs[i]? = some x) : xs.drop i = x :: xs.drop (i + 1) := by
 obtain ⟨hi, e⟩ := List.getElem?_eq_some_iff.1 h
 rw [List.drop_eq_getElem_cons hi, e]
section
variable {S : Nat → Prop} {w : World}
theorem Qiz (fs : List Fld) {a : Option Addr} {n cp : Nat} (hL : LsAt PF 2 S w (.slice a n cp) fs) :
  Calls Try.prog 113 #[.slice a n cp] w fun en w' => en = .returned (.bool (twiceP fs [])) ∧ Below w.heap.size w w' := by
 have hcap := hL.cap rfl
 have hn : n = fs.length := by obtain ⟨_, _, e⟩ := hL.sl; cases e; rfl
 have hmk := Qjn mI w (n : Int)
 obtain ⟨w1, hw1⟩ : ∃ w1, w1 = w.alloc (.map #[] 0) := ⟨_, rfl⟩
 have b1 := bnw hw1
 have m1 : MpS w1 w.heap.size [] := by rw [hw1]; exact MpS.new w
 obtain ⟨mb, hmb⟩ : ∃ mb, w.heap.size = mb := ⟨_, rfl⟩
 rw [hmb] at m1 hmk
 rw [← hw1] at hmk
 have HMB := hide hmb
 have H1 := hide (show ∃ ms met, MpS w1 mb ms ∧ (∀ t, (asc ms t).isSome = decide (t ∈ met)) ∧ twiceP fs [] = twiceP (fs.drop 0) met ∧ Below w.heap.size w w1 from ⟨[], [], m1, fun t => by simp [asc_nil], rfl, b1⟩)
 have H0 := hide (Ya hL hn)
 clear hL hn hw1 b1 m1 hmb
 go_enter Try.func113, Try.ntmps113
 go_wp2_with fail
 clear hmk
 go_loopw [13] (fun v wr => ∃ i : Nat, v = .int .i64 (i : Int) ∧ i ≤ n ∧ Hid (∃ ms met, MpS wr mb ms ∧ (∀ t, (asc ms t).isSome = decide (t ∈ met)) ∧ twiceP fs [] = twiceP (fs.drop i) met ∧ Below w.heap.size w wr)) (fun v _ => n - (intOf v).toNat)
 case atStart => exact ⟨0, rfl, Nat.zero_le _, H1⟩
 obtain ⟨i, rfl, hi, HI⟩ := hrel
 by_cases hlt : i < n
 ·
  obtain ⟨hL, hn⟩ := Qa H0
  obtain ⟨ms, met, hm, hmm, htw, br⟩ := Qa HI
  obtain ⟨f, hf⟩ : ∃ f, fs[i]? = some f := ⟨fs[i]'(by omega), List.getElem?_eq_getElem _⟩
  obtain ⟨gb, cap, cs, e1, hgb, hS, _, hcs, hc⟩ := (hL.later Qaz br).elem hf
  have hcs' : cs = [str f.name, str f.type] := hcs
  subst hcs'
  simp only [Value.slice.injEq] at e1
  obtain ⟨rfl, -, -⟩ := e1
  have y0 : wr.cell? ⟨gb, i * 2, none⟩ = some (str f.name) := hc 0 _ rfl
  have y1 : wr.cell? ⟨gb, i * 2 + 1, none⟩ = some (str f.type) := hc 1 _ rfl
  obtain ⟨w3, hw3⟩ : ∃ w3, w3 = wr.alloc (.cells #[str f.name, str f.type] 103) := ⟨_, rfl⟩
  have b3 := bnw hw3
  have n3 := nnw hw3
  obtain ⟨tb, htb⟩ : ∃ tb, wr.heap.size = tb := ⟨_, rfl⟩
  rw [htb] at n3
  have bw3 := br.trans (b3.mono br.size)
  have hm3 := hm.keep (b3.block _ hm.lt)
  have hl := Qef uS mI zI w3 mb ms f.name hm3 true
  rw [if_pos rfl] at hl
  obtain ⟨z_0, z_1, zf⟩ := cl2 n3
  have hin := hmm f.name
  rw [Qhl hf, twiceP] at htw
  have HW3 := hide (Ya hw3 htb)
  cases hc2 : asc ms f.name with
  | some u =>
   rw [hc2] at hl hin
   simp only [Option.getD_some, Option.isSome_some] at hl hin
   have HE := hide (show twiceP fs [] = true ∧ Below w.heap.size w w3 from ⟨by rw [htw, ← hin]; rfl, bw3⟩)
   clear hL hn hm hmm htw br hf hgb hS hc hw3 b3 n3 htb bw3 hm3 hin hc2
   go_upto_region 5 with fail
   rw [← (Qa HW3).1, (Qa HW3).2]
   go_wp2_with fail
   go_ret
   refine ⟨?_, (Qa HE).2⟩
   rw [(Qa HE).1]
   rfl
  | none =>
   rw [hc2] at hl hin
   simp only [Option.getD_none, Option.isSome_none] at hl hin
   obtain ⟨w4, hr, hm4, hs4, ho4, ht4, hu4, hb4⟩ := Qoi uS mI w3 mb ms f.name (.int .i64 (i : Int)) hm3 hc2
   have hmb := Qa HMB
   obtain ⟨k_0, k_1, kf⟩ := cl2 ((hb4 tb (fun e => by have := hm.lt; omega)).trans n3)
   have HE := hide (show ∃ ms met, MpS w4 mb ms ∧ (∀ t, (asc ms t).isSome = decide (t ∈ met)) ∧ twiceP fs [] = twiceP (fs.drop (i + 1)) met ∧ Below w.heap.size w w4 from by
    refine ⟨_, f.name :: met, hm4, fun t => ?_, ?_, ⟨ho4.trans bw3.os, ht4.trans bw3.tape, hu4.trans bw3.output, by rw [hs4]; exact bw3.size, fun q hq => (hb4 q (by omega)).trans (bw3.block q hq)⟩⟩
    ·
     rw [Qcl, Qep]
     have hmt := hmm t
     by_cases e : f.name = t
     ·
      subst e
      rw [hc2]
      simp
     cases hq : asc ms t with
     | some u =>
      rw [hq] at hmt
      have : t ∈ met := by simpa using hmt.symm
      simp [this]
     | none =>
      rw [hq] at hmt
      have : t ∉ met := by simpa using hmt.symm
      simp [this, e, Ne.symm e]
    rw [htw, ← hin]
    rfl)
   clear hL hn hm hmm htw br hf hgb hS hc hw3 b3 n3 htb bw3 hm3 hin hc2 hm4 hs4 ho4 ht4 hu4 hb4 hmb
   go_upto_region 5 with fail
   rw [← (Qa HW3).1, (Qa HW3).2]
   go_wp2_with fail
   go_roundw
   case rel => exact ⟨i + 1, by congr 1, by omega, HE⟩
   case measure => simp [intOf]; omega
 have hix : i = n := by omega
 subst hix
 go_wp2_with fail
 go_ret
 obtain ⟨ms, met, hm, hmm, htw, br⟩ := Qa HI
 rw [(Qa H0).2, List.drop_length] at htw
 refine ⟨?_, br⟩
 rw [htw]
 rfl
end
end
end Go.Proofs.Ytfmbpaoapjmdnaa
