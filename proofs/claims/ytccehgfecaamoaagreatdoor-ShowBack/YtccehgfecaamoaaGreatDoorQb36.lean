/- The document's SameClause, places aside. -/
import Derived.Test.YtccehgfecaamoaaGreatDoorQb35
import Derived.Test.YtccehgfecaamoaaGreatDoorQb17
import Derived.Deep.Cut
import Derived.Deep.CutRange
set_option maxRecDepth 100000
set_option maxHeartbeats 32000000
namespace Go.Proofs.YtccehgfecaamoaaGreatDoor
section
open Go.RowKit Go.Maps
theorem Jdd {w : World} {b : Nat} {old new : Array Value} (hb : w.heap[b]? = some (.cells old 69 (0, 0))) (h0 : old.size = 16) (hn : new.size = 16) (h1 : new.all (·.oneCell') = true) : (qlStore (.pointer (some ⟨b, 0, none⟩)) (.agg new)).run Tryz.prog w = .ok () (w.setRow b new) := by
 unfold qlStore
 simp only [Instr.storeAt, Instr.sureAddr, Sem.run_bind, Sem.run_pure, Result.andThen_ok]
 exact run_storeVar_row w b 69 69 old new hb (by rw [hn]; exact Qpm) (by rw [h0, hn]) h1
abbrev litZ : Obj := .cells #[.int .i64 0, .string ⟨#[]⟩, .slice none 0 0, .int .i64 0, .string ⟨#[]⟩, .int .i64 0, .int .i64 0, .string ⟨#[]⟩, .slice none 0 0, .int .i64 0, .int .i64 0, .int .i64 0, .string ⟨#[]⟩, .slice none 0 0, .int .i64 0, .int .i64 0] 69
theorem lit_two {w : World} {xs ys : Array Value} (hx : xs.size = 16) (hy : ys.size = 16) (h1 : xs.all (·.oneCell') = true) (h2 : ys.all (·.oneCell') = true) (p8 p9 : Nat) (hp : (p8 = w.heap.size ∧ p9 = w.heap.size + 1) ∨ (p8 = w.heap.size + 1 ∧ p9 = w.heap.size)) :
  ∃ V1 V2, (qlStore (.pointer (some ⟨p8, 0, none⟩)) (.agg xs)).run Tryz.prog ((w.alloc litZ).alloc litZ).drew = .ok () V1 ∧ (qlStore (.pointer (some ⟨p9, 0, none⟩)) (.agg ys)).run Tryz.prog V1 = .ok () V2 ∧ Below w.heap.size w V1 ∧ Below w.heap.size w V2 ∧ V2.heap[p8]? = some (.cells xs 69 (0, 0)) ∧ V2.heap[p9]? = some (.cells ys 69 (0, 0)) := by
 have a1 : ((w.alloc litZ).alloc litZ).drew.heap[w.heap.size]? = some litZ := by
  show ((w.alloc litZ).alloc litZ).heap[w.heap.size]? = some litZ
  rw [Below.heap_alloc _ _ _ (by simp)]; exact heap_alloc_new w _
 have a2 : ((w.alloc litZ).alloc litZ).drew.heap[w.heap.size + 1]? = some litZ := by
  show ((w.alloc litZ).alloc litZ).heap[w.heap.size + 1]? = some litZ
  have := heap_alloc_new (w.alloc litZ) litZ
  rwa [show (w.alloc litZ).heap.size = w.heap.size + 1 by simp] at this
 have b0 : Below w.heap.size w ((w.alloc litZ).alloc litZ).drew := (((Below.refl _ w).alloc (Nat.le_refl _) _).alloc (by simp) _).drew
 obtain ⟨V, hV⟩ : ∃ V, V = ((w.alloc litZ).alloc litZ).drew := ⟨_, rfl⟩
 rw [← hV] at a1 a2 b0 ⊢
 have m8 : V.heap[p8]? = some litZ := by rcases hp with ⟨e, _⟩ | ⟨e, _⟩ <;> rw [e] <;> assumption
 have m9 : V.heap[p9]? = some litZ := by rcases hp with ⟨_, e⟩ | ⟨_, e⟩ <;> rw [e] <;> assumption
 have hne : p9 ≠ p8 := by omega
 have g8 : w.heap.size ≤ p8 := by omega
 have g9 : w.heap.size ≤ p9 := by omega
 have bs : ∀ (U : World) (p : Nat) (cs : Array Value), Below w.heap.size w U → w.heap.size ≤ p → Below w.heap.size w (U.setRow p cs) := fun U p cs hU hp => ⟨hU.os, hU.tape, hU.output, by rw [size_setRow]; exact hU.size, fun k hk => by rw [setRow_other U p k cs (by omega)]; exact hU.block k hk⟩
 have n9 : (V.setRow p8 xs).heap[p9]? = some litZ := by rw [setRow_other _ _ _ _ hne]; exact m9
 have n8 : (V.setRow p8 xs).heap[p8]? = some (.cells xs 69 (0, 0)) := setRow_heap _ _ _ _ _ _ m8
 exact ⟨V.setRow p8 xs, (V.setRow p8 xs).setRow p9 ys, Jdd m8 rfl hx h1, Jdd n9 rfl hy h2, bs _ _ _ b0 g8, bs _ _ _ (bs _ _ _ b0 g8) g9, by rw [setRow_other _ _ _ _ (Ne.symm hne)]; exact n8, setRow_heap _ _ _ _ _ _ n9⟩
attribute [local go_sem ↓] Qmz Qka
theorem Qis {x y : Cls} {S : Nat → Prop} {w : World} {cs ds : List Value} (hx : PCl S w cs x) (hy : PCl S w ds y) :
  Calls Tryz.prog 21 #[.agg cs.toArray, .agg ds.toArray, .bool false] w fun en w' => en = .returned (.bool (eqCl x y)) ∧ Below w.heap.size w w' := by
 obtain ⟨xa, xn, xc, ba, bn, bc, rfl, h1, h2⟩ := hx
 obtain ⟨ya, yn, yc, da, dn, dc, rfl, g1, g2⟩ := hy
 have lx : bn = x.body.length ∧ bn ≤ bc ∧ bc ≤ maxLen := by
  obtain ⟨_, _, _, e, k1, k2, _⟩ := h2
  cases e
  exact ⟨rfl, k1, k2⟩
 have ly : dn = y.body.length ∧ dn ≤ dc ∧ dc ≤ maxLen := by
  obtain ⟨_, _, _, e, k1, k2, _⟩ := g2
  cases e
  exact ⟨rfl, k1, k2⟩
 unfold maxLen at lx ly
 obtain ⟨lx, lx1, lx2⟩ := lx
 obtain ⟨ly, ly1, ly2⟩ := ly
 obtain ⟨W0, hW0⟩ : ∃ W0, W0 = (w.alloc (.cells #[str x.head.rel, .slice xa xn xc, .int .i64 x.head.at_, .slice ba bn bc, .int .i64 x.at_] 64)).alloc (.cells #[str y.head.rel, .slice ya yn yc, .int .i64 y.head.at_, .slice da dn dc, .int .i64 y.at_] 64) := ⟨_, rfl⟩
 have B0 : Below w.heap.size w W0 := by rw [hW0]; exact ((Below.refl _ w).alloc (Nat.le_refl _) _).alloc (by simp) _
 have na : W0.heap[w.heap.size]? = some (.cells #[str x.head.rel, .slice xa xn xc, .int .i64 x.head.at_, .slice ba bn bc, .int .i64 x.at_] 64 (0, 0)) := by rw [hW0, Below.heap_alloc _ _ _ (by simp)]; exact heap_alloc_new w _
 have nb : W0.heap[w.heap.size + 1]? = some (.cells #[str y.head.rel, .slice ya yn yc, .int .i64 y.head.at_, .slice da dn dc, .int .i64 y.at_] 64 (0, 0)) := by
  rw [hW0]
  have := heap_alloc_new (w.alloc (.cells #[str x.head.rel, .slice xa xn xc, .int .i64 x.head.at_, .slice ba bn bc, .int .i64 x.at_] 64)) (.cells #[str y.head.rel, .slice ya yn yc, .int .i64 y.head.at_, .slice da dn dc, .int .i64 y.at_] 64)
  rw [show (w.alloc (.cells #[str x.head.rel, .slice xa xn xc, .int .i64 x.head.at_, .slice ba bn bc, .int .i64 x.at_] 64)).heap.size = w.heap.size + 1 by simp] at this
  exact this
 have hcl := Qjv (h1.later Qae B0) (g1.later Qae B0)
 have HB0 := hide (Ya B0 (Ya na nb))
 have HW0 := hide hW0
 have HG := hide (Ya h2 g2)
 have HL := hide (Ya lx ly)
 obtain ⟨s0, hs0⟩ : ∃ s0, s0 = eqA x.head y.head := ⟨_, rfl⟩
 rw [← hs0] at hcl
 have HS := hide hs0
 clear hs0 B0 na nb hW0 h1 h2 g1 g2 lx ly
 cases s0
 ·
  go_enter Tryz.func21, Tryz.ntmps21
  go_wp2_with fail
  rw [← Qa HW0]
  refine hcl.mono ?_
  clear hcl
  rintro en w1 ⟨rfl, b1⟩
  have B1 := hide b1
  clear b1 HW0
  go_wp2_with fail
  go_ret
  exact ⟨by unfold eqCl; rw [← Qa HS]; rfl, (Qa HB0).1.trans ((Qa B1).mono (Qa HB0).1.size)⟩
 go_enter Tryz.func21, Tryz.ntmps21
 go_wp2_with fail
 rw [← Qa HW0]
 clear HW0
 refine hcl.mono ?_
 clear hcl
 rintro en w1 ⟨rfl, b1⟩
 obtain ⟨kx, hkx⟩ : ∃ kx, w.heap.size = kx := ⟨_, rfl⟩
 obtain ⟨ky, hky⟩ : ∃ ky, w.heap.size + 1 = ky := ⟨_, rfl⟩
 obtain ⟨bb, na, nb⟩ := Qa HB0
 rw [hkx] at na
 rw [hky] at nb
 have na1 := (b1.block _ (Qag na)).trans na
 have nb1 := (b1.block _ (Qag nb)).trans nb
 have BB1 := hide (Ya (bb.trans (b1.mono bb.size)) (Ya na1 nb1))
 obtain ⟨x_0, x_1, x_2, x_3, x_4, xf⟩ := cl5 na1
 obtain ⟨y_0, y_1, y_2, y_3, y_4, yf⟩ := cl5 nb1
 rw [hky, hkx]
 have HKX := hide hkx
 clear bb na nb b1 na1 nb1 HB0 hkx hky
 have hcl := Qcd x.at_ y.at_ w1
 go_wp2_with fail
 refine hcl.mono ?_
 clear hcl x_0 x_1 x_2 x_3 x_4 xf y_0 y_1 y_2 y_3 y_4 yf
 rintro en w2 ⟨rfl, b1⟩
 obtain ⟨bb, na, nb⟩ := Qa BB1
 have na1 := (b1.block _ (Qag na)).trans na
 have nb1 := (b1.block _ (Qag nb)).trans nb
 have BB2 := hide (Ya (bb.trans (b1.mono bb.size)) (Ya na1 nb1))
 obtain ⟨x_0, x_1, x_2, x_3, x_4, xf⟩ := cl5 na1
 obtain ⟨y_0, y_1, y_2, y_3, y_4, yf⟩ := cl5 nb1
 clear bb na nb b1 na1 nb1 BB1
 by_cases hlen : bn = dn
 ·
  subst hlen
  go_wp2_with fail
  clear x_0 x_1 x_2 x_3 x_4 xf y_0 y_1 y_2 y_3 y_4 yf
  go_loopw [7] (fun i wr => ∃ j : Nat, i = .int .i64 (j : Int) ∧ j ≤ bn ∧ Hid (Below w2.heap.size w2 wr ∧ ∀ q u v, q < j → x.body[q]? = some u → y.body[q]? = some v → eqLt u v = true)) (fun i _ => bn - (intOf i).toNat)
  case atStart => exact ⟨0, rfl, Nat.zero_le _, hide ⟨Below.refl _ _, fun q _ _ hq => absurd hq (Nat.not_lt_zero _)⟩⟩
  obtain ⟨j, rfl, hj, HB⟩ := hrel
  obtain ⟨bw, hall⟩ := Qa HB
  obtain ⟨bb, na, nb⟩ := Qa BB2
  have na1 := (bw.block _ (Qag na)).trans na
  have nb1 := (bw.block _ (Qag nb)).trans nb
  obtain ⟨x_0, x_1, x_2, x_3, x_4, xf⟩ := cl5 na1
  obtain ⟨y_0, y_1, y_2, y_3, y_4, yf⟩ := cl5 nb1
  by_cases hlt : j < bn
  ·
   obtain ⟨lx, ly⟩ := Qa HL
   obtain ⟨h2, g2⟩ := Qa HG
   have bt : Below w.heap.size w wr := bb.trans (bw.mono bb.size)
   obtain ⟨u, hu⟩ : ∃ u, x.body[j]? = some u := ⟨x.body[j]'(by omega), List.getElem?_eq_getElem _⟩
   obtain ⟨v, hv⟩ : ∃ v, y.body[j]? = some v := ⟨y.body[j]'(by omega), List.getElem?_eq_getElem _⟩
   obtain ⟨b1, q1, cs1, ev1, hb1, _, hl1, hp1, hc1'⟩ := (h2.later Qbt bt).elem hu
   obtain ⟨b2, q2, cs2, ev2, hb2, _, hl2, hp2, hc2'⟩ := (g2.later Qbt bt).elem hv
   have o1 := Qgt hp1
   have o2 := Qgt hp2
   obtain ⟨uaa, uan, uac, uxa, uxn, uxc, uya, uyn, uyc, rfl, k1, k2, k3⟩ := hp1
   obtain ⟨vaa, van, vac, vxa, vxn, vxc, vya, vyn, vyc, rfl, m1, m2, m3⟩ := hp2
   simp only [Value.slice.injEq] at ev1 ev2
   obtain ⟨rfl, -, -⟩ := ev1
   obtain ⟨rfl, -, -⟩ := ev2
   have HX := hide (Ya k1 (Ya k2 (Ya k3 (Ya m1 (Ya m2 m3)))))
   have HC : Hid (∀ w', Below wr.heap.size wr w' → w'.heap[kx]? = some (.cells #[str x.head.rel, .slice xa xn xc, .int .i64 x.head.at_, .slice (some ⟨b1, 0, none⟩) bn bc, .int .i64 x.at_] 64 (0, 0)) ∧ w'.heap[ky]? = some (.cells #[str y.head.rel, .slice ya yn yc, .int .i64 y.head.at_, .slice (some ⟨b2, 0, none⟩) bn dc, .int .i64 y.at_] 64 (0, 0)) ∧ (∀ q c, ([.int .i64 u.kind, str u.atom.rel, .slice uaa uan uac, .int .i64 u.atom.at_, str u.op, .int .i64 u.l.kind, .int .i64 u.l.num, str u.l.txt, .slice uxa uxn uxc, .int .i64 u.l.at_, .int .i64 u.r.kind, .int .i64 u.r.num, str u.r.txt, .slice uya uyn uyc, .int .i64 u.r.at_, .int .i64 u.at_] : List Value)[q]? = some c → w'.cell? ⟨b1, j * 16 + q, none⟩ = some c) ∧ (∀ q c, ([.int .i64 v.kind, str v.atom.rel, .slice vaa van vac, .int .i64 v.atom.at_, str v.op, .int .i64 v.l.kind, .int .i64 v.l.num, str v.l.txt, .slice vxa vxn vxc, .int .i64 v.l.at_, .int .i64 v.r.kind, .int .i64 v.r.num, str v.r.txt, .slice vya vyn vyc, .int .i64 v.r.at_, .int .i64 v.at_] : List Value)[q]? = some c → w'.cell? ⟨b2, j * 16 + q, none⟩ = some c)) := fun w' bb => ⟨(bb.block _ (Qag na1)).trans na1, (bb.block _ (Qag nb1)).trans nb1, fun q c hq => by rw [bb.cell (p := ⟨b1, _, none⟩) hb1]; exact hc1' q c hq, fun q c hq => by rw [bb.cell (p := ⟨b2, _, none⟩) hb2]; exact hc2' q c hq⟩
   have HT := hide (fun (p8 p9 : Nat) => lit_two (w := wr) (xs := #[.int .i64 u.kind, str u.atom.rel, .slice uaa uan uac, .int .i64 u.atom.at_, str u.op, .int .i64 u.l.kind, .int .i64 u.l.num, str u.l.txt, .slice uxa uxn uxc, .int .i64 u.l.at_, .int .i64 u.r.kind, .int .i64 u.r.num, str u.r.txt, .slice uya uyn uyc, .int .i64 u.r.at_, .int .i64 u.at_]) (ys := #[.int .i64 v.kind, str v.atom.rel, .slice vaa van vac, .int .i64 v.atom.at_, str v.op, .int .i64 v.l.kind, .int .i64 v.l.num, str v.l.txt, .slice vxa vxn vxc, .int .i64 v.l.at_, .int .i64 v.r.kind, .int .i64 v.r.num, str v.r.txt, .slice vya vyn vyc, .int .i64 v.r.at_, .int .i64 v.at_]) rfl rfl (by simpa using o1) (by simpa using o2) p8 p9)
   have HF := hide (Ya hu (Ya hv (Ya hall bw)))
   clear hall bw bb na nb na1 nb1 lx ly h2 g2 bt hu hv hb1 hb2 hl1 hl2 hc1' hc2' o1 o2 k1 k2 k3 m1 m2 m3 HB
   go_wp2_with fail
   clear x_0 x_1 x_2 x_3 x_4 xf y_0 y_1 y_2 y_3 y_4 yf
   go_cut [8, 9] from 35 to 99 (fun v8 v9 wc => ∃ p8 p9, v8 = .pointer (some ⟨p8, 0, none⟩) ∧ v9 = .pointer (some ⟨p9, 0, none⟩) ∧ wc.heap[p8]? = some (.cells #[.int .i64 u.kind, str u.atom.rel, .slice uaa uan uac, .int .i64 u.atom.at_, str u.op, .int .i64 u.l.kind, .int .i64 u.l.num, str u.l.txt, .slice uxa uxn uxc, .int .i64 u.l.at_, .int .i64 u.r.kind, .int .i64 u.r.num, str u.r.txt, .slice uya uyn uyc, .int .i64 u.r.at_, .int .i64 u.at_] 69 (0, 0)) ∧ wc.heap[p9]? = some (.cells #[.int .i64 v.kind, str v.atom.rel, .slice vaa van vac, .int .i64 v.atom.at_, str v.op, .int .i64 v.l.kind, .int .i64 v.l.num, str v.l.txt, .slice vxa vxn vxc, .int .i64 v.l.at_, .int .i64 v.r.kind, .int .i64 v.r.num, str v.r.txt, .slice vya vyn vyc, .int .i64 v.r.at_, .int .i64 v.at_] 69 (0, 0)) ∧ Below wr.heap.size wr wc)
   case first =>
    refine Qfy (m := 13) (ml := [(0, 1), (1, 1), (2, 1), (3, 1), (4, 1), (5, 1), (6, 1), (7, 1), (8, 1), (9, 1), (10, 14), (12, 0), (13, 0)]) (fun _ w' => w'.heap[kx]? = some (.cells #[str x.head.rel, .slice xa xn xc, .int .i64 x.head.at_, .slice (some ⟨b1, 0, none⟩) bn bc, .int .i64 x.at_] 64 (0, 0)) ∧ w'.heap[ky]? = some (.cells #[str y.head.rel, .slice ya yn yc, .int .i64 y.head.at_, .slice (some ⟨b2, 0, none⟩) bn dc, .int .i64 y.at_] 64 (0, 0)) ∧ (∀ q c, ([.int .i64 u.kind, str u.atom.rel, .slice uaa uan uac, .int .i64 u.atom.at_, str u.op, .int .i64 u.l.kind, .int .i64 u.l.num, str u.l.txt, .slice uxa uxn uxc, .int .i64 u.l.at_, .int .i64 u.r.kind, .int .i64 u.r.num, str u.r.txt, .slice uya uyn uyc, .int .i64 u.r.at_, .int .i64 u.at_] : List Value)[q]? = some c → w'.cell? ⟨b1, j * 16 + q, none⟩ = some c) ∧ (∀ q c, ([.int .i64 v.kind, str v.atom.rel, .slice vaa van vac, .int .i64 v.atom.at_, str v.op, .int .i64 v.l.kind, .int .i64 v.l.num, str v.l.txt, .slice vxa vxn vxc, .int .i64 v.l.at_, .int .i64 v.r.kind, .int .i64 v.r.num, str v.r.txt, .slice vya vyn vyc, .int .i64 v.r.at_, .int .i64 v.at_] : List Value)[q]? = some c → w'.cell? ⟨b2, j * 16 + q, none⟩ = some c)) mixedO (by kernel_rfl) rfl (by rfl) (by kernel_rfl) (fun c a d v w h => by cases d <;> exact h) (fun PP PQ hPP hPQ => ?_)
    refine Qap (v := ?_) rfl (by kernel_rfl) (fun f w' hw => ?_) ?_
    rotate_left
    · (go_simp <;> rfl)
    refine Qap (v := ?_) rfl (by kernel_rfl) (fun f w' hw => ?_) ?_
    rotate_left
    · (obtain ⟨h_x, h_y, h_1, h_2⟩ := hw; obtain ⟨x_0, x_1, x_2, x_3, x_4, xf⟩ := cl5 h_x; obtain ⟨y_0, y_1, y_2, y_3, y_4, yf⟩ := cl5 h_y; go_simp <;> rfl)
    iterate 2 (refine Qap (v := ?_) rfl (by kernel_rfl) (fun f w' hw => ?_) ?_; rotate_left; · (go_simp <;> rfl))
    refine Qap (v := ?_) rfl (by kernel_rfl) (fun f w' hw => ?_) ?_
    rotate_left
    · (have L := Qgv (w := w') (fun q c hq => hw.2.2.1 q c hq); go_simp <;> rfl)
    refine Qap (v := ?_) rfl (by kernel_rfl) (fun f w' hw => ?_) ?_
    rotate_left
    · (go_simp <;> rfl)
    refine Qap (v := ?_) rfl (by kernel_rfl) (fun f w' hw => ?_) ?_
    rotate_left
    · (obtain ⟨h_x, h_y, h_1, h_2⟩ := hw; obtain ⟨x_0, x_1, x_2, x_3, x_4, xf⟩ := cl5 h_x; obtain ⟨y_0, y_1, y_2, y_3, y_4, yf⟩ := cl5 h_y; go_simp <;> rfl)
    iterate 2 (refine Qap (v := ?_) rfl (by kernel_rfl) (fun f w' hw => ?_) ?_; rotate_left; · (go_simp <;> rfl))
    refine Qap (v := ?_) rfl (by kernel_rfl) (fun f w' hw => ?_) ?_
    rotate_left
    · (have L := Qgv (w := w') (fun q c hq => hw.2.2.2 q c hq); go_simp <;> rfl)
    refine Qek rfl rfl (Qa HC _ ((Below.refl wr.heap.size wr).drew)) (fun K hK => ?_) (fun K hK => ?_)
    ·
     go_simp
     refine hK _ _ (Qa HC _ (by first | exact ((Below.refl wr.heap.size wr).alloc (Nat.le_refl _) _).drew | exact ((Below.refl wr.heap.size wr).drew).alloc (Nat.le_refl _) _)) (fun K2 hK2 => ?_)
     clear hK K
     go_simp
     refine hK2 _ _ ?_
     clear hK2 K2
     obtain ⟨V1, V2, r1, r2, c1, c2, n8, n9⟩ := Qa HT (wr.heap.size) (wr.heap.size + 1) (.inl ⟨rfl, rfl⟩)
     have HN := hide (Ya c1 (Ya c2 (Ya n8 n9)))
     clear c1 c2 n8 n9 HT
     refine Qck rfl (Qa HC _ (by first | exact (((Below.refl wr.heap.size wr).alloc (Nat.le_refl _) _).alloc (by simp) _).drew | exact (((Below.refl wr.heap.size wr).drew).alloc (Nat.le_refl _) _).alloc (by simp) _)) (fun K hK => ?_)
     go_simp
     refine hK _ _ ?_
     clear hK K r1
     refine Qck rfl (Qa HC _ (Qa HN).1) (fun K hK => ?_)
     go_simp
     refine hK _ _ ?_
     clear hK K r2
     refine Qdg (Qa HC _ (Qa HN).2.1) (hPP _ _ ?_)
     clear hPP PP hPQ PQ
     go_wp2_with fail
     go_meet
     exact ⟨_, _, rfl, rfl, (Qa HN).2.2.1, (Qa HN).2.2.2, (Qa HN).2.1⟩
    go_simp
    refine hK _ _ (Qa HC _ (by first | exact ((Below.refl wr.heap.size wr).alloc (Nat.le_refl _) _).drew | exact ((Below.refl wr.heap.size wr).drew).alloc (Nat.le_refl _) _)) (fun K2 hK2 => ?_)
    clear hK K
    go_simp
    refine hK2 _ _ ?_
    clear hK2 K2
    obtain ⟨V1, V2, r1, r2, c1, c2, n8, n9⟩ := Qa HT (wr.heap.size + 1) (wr.heap.size) (.inr ⟨rfl, rfl⟩)
    have HN := hide (Ya c1 (Ya c2 (Ya n8 n9)))
    clear c1 c2 n8 n9 HT
    refine Qck rfl (Qa HC _ (by first | exact (((Below.refl wr.heap.size wr).alloc (Nat.le_refl _) _).alloc (by simp) _).drew | exact (((Below.refl wr.heap.size wr).drew).alloc (Nat.le_refl _) _).alloc (by simp) _)) (fun K hK => ?_)
    go_simp
    refine hK _ _ ?_
    clear hK K r1
    refine Qck rfl (Qa HC _ (Qa HN).1) (fun K hK => ?_)
    go_simp
    refine hK _ _ ?_
    clear hK K r2
    refine Qdg (Qa HC _ (Qa HN).2.1) (hPP _ _ ?_)
    clear hPP PP hPQ PQ
    go_wp2_with fail
    go_meet
    exact ⟨_, _, rfl, rfl, (Qa HN).2.2.1, (Qa HN).2.2.2, (Qa HN).2.1⟩
   obtain ⟨p8, p9, rfl, rfl, n8, n9, bc1⟩ := hcut
   obtain ⟨x_0, x_1, x_2, x_3, x_4, x_5, x_6, x_7, x_8, x_9, x_10, x_11, x_12, x_13, x_14, x_15, xf⟩ := cl16 n8
   obtain ⟨y_0, y_1, y_2, y_3, y_4, y_5, y_6, y_7, y_8, y_9, y_10, y_11, y_12, y_13, y_14, y_15, yf⟩ := cl16 n9
   have D0 := hide (Ya bc1 (Ya n8 n9))
   clear n8 n9 bc1
   by_cases e0 : u.kind = v.kind
   ·
    have g0 : (u.kind == v.kind) = true := by simpa using e0
    have E0 := hide e0
    clear e0
    by_cases e1 : u.op = v.op
    ·
     have g1 : (u.op == v.op) = true := by simpa using e1
     have E1 := hide e1
     clear e1
     have hcl := Qcd u.at_ v.at_ wc
     go_wp2_with fail
     refine hcl.mono ?_
     clear hcl
     rintro en v1 ⟨rfl, b1⟩
     have n8 := (b1.block _ (Qag (Qa D0).2.1)).trans (Qa D0).2.1
     have n9 := (b1.block _ (Qag (Qa D0).2.2)).trans (Qa D0).2.2
     have D1 := hide (Ya ((Qa D0).1.trans (b1.mono (Qa D0).1.size)) (Ya n8 n9))
     clear x_0 x_1 x_2 x_3 x_4 x_5 x_6 x_7 x_8 x_9 x_10 x_11 x_12 x_13 x_14 x_15 xf y_0 y_1 y_2 y_3 y_4 y_5 y_6 y_7 y_8 y_9 y_10 y_11 y_12 y_13 y_14 y_15 yf
     obtain ⟨x_0, x_1, x_2, x_3, x_4, x_5, x_6, x_7, x_8, x_9, x_10, x_11, x_12, x_13, x_14, x_15, xf⟩ := cl16 n8
     obtain ⟨y_0, y_1, y_2, y_3, y_4, y_5, y_6, y_7, y_8, y_9, y_10, y_11, y_12, y_13, y_14, y_15, yf⟩ := cl16 n9
     clear n8 n9 b1
     have hcl := Qjv ((Qa HX).1.later Qae (Qa D1).1) ((Qa HX).2.2.2.1.later Qae (Qa D1).1)
     obtain ⟨s3, hs3⟩ : ∃ s3, s3 = eqA u.atom v.atom := ⟨_, rfl⟩
     rw [← hs3] at hcl
     have S3 := hide hs3.symm
     clear hs3
     go_wp2_with fail
     refine hcl.mono ?_
     clear hcl
     rintro en v2 ⟨rfl, b2⟩
     have n8 := (b2.block _ (Qag (Qa D1).2.1)).trans (Qa D1).2.1
     have n9 := (b2.block _ (Qag (Qa D1).2.2)).trans (Qa D1).2.2
     have D2 := hide (Ya ((Qa D1).1.trans (b2.mono (Qa D1).1.size)) (Ya n8 n9))
     clear x_0 x_1 x_2 x_3 x_4 x_5 x_6 x_7 x_8 x_9 x_10 x_11 x_12 x_13 x_14 x_15 xf y_0 y_1 y_2 y_3 y_4 y_5 y_6 y_7 y_8 y_9 y_10 y_11 y_12 y_13 y_14 y_15 yf
     obtain ⟨x_0, x_1, x_2, x_3, x_4, x_5, x_6, x_7, x_8, x_9, x_10, x_11, x_12, x_13, x_14, x_15, xf⟩ := cl16 n8
     obtain ⟨y_0, y_1, y_2, y_3, y_4, y_5, y_6, y_7, y_8, y_9, y_10, y_11, y_12, y_13, y_14, y_15, yf⟩ := cl16 n9
     clear n8 n9 b2
     cases s3
     ·
      go_wp2_with fail
      go_ret
      obtain ⟨hu, hv, hall, bw⟩ := Qa HF
      obtain ⟨bb, _, _⟩ := Qa BB2
      exact ⟨by unfold eqCl; rw [Qai hu hv (show eqLt u v = false by unfold eqLt; simp [Qa E0, Qa E1, Qa S3]), Bool.and_false]; try rfl, bb.trans ((bw.trans ((Qa D2).1.mono bw.size)).mono bb.size)⟩
     have hcl := Qfp _ _ S _ _ _ _ _ _ _ _ _ _ _ (Qae.same _ _ _ _ _ (Qa HX).2.1 (Qa D2).1.size (fun b _ hl => (Qa D2).1.block b hl)) (Qae.same _ _ _ _ _ (Qa HX).2.2.2.2.1 (Qa D2).1.size (fun b _ hl => (Qa D2).1.block b hl))
     obtain ⟨s4, hs4⟩ : ∃ s4, s4 = eqE u.l v.l := ⟨_, rfl⟩
     rw [← hs4] at hcl
     have S4 := hide hs4.symm
     clear hs4
     go_wp2_with fail
     refine hcl.mono ?_
     clear hcl
     rintro en v3 ⟨rfl, b3⟩
     have n8 := (b3.block _ (Qag (Qa D2).2.1)).trans (Qa D2).2.1
     have n9 := (b3.block _ (Qag (Qa D2).2.2)).trans (Qa D2).2.2
     have D3 := hide (Ya ((Qa D2).1.trans (b3.mono (Qa D2).1.size)) (Ya n8 n9))
     clear x_0 x_1 x_2 x_3 x_4 x_5 x_6 x_7 x_8 x_9 x_10 x_11 x_12 x_13 x_14 x_15 xf y_0 y_1 y_2 y_3 y_4 y_5 y_6 y_7 y_8 y_9 y_10 y_11 y_12 y_13 y_14 y_15 yf
     obtain ⟨x_0, x_1, x_2, x_3, x_4, x_5, x_6, x_7, x_8, x_9, x_10, x_11, x_12, x_13, x_14, x_15, xf⟩ := cl16 n8
     obtain ⟨y_0, y_1, y_2, y_3, y_4, y_5, y_6, y_7, y_8, y_9, y_10, y_11, y_12, y_13, y_14, y_15, yf⟩ := cl16 n9
     clear n8 n9 b3
     cases s4
     ·
      go_wp2_with fail
      go_ret
      obtain ⟨hu, hv, hall, bw⟩ := Qa HF
      obtain ⟨bb, _, _⟩ := Qa BB2
      exact ⟨by unfold eqCl; rw [Qai hu hv (show eqLt u v = false by unfold eqLt; simp [Qa E0, Qa E1, Qa S3, Qa S4]), Bool.and_false]; try rfl, bb.trans ((bw.trans ((Qa D3).1.mono bw.size)).mono bb.size)⟩
     have hcl := Qfp _ _ S _ _ _ _ _ _ _ _ _ _ _ (Qae.same _ _ _ _ _ (Qa HX).2.2.1 (Qa D3).1.size (fun b _ hl => (Qa D3).1.block b hl)) (Qae.same _ _ _ _ _ (Qa HX).2.2.2.2.2 (Qa D3).1.size (fun b _ hl => (Qa D3).1.block b hl))
     obtain ⟨s5, hs5⟩ : ∃ s5, s5 = eqE u.r v.r := ⟨_, rfl⟩
     rw [← hs5] at hcl
     have S5 := hide hs5.symm
     clear hs5
     go_wp2_with fail
     refine hcl.mono ?_
     clear hcl
     rintro en v4 ⟨rfl, b4⟩
     have n8 := (b4.block _ (Qag (Qa D3).2.1)).trans (Qa D3).2.1
     have n9 := (b4.block _ (Qag (Qa D3).2.2)).trans (Qa D3).2.2
     have D4 := hide (Ya ((Qa D3).1.trans (b4.mono (Qa D3).1.size)) (Ya n8 n9))
     clear x_0 x_1 x_2 x_3 x_4 x_5 x_6 x_7 x_8 x_9 x_10 x_11 x_12 x_13 x_14 x_15 xf y_0 y_1 y_2 y_3 y_4 y_5 y_6 y_7 y_8 y_9 y_10 y_11 y_12 y_13 y_14 y_15 yf
     obtain ⟨x_0, x_1, x_2, x_3, x_4, x_5, x_6, x_7, x_8, x_9, x_10, x_11, x_12, x_13, x_14, x_15, xf⟩ := cl16 n8
     obtain ⟨y_0, y_1, y_2, y_3, y_4, y_5, y_6, y_7, y_8, y_9, y_10, y_11, y_12, y_13, y_14, y_15, yf⟩ := cl16 n9
     clear n8 n9 b4
     cases s5
     ·
      go_wp2_with fail
      go_ret
      obtain ⟨hu, hv, hall, bw⟩ := Qa HF
      obtain ⟨bb, _, _⟩ := Qa BB2
      exact ⟨by unfold eqCl; rw [Qai hu hv (show eqLt u v = false by unfold eqLt; simp [Qa E0, Qa E1, Qa S3, Qa S4, Qa S5]), Bool.and_false]; try rfl, bb.trans ((bw.trans ((Qa D4).1.mono bw.size)).mono bb.size)⟩
     go_wp2_with fail
     go_roundw
     case rel =>
      obtain ⟨hu, hv, hall, bw⟩ := Qa HF
      refine ⟨j + 1, by go_num, by omega, hide ⟨bw.trans ((Qa D4).1.mono bw.size), fun q u' v' hq hu' hv' => ?_⟩⟩
      by_cases e : q = j
      ·
       subst e
       rw [hu] at hu'
       rw [hv] at hv'
       cases hu'
       cases hv'
       unfold eqLt
       simp [Qa E0, Qa E1, Qa S3, Qa S4, Qa S5]
      · exact hall q u' v' (by omega) hu' hv'
     case measure => simp [intOf]; omega
    have g1 : (u.op == v.op) = false := by simpa using e1
    have E1 := hide e1
    clear e1
    go_wp2_with fail
    go_ret
    obtain ⟨hu, hv, hall, bw⟩ := Qa HF
    obtain ⟨bb, _, _⟩ := Qa BB2
    exact ⟨by unfold eqCl; rw [Qai hu hv (show eqLt u v = false by unfold eqLt; simp [Qa E0, Qa E1]), Bool.and_false]; try rfl, bb.trans ((bw.trans ((Qa D0).1.mono bw.size)).mono bb.size)⟩
   have g0 : (u.kind == v.kind) = false := by simpa using e0
   have E0 := hide e0
   clear e0
   go_wp2_with fail
   go_ret
   obtain ⟨hu, hv, hall, bw⟩ := Qa HF
   obtain ⟨bb, _, _⟩ := Qa BB2
   exact ⟨by unfold eqCl; rw [Qai hu hv (show eqLt u v = false by unfold eqLt; simp [Qa E0]), Bool.and_false]; try rfl, bb.trans ((bw.trans ((Qa D0).1.mono bw.size)).mono bb.size)⟩
  have HF := hide (Ya bw hall)
  clear bw hall HB bb na nb na1 nb1
  go_wp2_with fail
  go_ret
  obtain ⟨bw, hall⟩ := Qa HF
  obtain ⟨lx, ly⟩ := Qa HL
  obtain ⟨bb, _, _⟩ := Qa BB2
  exact ⟨by unfold eqCl; rw [← Qa HS, Qbd (by omega) (fun q u' v' hu' hv' => hall q u' v' (by have := (List.getElem?_eq_some_iff.1 hu').1; omega) hu' hv')]; rfl, bb.trans (bw.mono bb.size)⟩
 have hne : ((bn : Int) != (dn : Int)) = true := by simp; omega
 go_wp2_with fail
 go_ret
 obtain ⟨lx, ly⟩ := Qa HL
 exact ⟨by unfold eqCl; rw [Qbo (by omega), Bool.and_false]; try rfl, (Qa BB2).1⟩
end
end Go.Proofs.YtccehgfecaamoaaGreatDoor
