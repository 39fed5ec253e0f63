/- The document's Both: the items of two programs. syn: SameExpr, as a chain. syn: SameAtom, as a chain. -/
import Derived.Test.YtdjehbdpcdikkaaGreatDoorMt33
import Derived.Test.YtdjehbdpcdikkaaGreatDoorMt04
import Derived.Test.YtdjehbdpcdikkaaGreatDoorMt25
namespace Go.Proofs.YtdjehbdpcdikkaaGreatDoor
open Go.RowKit Go.Maps

theorem flat_len {k : Nat} : ∀ (css : List (List Value)), (∀ c ∈ css, c.length = k) → css.flatten.length = css.length * k
 | [], _ => by simp
 | c :: css, h => by
  rw [List.flatten_cons, List.length_append, flat_len css (fun x hx => h x (by simp [hx])), h c (by simp), List.length_cons, Nat.succ_mul]
  omega
theorem All.len_of {α : Type} {p : PS α} {k : Nat} {S : Nat → Prop} {w : World} {css : List (List Value)} {xs : List α} (h : All p k S w css xs) : ∀ c ∈ css, c.length = k ∧ ∃ x, p S w c x := fun c hc => by
 obtain ⟨i, hi, e⟩ := List.getElem_of_mem hc
 have hi2 : i < xs.length := by rw [← h.1]; exact hi
 obtain ⟨g1, g2⟩ := h.2 i _ c (List.getElem?_eq_getElem hi2) (by rw [List.getElem?_eq_getElem hi, e])
 exact ⟨g1, _, g2⟩
theorem All.app {α : Type} {p : PS α} {k : Nat} {S : Nat → Prop} {w : World} {css dss : List (List Value)} {xs ys : List α} (h : All p k S w css xs) (g : All p k S w dss ys) : All p k S w (css ++ dss) (xs ++ ys) := by
 refine ⟨by rw [List.length_append, List.length_append, h.1, g.1], fun j x cs h1 h2 => ?_⟩
 by_cases hj : j < xs.length
 ·
  rw [List.getElem?_append_left hj] at h1
  rw [List.getElem?_append_left (by rw [h.1]; exact hj)] at h2
  exact h.2 j x cs h1 h2
 ·
  rw [List.getElem?_append_right (by omega)] at h1
  rw [List.getElem?_append_right (by rw [h.1]; omega), h.1] at h2
  exact g.2 _ x cs h1 h2
section
variable {α : Type} {p : PS α} {k : Nat} {T ST : TypeId} {i0 : TypeInfo} {z : Value} {by_ : Nat}
/-- A list is put behind what a row of one's own holds. -/
theorem app_more (hp : PSok p) (hone : ∀ S w cs x, p S w cs x → ∀ c ∈ cs, c.oneCell' = true) (ht : Tryz.prog.underlying ST = some (.slice T)) (hi : Tryz.prog.info? T = some i0) (hz : i0.zero = some z) (hsz : i0.size = k) (hby : i0.bytes = by_) (hzc : z.cells.size = k) (hk : 0 < k) (hb6 : by_ ≤ 1000)
  {base : Nat} {S : Nat → Prop} {w : World} {v vb : Value} {xs ys : List α} {css : List (List Value)} (ho : w.ownsRow base T k v xs.length css.flatten) (ha : All p k S w css xs) (hb : LsAt p k S w vb ys) (hS : ∀ b, S b → some b ≠ v.ownBlock) (hl : xs.length ≤ 96) (hl2 : ys.length ≤ 96) (hbase : base ≤ w.heap.size) :
  ∃ v' w' dss, (Builtin.append_ #[ST, ST] ST #[v, vb]).run Tryz.prog w = .ok v' w' ∧ w'.ownsRow base T k v' (xs ++ ys).length dss.flatten ∧ All p k S w' dss (xs ++ ys) ∧ w.grownBy w' v.ownBlock := by
 obtain ⟨a, cap, dss, rfl, h1, h2, h3, h4⟩ := hb
 by_cases hy : ys = []
 ·
  subst hy
  have hr : (Builtin.append_ #[ST, ST] ST #[v, .slice a ([] : List α).length cap]).run Tryz.prog w = .ok v w := by
   rcases ho.2 with ⟨rfl, e⟩ | ⟨g, c2, cur, rfl, _, _, hnc, _⟩
   · cases a <;> simp [Builtin.append_, run_underlying ht, sizeOf, typeInfo, hi, Builtin.lenOf, Builtin.firstCells, loadCells, loadCellsFrom]
   · cases a <;> simp [Builtin.append_, run_underlying ht, sizeOf, typeInfo, hi, Builtin.lenOf, Builtin.firstCells, loadCells, loadCellsFrom, hnc, storeCells]
  exact ⟨v, w, css, hr, by rw [List.append_nil]; exact ho, by rw [List.append_nil]; exact ha, ⟨rfl, rfl, rfl, Nat.le_refl _, fun _ _ _ => rfl⟩⟩
 ·
  obtain ⟨b, rfl, _, hbl, hc⟩ := h4 hy
  have hfl : dss.flatten.length = ys.length * k := by rw [flat_len dss (fun c hc => (h3.len_of c hc).1), h3.1]
  obtain ⟨r, w8, hr, o8, g8, _, _⟩ := run_append_own_at (P := Tryz.prog) w base ST ST T i0 z k by_ ht hi hz hsz hby hzc hk v xs.length css.flatten ho ⟨b, 0, none⟩ ys.length cap dss.flatten hfl (fun j u hj => by
   have e1 : (⟨b, 0, none⟩ : Addr).add j = ⟨b, j, none⟩ := by cases j <;> simp [Addr.add]
   rw [e1]
   exact hc j u hj) (fun u hu => by
   obtain ⟨c, hc1, hc2⟩ := List.mem_flatten.1 hu
   obtain ⟨_, x, hx⟩ := h3.len_of c hc1
   exact hone _ _ _ _ hx u hc2) (by unfold maxLen; omega) (by
   have h3 : xs.length + ys.length ≤ 192 := by omega
   have := Nat.mul_le_mul h3 hb6
   omega) hbase
  exact ⟨r, w8, css ++ dss, hr, by rw [List.length_append, List.flatten_append]; exact o8, (ha.app h3).same hp g8.size (fun b hs hl => g8.block b hl (hS b hs)), g8⟩
theorem ls_of {base : Nat} {S : Nat → Prop} {w : World} {v : Value} {css : List (List Value)} {xs : List α} (hp : PSok p) (ho : w.ownsRow base T k v xs.length css.flatten) (ha : All p k S w css xs) : LsAt p k (fun b => S b ∨ base ≤ b) w v xs := by
 rcases id ho.2 with ⟨e, e2⟩ | ⟨g, cap, cur, e, hb, hg, hn, hm, _⟩
 ·
  have hx : xs = [] := List.length_eq_zero_iff.1 e2
  subst hx
  rw [e]
  exact LsAt.nil _ _
 ·
  refine ⟨some ⟨g, 0, none⟩, cap, css, e, hn, hm, ha.mono hp (fun _ _ h => .inl h), fun _ => ⟨g, rfl, .inr hb, lt_hp hg, fun j c hj => ?_⟩⟩
  subst e
  have hl : j < xs.length * k := by rw [← ho.1]; exact (List.getElem?_eq_some_iff.1 hj).1
  rw [World.ownsRow.cellAt ho j hl]; exact hj
/-- Two lists, one behind the other, in a new row. -/
theorem app_two (hp : PSok p) (hone : ∀ S w cs x, p S w cs x → ∀ c ∈ cs, c.oneCell' = true) (ht : Tryz.prog.underlying ST = some (.slice T)) (hi : Tryz.prog.info? T = some i0) (hz : i0.zero = some z) (hsz : i0.size = k) (hby : i0.bytes = by_) (hzc : z.cells.size = k) (hk : 0 < k) (hb6 : by_ ≤ 1000)
  {S : Nat → Prop} {w : World} {va vb : Value} {xs ys : List α} (ha : LsAt p k S w va xs) (hb : LsAt p k S w vb ys) (hl : xs.length ≤ 96) (hl2 : ys.length ≤ 96) :
  ∃ v1 w1 v2 w2, (Builtin.append_ #[ST, ST] ST #[.slice none 0 0, va]).run Tryz.prog w = .ok v1 w1 ∧ Below w.heap.size w w1 ∧ (Builtin.append_ #[ST, ST] ST #[v1, vb]).run Tryz.prog w1 = .ok v2 w2 ∧ Below w.heap.size w w2 ∧ (∃ a c, v2 = .slice a (xs ++ ys).length c) ∧ LsAt p k (fun b => S b ∨ w.heap.size ≤ b) w2 v2 (xs ++ ys) := by
 have ha2 := ha.mono hp (S' := fun b => S b ∧ b < w.heap.size) (fun b hl h => ⟨h, hl⟩)
 have hb2 := hb.mono hp (S' := fun b => S b ∧ b < w.heap.size) (fun b hl h => ⟨h, hl⟩)
 obtain ⟨v1, w1, ess, r1, o1, al1, g1⟩ := app_more (ys := xs) (css := []) (xs := ([] : List α)) (base := w.heap.size) hp hone ht hi hz hsz hby hzc hk hb6 (v := .slice none 0 0) (World.ownsRow_nil _ _ _ _) ⟨rfl, fun j x cs hx => by simp at hx⟩ ha2 (fun b _ => by simp [Value.ownBlock]) (by simp) hl (Nat.le_refl _)
 rw [List.nil_append] at o1 al1
 have b1 : Below w.heap.size w w1 := ⟨g1.os, g1.tape, g1.output, g1.size, fun q hq => g1.block q hq (by simp [Value.ownBlock])⟩
 have hbb := hb2.same hp b1.size (fun q _ hq => b1.block q hq)
 have hown : ∀ b, some b = v1.ownBlock → w.heap.size ≤ b := fun b e => (World.ownsRow.lt o1 b e.symm).1
 obtain ⟨v2, w2, dss, r2, o2, al2, g2⟩ := app_more (base := w.heap.size) hp hone ht hi hz hsz hby hzc hk hb6 o1 al1 hbb (fun b hb e => by have := hown b e; have := hb.2; omega) hl hl2 b1.size
 have b2 : Below w.heap.size w w2 := ⟨g2.os.trans b1.os, g2.tape.trans b1.tape, g2.output.trans b1.output, Nat.le_trans b1.size g2.size, fun q hq => (g2.block q (by have := b1.size; omega) (fun e => by have := hown q e; omega)).trans (b1.block q hq)⟩
 have hL := (ls_of hp o2 al2).mono hp (S' := fun b => S b ∨ w.heap.size ≤ b) (fun b _ h => h.elim (fun h => .inl h.1) .inr)
 obtain ⟨a, c, e⟩ := hL.sl
 exact ⟨v1, w1, v2, w2, r1, b1, r2, b2, ⟨a, c, e⟩, hL⟩
end

set_option maxRecDepth 100000 in
set_option maxHeartbeats 16000000 in
theorem both_any {p q : Pg} {w : World} {x0a y0a x1a y1a x2a y2a x3a y3a x4a y4a : Option Addr} {x0n x0c y0n y0c x1n x1c y1n y1c x2n x2c y2n y2c x3n x3c y3n y3c x4n x4c y4n y4c : Nat} (hx : PgS (fun _ => True) w [.slice x0a x0n x0c, .slice x1a x1n x1c, .slice x2a x2n x2c, .slice x3a x3n x3c, .slice x4a x4n x4c] p) (hy : PgS (fun _ => True) w [.slice y0a y0n y0c, .slice y1a y1n y1c, .slice y2a y2n y2c, .slice y3a y3n y3c, .slice y4a y4n y4c] q) (fp : Few p 96) (fq : Few q 96) :
  Calls Tryz.prog 14 #[.agg #[.slice x0a x0n x0c, .slice x1a x1n x1c, .slice x2a x2n x2c, .slice x3a x3n x3c, .slice x4a x4n x4c], .agg #[.slice y0a y0n y0c, .slice y1a y1n y1c, .slice y2a y2n y2c, .slice y3a y3n y3c, .slice y4a y4n y4c]] w fun en w' => ∃ v, en = .returned v ∧ VPg (fun _ => True) w' v (both p q) ∧ Below w.heap.size w w' := by
 obtain ⟨v0, v1, v2, v3, v4, ex, h0, h1, h2, h3, h4⟩ := hx.cells
 obtain ⟨u0, u1, u2, u3, u4, ey, g0, g1, g2, g3, g4⟩ := hy.cells
 obtain ⟨rfl, rfl, rfl, rfl, rfl⟩ := list5 ex
 obtain ⟨rfl, rfl, rfl, rfl, rfl⟩ := list5 ey
 clear hx hy ex ey
 have h0 := h0.mono pty_ok (S' := fun b => b < w.heap.size) (fun b hl _ => hl)
 have g0 := g0.mono pty_ok (S' := fun b => b < w.heap.size) (fun b hl _ => hl)
 have h1 := h1.mono pdc_ok (S' := fun b => b < w.heap.size) (fun b hl _ => hl)
 have g1 := g1.mono pdc_ok (S' := fun b => b < w.heap.size) (fun b hl _ => hl)
 have h2 := h2.mono pco_ok (S' := fun b => b < w.heap.size) (fun b hl _ => hl)
 have g2 := g2.mono pco_ok (S' := fun b => b < w.heap.size) (fun b hl _ => hl)
 have h3 := h3.mono pin_ok (S' := fun b => b < w.heap.size) (fun b hl _ => hl)
 have g3 := g3.mono pin_ok (S' := fun b => b < w.heap.size) (fun b hl _ => hl)
 have h4 := h4.mono pcl_ok (S' := fun b => b < w.heap.size) (fun b hl _ => hl)
 have g4 := g4.mono pcl_ok (S' := fun b => b < w.heap.size) (fun b hl _ => hl)
 obtain ⟨W, hW⟩ : ∃ W, W = (((w.alloc (.cells #[.slice x0a x0n x0c, .slice x1a x1n x1c, .slice x2a x2n x2c, .slice x3a x3n x3c, .slice x4a x4n x4c] 28)).alloc (.cells #[.slice y0a y0n y0c, .slice y1a y1n y1c, .slice y2a y2n y2c, .slice y3a y3n y3c, .slice y4a y4n y4c] 28)).alloc pgZ).drew := ⟨_, rfl⟩
 have B0 : Below w.heap.size w W := by rw [hW]; exact ((((Below.refl _ w).alloc (Nat.le_refl _) _).alloc (by simp) _).alloc (by simp; omega) _).drew
 have na : W.heap[w.heap.size]? = some (.cells #[.slice x0a x0n x0c, .slice x1a x1n x1c, .slice x2a x2n x2c, .slice x3a x3n x3c, .slice x4a x4n x4c] 28 (0, 0)) := by
  rw [hW]
  show (((w.alloc (.cells #[.slice x0a x0n x0c, .slice x1a x1n x1c, .slice x2a x2n x2c, .slice x3a x3n x3c, .slice x4a x4n x4c] 28)).alloc (.cells #[.slice y0a y0n y0c, .slice y1a y1n y1c, .slice y2a y2n y2c, .slice y3a y3n y3c, .slice y4a y4n y4c] 28)).alloc pgZ).heap[w.heap.size]? = _
  rw [Below.heap_alloc _ _ _ (by simp; omega), Below.heap_alloc _ _ _ (by simp)]; exact heap_alloc_new w _
 have nb : W.heap[w.heap.size + 1]? = some (.cells #[.slice y0a y0n y0c, .slice y1a y1n y1c, .slice y2a y2n y2c, .slice y3a y3n y3c, .slice y4a y4n y4c] 28 (0, 0)) := by
  rw [hW]
  show (((w.alloc (.cells #[.slice x0a x0n x0c, .slice x1a x1n x1c, .slice x2a x2n x2c, .slice x3a x3n x3c, .slice x4a x4n x4c] 28)).alloc (.cells #[.slice y0a y0n y0c, .slice y1a y1n y1c, .slice y2a y2n y2c, .slice y3a y3n y3c, .slice y4a y4n y4c] 28)).alloc pgZ).heap[w.heap.size + 1]? = _
  rw [Below.heap_alloc _ _ _ (by simp)]
  have := heap_alloc_new (w.alloc (.cells #[.slice x0a x0n x0c, .slice x1a x1n x1c, .slice x2a x2n x2c, .slice x3a x3n x3c, .slice x4a x4n x4c] 28)) (.cells #[.slice y0a y0n y0c, .slice y1a y1n y1c, .slice y2a y2n y2c, .slice y3a y3n y3c, .slice y4a y4n y4c] 28)
  rwa [show (w.alloc (.cells #[.slice x0a x0n x0c, .slice x1a x1n x1c, .slice x2a x2n x2c, .slice x3a x3n x3c, .slice x4a x4n x4c] 28)).heap.size = w.heap.size + 1 by simp] at this
 have nc : W.heap[w.heap.size + 2]? = some pgZ := by
  rw [hW]
  show (((w.alloc (.cells #[.slice x0a x0n x0c, .slice x1a x1n x1c, .slice x2a x2n x2c, .slice x3a x3n x3c, .slice x4a x4n x4c] 28)).alloc (.cells #[.slice y0a y0n y0c, .slice y1a y1n y1c, .slice y2a y2n y2c, .slice y3a y3n y3c, .slice y4a y4n y4c] 28)).alloc pgZ).heap[w.heap.size + 2]? = _
  have := heap_alloc_new ((w.alloc (.cells #[.slice x0a x0n x0c, .slice x1a x1n x1c, .slice x2a x2n x2c, .slice x3a x3n x3c, .slice x4a x4n x4c] 28)).alloc (.cells #[.slice y0a y0n y0c, .slice y1a y1n y1c, .slice y2a y2n y2c, .slice y3a y3n y3c, .slice y4a y4n y4c] 28)) pgZ
  rwa [show ((w.alloc (.cells #[.slice x0a x0n x0c, .slice x1a x1n x1c, .slice x2a x2n x2c, .slice x3a x3n x3c, .slice x4a x4n x4c] 28)).alloc (.cells #[.slice y0a y0n y0c, .slice y1a y1n y1c, .slice y2a y2n y2c, .slice y3a y3n y3c, .slice y4a y4n y4c] 28)).heap.size = w.heap.size + 2 by simp] at this
 obtain ⟨i0, ii0, iz0, is0, ib0⟩ := info50
 obtain ⟨u0, U0, t0, T0, r0, c0, R0, C0, ⟨ta0, tc0, et0⟩, L0⟩ := app_two (ST := 22) (w := W) pty_ok pty_one (by kernel_rfl) ii0 iz0 is0 ib0 rfl (by decide) (by decide) (h0.later pty_ok B0) (g0.later pty_ok B0) fp.1 fq.1
 have D0 : Below w.heap.size w T0 := B0.trans (C0.mono B0.size)
 have V0 : Below w.heap.size w U0 := B0.trans (c0.mono B0.size)
 have E0 : Below W.heap.size W T0 := C0
 have F0 : Below W.heap.size W U0 := c0
 obtain ⟨i1, ii1, iz1, is1, ib1⟩ := info51
 obtain ⟨u1, U1, t1, T1, r1, c1, R1, C1, ⟨ta1, tc1, et1⟩, L1⟩ := app_two (ST := 23) (w := T0) pdc_ok pdc_one (by kernel_rfl) ii1 iz1 is1 ib1 rfl (by decide) (by decide) (h1.later pdc_ok D0) (g1.later pdc_ok D0) fp.2.1 fq.2.1
 have D1 : Below w.heap.size w T1 := D0.trans (C1.mono D0.size)
 have V1 : Below w.heap.size w U1 := D0.trans (c1.mono D0.size)
 have E1 : Below W.heap.size W T1 := E0.trans (C1.mono E0.size)
 have F1 : Below W.heap.size W U1 := E0.trans (c1.mono E0.size)
 obtain ⟨i2, ii2, iz2, is2, ib2⟩ := info52
 obtain ⟨u2, U2, t2, T2, r2, c2, R2, C2, ⟨ta2, tc2, et2⟩, L2⟩ := app_two (ST := 24) (w := T1) pco_ok (fun _ _ _ _ h => pco_one h) (by kernel_rfl) ii2 iz2 is2 ib2 rfl (by decide) (by decide) (h2.later pco_ok D1) (g2.later pco_ok D1) fp.2.2.1 fq.2.2.1
 have D2 : Below w.heap.size w T2 := D1.trans (C2.mono D1.size)
 have V2 : Below w.heap.size w U2 := D1.trans (c2.mono D1.size)
 have E2 : Below W.heap.size W T2 := E1.trans (C2.mono E1.size)
 have F2 : Below W.heap.size W U2 := E1.trans (c2.mono E1.size)
 obtain ⟨i3, ii3, iz3, is3, ib3⟩ := info53
 obtain ⟨u3, U3, t3, T3, r3, c3, R3, C3, ⟨ta3, tc3, et3⟩, L3⟩ := app_two (ST := 25) (w := T2) pin_ok pin_one (by kernel_rfl) ii3 iz3 is3 ib3 rfl (by decide) (by decide) (h3.later pin_ok D2) (g3.later pin_ok D2) fp.2.2.2.1 fq.2.2.2.1
 have D3 : Below w.heap.size w T3 := D2.trans (C3.mono D2.size)
 have V3 : Below w.heap.size w U3 := D2.trans (c3.mono D2.size)
 have E3 : Below W.heap.size W T3 := E2.trans (C3.mono E2.size)
 have F3 : Below W.heap.size W U3 := E2.trans (c3.mono E2.size)
 obtain ⟨i4, ii4, iz4, is4, ib4⟩ := info54
 obtain ⟨u4, U4, t4, T4, r4, c4, R4, C4, ⟨ta4, tc4, et4⟩, L4⟩ := app_two (ST := 26) (w := T3) pcl_ok pcl_one (by kernel_rfl) ii4 iz4 is4 ib4 rfl (by decide) (by decide) (h4.later pcl_ok D3) (g4.later pcl_ok D3) fp.2.2.2.2 fq.2.2.2.2
 have D4 : Below w.heap.size w T4 := D3.trans (C4.mono D3.size)
 have V4 : Below w.heap.size w U4 := D3.trans (c4.mono D3.size)
 have E4 : Below W.heap.size W T4 := E3.trans (C4.mono E3.size)
 have F4 : Below W.heap.size W U4 := E3.trans (c4.mono E3.size)
 have G3 : Below T3.heap.size T3 T4 := C4
 have G2 : Below T2.heap.size T2 T4 := C3.trans (G3.mono C3.size)
 have G1 : Below T1.heap.size T1 T4 := C2.trans (G2.mono C2.size)
 have G0 : Below T0.heap.size T0 T4 := C1.trans (G1.mono C1.size)
 obtain ⟨kx, hkx⟩ : ∃ kx, w.heap.size = kx := ⟨_, rfl⟩
 obtain ⟨ky, hky⟩ : ∃ ky, w.heap.size + 1 = ky := ⟨_, rfl⟩
 obtain ⟨kz, hkz⟩ : ∃ kz, w.heap.size + 2 = kz := ⟨_, rfl⟩
 rw [hkx] at na
 rw [hky] at nb
 rw [hkz] at nc
 have hc4 := (E4.block _ (lt_hp nc)).trans nc
 have hkk : kx + 2 = kz ∧ kz < W.heap.size := ⟨by omega, lt_hp nc⟩
 have wz : w.heap.size ≤ kz := by omega
 subst et0
 subst et1
 subst et2
 subst et3
 subst et4
 have HC : Hid (∀ w', Below W.heap.size W w' → w'.heap[kx]? = some (.cells #[.slice x0a x0n x0c, .slice x1a x1n x1c, .slice x2a x2n x2c, .slice x3a x3n x3c, .slice x4a x4n x4c] 28 (0, 0)) ∧ w'.heap[ky]? = some (.cells #[.slice y0a y0n y0c, .slice y1a y1n y1c, .slice y2a y2n y2c, .slice y3a y3n y3c, .slice y4a y4n y4c] 28 (0, 0))) := fun w' bb => ⟨(bb.block _ (lt_hp na)).trans na, (bb.block _ (lt_hp nb)).trans nb⟩
 have HE0 := hide (And.intro F0 E0)
 have HE1 := hide (And.intro F1 E1)
 have HE2 := hide (And.intro F2 E2)
 have HE3 := hide (And.intro F3 E3)
 have HE4 := hide (And.intro F4 E4)
 have zs : W.heap.size ≤ T0.heap.size ∧ W.heap.size ≤ T1.heap.size ∧ W.heap.size ≤ T2.heap.size ∧ W.heap.size ≤ T3.heap.size ∧ W.heap.size ≤ T4.heap.size := ⟨E0.size, E1.size, E2.size, E3.size, E4.size⟩
 obtain ⟨V, hV⟩ : ∃ V, V = T4.setRow kz #[.slice ta0 (p.types ++ q.types).length tc0, .slice ta1 (p.decls ++ q.decls).length tc1, .slice ta2 (p.comps ++ q.comps).length tc2, .slice ta3 (p.inits ++ q.inits).length tc3, .slice ta4 (p.clauses ++ q.clauses).length tc4] := ⟨_, rfl⟩
 have hVo : ∀ b, b ≠ kz → V.heap[b]? = T4.heap[b]? := fun b hn => by rw [hV]; exact setRow_other _ _ _ _ hn
 have hVs : V.heap.size = T4.heap.size := by rw [hV, size_setRow]
 have hVz : V.heap[kz]? = some (.cells #[.slice ta0 (p.types ++ q.types).length tc0, .slice ta1 (p.decls ++ q.decls).length tc1, .slice ta2 (p.comps ++ q.comps).length tc2, .slice ta3 (p.inits ++ q.inits).length tc3, .slice ta4 (p.clauses ++ q.clauses).length tc4] 28 (0, 0)) := by rw [hV]; exact setRow_heap _ _ _ _ _ _ hc4
 have M0 := (((L0.mono pty_ok (S' := fun b => b ≠ kz) (fun b hl h => by have := hkk.2; rcases h with h | h <;> omega)).same pty_ok (G0.size) (fun b _ hl => G0.block b hl)).same pty_ok (by rw [hVs]; exact Nat.le_refl _) (fun b hn hl => hVo b hn))
 have M1 := (((L1.mono pdc_ok (S' := fun b => b ≠ kz) (fun b hl h => by have := hkk.2; have := zs.1; rcases h with h | h <;> omega)).same pdc_ok (G1.size) (fun b _ hl => G1.block b hl)).same pdc_ok (by rw [hVs]; exact Nat.le_refl _) (fun b hn hl => hVo b hn))
 have M2 := (((L2.mono pco_ok (S' := fun b => b ≠ kz) (fun b hl h => by have := hkk.2; have := zs.2.1; rcases h with h | h <;> omega)).same pco_ok (G2.size) (fun b _ hl => G2.block b hl)).same pco_ok (by rw [hVs]; exact Nat.le_refl _) (fun b hn hl => hVo b hn))
 have M3 := (((L3.mono pin_ok (S' := fun b => b ≠ kz) (fun b hl h => by have := hkk.2; have := zs.2.2.1; rcases h with h | h <;> omega)).same pin_ok (G3.size) (fun b _ hl => G3.block b hl)).same pin_ok (by rw [hVs]; exact Nat.le_refl _) (fun b hn hl => hVo b hn))
 have M4 := (((L4.mono pcl_ok (S' := fun b => b ≠ kz) (fun b hl h => by have := hkk.2; have := zs.2.2.2.1; rcases h with h | h <;> omega)).same pcl_ok (Nat.le_refl _) (fun b _ hl => rfl)).same pcl_ok (by rw [hVs]; exact Nat.le_refl _) (fun b hn hl => hVo b hn))
 have bV : Below w.heap.size w V := by
  rw [hV]
  exact ⟨D4.os, D4.tape, D4.output, by rw [size_setRow]; exact D4.size, fun b hb => by rw [setRow_other _ _ _ _ (by omega)]; exact D4.block b hb⟩
 have HR := hide (And.intro hVz (And.intro bV (pgS_of (S := fun b => b ≠ kz) M0 M1 M2 M3 M4)))
 have HCV := hide (show V.heap[kx]? = some (.cells #[.slice x0a x0n x0c, .slice x1a x1n x1c, .slice x2a x2n x2c, .slice x3a x3n x3c, .slice x4a x4n x4c] 28 (0, 0)) ∧ V.heap[ky]? = some (.cells #[.slice y0a y0n y0c, .slice y1a y1n y1c, .slice y2a y2n y2c, .slice y3a y3n y3c, .slice y4a y4n y4c] 28 (0, 0)) from ⟨(hVo kx (by omega)).trans ((E4.block _ (lt_hp na)).trans na), (hVo ky (by omega)).trans ((E4.block _ (lt_hp nb)).trans nb)⟩)
 have HV := hide hV
 have HN := hide hc4
 have HW := hide hW
 clear hV hVo hVs hVz bV M0 M1 M2 M3 M4 hc4 hW na nb nc B0 D0 V0 E0 F0 c0 C0 L0 h0 g0 ii0 iz0 is0 ib0 D1 V1 E1 F1 c1 C1 L1 h1 g1 ii1 iz1 is1 ib1 D2 V2 E2 F2 c2 C2 L2 h2 g2 ii2 iz2 is2 ib2 D3 V3 E3 F3 c3 C3 L3 h3 g3 ii3 iz3 is3 ib3 D4 V4 E4 F4 c4 C4 L4 h4 g4 ii4 iz4 is4 ib4 G0 G1 G2 G3 fp fq zs
 go_enter Tryz.func14, Tryz.ntmps14
 go_wp2_with fail
 rw [show kx + 1 = ky by omega]
 refine region_mixN (md := [(0, true), (1, true), (3, true), (4, true), (6, true), (7, true), (9, true), (10, true), (12, true), (13, true), (15, true), (16, true), (18, true), (19, true), (21, true), (22, true), (24, true), (25, true), (27, true), (28, true), (2, false), (5, false), (8, false), (11, false), (14, false), (17, false), (20, false), (23, false), (26, false), (29, false), (30, true), (31, false)]) (fun w' => w'.heap[kx]? = some (.cells #[.slice x0a x0n x0c, .slice x1a x1n x1c, .slice x2a x2n x2c, .slice x3a x3n x3c, .slice x4a x4n x4c] 28 (0, 0)) ∧ w'.heap[ky]? = some (.cells #[.slice y0a y0n y0c, .slice y1a y1n y1c, .slice y2a y2n y2c, .slice y3a y3n y3c, .slice y4a y4n y4c] 28 (0, 0))) mixedO (by kernel_rfl) rfl (by kernel_rfl) (fun PP hPP => ?_)
 rw [← unhide HW]
 refine wpMix_take (v := ?_) rfl (by kernel_rfl) (fun w' hw => ?_) ?_
 rotate_left
 · (obtain ⟨x_0, x_1, x_2, x_3, x_4, xf⟩ := cl5 hw.1; obtain ⟨y_0, y_1, y_2, y_3, y_4, yf⟩ := cl5 hw.2; go_simp; try with_reducible rfl)
 refine wpMix_take (v := ?_) rfl (by kernel_rfl) (fun w' hw => ?_) ?_
 rotate_left
 · (obtain ⟨x_0, x_1, x_2, x_3, x_4, xf⟩ := cl5 hw.1; obtain ⟨y_0, y_1, y_2, y_3, y_4, yf⟩ := cl5 hw.2; go_simp; try with_reducible rfl)
 refine wpMix_take (v := ?_) rfl (by kernel_rfl) (fun w' hw => ?_) ?_
 rotate_left
 · (obtain ⟨x_0, x_1, x_2, x_3, x_4, xf⟩ := cl5 hw.1; obtain ⟨y_0, y_1, y_2, y_3, y_4, yf⟩ := cl5 hw.2; go_simp; try with_reducible rfl)
 refine wpMix_take (v := ?_) rfl (by kernel_rfl) (fun w' hw => ?_) ?_
 rotate_left
 · (obtain ⟨x_0, x_1, x_2, x_3, x_4, xf⟩ := cl5 hw.1; obtain ⟨y_0, y_1, y_2, y_3, y_4, yf⟩ := cl5 hw.2; go_simp; try with_reducible rfl)
 refine wpMix_take (v := ?_) rfl (by kernel_rfl) (fun w' hw => ?_) ?_
 rotate_left
 · (obtain ⟨x_0, x_1, x_2, x_3, x_4, xf⟩ := cl5 hw.1; obtain ⟨y_0, y_1, y_2, y_3, y_4, yf⟩ := cl5 hw.2; go_simp; try with_reducible rfl)
 refine wpMix_take (v := ?_) rfl (by kernel_rfl) (fun w' hw => ?_) ?_
 rotate_left
 · (obtain ⟨x_0, x_1, x_2, x_3, x_4, xf⟩ := cl5 hw.1; obtain ⟨y_0, y_1, y_2, y_3, y_4, yf⟩ := cl5 hw.2; go_simp; try with_reducible rfl)
 refine wpMix_take (v := ?_) rfl (by kernel_rfl) (fun w' hw => ?_) ?_
 rotate_left
 · (obtain ⟨x_0, x_1, x_2, x_3, x_4, xf⟩ := cl5 hw.1; obtain ⟨y_0, y_1, y_2, y_3, y_4, yf⟩ := cl5 hw.2; go_simp; try with_reducible rfl)
 refine wpMix_take (v := ?_) rfl (by kernel_rfl) (fun w' hw => ?_) ?_
 rotate_left
 · (obtain ⟨x_0, x_1, x_2, x_3, x_4, xf⟩ := cl5 hw.1; obtain ⟨y_0, y_1, y_2, y_3, y_4, yf⟩ := cl5 hw.2; go_simp; try with_reducible rfl)
 refine wpMix_take (v := ?_) rfl (by kernel_rfl) (fun w' hw => ?_) ?_
 rotate_left
 · (obtain ⟨x_0, x_1, x_2, x_3, x_4, xf⟩ := cl5 hw.1; obtain ⟨y_0, y_1, y_2, y_3, y_4, yf⟩ := cl5 hw.2; go_simp; try with_reducible rfl)
 refine wpMix_take (v := ?_) rfl (by kernel_rfl) (fun w' hw => ?_) ?_
 rotate_left
 · (obtain ⟨x_0, x_1, x_2, x_3, x_4, xf⟩ := cl5 hw.1; obtain ⟨y_0, y_1, y_2, y_3, y_4, yf⟩ := cl5 hw.2; go_simp; try with_reducible rfl)
 refine wpMix_take (v := ?_) rfl (by kernel_rfl) (fun w' hw => ?_) ?_
 rotate_left
 · (obtain ⟨x_0, x_1, x_2, x_3, x_4, xf⟩ := cl5 hw.1; obtain ⟨y_0, y_1, y_2, y_3, y_4, yf⟩ := cl5 hw.2; go_simp; try with_reducible rfl)
 refine wpMix_take (v := ?_) rfl (by kernel_rfl) (fun w' hw => ?_) ?_
 rotate_left
 · (obtain ⟨x_0, x_1, x_2, x_3, x_4, xf⟩ := cl5 hw.1; obtain ⟨y_0, y_1, y_2, y_3, y_4, yf⟩ := cl5 hw.2; go_simp; try with_reducible rfl)
 refine wpMix_take (v := ?_) rfl (by kernel_rfl) (fun w' hw => ?_) ?_
 rotate_left
 · (obtain ⟨x_0, x_1, x_2, x_3, x_4, xf⟩ := cl5 hw.1; obtain ⟨y_0, y_1, y_2, y_3, y_4, yf⟩ := cl5 hw.2; go_simp; try with_reducible rfl)
 refine wpMix_take (v := ?_) rfl (by kernel_rfl) (fun w' hw => ?_) ?_
 rotate_left
 · (obtain ⟨x_0, x_1, x_2, x_3, x_4, xf⟩ := cl5 hw.1; obtain ⟨y_0, y_1, y_2, y_3, y_4, yf⟩ := cl5 hw.2; go_simp; try with_reducible rfl)
 refine wpMix_take (v := ?_) rfl (by kernel_rfl) (fun w' hw => ?_) ?_
 rotate_left
 · (obtain ⟨x_0, x_1, x_2, x_3, x_4, xf⟩ := cl5 hw.1; obtain ⟨y_0, y_1, y_2, y_3, y_4, yf⟩ := cl5 hw.2; go_simp; try with_reducible rfl)
 refine wpMix_take (v := ?_) rfl (by kernel_rfl) (fun w' hw => ?_) ?_
 rotate_left
 · (obtain ⟨x_0, x_1, x_2, x_3, x_4, xf⟩ := cl5 hw.1; obtain ⟨y_0, y_1, y_2, y_3, y_4, yf⟩ := cl5 hw.2; go_simp; try with_reducible rfl)
 refine wpMix_take (v := ?_) rfl (by kernel_rfl) (fun w' hw => ?_) ?_
 rotate_left
 · (obtain ⟨x_0, x_1, x_2, x_3, x_4, xf⟩ := cl5 hw.1; obtain ⟨y_0, y_1, y_2, y_3, y_4, yf⟩ := cl5 hw.2; go_simp; try with_reducible rfl)
 refine wpMix_take (v := ?_) rfl (by kernel_rfl) (fun w' hw => ?_) ?_
 rotate_left
 · (obtain ⟨x_0, x_1, x_2, x_3, x_4, xf⟩ := cl5 hw.1; obtain ⟨y_0, y_1, y_2, y_3, y_4, yf⟩ := cl5 hw.2; go_simp; try with_reducible rfl)
 refine wpMix_take (v := ?_) rfl (by kernel_rfl) (fun w' hw => ?_) ?_
 rotate_left
 · (obtain ⟨x_0, x_1, x_2, x_3, x_4, xf⟩ := cl5 hw.1; obtain ⟨y_0, y_1, y_2, y_3, y_4, yf⟩ := cl5 hw.2; go_simp; try with_reducible rfl)
 refine wpMix_take (v := ?_) rfl (by kernel_rfl) (fun w' hw => ?_) ?_
 rotate_left
 · (obtain ⟨x_0, x_1, x_2, x_3, x_4, xf⟩ := cl5 hw.1; obtain ⟨y_0, y_1, y_2, y_3, y_4, yf⟩ := cl5 hw.2; go_simp; try with_reducible rfl)
 refine wpMix_force rfl (unhide HC _ (Below.refl W.heap.size W)) (fun K hK => ?_)
 refine append_drawn rfl _ _ 22 rfl (.slice none 0 0) (.slice x0a x0n x0c) (by kernel_rfl) (by kernel_rfl) r0 ?_
 refine hK _ _ ?_
 clear hK K r0
 refine wpMix_force rfl (unhide HC _ (unhide HE0).1) (fun K hK => ?_)
 refine append_drawn rfl _ _ 22 rfl u0 (.slice y0a y0n y0c) (by kernel_rfl) (by kernel_rfl) R0 ?_
 refine hK _ _ ?_
 clear hK K R0
 refine wpMix_force rfl (unhide HC _ ((unhide HE0).2)) (fun K hK => ?_)
 refine append_drawn rfl _ _ 23 rfl (.slice none 0 0) (.slice x1a x1n x1c) (by kernel_rfl) (by kernel_rfl) r1 ?_
 refine hK _ _ ?_
 clear hK K r1
 refine wpMix_force rfl (unhide HC _ (unhide HE1).1) (fun K hK => ?_)
 refine append_drawn rfl _ _ 23 rfl u1 (.slice y1a y1n y1c) (by kernel_rfl) (by kernel_rfl) R1 ?_
 refine hK _ _ ?_
 clear hK K R1
 refine wpMix_force rfl (unhide HC _ ((unhide HE1).2)) (fun K hK => ?_)
 refine append_drawn rfl _ _ 24 rfl (.slice none 0 0) (.slice x2a x2n x2c) (by kernel_rfl) (by kernel_rfl) r2 ?_
 refine hK _ _ ?_
 clear hK K r2
 refine wpMix_force rfl (unhide HC _ (unhide HE2).1) (fun K hK => ?_)
 refine append_drawn rfl _ _ 24 rfl u2 (.slice y2a y2n y2c) (by kernel_rfl) (by kernel_rfl) R2 ?_
 refine hK _ _ ?_
 clear hK K R2
 refine wpMix_force rfl (unhide HC _ ((unhide HE2).2)) (fun K hK => ?_)
 refine append_drawn rfl _ _ 25 rfl (.slice none 0 0) (.slice x3a x3n x3c) (by kernel_rfl) (by kernel_rfl) r3 ?_
 refine hK _ _ ?_
 clear hK K r3
 refine wpMix_force rfl (unhide HC _ (unhide HE3).1) (fun K hK => ?_)
 refine append_drawn rfl _ _ 25 rfl u3 (.slice y3a y3n y3c) (by kernel_rfl) (by kernel_rfl) R3 ?_
 refine hK _ _ ?_
 clear hK K R3
 refine wpMix_force rfl (unhide HC _ ((unhide HE3).2)) (fun K hK => ?_)
 refine append_drawn rfl _ _ 26 rfl (.slice none 0 0) (.slice x4a x4n x4c) (by kernel_rfl) (by kernel_rfl) r4 ?_
 refine hK _ _ ?_
 clear hK K r4
 refine wpMix_force rfl (unhide HC _ (unhide HE4).1) (fun K hK => ?_)
 refine append_drawn rfl _ _ 26 rfl u4 (.slice y4a y4n y4c) (by kernel_rfl) (by kernel_rfl) R4 ?_
 refine hK _ _ ?_
 clear hK K R4
 refine wpMix_take (v := .agg #[.slice ta0 (p.types ++ q.types).length tc0, .slice ta1 (p.decls ++ q.decls).length tc1, .slice ta2 (p.comps ++ q.comps).length tc2, .slice ta3 (p.inits ++ q.inits).length tc3, .slice ta4 (p.clauses ++ q.clauses).length tc4]) rfl (by kernel_rfl) (fun w' hw => ?_) ?_
 · (go_simp; try with_reducible rfl)
 refine wpMix_at (b := { tmps := #[.agg #[.slice x0a x0n x0c, .slice x1a x1n x1c, .slice x2a x2n x2c, .slice x3a x3n x3c, .slice x4a x4n x4c], .agg #[.slice y0a y0n y0c, .slice y1a y1n y1c, .slice y2a y2n y2c, .slice y3a y3n y3c, .slice y4a y4n y4c], .pointer (some ⟨kx, 0, none⟩), .pointer (some ⟨ky, 0, none⟩), .pointer (some ⟨kz, 0, none⟩), .pointer (some ⟨kx, 0, none⟩), .slice x0a x0n x0c, u0, .pointer (some ⟨ky, 0, none⟩), .slice y0a y0n y0c, .slice ta0 (p.types ++ q.types).length tc0, .pointer (some ⟨kx, 1, none⟩), .slice x1a x1n x1c, u1, .pointer (some ⟨ky, 1, none⟩), .slice y1a y1n y1c, .slice ta1 (p.decls ++ q.decls).length tc1, .pointer (some ⟨kx, 2, none⟩), .slice x2a x2n x2c, u2, .pointer (some ⟨ky, 2, none⟩), .slice y2a y2n y2c, .slice ta2 (p.comps ++ q.comps).length tc2, .pointer (some ⟨kx, 3, none⟩), .slice x3a x3n x3c, u3, .pointer (some ⟨ky, 3, none⟩), .slice y3a y3n y3c, .slice ta3 (p.inits ++ q.inits).length tc3, .pointer (some ⟨kx, 4, none⟩), .slice x4a x4n x4c, u4, .pointer (some ⟨ky, 4, none⟩), .slice y4a y4n y4c, .slice ta4 (p.clauses ++ q.clauses).length tc4, .agg #[.slice ta0 (p.types ++ q.types).length tc0, .slice ta1 (p.decls ++ q.decls).length tc1, .slice ta2 (p.comps ++ q.comps).length tc2, .slice ta3 (p.inits ++ q.inits).length tc3, .slice ta4 (p.clauses ++ q.clauses).length tc4]], defers := [] }) (by kernel_rfl) ?_
 refine wpMix_force rfl (unhide HC _ (unhide HE4).2) (fun K hK => ?_)
 refine store_drawn rfl _ _ _ rfl kz _ _ #[.slice ta0 (p.types ++ q.types).length tc0, .slice ta1 (p.decls ++ q.decls).length tc1, .slice ta2 (p.comps ++ q.comps).length tc2, .slice ta3 (p.inits ++ q.inits).length tc3, .slice ta4 (p.clauses ++ q.clauses).length tc4] (by kernel_rfl) (by kernel_rfl) (unhide HN) size_pg rfl (by simp [Value.oneCell']) ?_
 refine hK _ _ ?_
 clear hK K
 rw [← unhide HV]
 refine wpMix_nil (unhide HCV) (hPP _ _ ?_)
 clear hPP PP
 simp [Act.put]
 obtain ⟨z_0, z_1, z_2, z_3, z_4, zf⟩ := cl5 (unhide HR).1
 go_wp2_with fail
 refine bodyPost_ret (v := .agg #[.slice ta0 (p.types ++ q.types).length tc0, .slice ta1 (p.decls ++ q.decls).length tc1, .slice ta2 (p.comps ++ q.comps).length tc2, .slice ta3 (p.inits ++ q.inits).length tc3, .slice ta4 (p.clauses ++ q.clauses).length tc4]) (by simp [results, Tryz.results14, go_sem, z_0, z_1, z_2, z_3, z_4]) rfl ?_
 exact ⟨_, rfl, ⟨_, _, _, _, _, _, _, _, _, _, _, _, _, _, _, rfl, pgS_ok.mono _ _ _ _ _ (unhide HR).2.2 (fun _ _ _ => trivial)⟩, (unhide HR).2.1⟩
end Go.Proofs.YtdjehbdpcdikkaaGreatDoor

namespace Go.Proofs.YtdjehbdpcdikkaaGreatDoor
open Go.RowKit Go.Maps

set_option maxRecDepth 100000 in
set_option maxHeartbeats 8000000 in
theorem rSameExpr_ch {w : World} {xk xm xat : Int} {xt : Txt} {xa : Option Addr} {xn xc : Nat} {yk ym yat : Int} {yt : Txt} {ya : Option Addr} {yn yc : Nat} {s0 s1 s2 s3 s4 : Bool} (h0 : s0 = decide (xk = yk)) (h1 : s1 = decide (xm = ym)) (h2 : s2 = decide (xt = yt)) (h3 : ∀ w', Below w.heap.size w w' → Calls Tryz.prog 36 #[.int .i64 xat, .int .i64 yat, .bool false] w' fun en w2 => en = .returned (.bool s3) ∧ Below w'.heap.size w' w2) (h4 : ∀ w', Below w.heap.size w w' → Calls Tryz.prog 96 #[.slice xa xn xc, .slice ya yn yc, .bool false] w' fun en w2 => en = .returned (.bool s4) ∧ Below w'.heap.size w' w2) :
  Calls Tryz.prog 71 #[.agg #[.int .i64 xk, .int .i64 xm, str xt, .slice xa xn xc, .int .i64 xat], .agg #[.int .i64 yk, .int .i64 ym, str yt, .slice ya yn yc, .int .i64 yat], .bool false] w fun en w' => en = .returned (.bool (s0 && s1 && s2 && s3 && s4)) ∧ Below w.heap.size w w' := by
 have B0 : Hid (Below w.heap.size w ((w.alloc (.cells #[.int .i64 xk, .int .i64 xm, str xt, .slice xa xn xc, .int .i64 xat] 90)).alloc (.cells #[.int .i64 yk, .int .i64 ym, str yt, .slice ya yn yc, .int .i64 yat] 90)) ∧ ((w.alloc (.cells #[.int .i64 xk, .int .i64 xm, str xt, .slice xa xn xc, .int .i64 xat] 90)).alloc (.cells #[.int .i64 yk, .int .i64 ym, str yt, .slice ya yn yc, .int .i64 yat] 90)).heap[w.heap.size]? = some (.cells #[.int .i64 xk, .int .i64 xm, str xt, .slice xa xn xc, .int .i64 xat] 90 (0, 0)) ∧ ((w.alloc (.cells #[.int .i64 xk, .int .i64 xm, str xt, .slice xa xn xc, .int .i64 xat] 90)).alloc (.cells #[.int .i64 yk, .int .i64 ym, str yt, .slice ya yn yc, .int .i64 yat] 90)).heap[w.heap.size + 1]? = some (.cells #[.int .i64 yk, .int .i64 ym, str yt, .slice ya yn yc, .int .i64 yat] 90 (0, 0))) := by
  refine ⟨((Below.refl _ w).alloc (Nat.le_refl _) _).alloc (by simp) _, ?_, ?_⟩
  · rw [Below.heap_alloc _ _ _ (by simp)]; exact heap_alloc_new w _
  ·
   have := heap_alloc_new (w.alloc (.cells #[.int .i64 xk, .int .i64 xm, str xt, .slice xa xn xc, .int .i64 xat] 90)) (.cells #[.int .i64 yk, .int .i64 ym, str yt, .slice ya yn yc, .int .i64 yat] 90)
   rw [show (w.alloc (.cells #[.int .i64 xk, .int .i64 xm, str xt, .slice xa xn xc, .int .i64 xat] 90)).heap.size = w.heap.size + 1 by simp] at this
   exact this
 have H0 := hide h0
 have H1 := hide h1
 have H2 := hide h2
 have H3 := hide h3
 have H4 := hide h4
 clear h0 h1 h2 h3 h4
 cases s0 with
 | false =>
  have g0 : (xk == yk) = false := by simpa using unhide H0
  go_enter Tryz.func71, Tryz.ntmps71
  go_wp2_with fail
  go_ret
  exact ⟨rfl, (unhide B0).1⟩
 | true =>
  have g0 : (xk == yk) = true := by simpa using unhide H0
  cases s1 with
  | false =>
   have g1 : (xm == ym) = false := by simpa using unhide H1
   go_enter Tryz.func71, Tryz.ntmps71
   go_wp2_with fail
   go_ret
   exact ⟨rfl, (unhide B0).1⟩
  | true =>
   have g1 : (xm == ym) = true := by simpa using unhide H1
   cases s2 with
   | false =>
    have g2 : (xt == yt) = false := by simpa using unhide H2
    go_enter Tryz.func71, Tryz.ntmps71
    go_wp2_with fail
    go_ret
    exact ⟨rfl, (unhide B0).1⟩
   | true =>
    have g2 : (xt == yt) = true := by simpa using unhide H2
    go_enter Tryz.func71, Tryz.ntmps71
    have hcl := unhide H3 _ (unhide B0).1
    go_wp2_with fail
    refine hcl.mono ?_
    clear hcl
    rintro en w3 ⟨rfl, b3⟩
    obtain ⟨bb, na, nb⟩ := unhide B0
    have na3 := (b3.block _ (lt_hp na)).trans na
    have nb3 := (b3.block _ (lt_hp nb)).trans nb
    have BB3 := hide (And.intro (bb.trans (b3.mono bb.size)) (And.intro na3 nb3))
    obtain ⟨x_0, x_1, x_2, x_3, x_4, xf⟩ := cl5 na3
    obtain ⟨y_0, y_1, y_2, y_3, y_4, yf⟩ := cl5 nb3
    clear bb na nb b3 na3 nb3
    cases s3 with
    | false =>
     go_wp2_with fail
     go_ret
     exact ⟨rfl, (unhide BB3).1⟩
    | true =>
     have hcl := unhide H4 _ (unhide BB3).1
     go_wp2_with fail
     refine hcl.mono ?_
     clear hcl
     rintro en w4 ⟨rfl, b4⟩
     obtain ⟨bb, na, nb⟩ := unhide BB3
     have na4 := (b4.block _ (lt_hp na)).trans na
     have nb4 := (b4.block _ (lt_hp nb)).trans nb
     have BB4 := hide (And.intro (bb.trans (b4.mono bb.size)) (And.intro na4 nb4))
     obtain ⟨x_0, x_1, x_2, x_3, x_4, xf⟩ := cl5 na4
     obtain ⟨y_0, y_1, y_2, y_3, y_4, yf⟩ := cl5 nb4
     clear bb na nb b4 na4 nb4
     cases s4 with
     | false =>
      go_wp2_with fail
      go_ret
      exact ⟨rfl, (unhide BB4).1⟩
     | true =>
      go_wp2_with fail
      go_ret
      exact ⟨rfl, (unhide BB4).1⟩
end Go.Proofs.YtdjehbdpcdikkaaGreatDoor

namespace Go.Proofs.YtdjehbdpcdikkaaGreatDoor
open Go.RowKit Go.Maps

set_option maxRecDepth 100000 in
set_option maxHeartbeats 8000000 in
theorem rSameAtom_ch {w : World} {xat : Int} {xt : Txt} {xa : Option Addr} {xn xc : Nat} {yat : Int} {yt : Txt} {ya : Option Addr} {yn yc : Nat} {s0 s1 s2 : Bool} (h0 : s0 = decide (xt = yt)) (h1 : ∀ w', Below w.heap.size w w' → Calls Tryz.prog 36 #[.int .i64 xat, .int .i64 yat, .bool false] w' fun en w2 => en = .returned (.bool s1) ∧ Below w'.heap.size w' w2) (h2 : ∀ w', Below w.heap.size w w' → Calls Tryz.prog 96 #[.slice xa xn xc, .slice ya yn yc, .bool false] w' fun en w2 => en = .returned (.bool s2) ∧ Below w'.heap.size w' w2) :
  Calls Tryz.prog 70 #[.agg #[str xt, .slice xa xn xc, .int .i64 xat], .agg #[str yt, .slice ya yn yc, .int .i64 yat], .bool false] w fun en w' => en = .returned (.bool (s0 && s1 && s2)) ∧ Below w.heap.size w w' := by
 have B0 : Hid (Below w.heap.size w ((w.alloc (.cells #[str xt, .slice xa xn xc, .int .i64 xat] 79)).alloc (.cells #[str yt, .slice ya yn yc, .int .i64 yat] 79)) ∧ ((w.alloc (.cells #[str xt, .slice xa xn xc, .int .i64 xat] 79)).alloc (.cells #[str yt, .slice ya yn yc, .int .i64 yat] 79)).heap[w.heap.size]? = some (.cells #[str xt, .slice xa xn xc, .int .i64 xat] 79 (0, 0)) ∧ ((w.alloc (.cells #[str xt, .slice xa xn xc, .int .i64 xat] 79)).alloc (.cells #[str yt, .slice ya yn yc, .int .i64 yat] 79)).heap[w.heap.size + 1]? = some (.cells #[str yt, .slice ya yn yc, .int .i64 yat] 79 (0, 0))) := by
  refine ⟨((Below.refl _ w).alloc (Nat.le_refl _) _).alloc (by simp) _, ?_, ?_⟩
  · rw [Below.heap_alloc _ _ _ (by simp)]; exact heap_alloc_new w _
  ·
   have := heap_alloc_new (w.alloc (.cells #[str xt, .slice xa xn xc, .int .i64 xat] 79)) (.cells #[str yt, .slice ya yn yc, .int .i64 yat] 79)
   rw [show (w.alloc (.cells #[str xt, .slice xa xn xc, .int .i64 xat] 79)).heap.size = w.heap.size + 1 by simp] at this
   exact this
 have H0 := hide h0
 have H1 := hide h1
 have H2 := hide h2
 clear h0 h1 h2
 cases s0 with
 | false =>
  have g0 : (xt == yt) = false := by simpa using unhide H0
  go_enter Tryz.func70, Tryz.ntmps70
  go_wp2_with fail
  go_ret
  exact ⟨rfl, (unhide B0).1⟩
 | true =>
  have g0 : (xt == yt) = true := by simpa using unhide H0
  go_enter Tryz.func70, Tryz.ntmps70
  have hcl := unhide H1 _ (unhide B0).1
  go_wp2_with fail
  refine hcl.mono ?_
  clear hcl
  rintro en w1 ⟨rfl, b1⟩
  obtain ⟨bb, na, nb⟩ := unhide B0
  have na1 := (b1.block _ (lt_hp na)).trans na
  have nb1 := (b1.block _ (lt_hp nb)).trans nb
  have BB1 := hide (And.intro (bb.trans (b1.mono bb.size)) (And.intro na1 nb1))
  obtain ⟨x_0, x_1, x_2, xf⟩ := cl3 na1
  obtain ⟨y_0, y_1, y_2, yf⟩ := cl3 nb1
  clear bb na nb b1 na1 nb1
  cases s1 with
  | false =>
   go_wp2_with fail
   go_ret
   exact ⟨rfl, (unhide BB1).1⟩
  | true =>
   have hcl := unhide H2 _ (unhide BB1).1
   go_wp2_with fail
   refine hcl.mono ?_
   clear hcl
   rintro en w2 ⟨rfl, b2⟩
   obtain ⟨bb, na, nb⟩ := unhide BB1
   have na2 := (b2.block _ (lt_hp na)).trans na
   have nb2 := (b2.block _ (lt_hp nb)).trans nb
   have BB2 := hide (And.intro (bb.trans (b2.mono bb.size)) (And.intro na2 nb2))
   obtain ⟨x_0, x_1, x_2, xf⟩ := cl3 na2
   obtain ⟨y_0, y_1, y_2, yf⟩ := cl3 nb2
   clear bb na nb b2 na2 nb2
   cases s2 with
   | false =>
    go_wp2_with fail
    go_ret
    exact ⟨rfl, (unhide BB2).1⟩
   | true =>
    go_wp2_with fail
    go_ret
    exact ⟨rfl, (unhide BB2).1⟩
end Go.Proofs.YtdjehbdpcdikkaaGreatDoor
