/- RelOwn: the walk. RelOwn: where it comes to nothing; all. The statement on RelOwn: For every width and every list of tuples the law answers true: copies of tuples that were handed in, and tuples that were yielded, are written over, and the relation goes on having the document's rows. No condition. -/
import Derived.Test.YthcljhfankooaabGreatMRdq
import Derived.Test.YthcljhfankooaabGreatMFrame
namespace Go.Proofs.YthcljhfankooaabGreat
open Go.RowKit Go.Shelf

attribute [local go_sem] Oper.semAt_some

def WRel (base : Nat) (rv : Value) (n : Nat) (w3 : World) (i : Value) (wr : World) : Prop := ∃ (j : Nat) (l : List Int), j ≤ n ∧ i = .int .i64 (j : Int) ∧ l.length = n ∧ OwnI base wr rv l ∧ Keeps (fun b => some b = rv.ownBlock) w3 wr
def OwnRel (W : World) (rb qb wd hb mb : Nat) (sh : List (Nat × Nat)) (os : List (List Int)) (n : Nat) (i : Value) (wr : World) : Prop := ∃ (k : Nat) (ns R : List Nrow) (O : Nat → Prop), k ≤ n ∧ i = .int .i64 (k : Int) ∧ OwnS W rb qb wd hb mb sh os (fun _ => False) k ns R O wr
def TRel (H : Nat → Prop) (va : Option Addr) (n : Nat) (Wx : World) (i : Value) (wr : World) : Prop := ∃ j : Nat, j ≤ n ∧ i = .int .i64 (j : Int) ∧ Keeps H Wx wr ∧ Shp H Wx wr ∧ (0 < n → ∃ b off cur tt fz, va = some ⟨b, off, none⟩ ∧ H b ∧ wr.heap[b]? = some (.cells cur tt fz) ∧ off + n ≤ cur.size ∧ ∀ q, q < n → wr.frozen? ⟨b, off + q, none⟩ = false)
theorem litS1 (S : Nat → Prop) (w : World) (a : Int) (h : S w.heap.size) : IntsS S (w.alloc (.cells #[.int .i64 a] 3)) (.slice (some ⟨w.heap.size, 0, none⟩) 1 1) [a] := by
  have hn := World.alloc_heap_new w (.cells #[.int .i64 a] 3)
  refine ⟨_, 1, rfl, Nat.le_refl _, by omega, fun j hj => ⟨w.heap.size, 0, rfl, h, ?_⟩⟩
  match j, hj with
  | 0, _ => rw [cell_at hn]; rfl
  | j + 1, hj => exact absurd (show j + 1 < 1 from hj) (by omega)

set_option maxRecDepth 100000 in
set_option maxHeartbeats 8000000 in
theorem own_long (W : World) (wd : Nat) (hw : wd ≤ 8) (hl1 : C.lookE wd [1] = 0) (lv : Value) (xs : List (List Int)) (hL : ListAt (fun b => b < W.heap.size) W lv xs) (hB : ∀ y ∈ xs, Bnd y) (hz : ∀ y ∈ xs, y.length * 8 ≤ 140737488351232) (hn : ¬ (200 : Int) < (xs.length : Int)) :
    Calls Tryz.prog 3 #[.int .i64 (wd : Int), lv] W fun e W' => e = .returned (.bool true) ∧ Below W.heap.size W W' := by
  have mixed : Tryz.prog.follows .mixedOrders = true := by kernel_rfl
  obtain ⟨w0, hw0⟩ : ∃ w0, w0 = W.alloc (.cells #[.int .i64 1] 3) := ⟨_, rfl⟩
  have b0 : Below W.heap.size W w0 := by rw [hw0]; exact allocB W _
  have i0 : IntsS (fun b => b < w0.heap.size) w0 (.slice (some ⟨W.heap.size, 0, none⟩) 1 1) [1] := by
    rw [hw0]; exact litS1 _ W 1 (by simp)
  have hE : C.ordE (wd : Int) [1] = 0 := by rw [C.ordE_nat hw]; exact hl1
  have hn1 := @relnew_ok xt0 w0 wd _ [1] i0.ints hw hl1 (fun _ e => e.elim)
  obtain ⟨lf, ⟨la, lc, elv, hlc1, hlc2, hrow⟩, hin⟩ := id hL
  have HLI := hide (And.intro hL (And.intro hB hz))
  have HW0 := hide hw0
  have B0 := hide b0
  have HE := hide hE
  subst elv
  clear b0 i0 hw0 hL hB hz hrow hin hE
  refine calls_marks Tryz.func3 rfl ?_
  simp only [Tryz.ntmps3, List.size_toArray, List.length_cons, List.length_nil, Nat.reduceAdd, Nat.reduceSub, Array.replicate_succ, Array.replicate_zero, List.push_toArray, List.append_toArray, List.nil_append, List.cons_append]
  go_wp2_with fail
  rw [← unhide HW0]
  refine hn1.mono ?_
  clear hn1
  rintro e w1 ⟨rb, hb, mb, sh, os, rfl, hR1, hD1, hrb1, b1⟩
  have b01 : Below W.heap.size W w1 := (unhide B0).trans (b1.mono (unhide B0).size)
  obtain ⟨w2, hw2⟩ : ∃ w2, w2 = w1.alloc (.cells #[.int .i64 1] 3) := ⟨_, rfl⟩
  have b12 : Below w1.heap.size w1 w2 := by rw [hw2]; exact allocB w1 _
  have i2 : IntsS (fun b => b < w2.heap.size) w2 (.slice (some ⟨w1.heap.size, 0, none⟩) 1 1) [1] := by
    rw [hw2]; exact litS1 _ w1 1 (by simp)
  have hn2 := rdnew_any w2 (wd : Int) _ [1] i2.ints
  unfold newW at hn2
  rw [unhide HE, if_pos rfl] at hn2
  have H1 := hide (And.intro hR1 (And.intro hD1 (And.intro b01 b12)))
  have HW2 := hide hw2
  clear hR1 hD1 hrb1 b1 b01 b12 i2 hw2
  go_wp2_with fail
  rw [← unhide HW2]
  refine hn2.mono ?_
  clear hn2
  rintro e w3 ⟨rfl, b3⟩
  obtain ⟨w4, hw4⟩ : ∃ w4, w4 = w3.alloc (.cells #[.int .i64 (wd : Int), .slice none 0 0] 29) := ⟨_, rfl⟩
  obtain ⟨qb, hqb⟩ : ∃ qb, qb = w3.heap.size := ⟨_, rfl⟩
  have HS : Hid (OwnS W rb qb wd hb mb sh os (fun _ => False) 0 [] [] (fun b => b = qb) w4) := by
    obtain ⟨hR1, hD1, b01, b12⟩ := unhide H1
    have b34 : Below w3.heap.size w3 w4 := by rw [hw4]; exact allocB w3 _
    have q4 : w4.heap[qb]? = some (.cells #[.int .i64 (wd : Int), .slice none 0 0] 29 (0, 0)) := by rw [hw4, hqb]; exact World.alloc_heap_new w3 _
    have s12 := b12.size
    have s3 := b3.size
    have s01 := b01.size
    have b14 : Below w1.heap.size w1 w4 := (b12.trans (b3.mono s12)).trans (b34.mono (by omega))
    have hlt := rl_lt hR1
    have s4 : w4.heap.size = w3.heap.size + 1 := by rw [hw4]; simp
    have s0 := (unhide B0).size
    exact ⟨RelAt.wider hR1 b14 (fun b e => e.elim (fun e => .inr (by omega)) (fun e => e.elim)) (fun b e => e.elim (fun e => by omega) (fun e => e.elim)),
      ⟨.slice none 0 0, [], by omega, q4, World.ownsRow_nil _ _ _ _, rfl, fun b => (by simp [Value.ownBlock]), fun p hp => (by cases hp)⟩,
      fun b e => ⟨by have := hD1 b e; omega, fun e2 => by have := hlt b e; omega⟩, fun _ e => e.elim, List.Perm.refl _, List.Pairwise.nil, fun p hp => (by cases hp), Nat.le_refl _, b01.trans (b14.mono s01)⟩
  have hal := alive_any w4
  have HW4 := hide hw4
  have HQB := hide hqb
  clear b3 hw4 hqb
  go_wp2_with fail
  rw [← unhide HW4]
  refine hal.mono ?_
  clear hal
  rintro e w5 ⟨rfl, b5⟩
  have HS5 := hide ((unhide HS).later b5)
  clear b5 HS
  go_wp2_with fail
  rw [← unhide HQB]
  go_loopw [51] (fun i wr => OwnRel W rb qb wd hb mb sh os xs.length i wr) (fun i _ => xs.length - (intOf i).toNat)
  case atStart => exact ⟨0, [], [], _, Nat.zero_le _, rfl, unhide HS5⟩
  case round =>
    obtain ⟨k, ns, R, O, hk, rfl, hS⟩ := hrel
    by_cases hlt : k < xs.length
    · obtain ⟨hL, hB, hz⟩ := unhide HLI
      obtain ⟨f0, hr0, hin0⟩ := hL
      obtain ⟨g, off, e1, hcell0⟩ := row_in hr0 hlt
      subst e1
      have hit := hin0 k hlt
      obtain ⟨_, hzz, _⟩ := cells_of_cell hcell0
      have hcell := (hS.bel.cell (p := ⟨g, off + k, none⟩) (lt_heap hzz)).trans hcell0
      obtain ⟨ta, tc, et, _⟩ := id hit
      rw [et] at hcell hit
      have hmem : xs.getD k [] ∈ xs := by rw [List.getD_eq_getElem?_getD, List.getElem?_eq_getElem hlt]; exact List.getElem_mem hlt
      have hxB := hB _ hmem
      have hxz := hz _ hmem
      generalize xs.getD k [] = x at hcell hit hxB hxz
      obtain ⟨r, w6, hrun, hown, b6⟩ := C.appI_run wr (.slice ta x.length tc) x ((hit.later hS.bel).ints) (by omega)
      have hS6 := hS.more b6 hown
      have LN : Hid (∀ v, Calls Tryz.prog 9 #[.int .i64 (k : Int), .int .i64 2] v fun e w' => e = .returned (.complex .f64 (floatOfInt .f64 (k : Int)) (floatOfInt .f64 2)) ∧ w' = v) := fun v => lnote_at (k : Int) 2 (inN_of (by omega)) (by decide) v
      have hput := own_put hS6 hown hxB (floatOfInt .f64 (k : Int)) (floatOfInt .f64 2) (w64_int _) (w64_int 2) (by omega)
      have RPUT : Hid (∀ v, OwnT W rb qb wd hb mb sh os (fun b => some b = r.ownBlock) k ns (rputTo (floatOfInt .f64 (k : Int)) (floatOfInt .f64 2) x wd ns) R O v → OwnI wr.heap.size v r x → Calls Tryz.prog 10 #[.pointer (some ⟨qb, 0, none⟩), .int .i64 (k : Int), .int .i64 2, .slice ta x.length tc] v fun e w' => (∃ b c, e = .returned (.tuple #[.bool b, .int .i64 c])) ∧ (∃ ns' R' O', OwnS W rb qb wd hb mb sh os (fun b => some b = r.ownBlock) (k + 1) ns' R' O' w') ∧ OwnI wr.heap.size w' r x) := fun v hv hv2 => own_rput hw (by omega) hv hv2 _ ((hit.later hv.bel).ints)
      obtain ⟨ra5, rc5, er, _⟩ := id hown.intsS
      generalize rputTo (floatOfInt .f64 (k : Int)) (floatOfInt .f64 2) x wd ns = ns2 at hput RPUT
      generalize floatOfInt .f64 (k : Int) = fj at LN hput
      generalize floatOfInt .f64 2 = f2 at LN hput
      have HRUN := hide hrun
      have hg : (k : Int) < (xs.length : Int) := by omega
      have hln := unhide LN w6
      subst er
      clear hS hr0 hin0 hcell0 hit hzz et hmem hB hz hxB hrun hown b6 hS6 LN
      go_wp2_with (at_builtin; refine C.wpList_append_run _ rfl _ _ 32 rfl _ _ rfl rfl _ _ (unhide HRUN) ?_; clear HRUN)
      refine hln.mono ?_
      clear hln
      rintro e w7 ⟨rfl, hw7⟩
      subst hw7
      go_wp2_with fail
      refine hput.mono ?_
      clear hput
      rintro e w8 ⟨⟨bb8, er8, rfl⟩, hT8, hown8⟩
      have hrp := unhide RPUT w8 hT8 hown8
      clear hT8 hown8 RPUT
      go_wp2_with fail
      refine hrp.mono ?_
      clear hrp
      rintro e w9 ⟨⟨bb9, er9, rfl⟩, ⟨ns9, R9, O9, hS9⟩, hown9⟩
      have HS9 := hide hS9
      have hxl : x.length * 8 ≤ 140737488355328 := by omega
      have HW9 : Hid (WRel wr.heap.size (.slice ra5 x.length rc5) x.length w9 (.int .i64 ((0 : Nat) : Int)) w9) := ⟨0, x, Nat.zero_le _, rfl, rfl, hown9, Keeps.refl _ _⟩
      clear hS9 hown9
      go_wp2_with fail
      go_loopw [68] (fun i wr2 => WRel wr.heap.size (.slice ra5 x.length rc5) x.length w9 i wr2) (fun i _ => x.length - (intOf i).toNat)
      case atStart => exact unhide HW9
      case round =>
        obtain ⟨j, l, hj, rfl, hll, hro, hrk⟩ := hrel
        by_cases hjl : j < x.length
        · obtain ⟨g, eg⟩ : ∃ g, ra5 = some ⟨g, 0, none⟩ := by
            rcases hro.2 with ⟨h', _⟩ | ⟨g, cap, cur, h', _⟩
            · simp only [Value.slice.injEq] at h'
              omega
            · simp only [Value.slice.injEq] at h'
              exact ⟨g, h'.1⟩
          subst eg
          obtain ⟨y0, y1⟩ := hro.cell (j := j) (by omega)
          generalize l[j]'_ = c0 at y0
          have HR2 := hide (And.intro hro (And.intro hrk hll))
          clear hro hrk hll
          go_wp2_with fail
          go_roundw
          case rel =>
            obtain ⟨hro, hrk, hll⟩ := unhide HR2
            exact ⟨j + 1, l.set j (-9), by omega, by go_num, by simp [hll], hro.stored hll.symm j _, hrk.setCell ⟨g, j, none⟩ rfl _⟩
          case measure => simp [intOf]; omega
        · have HS10 := hide ((unhide HS9).wrote hrk).less
          have hnj : ¬ ((j : Int) < (x.length : Int)) := by omega
          clear hro hrk hll
          go_wp2_with fail
          go_roundw
          case rel => exact ⟨k + 1, _, _, _, by omega, by go_num, unhide HS10⟩
          case measure => simp [intOf]; omega
    · have hk2 : k = xs.length := by omega
      subst hk2
      have hg : ¬ ((xs.length : Int) < (xs.length : Int)) := by omega
      have ha1 := @rall_any ⟨fun b => O b ∨ False⟩ wr rb hb mb wd sh os ns hS.rel
      have HS := hide hS
      clear hS
      go_wp2_with fail
      refine ha1.mono ?_
      clear ha1
      rintro e w7 ⟨b3, b4, b7, rfl, hF7, bel7⟩
      have HS7 := hide ((unhide HS).later bel7)
      have HF7 := hide hF7
      have hseq : ∀ V, Step w7.heap.size w7 V → GoesAtQ 37 #[.pointer (some ⟨b3, 0, none⟩), .pointer (some ⟨b4, 0, none⟩), .pointer (some ⟨b7, 0, none⟩)] (foundL wd 0 (List.replicate wd 0) ns).length HandsQ V := fun V hV => all_goesQ V rb hb mb wd sh os ns (rl_later (unhide HS7).rel (hV.below (Nat.le_refl _) (Nat.le_refl _))) b3 b4 b7 ((unhide HF7).step hV)
      have HSEQ := hide hseq
      clear bel7 hF7 hseq
      go_wp2_with fail
      refine (wpIn_wide (n := 6)).1 (wp_rangeQ (gf := 37) rfl eg_find1 (unhide HSEQ) (fun _ _ _ _ _ h h2 => h.step h2) (fun _ => False) (fun b hb => hb.elim)
        (fun _ O' Wx => (∀ b, ¬ O' b) ∧ Below w7.heap.size w7 Wx) (fun k O A B h h2 => ⟨h.1, h.2.trans (h2.below (Nat.le_refl _) h.2.size)⟩) ⟨fun _ e => e, Below.refl _ _⟩ ?a1 ?assign ?body ?done)
      case assign =>
        intro l m v Wx KK hK
        gi_wp2
        exact hK
      case body =>
        intro ll m k' O2 H v Wx hsz hO2 hH hlt hi hy
        obtain ⟨hno, hbx⟩ := hi
        obtain ⟨va, len, vc, ev, hvc, hvc2, hfree0⟩ := hy
        obtain ⟨v1, v2⟩ := v
        simp only at ev
        subst ev
        have HT0 : Hid (TRel H va len Wx (.int .i64 ((0 : Nat) : Int)) Wx) := ⟨0, Nat.zero_le _, rfl, Keeps.refl H Wx, Shp.refl H Wx, hfree0⟩
        have HBX := hide (And.intro hno hbx)
        have HHH := hide hH
        clear hno hbx hH hfree0
        gi_wp2
        gi_loopw [82] (fun i wr => TRel H va len Wx i wr) (fun i _ => len - (intOf i).toNat)
        case atStart => exact unhide HT0
        case round =>
          obtain ⟨j, hj, rfl, hk, hq, hfree⟩ := hrel
          by_cases hjl : j < len
          · obtain ⟨b, off, cur, tt, fz, rfl, hHb, hheap, hsz2, hfz⟩ := hfree (by omega)
            have hcell : wr.cell? ⟨b, off + j, none⟩ = some (cur[off + j]'(by omega)) := by rw [cell_at hheap]; exact Array.getElem?_eq_getElem (by omega)
            have hfr := hfz j hjl
            generalize cur[off + j]'_ = c0 at hcell
            have HK := hide (And.intro hk (And.intro hq (And.intro hHb (And.intro hheap (And.intro hsz2 hfz)))))
            clear hk hq hHb hheap hsz2 hfz hfree
            gi_wp2
            go_roundw
            case rel =>
              obtain ⟨hk, hq, hHb, hheap, hsz2, hfz⟩ := unhide HK
              have hs' := set_heap hheap (off + j) (.int .i64 (-8))
              exact ⟨j + 1, by omega, by go_num, hk.setCell ⟨b, off + j, none⟩ hHb _, hq.trans (Shp.set _ b (off + j) _), fun _ => ⟨b, off, _, tt, fz, rfl, hHb, hs', by simpa using hsz2, fun q hq => (frz_at hheap hs').trans (hfz q hq)⟩⟩
            case measure => simp [intOf]; omega
          · have hnj : ¬ ((j : Int) < (len : Int)) := by omega
            have HK := hide (And.intro hk hq)
            clear hk hq hfree
            gi_wp2
            obtain ⟨hno, hbx⟩ := unhide HBX
            exact ⟨⟨O2, ⟨hno, hbx.trans ((unhide HK).1.below hbx.size (fun b e => by have := (unhide HHH _ e).1; omega))⟩, fun b hb => (hno b hb).elim⟩, (unhide HK).1.mono (fun b h => .inr h), (unhide HK).2⟩
      case done =>
        rintro D O2 Wx hD hO2 ⟨hno, hbx⟩ hDx
        have hS := (unhide HS7).later hbx
        have FR : foundL wd 0 (List.replicate wd 0) ns = R := all_rows hS.perm hS.up (rl_keys hS.rel).1
        obtain ⟨rv, hq, hDR⟩ := hS.doc.at
        obtain ⟨qa, qc, erv, _⟩ := id hDR
        subst erv
        have hRl : R.length ≤ 1024 := by have := hS.perm.length_eq; have := hS.len; omega
        have CELL : Hid (∀ v, Below Wx.heap.size Wx v → v.cell? ⟨qb, 1, none⟩ = some (.slice qa R.length qc)) := fun v hv => by
          have q := (hv.block _ (lt_heap hq)).trans hq
          rw [cell_at q]; rfl
        have ALL : Hid (∀ v, Below Wx.heap.size Wx v → Calls Tryz.prog 11 #[.pointer (some ⟨rb, 0, none⟩)] v fun e w' => FindOk v rb 0 (List.replicate wd 0) e w') := fun v hv => @rall_any ⟨fun b => O b ∨ False⟩ v rb hb mb wd sh os ns (rl_later hS.rel hv)
        have WALK : Hid (∀ v c3 c4 c7, Below Wx.heap.size Wx v → FindAt v c3 c4 c7 rb 0 (List.replicate wd 0) → Calls Tryz.prog 12 #[.func (.func 37) #[] #[.pointer (some ⟨c3, 0, none⟩), .pointer (some ⟨c4, 0, none⟩), .pointer (some ⟨c7, 0, none⟩)], .slice qa R.length qc] v fun e w' => e = .returned (.bool true) ∧ Below v.heap.size v w') := fun v c3 c4 c7 hv hF =>
          walked_any _ v 37 _ R _ (fun V hV => by
            have := @find1_all ⟨fun b => O b ∨ False⟩ V rb hb mb wd sh os ns (rl_later (rl_later hS.rel hv) (hV.below (Nat.le_refl _) (Nat.le_refl _))) (List.replicate wd 0) 0 c3 c4 c7 (hF.step hV)
            rw [FR] at this
            exact this) eg_find1 hRl (by have := @nsOk_found ⟨fun b => O b ∨ False⟩ Wx rb hb mb wd sh os ns hS.rel 0 (List.replicate wd 0); rw [FR] at this; exact this) (hDR.later hv)
        have hDlt := lt_heap hDx
        have hDW : W.heap.size ≤ D := by have := (unhide HS7).bel.size; omega
        have HBX := hide (And.intro hS.bel (And.intro hDx hDW))
        clear hS hDR hq hD hO2 hno hbx hDx FR hRl hDW
        go_wp2_with fail
        refine region_mixN (md := [(0, true), (2, true), (3, true), (1, false), (4, false), (5, false)]) (fun w' => Below Wx.heap.size Wx w') mixed (by kernel_rfl) rfl (by kernel_rfl) (fun PP hPP => ?_)
        iterate 3 (refine wpMix_take (v := ?_) rfl (by kernel_rfl) (fun w' hw => ?_) ?_; rotate_left; · (have q1 := unhide CELL w' hw; go_simp; try with_reducible rfl))
        refine wpMix_force rfl ((Below.refl _ Wx).drew) (fun K hK => ?_)
        go_simp
        refine (unhide ALL _ ((Below.refl _ Wx).drew)).mono ?_
        rintro e v1 ⟨c3, c4, c7, rfl, hF1, b1'⟩
        have b1 : Below Wx.heap.size Wx v1 := ((Below.refl _ Wx).drew).trans b1'
        have hwk := unhide WALK v1 c3 c4 c7 b1 hF1
        have B1 := hide b1
        clear b1 b1' hF1 WALK ALL
        go_wp2_with fail
        refine wpMix_force rfl (unhide B1) (fun K hK => ?_)
        go_simp
        refine hwk.mono ?_
        clear hwk
        rintro e v2 ⟨rfl, b2'⟩
        have B2 := hide ((unhide B1).trans (b2'.mono (unhide B1).size))
        clear b2'
        go_wp2_with fail
        refine wpMix_force rfl (unhide B2) (fun K hK => ?_)
        go_simp
        refine hK _ _ ?_
        clear hK K
        refine wpMix_nil (unhide B2) (hPP _ _ ?_)
        clear hPP
        go_wp2_with fail
        obtain ⟨bel, hDx, hDW⟩ := unhide HBX
        refine leaves_marks (base := W.heap.size) (v := .bool true) [D] _ (by simp) (fun E hE => ?_) (fun w' hs => ⟨by simp [results, Tryz.f3, go_sem], rfl, (bel.trans ((unhide B2).mono bel.size)).trans (hs.below (Nat.le_refl _) (Nat.le_trans bel.size (unhide B2).size))⟩)
        have e : E = D := by simpa using hE
        rw [e]
        exact ⟨hDW, ((unhide B2).block _ hDlt).trans hDx⟩
end Go.Proofs.YthcljhfankooaabGreat

namespace Go.Proofs.YthcljhfankooaabGreat
open Go.RowKit Go.Shelf

set_option maxRecDepth 100000 in
set_option maxHeartbeats 4000000 in
theorem own_no (W : World) (width : Int) (h : C.ordE width [1] ≠ 0) (la : Option Addr) (n lc : Nat) :
    Calls Tryz.prog 3 #[.int .i64 width, .slice la n lc] W fun e W' => e = .returned (.bool true) ∧ Below W.heap.size W W' := by
  obtain ⟨w0, hw0⟩ : ∃ w0, w0 = W.alloc (.cells #[.int .i64 1] 3) := ⟨_, rfl⟩
  have b0 : Below W.heap.size W w0 := by rw [hw0]; exact allocB W _
  have i0 : IntsS (fun b => b < w0.heap.size) w0 (.slice (some ⟨W.heap.size, 0, none⟩) 1 1) [1] := by
    rw [hw0]; exact litS1 _ W 1 (by simp)
  have hn1 := relnew_no w0 width _ [1] i0.ints h
  obtain ⟨w2, hw2⟩ : ∃ w2, w2 = w0.alloc (.cells #[.int .i64 1] 3) := ⟨_, rfl⟩
  have b2 : Below w0.heap.size w0 w2 := by rw [hw2]; exact allocB w0 _
  have i2 : IntsS (fun b => b < w2.heap.size) w2 (.slice (some ⟨w0.heap.size, 0, none⟩) 1 1) [1] := by
    rw [hw2]; exact litS1 _ w0 1 (by simp)
  have hn2 := rdnew_any w2 width _ [1] i2.ints
  unfold newW at hn2
  rw [if_neg h] at hn2
  have h1 : (C.ordE width [1] != C.ordE width [1]) = false := by simp
  have h2 : (C.ordE width [1] != 0) = true := by simpa using h
  have h3 : (C.ordE width [1] == C.ordE width [1]) = true := by simp
  generalize C.ordE width [1] = e8 at hn1 hn2 h1 h2 h3
  have B2 := hide (b0.trans (b2.mono b0.size))
  have HW0 := hide hw0
  have HW2 := hide hw2
  clear b0 i0 hw0 b2 i2 hw2 h
  refine calls_marks Tryz.func3 rfl ?_
  simp only [Tryz.ntmps3, List.size_toArray, List.length_cons, List.length_nil, Nat.reduceAdd, Nat.reduceSub, Array.replicate_succ, Array.replicate_zero, List.push_toArray, List.append_toArray, List.nil_append, List.cons_append]
  go_wp2_with fail
  rw [← unhide HW0]
  refine hn1.mono ?_
  clear hn1
  rintro e w1 ⟨rfl, hw1⟩
  subst hw1
  go_wp2_with fail
  rw [← unhide HW2]
  refine hn2.mono ?_
  clear hn2
  rintro e w3 ⟨rfl, b3⟩
  obtain ⟨w4, hw4⟩ : ∃ w4, w4 = w3.alloc (.cells #[.int .i64 0, .slice none 0 0] 29) := ⟨_, rfl⟩
  have hal := alive_any w4
  have B4 := hide (((unhide B2).trans (b3.mono (unhide B2).size)).trans ((show Below w3.heap.size w3 w4 by rw [hw4]; exact allocB w3 _).mono (Nat.le_trans (unhide B2).size b3.size)))
  have HW4 := hide hw4
  clear b3 hw4
  go_wp2_with fail
  rw [← unhide HW4]
  refine hal.mono ?_
  clear hal
  rintro e w5 ⟨rfl, b5⟩
  have B5 := hide ((unhide B4).trans (b5.mono (unhide B4).size))
  clear b5
  go_wp2_with fail
  exact leaves_marks (base := W.heap.size) (v := .bool true) [] _ List.nodup_nil (fun _ h => by cases h) (fun w' hs => ⟨by simp [results, Tryz.f3, go_sem], rfl, (unhide B5).trans (hs.below (Nat.le_refl _) (unhide B5).size)⟩)

set_option maxRecDepth 100000 in
set_option maxHeartbeats 4000000 in
theorem own_big (W : World) (wd : Nat) (hw : wd ≤ 8) (hl1 : C.lookE wd [1] = 0) (la : Option Addr) (n lc : Nat) (hn : (200 : Int) < (n : Int)) :
    Calls Tryz.prog 3 #[.int .i64 (wd : Int), .slice la n lc] W fun e W' => e = .returned (.bool true) ∧ Below W.heap.size W W' := by
  obtain ⟨w0, hw0⟩ : ∃ w0, w0 = W.alloc (.cells #[.int .i64 1] 3) := ⟨_, rfl⟩
  have b0 : Below W.heap.size W w0 := by rw [hw0]; exact allocB W _
  have i0 : IntsS (fun b => b < w0.heap.size) w0 (.slice (some ⟨W.heap.size, 0, none⟩) 1 1) [1] := by
    rw [hw0]; exact litS1 _ W 1 (by simp)
  have hE : C.ordE (wd : Int) [1] = 0 := by rw [C.ordE_nat hw]; exact hl1
  have hn1 := @relnew_ok xt0 w0 wd _ [1] i0.ints hw hl1 (fun _ e => e.elim)
  have HW0 := hide hw0
  have B0 := hide b0
  have HE := hide hE
  clear b0 i0 hw0 hE hl1 hw
  refine calls_marks Tryz.func3 rfl ?_
  simp only [Tryz.ntmps3, List.size_toArray, List.length_cons, List.length_nil, Nat.reduceAdd, Nat.reduceSub, Array.replicate_succ, Array.replicate_zero, List.push_toArray, List.append_toArray, List.nil_append, List.cons_append]
  go_wp2_with fail
  rw [← unhide HW0]
  refine hn1.mono ?_
  clear hn1
  rintro e w1 ⟨rb, hb, mb, sh, os, rfl, _, _, _, b1⟩
  have b01 : Below W.heap.size W w1 := (unhide B0).trans (b1.mono (unhide B0).size)
  obtain ⟨w2, hw2⟩ : ∃ w2, w2 = w1.alloc (.cells #[.int .i64 1] 3) := ⟨_, rfl⟩
  have b12 : Below w1.heap.size w1 w2 := by rw [hw2]; exact allocB w1 _
  have i2 : IntsS (fun b => b < w2.heap.size) w2 (.slice (some ⟨w1.heap.size, 0, none⟩) 1 1) [1] := by
    rw [hw2]; exact litS1 _ w1 1 (by simp)
  have hn2 := rdnew_any w2 (wd : Int) _ [1] i2.ints
  unfold newW at hn2
  rw [unhide HE, if_pos rfl] at hn2
  have B2 := hide (b01.trans (b12.mono b01.size))
  have HW2 := hide hw2
  clear b1 b01 b12 i2 hw2
  go_wp2_with fail
  rw [← unhide HW2]
  refine hn2.mono ?_
  clear hn2
  rintro e w3 ⟨rfl, b3⟩
  obtain ⟨w4, hw4⟩ : ∃ w4, w4 = w3.alloc (.cells #[.int .i64 (wd : Int), .slice none 0 0] 29) := ⟨_, rfl⟩
  have hal := alive_any w4
  have B4 := hide (((unhide B2).trans (b3.mono (unhide B2).size)).trans ((show Below w3.heap.size w3 w4 by rw [hw4]; exact allocB w3 _).mono (Nat.le_trans (unhide B2).size b3.size)))
  have HW4 := hide hw4
  clear b3 hw4
  go_wp2_with fail
  rw [← unhide HW4]
  refine hal.mono ?_
  clear hal
  rintro e w5 ⟨rfl, b5⟩
  have B5 := hide ((unhide B4).trans (b5.mono (unhide B4).size))
  clear b5
  go_wp2_with fail
  exact leaves_marks (base := W.heap.size) (v := .bool true) [] _ List.nodup_nil (fun _ h => by cases h) (fun w' hs => ⟨by simp [results, Tryz.f3, go_sem], rfl, (unhide B5).trans (hs.below (Nat.le_refl _) (unhide B5).size)⟩)

theorem own_walk (W : World) (width : Int) (lv : Value) (xs : List (List Int)) (hL : ListAt (fun b => b < W.heap.size) W lv xs) (hB : ∀ y ∈ xs, Bnd y) (hz : ∀ y ∈ xs, y.length * 8 ≤ 140737488351232) :
    Calls Tryz.prog 3 #[.int .i64 width, lv] W fun e W' => e = .returned (.bool true) ∧ Below W.heap.size W W' := by
  obtain ⟨lf, ⟨la, lc, elv, _⟩, _⟩ := id hL
  subst elv
  by_cases e0 : C.ordE width [1] = 0
  · obtain ⟨wd, hw, rfl, g0⟩ := ordE_zero e0
    by_cases hn : (200 : Int) < (xs.length : Int)
    · exact own_big W wd hw g0 la xs.length lc hn
    · exact own_long W wd hw g0 _ xs hL hB hz hn
  · exact own_no W width e0 la xs.length lc
end Go.Proofs.YthcljhfankooaabGreat

namespace Go.Proofs.YthcljhfankooaabGreat
open Go.ChangeShapes Go.WideShapes Go.ChangeAt Go.RowKit

set_option maxRecDepth 100000 in
theorem relOwn_lifted (os : Os) (started : os.Started) (H : Type) (enc : TypeId × Value → H) :
    ReturnsInHanded {} Tryz.checked os 3 .any (Rows.relOwnSpec.pre6 enc Tryz.prog Tryz.f3 Rows.relOwnRow.domain false) (Rows.relOwnSpec.post enc Tryz.prog Tryz.f3 false true false false) := by
  refine returnsInHanded_of_change_sized (C := Tryz.checked) own started (by kernel_rfl) Tryz.func3
    (ChangeSpec.witness6 (enc := enc) (C := Tryz.checked) false ⟨#[], #[.int .i64 0, .slice none 0 0], []⟩ 8 (by kernel_rfl) (by kernel_rfl) (by kernel_rfl) (by kernel_rfl)) ?_
  intro W base args ds gs before hval0 hW _ hsz0 _
  have hsz : (DataW.weightsEach Tryz.prog (Tryz.f3.params.toList ++ Rows.relOwnSpec.plain.varTypes Tryz.prog) (ds ++ gs)).all (· ≤ reachBytes) = true := hsz0
  clear hsz0
  have hval : ∀ (j : Nat) t v, Tryz.f3.params[j]? = some t → args[j]? = some v → Value.okWide Tryz.prog W .any base t v := hval0
  have hW' := hW
  obtain ⟨p, q, hA0, hV, rfl, _, _⟩ := hW
  have hA : DataW.TrodAll enc Tryz.prog W 0 (fun _ => true) true Tryz.f3.params.toList args.toList ds p := hA0
  rw [Tryz.params3] at hA hval hsz
  obtain ⟨v0, v1, d0, d1, p0, p1, rfl, rfl, rfl, h0, h1⟩ := trodAll_two hA
  obtain ⟨rfl, rfl⟩ := trodVars_none hV
  obtain ⟨n0, rfl, rfl, rfl, wf0⟩ := open_int Tryz.underlying3 (hval 0 3 v0 rfl rfl) h0
  obtain ⟨a1, len1, cap1, rfl⟩ := okWide_slice Tryz.underlying22 (hval 1 22 v1 rfl rfl)
  clear hA0 hval0
  simp only [List.append_nil, List.nil_append] at hW'
  have lt1 : ∀ x ∈ p1, x.block < W.heap.size := fun x hx => hW'.lt x (by simp [hx])
  obtain ⟨l1, hl1, hB1, hz1⟩ := lists_at h1 rfl lt1
  have hz1 := hz1 (fun n hn => by simpa using List.all_eq_true.1 hsz n (DataW.weights_mem_each (j := 1) (t := 22) rfl rfl n hn))
  refine (own_walk _ _ _ _ hl1 hB1 hz1).mono fun e W' ⟨he, hg⟩ => ?_
  subst he
  refine ⟨_, rfl, _, _, _, [], p1, [], hW', ?_, ?_, rfl, hg.frame _, fun h => by cases h⟩
  · exact trodAll_mk1 (shut_bool Tryz.underlying4 _)
  · have := trodAll_mk2 (shut_int Tryz.underlying3 wf0) (Below.trod laidOut (by kernel_rfl) (of_decide_eq_true (by kernel_rfl)) h1 hg lt1)
    simp only [List.nil_append] at this
    exact this

theorem relOwn_holds : Rows.RelOwnSaid :=
  OpenClaim.holds_of_wide 3 Tryz.f3 rfl rfl rfl rfl rfl rfl rfl ⟨rfl, rfl, rfl, rfl, rfl⟩ rfl rfl rfl rfl rfl (by kernel_rfl) Tryz.func3 (by kernel_rfl)
    (of_decide_eq_true (by kernel_rfl)) (by unfold Func.isWrapper; first | (rw [if_pos (by decide +kernel)]; kernel_rfl) | (rw [if_neg (by decide +kernel)]; exact ⟨rfl, rfl⟩))
    (fun os started H enc _ => relOwn_lifted os started H enc)
#print axioms relOwn_holds
end Go.Proofs.YthcljhfankooaabGreat
