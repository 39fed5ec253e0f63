/- RelMade: the walk. RelMade: the walk where it comes to pass. The statement on RelMade: relations that are made for unlike searches answer every search the same. No condition. -/
import Derived.Test.YthcljhfankooaaaGreatMTwo
import Derived.Test.YthcljhfankooaaaGreatMFrame
namespace Go.Proofs.YthcljhfankooaaaGreat
open Go.RowKit Go.Shelf

/-- Loop 1. -/
def MdR (w : World) (ra rb wd n : Nat) (i : Value) (wr : World) : Prop := ∃ (j : Nat) (ns : List Nrow), j ≤ n ∧ i = .int .i64 (j : Int) ∧ ns.length ≤ j ∧ TwoIW w ra rb wd ns ns wr
/-- Loops 2 and 3. -/
def MdL (w8 : World) (n : Nat) (i : Value) (wr : World) : Prop := ∃ j : Nat, j ≤ n ∧ i = .int .i64 (j : Int) ∧ Below w8.heap.size w8 wr
theorem inN_hundred {j : Nat} (h : j ≤ 200) : inN (j : Int) = true := inN_of (by omega)

set_option maxRecDepth 100000 in
set_option maxHeartbeats 8000000 in
/-- Where it does not come to pass. -/
theorem made_short (w : World) (width : Int) (s0 s1 : Value) (l0 l1 : List Int) (h0 : IntsS (fun b => b < w.heap.size) w s0 l0) (h1 : IntsS (fun b => b < w.heap.size) w s1 l1) (la : Option Addr) (n lc : Nat) (hno : C.ordE width l0 ≠ 0 ∨ (C.ordE width l0 = 0 ∧ C.ordE width l1 ≠ 0) ∨ (C.ordE width l0 = 0 ∧ C.ordE width l1 = 0 ∧ (100 : Int) < (n : Int))) :
    Calls Tryz.prog 7 #[.int .i64 width, .agg #[s0, s1], .slice la n lc] w fun e w' => e = .returned (.bool true) ∧ Below w.heap.size w w' := by
  obtain ⟨w0, hw0⟩ : ∃ w0, w0 = w.alloc (.cells #[s0, s1] 24) := ⟨_, rfl⟩
  have b0 : Below w.heap.size w w0 := by rw [hw0]; exact allocB w _
  have q0 : w0.heap[w.heap.size]? = some (.cells #[s0, s1] 24 (0, 0)) := by rw [hw0]; exact World.alloc_heap_new w _
  have hn1 := new_any w0 width s0 l0 (h0.later b0).ints
  have HN2 : Hid (∀ v, Below w0.heap.size w0 v → v.cell? ⟨w.heap.size, 1, none⟩ = some s1 ∧ Calls Tryz.prog 20 #[.int .i64 width, s1] v fun e w' => ∃ p, e = .returned (.tuple #[.pointer p, .int .i64 (C.ordE width l1)]) ∧ Below v.heap.size v w') := fun v hv => ⟨by rw [cell_at ((hv.block _ (lt_heap q0)).trans q0)]; rfl, new_any v width s1 l1 ((h1.later b0).later hv).ints⟩
  have c0 : w0.cell? ⟨w.heap.size, 0, none⟩ = some s0 := by rw [cell_at q0]; rfl
  obtain ⟨a0, c0', e0, _⟩ := id h0
  obtain ⟨a1, c1', e1, _⟩ := id h1
  subst e0 e1
  have B0 := hide b0
  have HAL := hide (fun W => alive_any W)
  generalize C.ordE width l0 = E0 at hn1 hno
  generalize C.ordE width l1 = E1 at HN2 hno
  have HW0 := hide hw0
  clear b0 q0 h0 h1 hw0
  go_enter Tryz.func7, Tryz.ntmps7
  go_wp2_with fail
  rw [← unhide HW0]
  refine hn1.mono ?_
  clear hn1
  rintro e w1 ⟨p, rfl, b1⟩
  obtain ⟨c1, hn2⟩ := unhide HN2 w1 b1
  have B1 := hide ((unhide B0).trans (b1.mono (unhide B0).size))
  clear b1 c0
  go_wp2_with fail
  refine hn2.mono ?_
  clear hn2
  rintro e w2 ⟨p2, rfl, b2⟩
  have B2 := hide ((unhide B1).trans (b2.mono (unhide B1).size))
  clear b2 c1
  have hal := unhide HAL w2
  rcases hno with g | ⟨rfl, g⟩ | ⟨rfl, rfl, g⟩
  case' inl => have hz : (E0 != 0) = true := by simpa using g
  case' inr.inl => have hz : (E1 != 0) = true := by simpa using g
  case' inr.inr => have hz := g
  all_goals
    clear g
    go_wp2_with fail
    refine hal.mono ?_
    clear hal
    rintro e w3 ⟨rfl, b3⟩
    have B3 := hide ((unhide B2).trans (b3.mono (unhide B2).size))
    clear b3
    go_wp2_with fail
    go_ret
    exact ⟨rfl, unhide B3⟩
end Go.Proofs.YthcljhfankooaaaGreat

namespace Go.Proofs.YthcljhfankooaaaGreat
open Go.RowKit Go.Shelf

theorem oper_append_run {P : Program} {w : World} {o : Oper} {a : Act} {K : Act → World → Prop} {Q : Exit → Act → World → Prop} (s x : Operand) (t : TypeId) (hop : o.op = Op.call { callee := Callee.builtin Builtin.append, args := #[s, x], argTypes := #[t, t] })
    (v u : Value) (hs : a.eval s = v) (hx : a.eval x = u) (v' : Value) (w' : World) (hrun : (Builtin.append_ #[t, t] o.type #[v, u]).run P w = .ok v' w') (hK : K (a.put o.dst v') w') : Oper.wp P o a w K Q := by
  unfold Oper.wp
  simp [execOp, hop, resolve, invoke, builtin, hs, hx, hrun, Result.andThen]
  exact hK

set_option maxRecDepth 100000 in
set_option maxHeartbeats 8000000 in
theorem made_long (w : World) (wd : Nat) (hw : wd ≤ 8) (s0 s1 : Value) (l0 l1 : List Int) (h0 : IntsS (fun b => b < w.heap.size) w s0 l0) (h1 : IntsS (fun b => b < w.heap.size) w s1 l1) (g0 : C.lookE wd l0 = 0) (g1 : C.lookE wd l1 = 0) (lv : Value) (xs : List (List Int)) (hL : ListAt (fun b => b < w.heap.size) w lv xs) (hB : ∀ y ∈ xs, Bnd y) (hz : ∀ y ∈ xs, y.length * 8 ≤ 140737488351232) (hn : ¬ (100 : Int) < (xs.length : Int)) :
    Calls Tryz.prog 7 #[.int .i64 (wd : Int), .agg #[s0, s1], lv] w fun e w' => e = .returned (.bool true) ∧ Below w.heap.size w w' := by
  have mixed : Tryz.prog.follows .mixedOrders = true := by kernel_rfl
  obtain ⟨w0, hw0⟩ : ∃ w0, w0 = w.alloc (.cells #[s0, s1] 24) := ⟨_, rfl⟩
  have b0 : Below w.heap.size w w0 := by rw [hw0]; exact allocB w _
  have q0 : w0.heap[w.heap.size]? = some (.cells #[s0, s1] 24 (0, 0)) := by rw [hw0]; exact World.alloc_heap_new w _
  have k0 : IntsS (fun b => b < w0.heap.size) w0 s0 l0 := (h0.later b0).mono (fun b _ h => by have := b0.size; omega)
  have k1 : IntsS (fun b => b < w0.heap.size) w0 s1 l1 := (h1.later b0).mono (fun b _ h => by have := b0.size; omega)
  have kL : ListAt (fun b => b < w0.heap.size) w0 lv xs := (hL.later b0).mono (fun b _ h => by have := b0.size; omega)
  have z0 := (C.look_zero g0 hw).1
  have z1 := (C.look_zero g1 hw).1
  have hn1 := new_iw w0 wd s0 l0 k0.ints hw g0
  obtain ⟨bx, hbx⟩ : ∃ bx, bx = w.heap.size := ⟨_, rfl⟩
  rw [← hbx] at q0
  have BOX : Hid (∀ v, Below w0.heap.size w0 v → v.cell? ⟨bx, 0, none⟩ = some s0 ∧ v.cell? ⟨bx, 1, none⟩ = some s1) := fun v hv => by
    have q := (hv.block _ (lt_heap q0)).trans q0
    exact ⟨by rw [cell_at q]; rfl, by rw [cell_at q]; rfl⟩
  have HN2 : Hid (∀ v ra, RelIW w0 ra wd [] v → Calls Tryz.prog 20 #[.int .i64 (wd : Int), s1] v fun e w' => ∃ rb, e = .returned (.tuple #[.pointer (some ⟨rb, 0, none⟩), .int .i64 0]) ∧ TwoIW w0 ra rb wd [] [] w') := fun v ra hv => new_two w0 v ra wd hv s1 l1 (k1.later hv.below).ints hw g1
  have APP : Hid (∀ v, Below w0.heap.size w0 v → ∃ a1 c1 n1 w1 a2 c2 w2, (Builtin.append_ #[23, 23] 23 #[.slice (some ⟨v.heap.size, 0, none⟩) 1 1, s0]).run Tryz.prog (v.drew.alloc (.cells #[.int .i64 0] 3)) = .ok (.slice a1 n1 c1) w1 ∧
      (Builtin.append_ #[23, 23] 23 #[.slice a1 n1 c1, s1]).run Tryz.prog w1 = .ok (.slice a2 (0 :: (l0 ++ l1)).length c2) w2 ∧ IntsS (fun b => v.heap.size ≤ b) w2 (.slice a2 (0 :: (l0 ++ l1)).length c2) (0 :: (l0 ++ l1)) ∧ Below v.heap.size v w1 ∧ Below v.heap.size v w2) := fun v hv =>
    app3_run v s0 s1 l0 l1 ((k0.later hv).mono (fun b _ h => by have := hv.size; omega)) ((k1.later hv).mono (fun b _ h => by have := hv.size; omega)) (by omega) (by omega)
  obtain ⟨a0, c0', e0, _⟩ := id h0
  obtain ⟨a1, c1', e1, _⟩ := id h1
  obtain ⟨lf, ⟨la, lc, elv, hlc1, hlc2, hrow⟩, hin⟩ := id hL
  have HLI := hide (And.intro kL (And.intro hB hz))
  have HBX := hide hbx
  have HW0 := hide hw0
  have B0 := hide b0
  obtain ⟨c00, c01⟩ := unhide BOX w0 (Below.refl _ _)
  have hnl : (0 :: (l0 ++ l1)).length ≤ 2000 := by simp; omega
  subst elv
  generalize (0 :: (l0 ++ l1)) = S at APP hnl
  subst e0 e1
  clear b0 q0 h0 h1 hw0 k0 k1 kL hL hB hz hrow hin g0 g1 hbx z0 z1
  go_enter Tryz.func7, Tryz.ntmps7
  go_wp2_with fail
  rw [← unhide HBX, ← unhide HW0]
  refine hn1.mono ?_
  clear hn1
  rintro e w1 ⟨ra, rfl, hI⟩
  obtain ⟨_, c1⟩ := unhide BOX w1 hI.below
  have hn2 := unhide HN2 w1 ra hI
  clear hI c00 c01
  go_wp2_with fail
  refine hn2.mono ?_
  clear hn2
  rintro e w2 ⟨rb, rfl, hT⟩
  have hal := alive_any w2
  have HT := hide hT
  clear hT c1
  go_wp2_with fail
  refine hal.mono ?_
  clear hal
  rintro e w3 ⟨rfl, b3⟩
  have HS : Hid (MdR w0 ra rb wd xs.length (.int .i64 0) w3) := ⟨0, [], Nat.zero_le _, rfl, Nat.zero_le _, (unhide HT).later b3⟩
  clear b3 HT
  go_wp2_with fail
  go_loopw [57] (fun i wr => MdR w0 ra rb wd xs.length i wr) (fun i _ => xs.length - (intOf i).toNat)
  case atStart => exact unhide HS
  case round =>
    obtain ⟨j, ns, hj, rfl, hns, hI⟩ := hrel
    by_cases hlt : j < xs.length
    · obtain ⟨hL, hB, _⟩ := unhide HLI
      obtain ⟨f0, hr0, hin0⟩ := hL
      obtain ⟨g, off, e1, hcell0⟩ := row_in hr0 hlt
      subst e1
      have hit := hin0 j hlt
      obtain ⟨_, hz, _⟩ := cells_of_cell hcell0
      have hcell := (hI.below.cell (p := ⟨g, off + j, none⟩) (lt_heap hz)).trans hcell0
      obtain ⟨ta, tc, et, _⟩ := id hit
      rw [et] at hcell hit
      have hmem : xs.getD j [] ∈ xs := by rw [List.getD_eq_getElem?_getD, List.getElem?_eq_getElem hlt]; exact List.getElem_mem hlt
      have LN : Hid (∀ v, Calls Tryz.prog 23 #[.int .i64 (j : Int), .int .i64 1] v fun e w' => e = .returned (.complex .f64 (floatOfInt .f64 (j : Int)) (floatOfInt .f64 1)) ∧ w' = v) := fun v => lnote_at (j : Int) 1 (inN_hundred (by omega)) (by decide) v
      have hput := put_two1 w0 wr ra rb wd ns ns hI _ _ hit (hB _ hmem) (floatOfInt .f64 (j : Int)) (floatOfInt .f64 1) (w64_int _) (w64_int 1) (.inr (by omega))
      have hlen := rput_many (floatOfInt .f64 (j : Int)) (floatOfInt .f64 1) (xs.getD j []) wd ns
      have PUT2 : Hid (∀ v ms, TwoIW w0 ra rb wd ms ns v → Calls Tryz.prog 21 #[.pointer (some ⟨rb, 0, none⟩), .complex .f64 (floatOfInt .f64 (j : Int)) (floatOfInt .f64 1), .slice ta (xs.getD j []).length tc] v fun e w' => e = .returned (.tuple #[.bool (rputB (floatOfInt .f64 (j : Int)) (floatOfInt .f64 1) (xs.getD j []) wd ns), .int .i64 (rputE (floatOfInt .f64 (j : Int)) (floatOfInt .f64 1) (xs.getD j []) wd ns)]) ∧ TwoIW w0 ra rb wd ms (rputTo (floatOfInt .f64 (j : Int)) (floatOfInt .f64 1) (xs.getD j []) wd ns) w') := fun v ms hv => put_two2 w0 v ra rb wd ms ns hv _ _ hit (hB _ hmem) (floatOfInt .f64 (j : Int)) (floatOfInt .f64 1) (w64_int _) (w64_int 1) (.inr (by omega))
      generalize rputB (floatOfInt .f64 (j : Int)) (floatOfInt .f64 1) (xs.getD j []) wd ns = q1 at hput PUT2
      generalize rputE (floatOfInt .f64 (j : Int)) (floatOfInt .f64 1) (xs.getD j []) wd ns = q2 at hput PUT2
      generalize rputTo (floatOfInt .f64 (j : Int)) (floatOfInt .f64 1) (xs.getD j []) wd ns = ns2 at hput hlen PUT2
      generalize (xs.getD j []).length = tn at hcell hput PUT2
      generalize floatOfInt .f64 (j : Int) = fj at LN hput PUT2
      generalize floatOfInt .f64 1 = f1 at LN hput PUT2
      have hg : (j : Int) < (xs.length : Int) := by omega
      have HLEN := hide hlen
      have hln := unhide LN wr
      clear hI hr0 hin0 hcell0 hit hz et hmem hlen hB
      go_wp2_with fail
      refine hln.mono ?_
      clear hln
      rintro e w3 ⟨rfl, hw3⟩
      subst hw3
      go_wp2_with fail
      refine hput.mono ?_
      clear hput
      rintro e w4 ⟨rfl, hI4⟩
      have hln := unhide LN w4
      have hput := unhide PUT2 w4 ns2 hI4
      clear hI4 hcell
      go_wp2_with fail
      refine hln.mono ?_
      clear hln
      rintro e w5 ⟨rfl, hw5⟩
      subst hw5
      go_wp2_with fail
      refine hput.mono ?_
      clear hput
      rintro e w6 ⟨rfl, hI6⟩
      have HI6 := hide hI6
      clear hI6
      go_wp2_with fail
      go_roundw
      case rel => exact ⟨j + 1, ns2, by omega, by go_num, by have := unhide HLEN; omega, unhide HI6⟩
      case measure => simp [intOf]; omega
    · have hg : ¬ ((j : Int) < (xs.length : Int)) := by omega
      have hnl2 : ns.length ≤ 1024 := by omega
      obtain ⟨W8, hW8⟩ : ∃ W8, W8 = wr := ⟨_, rfl⟩
      subst hW8
      have HI := hide hI
      clear hI hns hj
      go_wp2_with fail
      go_loopw [89] (fun i wr2 => MdL W8 xs.length i wr2) (fun i _ => xs.length - (intOf i).toNat)
      case atStart => exact ⟨0, Nat.zero_le _, rfl, Below.refl _ _⟩
      case round =>
        obtain ⟨j2, hj2, rfl, hbr⟩ := hrel
        by_cases hlt2 : j2 < xs.length
        · obtain ⟨hL, hB, hz⟩ := unhide HLI
          have hI := unhide HI
          have bw : Below w0.heap.size w0 wr := hI.below.trans (hbr.mono hI.below.size)
          obtain ⟨f0, hr0, hin0⟩ := hL
          obtain ⟨g, off, e1, hcell0⟩ := row_in hr0 hlt2
          subst e1
          have hit := hin0 j2 hlt2
          obtain ⟨_, hzz, _⟩ := cells_of_cell hcell0
          have hcell := (bw.cell (p := ⟨g, off + j2, none⟩) (lt_heap hzz)).trans hcell0
          obtain ⟨ta, tc, et, _⟩ := id hit
          rw [et] at hcell hit
          have hmem : xs.getD j2 [] ∈ xs := by rw [List.getD_eq_getElem?_getD, List.getElem?_eq_getElem hlt2]; exact List.getElem_mem hlt2
          have hzt := hz _ hmem
          generalize xs.getD j2 [] = t at hcell hit hzt
          obtain ⟨x1, y1, n1, v1, x2, y2, v2, hr1, hr2, hS, bv1, bv2⟩ := unhide APP wr bw
          rw [drew_alloc] at hr1
          have b02 : Below w0.heap.size w0 v2 := bw.trans (bv2.mono bw.size)
          have hI2 : TwoIW w0 ra rb wd ns ns v2 := (hI.later hbr).later bv2
          have FINDA : Hid (∀ v c, Below v2.heap.size v2 v → Calls Tryz.prog 25 #[.pointer (some ⟨ra, 0, none⟩), .int .i64 c, .slice ta t.length tc] v fun e w' => FindOk v ra c t e w') := fun v c hv => rfind_any v ra c t _ ((hit.later b02).later hv).ints (by omega)
          have FINDB : Hid (∀ v c, Below v2.heap.size v2 v → Calls Tryz.prog 25 #[.pointer (some ⟨rb, 0, none⟩), .int .i64 c, .slice ta t.length tc] v fun e w' => FindOk v rb c t e w') := fun v c hv => rfind_any v rb c t _ ((hit.later b02).later hv).ints (by omega)
          have ROWSA : Hid (∀ v c b3 b4 b7, Below v2.heap.size v2 v → FindAt v b3 b4 b7 ra c t → Calls Tryz.prog 24 #[.func (.func 46) #[] #[.pointer (some ⟨b3, 0, none⟩), .pointer (some ⟨b4, 0, none⟩), .pointer (some ⟨b7, 0, none⟩)]] v fun e w' => RowsOk v (foundL wd c t ns) e w') := fun v c b3 b4 b7 hv hF => rows_two1 w0 v ra rb wd ns ns (hI2.later hv) hnl2 c t b3 b4 b7 hF
          have ROWSB : Hid (∀ v c b3 b4 b7, Below v2.heap.size v2 v → FindAt v b3 b4 b7 rb c t → Calls Tryz.prog 24 #[.func (.func 46) #[] #[.pointer (some ⟨b3, 0, none⟩), .pointer (some ⟨b4, 0, none⟩), .pointer (some ⟨b7, 0, none⟩)]] v fun e w' => RowsOk v (foundL wd c t ns) e w') := fun v c b3 b4 b7 hv hF => rows_two2 w0 v ra rb wd ns ns (hI2.later hv) hnl2 c t b3 b4 b7 hF
          have hg2 : (j2 : Int) < (xs.length : Int) := by omega
          have HBW := hide (And.intro bw (And.intro bv1 (And.intro bv2 (And.intro hS hbr))))
          have BV1 := hide (bw.trans (bv1.mono bw.size))
          have B02 := hide b02
          generalize t.length = tn at hcell FINDA FINDB
          clear hI hB hz hr0 hin0 hcell0 hit hzz et hmem hzt bw bv1 bv2 hS b02 hI2 hbr
          go_wp2_with fail
          refine region_mixN (md := [(1, true), (2, true), (4, true), (5, true), (8, true), (0, false), (3, false), (6, false), (7, true)]) (fun w' => Below w0.heap.size w0 w') mixed (by kernel_rfl) rfl (by kernel_rfl) (fun PP hPP => ?_)
          iterate 5 (refine wpMix_take (v := ?_) rfl (by kernel_rfl) (fun w' hw => ?_) ?_; rotate_left; · (obtain ⟨q1, q2⟩ := unhide BOX w' hw; go_simp; try with_reducible rfl))
          refine wpMix_force rfl ((unhide HBW).1.drew) (fun K hK => ?_)
          go_simp
          refine hK _ _ ?_
          clear hK K
          refine wpMix_force rfl (((unhide HBW).1.alloc (unhide HBW).1.size _).drew) (fun K hK => ?_)
          rw [if_pos (by kernel_rfl)]
          refine oper_append_run _ _ 23 rfl _ _ rfl rfl _ _ hr1 (hK _ _ ?_)
          clear hK K hr1
          refine wpMix_force rfl (unhide BV1) (fun K hK => ?_)
          rw [if_pos (by kernel_rfl)]
          refine oper_append_run _ _ 23 rfl _ _ rfl rfl _ _ hr2 (hK _ _ ?_)
          clear hK K hr2
          refine wpMix_take (v := ?_) rfl (by kernel_rfl) (fun w' hw => ?_) ?_
          rotate_left
          · go_simp
            try with_reducible rfl
          refine wpMix_nil (unhide B02) (hPP _ _ ?_)
          clear hPP
          simp [Act.put, Array.setIfInBounds]
          obtain ⟨bw, bv1, bv2, hS, hbr⟩ := unhide HBW
          have HV2 := hide (And.intro hS (hbr.trans (bv2.mono hbr.size)))
          clear bw bv1 bv2 hS hbr
          go_wp2_with fail
          go_loopw [101] (fun i wr2 => MdL v2 S.length i wr2) (fun i _ => S.length - (intOf i).toNat)
          case atStart => exact ⟨0, Nat.zero_le _, rfl, Below.refl _ _⟩
          case round =>
            obtain ⟨j3, hj3, rfl, hb3⟩ := hrel
            by_cases hlt3 : j3 < S.length
            · obtain ⟨hS, hb8⟩ := unhide HV2
              obtain ⟨sg, soff, e1, hcs⟩ := row_in (hS.later hb3) hlt3
              subst e1
              generalize S.getD j3 0 = c at hcs
              have hg3 : (j3 : Int) < (S.length : Int) := by omega
              have hfa := unhide FINDA wr c hb3
              have HB3 := hide hb3
              clear hS hb8 hb3
              go_wp2_with fail
              refine hfa.mono ?_
              clear hfa
              rintro e y1 ⟨d3, d4, d7, rfl, hF, b1⟩
              have bb1 := (unhide HB3).trans (b1.mono (unhide HB3).size)
              have hra := unhide ROWSA y1 c d3 d4 d7 bb1 hF
              have Y1 := hide bb1
              clear hF b1 bb1 hcs
              go_wp2_with fail
              refine hra.mono ?_
              clear hra
              rintro e y2 ⟨rv1, rfl, hD1, b2⟩
              have bb2 := (unhide Y1).trans (b2.mono (unhide Y1).size)
              have hfb := unhide FINDB y2 c bb2
              obtain ⟨ra1, rc1, er1, _⟩ := id hD1
              subst er1
              have Y2 := hide (And.intro bb2 hD1)
              clear b2 bb2 hD1
              go_wp2_with fail
              refine hfb.mono ?_
              clear hfb
              rintro e y3 ⟨p3, p4, p7, rfl, hF, b3⟩
              have bb3 := (unhide Y2).1.trans (b3.mono (unhide Y2).1.size)
              have hrb := unhide ROWSB y3 c p3 p4 p7 bb3 hF
              have Y3 := hide (And.intro bb3 ((unhide Y2).2.later b3))
              clear hF b3 bb3
              go_wp2_with fail
              refine hrb.mono ?_
              clear hrb
              rintro e y4 ⟨rv2, rfl, hD2, b4⟩
              have bb4 := (unhide Y3).1.trans (b4.mono (unhide Y3).1.size)
              have hsm := same_rows _ _ y4 _ _ _ ((unhide Y3).2.later b4) hD2
              obtain ⟨ra2, rc2, er2, _⟩ := id hD2
              subst er2
              have Y4 := hide bb4
              clear hD2 b4 bb4
              generalize (foundL wd c t ns).length = fl at hsm ⊢
              go_wp2_with fail
              refine hsm.mono ?_
              clear hsm
              rintro e y5 ⟨rfl, b5⟩
              have Y5 := hide ((unhide Y4).trans (b5.mono (unhide Y4).size))
              clear b5
              go_wp2_with fail
              go_roundw
              case rel => exact ⟨j3 + 1, by omega, by go_num, unhide Y5⟩
              case measure => simp [intOf]; omega
            · have hg3 : ¬ ((j3 : Int) < (S.length : Int)) := by omega
              have HB9 := hide ((unhide HV2).2.trans (hb3.mono (unhide HV2).2.size))
              clear hb3
              go_wp2_with fail
              go_roundw
              case rel => exact ⟨j2 + 1, by omega, by go_num, unhide HB9⟩
              case measure => simp [intOf]; omega
        · have hg2 : ¬ ((j2 : Int) < (xs.length : Int)) := by omega
          have HBR := hide ((unhide B0).trans (((unhide HI).below.trans (hbr.mono (unhide HI).below.size)).mono (unhide B0).size))
          clear hbr
          go_wp2_with fail
          go_ret
          exact ⟨rfl, unhide HBR⟩

theorem made_walk (w : World) (width : Int) (s0 s1 : Value) (l0 l1 : List Int) (h0 : IntsS (fun b => b < w.heap.size) w s0 l0) (h1 : IntsS (fun b => b < w.heap.size) w s1 l1) (lv : Value) (xs : List (List Int)) (hL : ListAt (fun b => b < w.heap.size) w lv xs) (hB : ∀ y ∈ xs, Bnd y) (hz : ∀ y ∈ xs, y.length * 8 ≤ 140737488351232) :
    Calls Tryz.prog 7 #[.int .i64 width, .agg #[s0, s1], lv] w fun e w' => e = .returned (.bool true) ∧ Below w.heap.size w w' := by
  obtain ⟨lf, ⟨la, lc, elv, _⟩, _⟩ := id hL
  subst elv
  by_cases e0 : C.ordE width l0 = 0
  · by_cases e1 : C.ordE width l1 = 0
    · by_cases hn : (100 : Int) < (xs.length : Int)
      · exact made_short w width s0 s1 l0 l1 h0 h1 la xs.length lc (.inr (.inr ⟨e0, e1, hn⟩))
      · obtain ⟨wd, hw, rfl, g0⟩ := ordE_zero e0
        rw [C.ordE_nat hw] at e1
        exact made_long w wd hw s0 s1 l0 l1 h0 h1 g0 e1 _ xs hL hB hz hn
    · exact made_short w width s0 s1 l0 l1 h0 h1 la xs.length lc (.inr (.inl ⟨e0, e1⟩))
  · exact made_short w width s0 s1 l0 l1 h0 h1 la xs.length lc (.inl e0)
end Go.Proofs.YthcljhfankooaaaGreat

namespace Go.Proofs.YthcljhfankooaaaGreat
open Go.ChangeShapes Go.WideShapes Go.ChangeAt Go.RowKit

set_option maxRecDepth 100000 in
theorem relMade_lifted (os : Os) (started : os.Started) (H : Type) (enc : TypeId × Value → H) :
    ReturnsInHanded {} Tryz.checked os 7 .any (Rows.relMadeSpec.pre6 enc Tryz.prog Tryz.f7 Rows.relMadeRow.domain false) (Rows.relMadeSpec.post enc Tryz.prog Tryz.f7 false true false false) := by
  refine returnsInHanded_of_change_sized (C := Tryz.checked) own started (by kernel_rfl) Tryz.func7
    (ChangeSpec.witness6 (enc := enc) (C := Tryz.checked) false ⟨#[], #[.int .i64 0, .agg #[.slice none 0 0, .slice none 0 0], .slice none 0 0], []⟩ 8 (by kernel_rfl) (by kernel_rfl) (by kernel_rfl) (by kernel_rfl)) ?_
  intro W base args ds gs before hval0 hW _ hsz0 _
  have hsz : (DataW.weightsEach Tryz.prog (Tryz.f7.params.toList ++ Rows.relMadeSpec.plain.varTypes Tryz.prog) (ds ++ gs)).all (· ≤ reachBytes) = true := hsz0
  clear hsz0
  have hval : ∀ (j : Nat) t v, Tryz.f7.params[j]? = some t → args[j]? = some v → Value.okWide Tryz.prog W .any base t v := hval0
  have hW' := hW
  obtain ⟨p, q, hA0, hV, rfl, _, _⟩ := hW
  have hA : DataW.TrodAll enc Tryz.prog W 0 (fun _ => true) true Tryz.f7.params.toList args.toList ds p := hA0
  rw [Tryz.params7] at hA hval hsz
  obtain ⟨v0, v1, v2, d0, d1, d2, p0, p1, p2, rfl, rfl, rfl, h0, h1, h2⟩ := trodAll_three hA
  obtain ⟨rfl, rfl⟩ := trodVars_none hV
  obtain ⟨n0, rfl, rfl, rfl, wf0⟩ := open_int Tryz.underlying3 (hval 0 3 v0 rfl rfl) h0
  obtain ⟨a2, len2, cap2, rfl⟩ := okWide_slice Tryz.underlying64 (hval 2 64 v2 rfl rfl)
  clear hA0 hval0
  simp only [List.append_nil, List.nil_append] at hW'
  have lt1 : ∀ x ∈ p1, x.block < W.heap.size := fun x hx => hW'.lt x (by simp [hx])
  have lt2 : ∀ x ∈ p2, x.block < W.heap.size := fun x hx => hW'.lt x (by simp [hx])
  obtain ⟨u1, u2, m1, m2, ev1, hm1, hm2⟩ := pair_of (hval 1 24 v1 rfl rfl) h1 lt1
  subst ev1
  obtain ⟨l2, hl2, hB2, hz2⟩ := lists_at h2 rfl lt2
  have hz2 := hz2 (fun n hn => by simpa using List.all_eq_true.1 hsz n (DataW.weights_mem_each (j := 2) (t := 64) rfl rfl n hn))
  refine (made_walk W n0 _ _ m1 m2 hm1 hm2 _ l2 hl2 hB2 hz2).mono fun e W' ⟨he, hg⟩ => ?_
  subst he
  refine ⟨_, rfl, _, _, _, [], p1 ++ p2, [], hW', ?_, ?_, rfl, hg.frame _, fun h => by cases h⟩
  · exact trodAll_mk1 (shut_bool Tryz.underlying4 _)
  · have := trodAll_mk3 (shut_int Tryz.underlying3 wf0) (Below.trod laidOut (by kernel_rfl) (of_decide_eq_true (by kernel_rfl)) h1 hg lt1) (Below.trod laidOut (by kernel_rfl) (of_decide_eq_true (by kernel_rfl)) h2 hg lt2)
    simp only [List.nil_append] at this
    exact this

theorem relMade_holds : Rows.RelMadeSaid :=
  OpenClaim.holds_of_wide 7 Tryz.f7 rfl rfl rfl rfl rfl rfl rfl ⟨rfl, rfl, rfl, rfl, rfl⟩ rfl rfl rfl rfl rfl (by kernel_rfl) Tryz.func7 (by kernel_rfl)
    (of_decide_eq_true (by kernel_rfl)) (by unfold Func.isWrapper; first | (rw [if_pos (by decide +kernel)]; kernel_rfl) | (rw [if_neg (by decide +kernel)]; exact ⟨rfl, rfl⟩))
    (fun os started H enc _ => relMade_lifted os started H enc)
#print axioms relMade_holds
end Go.Proofs.YthcljhfankooaaaGreat
