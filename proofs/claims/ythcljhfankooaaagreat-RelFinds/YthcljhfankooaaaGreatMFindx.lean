/- RelFinds: the walk. -/
import Derived.Test.YthcljhfankooaaaGreatMSrch
namespace Go.Proofs.YthcljhfankooaaaGreat
open Go.RowKit Go.Shelf

/-- Loop 1. -/
def FdR (w : World) (rb wd n : Nat) (i : Value) (wr : World) : Prop := ∃ (j : Nat) (ns : List Nrow), j ≤ n ∧ i = .int .i64 (j : Int) ∧ ns.length ≤ j ∧ RelIW w rb wd ns wr
theorem inN_small {j : Nat} (h : j ≤ 200) : inN (j : Int) = true := inN_of (by omega)
theorem ordE_bad {width : Int} (h : ¬ (0 ≤ width ∧ width ≤ 8)) : C.ordE width [] = 1 := if_pos (by omega)
theorem RelIW.keys {w W : World} {rb wd : Nat} {ns : List Nrow} (h : RelIW w rb wd ns W) : (nKeys ns).Nodup ∧ ∀ p ∈ ns, p.1.length = wd ∧ Bnd p.1 ∧ inN p.2.1 = true ∧ inN p.2.2 = true := by
  obtain ⟨_, _, _, _, h5, _⟩ := h
  exact h5.held.keys
set_option maxRecDepth 100000 in
set_option maxHeartbeats 8000000 in
theorem finds_walk (w : World) (width cols : Int) (lv : Value) (xs : List (List Int)) (hL : ListAt (fun b => b < w.heap.size) w lv xs) (hB : ∀ y ∈ xs, Bnd y) : Calls Tryz.prog 6 #[.int .i64 width, lv, .int .i64 cols] w fun e w' => e = .returned (.bool true) ∧ Below w.heap.size w w' := by
  obtain ⟨lf, ⟨la, lc, elv, hlc1, hlc2, hrow⟩, hin⟩ := id hL
  subst elv
  have halb := fun W => alive_any W
  have mixed : Tryz.prog.follows .mixedOrders = true := by kernel_rfl
  by_cases hw : 0 ≤ width ∧ width ≤ 8
  · obtain ⟨wd, rfl⟩ : ∃ wd : Nat, width = (wd : Int) := ⟨width.toNat, by omega⟩
    have hw8 : wd ≤ 8 := by omega
    have hnew := new_iw w wd (.slice none 0 0) [] (Ints.nil _ _) hw8 (lookE_none _)
    have hal := fun W rb ns h => alive_iw w W rb wd ns h
    by_cases hn : (200 : Int) < (xs.length : Int)
    · clear hL hB hal hrow hin hw
      go_enter Tryz.func6, Tryz.ntmps6
      go_wp2_with fail
      refine hnew.mono ?_
      clear hnew
      rintro e w1 ⟨rb, rfl, h1⟩
      have H1 := hide h1.below
      clear h1
      go_wp2_with fail
      refine (halb _).mono ?_
      clear halb
      rintro e w2 ⟨rfl, h2⟩
      have H2 := hide ((unhide H1).trans (h2.mono (unhide H1).size))
      clear h2
      go_wp2_with fail
      go_ret
      exact ⟨rfl, unhide H2⟩
    · have HLI := hide (And.intro hL hB)
      have HALB := hide halb
      obtain ⟨Z, hZ, hmk⟩ := zeros_run wd hw8
      have HZ := hide hZ
      have HPW : Hid ((2 : Int) ^ wd - 1 = (((2 ^ wd - 1 : Nat) : Nat) : Int) ∧ IntKind.i64.wrap (2 ^ wd) = 2 ^ wd ∧ IntKind.i64.wrap (2 ^ wd - 1) = 2 ^ wd - 1) := by
        have h1 : ((2 : Int) ^ wd) = ((2 ^ wd : Nat) : Int) := by rw [Int.natCast_pow]; rfl
        have h2 := Nat.two_pow_pos wd
        have h3 : 2 ^ wd ≤ 2 ^ 8 := Nat.pow_le_pow_right (by omega) hw8
        rw [h1]
        refine ⟨by omega, ?_, ?_⟩
        · rw [IntKind.wrap_i64]; omega
        · rw [IntKind.wrap_i64]; omega
      clear hL hB hrow hin hw halb hZ
      go_enter Tryz.func6, Tryz.ntmps6
      go_wp2_with fail
      refine hnew.mono ?_
      clear hnew
      rintro e w1 ⟨rb, rfl, h1⟩
      have hal1 := hal w1 rb _ h1
      clear h1 hal
      go_wp2_with fail
      refine hal1.mono ?_
      clear hal1
      rintro e w2 ⟨rfl, h2⟩
      have HS : Hid (FdR w rb wd xs.length (.int .i64 0) w2) := ⟨0, [], Nat.zero_le _, rfl, Nat.zero_le _, h2⟩
      clear h2
      go_wp2_with fail
      go_loopw [41] (fun i wr => FdR w rb wd xs.length i wr) (fun i _ => xs.length - (intOf i).toNat)
      case atStart => exact unhide HS
      case round =>
        obtain ⟨j, ns, hj, rfl, hns, hI⟩ := hrel
        by_cases hlt : j < xs.length
        · obtain ⟨hL, hB⟩ := unhide HLI
          obtain ⟨f0, hr0, hin0⟩ := hL
          obtain ⟨g, off, e1, hcell0⟩ := row_in hr0 hlt
          subst e1
          have hit := hin0 j hlt
          obtain ⟨_, hz, _⟩ := cells_of_cell hcell0
          have hcell := (hI.below.cell (p := ⟨g, off + j, none⟩) (lt_heap hz)).trans hcell0
          obtain ⟨ta, tc, et, _⟩ := id hit
          rw [et] at hcell hit
          have hmem : xs.getD j [] ∈ xs := by rw [List.getD_eq_getElem?_getD, List.getElem?_eq_getElem hlt]; exact List.getElem_mem hlt
          have hln : Calls Tryz.prog 23 #[.int .i64 (j : Int), .int .i64 0] wr fun e w' => e = .returned (.complex .f64 (floatOfInt .f64 (j : Int)) (floatOfInt .f64 0)) ∧ w' = wr := lnote_any (j : Int) 0 (inN_small (by omega)) (by decide) wr
          have hput := put_iw w wr rb wd ns hI _ _ hit (hB _ hmem) (floatOfInt .f64 (j : Int)) (floatOfInt .f64 0) (w64_int _) (w64_int 0) (.inr (by omega))
          have hlen := rput_len (floatOfInt .f64 (j : Int)) (floatOfInt .f64 0) (xs.getD j []) wd ns
          generalize rputB (floatOfInt .f64 (j : Int)) (floatOfInt .f64 0) (xs.getD j []) wd ns = q1 at hput
          generalize rputE (floatOfInt .f64 (j : Int)) (floatOfInt .f64 0) (xs.getD j []) wd ns = q2 at hput
          generalize rputTo (floatOfInt .f64 (j : Int)) (floatOfInt .f64 0) (xs.getD j []) wd ns = ns2 at hput hlen
          generalize (xs.getD j []).length = tn at hcell hput
          have hg : (j : Int) < (xs.length : Int) := by omega
          have HLEN := hide hlen
          clear hI hr0 hin0 hcell0 hit hz et hmem hlen hB
          go_wp2_with fail
          refine hln.mono ?_
          clear hln
          rintro e w3 ⟨rfl, hw3⟩
          subst hw3
          go_wp2_with fail
          refine hput.mono ?_
          clear hput
          rintro e w4 ⟨rfl, hI4⟩
          have HI4 := hide hI4
          clear hI4
          go_wp2_with fail
          go_roundw
          case rel => exact ⟨j + 1, ns2, by omega, by go_num, by have := unhide HLEN; omega, unhide HI4⟩
          case measure => simp [intOf]; omega
        · have hg : ¬ ((j : Int) < (xs.length : Int)) := by omega
          have hnl : ns.length ≤ 200 := by omega
          have hal := all_iw w wr rb wd ns hI
          have KEYS := hide hI.keys
          clear hI hns hj
          go_wp2_with fail
          refine hal.mono ?_
          clear hal
          rintro e w3 ⟨⟨b3, b4, b7, rfl, hF, b⟩, hI3⟩
          have hrw := rows_iw w w3 rb wd ns hI3 (by omega) 0 _ b3 b4 b7 hF
          have HI3 := hide hI3
          clear hF b hI3
          go_wp2_with fail
          refine hrw.mono ?_
          clear hrw
          rintro e w4 ⟨rv, rfl, hD, b4'⟩
          have hI4 := (unhide HI3).later b4'
          have hlen := len_iw2 w w4 rb wd ns hI4
          obtain ⟨ra, rc, erv, hc1, hc2, _⟩ := id hD
          subst erv
          have hfl : (foundL wd 0 (List.replicate wd 0) ns).length = ns.length := found_zero_len (by simp)
          have HD := hide (And.intro hD hfl)
          clear hD b4' hI4
          rw [hfl] at hc1 ⊢
          clear hfl
          go_wp2_with fail
          refine hlen.mono ?_
          clear hlen
          rintro e w5 ⟨rfl, hI5, b45⟩
          have hmk5 := hmk w5
          have hfd := find_iw w _ rb wd ns (hI5.later (allocB w5 (.cells Z 3))) 0 _ (List.replicate wd 0) (zeros_own (unhide HZ) hw8 w5).ints (by simp; omega)
          have HI5 := hide (And.intro hI5 b45)
          clear hI5 b45
          go_wp2_with fail
          refine hfd.mono ?_
          clear hfd
          rintro e w6 ⟨⟨c3, c4, c7, rfl, hF, bb⟩, hI6⟩
          have hrw := rows_iw w w6 rb wd ns hI6 (by omega) 0 _ c3 c4 c7 hF
          have HI6 := hide (And.intro hI6 bb)
          clear hF bb hI6
          go_wp2_with fail
          refine hrw.mono ?_
          clear hrw
          rintro e w7 ⟨rv2, rfl, hD2, b7'⟩
          have hD7 : DRowsAt (fun b => w3.heap.size ≤ b) w7 (.slice ra (foundL wd 0 (List.replicate wd 0) ns).length rc) (foundL wd 0 (List.replicate wd 0) ns) := ((((unhide HD).1.later (unhide HI5).2).later (allocB w5 (.cells Z 3))).later (unhide HI6).2).later b7'
          have hI7 := (unhide HI6).1.later b7'
          have hsm := same_rows _ _ w7 _ _ _ hD2 hD7
          rw [(unhide HD).2] at hsm
          obtain ⟨ra2, rc2, erv2, _⟩ := id hD2
          subst erv2
          rw [(unhide HD).2] at hsm ⊢
          have HD7 := hide (And.intro hD7 hI7)
          clear hD2 b7' hD7 hI7
          go_wp2_with fail
          refine hsm.mono ?_
          clear hsm
          rintro e w8 ⟨rfl, b8⟩
          have HD8 := hide (And.intro ((unhide HD7).1.later b8) ((unhide HD7).2.later b8))
          clear b8
          go_wp2_with fail
          go_loopw [85] (fun i wr => BelR w8 ns.length i wr) (fun i _ => ns.length - (intOf i).toNat)
          case atStart => exact ⟨0, Nat.zero_le _, rfl, Below.refl _ _⟩
          case round =>
            obtain ⟨j2, hj2, rfl, hbr⟩ := hrel
            by_cases hlt2 : j2 < ns.length
            · obtain ⟨hD8, hI8⟩ := unhide HD8
              obtain ⟨a, cap, e1, _, _, e4⟩ := hD8.later hbr
              obtain ⟨b, u, p, f1, _, f3, f4, f5, f6, f7⟩ := e4 j2 (by rw [(unhide HD).2]; exact hlt2)
              simp only [Value.slice.injEq] at e1
              have f1' : ra = some ⟨b, 0, none⟩ := e1.1.trans f1
              subst f1'
              have hpn : p ∈ ns := (found_sub p (List.mem_of_getElem? f3)).1
              have hpl := (unhide KEYS).2 p hpn
              obtain ⟨ua, uc, eu, _⟩ := id f7
              subst eu
              obtain ⟨w9, hw9⟩ : ∃ w9, w9 = wr.alloc (.cells #[.slice ua p.1.length uc, .int .i64 p.2.1, .int .i64 p.2.2] 71) := ⟨_, rfl⟩
              have b9 : Below wr.heap.size wr w9 := by rw [hw9]; exact allocB wr _
              have q9 : w9.heap[wr.heap.size]? = some (.cells #[.slice ua p.1.length uc, .int .i64 p.2.1, .int .i64 p.2.2] 71 (0, 0)) := by rw [hw9]; exact World.alloc_heap_new wr _
              have hI9 := (hI8.later hbr).later b9
              have hu9 := f7.later b9
              have B89 := hide (hbr.trans (b9.mono hbr.size))
              obtain ⟨bx, hbx⟩ : ∃ bx, bx = wr.heap.size := ⟨_, rfl⟩
              rw [← hbx] at q9
              have CELL : Hid (∀ v, Below w9.heap.size w9 v → v.heap[bx]? = some (.cells #[.slice ua p.1.length uc, .int .i64 p.2.1, .int .i64 p.2.2] 71 (0, 0)) ∧ v.cell? ⟨bx, 0, none⟩ = some (.slice ua p.1.length uc) ∧ v.cell? ⟨bx, 1, none⟩ = some (.int .i64 p.2.1) ∧ v.cell? ⟨bx, 2, none⟩ = some (.int .i64 p.2.2)) := fun v hv => by
                have q := (hv.block _ (lt_heap q9)).trans q9
                exact ⟨q, by rw [cell_at q]; rfl, by rw [cell_at q]; rfl, by rw [cell_at q]; rfl⟩
              have FIND : Hid (∀ v c, Below w9.heap.size w9 v → Calls Tryz.prog 25 #[.pointer (some ⟨rb, 0, none⟩), .int .i64 c, .slice ua p.1.length uc] v fun e w' => FindOk v rb c p.1 e w' ∧ Below w9.heap.size w9 w') := fun v c hv => by
                refine (find_iw w v rb wd ns (hI9.later hv) c _ p.1 (hu9.later hv).ints (by omega)).mono ?_
                rintro e w' ⟨⟨b3, b4, b7, rfl, hF, bb⟩, _⟩
                exact ⟨⟨b3, b4, b7, rfl, hF, bb⟩, hv.trans (bb.mono hv.size)⟩
              have ROWS : Hid (∀ v c b3 b4 b7, Below w9.heap.size w9 v → FindAt v b3 b4 b7 rb c p.1 → Calls Tryz.prog 24 #[.func (.func 46) #[] #[.pointer (some ⟨b3, 0, none⟩), .pointer (some ⟨b4, 0, none⟩), .pointer (some ⟨b7, 0, none⟩)]] v fun e w' => RowsOk v (foundL wd c p.1 ns) e w' ∧ Below w9.heap.size w9 w') := fun v c b3 b4 b7 hv hF => by
                refine (rows_iw w v rb wd ns (hI9.later hv) (by omega) c p.1 b3 b4 b7 hF).mono ?_
                rintro e w' ⟨rv, rfl, hR, bb⟩
                exact ⟨⟨rv, rfl, hR, bb⟩, hv.trans (bb.mono hv.size)⟩
              have hg2 : (j2 : Int) < (ns.length : Int) := by omega
              have HP := hide (And.intro hpn (And.intro hpl hu9))
              have HBX := hide hbx
              clear hD8 hI8 e1 e4 f1 f3 f7 hbr hpn hpl hI9 hu9 b9 q9 hbx
              go_wp2_with fail
              rw [← unhide HBX, ← hw9]
              clear hw9
              refine region_mixN (md := [(0, true), (1, true), (2, true), (3, true), (4, true), (5, true), (6, false), (7, false), (8, true), (9, true), (10, true), (11, true), (12, true)]) (fun w' => Below w9.heap.size w9 w') mixed (by kernel_rfl) rfl (by kernel_rfl) (fun PP hPP => ?_)
              iterate 2 (refine wpMix_take (v := ?_) rfl (by kernel_rfl) (fun w' hw => ?_) ?_; rotate_left; · (go_simp; try with_reducible rfl))
              refine wpMix_take (v := .int .i64 (2 ^ wd)) rfl (by kernel_rfl) (fun w' hw => ?_) ?_
              · go_simp
                exact (unhide HPW).2.1
              refine wpMix_take (v := .int .i64 (2 ^ wd - 1)) rfl (by kernel_rfl) (fun w' hw => ?_) ?_
              · go_simp
                exact (unhide HPW).2.2
              iterate 2 (refine wpMix_take (v := ?_) rfl (by kernel_rfl) (fun w' hw => ?_) ?_; rotate_left; · (obtain ⟨_, q1, q2, q3⟩ := unhide CELL w' hw; go_simp; try with_reducible rfl))
              refine wpMix_force rfl ((Below.refl _ w9).drew) (fun K hK => ?_)
              go_simp
              refine (unhide FIND _ _ ((Below.refl _ w9).drew)).mono ?_
              rintro e v1 ⟨⟨d3, d4, d7, rfl, hF, _⟩, b1⟩
              have hrw1 := unhide ROWS v1 _ d3 d4 d7 b1 hF
              have B1 := hide b1
              clear hF b1
              go_wp2_with fail
              refine wpMix_force rfl (unhide B1) (fun K hK => ?_)
              go_simp
              refine hrw1.mono ?_
              clear hrw1
              rintro e v2 ⟨⟨rv3, rfl, hR3, _⟩, b2⟩
              have B2 := hide (And.intro hR3 b2)
              clear hR3 b2
              go_wp2_with fail
              iterate 5 (refine wpMix_take (v := ?_) rfl (by kernel_rfl) (fun w' hw => ?_) ?_; rotate_left; · (go_simp; try with_reducible rfl))
              refine wpMix_nil (unhide B2).2 (hPP _ _ ?_)
              clear hPP
              simp [Act.put, Array.setIfInBounds]
              obtain ⟨hR3, b2⟩ := unhide B2
              rw [(unhide HPW).1, found_self (unhide KEYS).1 (fun p hp => ((unhide KEYS).2 p hp).1) (unhide HP).1] at hR3
              obtain ⟨ra3, rc3, er3, _⟩ := id hR3
              subst er3
              obtain ⟨qb, q1, q2, q3⟩ := unhide CELL v2 b2
              obtain ⟨v3, hv3⟩ : ∃ v3, v3 = v2.alloc (.cells #[.slice ua p.1.length uc, .int .i64 p.2.1, .int .i64 p.2.2] 71) := ⟨_, rfl⟩
              have b23 : Below v2.heap.size v2 v3 := by rw [hv3]; exact allocB v2 _
              have g3 : v3.heap[v2.heap.size]? = some (.cells #[.slice ua p.1.length uc, .int .i64 p.2.1, .int .i64 p.2.2] 71 (0, 0)) := by rw [hv3]; exact World.alloc_heap_new v2 _
              have bv3 := b2.trans (b23.mono b2.size)
              have hone : DRowsAt (fun _ => True) v3 (.slice (some ⟨v2.heap.size, 0, none⟩) 1 1) [p] := by
                refine ⟨_, 1, rfl, Nat.le_refl _, by omega, fun j hj => ?_⟩
                have ej : j = 0 := by simp at hj; omega
                subst ej
                exact ⟨v2.heap.size, _, p, rfl, trivial, rfl, by rw [cell_at g3]; rfl, by rw [cell_at g3]; rfl, by rw [cell_at g3]; rfl, ((unhide HP).2.2.later bv3).mono (fun _ _ _ => trivial)⟩
              have hsm := same_rows _ _ v3 _ _ _ (hR3.later b23) hone
              have BV3 := hide bv3
              simp only [List.length_singleton] at hsm ⊢
              clear hR3 b2 qb b23 g3 bv3 hone
              go_wp2_with fail
              rw [← hv3]
              clear hv3 q1 q2 q3
              refine hsm.mono ?_
              clear hsm
              rintro e v4 ⟨rfl, b4⟩
              have bv4 := (unhide BV3).trans (b4.mono (unhide BV3).size)
              obtain ⟨_, q1, q2, q3⟩ := unhide CELL v4 bv4
              have hfd := unhide FIND v4 cols bv4
              clear b4 bv4
              go_wp2_with fail
              refine hfd.mono ?_
              clear hfd
              rintro e v5 ⟨⟨d3, d4, d7, rfl, hF, _⟩, b5⟩
              have hrw := unhide ROWS v5 _ d3 d4 d7 b5 hF
              clear hF b5 q1 q2 q3
              go_wp2_with fail
              refine hrw.mono ?_
              clear hrw
              rintro e v6 ⟨⟨rv4, rfl, hR4, _⟩, b6⟩
              have HF2 : Hid (∀ y ∈ foundL wd cols p.1 ns, y ∈ ns ∧ likeB cols y.1 p.1 = true ∧ colsOk wd cols p.1) := fun y hy => ⟨(found_sub y hy).1, (found_sub y hy).2, by
                by_cases hc : colsOk wd cols p.1
                · exact hc
                · unfold foundL at hy
                  rw [if_neg hc] at hy
                  cases hy⟩
              have hpw : (2 : Int) ^ wd = ((2 ^ wd : Nat) : Int) := by rw [Int.natCast_pow]; rfl
              have hcase : (¬ 0 ≤ cols) ∨ (0 ≤ cols ∧ ¬ cols < 2 ^ wd) ∨ (0 ≤ cols ∧ cols < 2 ^ wd ∧ (((foundL wd cols p.1 ns).length : Int) == 0) = false) := by
                by_cases h0 : 0 ≤ cols
                · by_cases h1 : cols < 2 ^ wd
                  · refine .inr (.inr ⟨h0, h1, ?_⟩)
                    have := List.length_pos_of_mem (found_some (unhide KEYS).1 (unhide HP).1 ⟨(unhide HP).2.1.1, h0, by rw [hpw] at h1; exact h1⟩)
                    rw [beq_eq_false_iff_ne]; omega
                  · exact .inr (.inl ⟨h0, h1⟩)
                · exact .inl h0
              clear hpw
              obtain ⟨ra4, rc4, er4, hd1, hd2, _⟩ := id hR4
              subst er4
              generalize foundL wd cols p.1 ns = R2 at hR4 HF2 hcase hd1 ⊢
              have HR4 := hide hR4
              have B6 := hide b6
              have hwrap := (unhide HPW).2.1
              clear hR4 b6
              rcases hcase with h0 | ⟨h0, h1⟩ | ⟨h0, h1, h2⟩
              all_goals
                go_wp2_with fail
                go_loopw [137] (fun i wr => BelR v6 R2.length i wr) (fun i _ => R2.length - (intOf i).toNat)
                case atStart => exact ⟨0, Nat.zero_le _, rfl, Below.refl _ _⟩
                case round =>
                  obtain ⟨j3, hj3, rfl, hbr3⟩ := hrel
                  by_cases hlt3 : j3 < R2.length
                  · obtain ⟨a', cap', e1, _, _, e4⟩ := (unhide HR4).later hbr3
                    obtain ⟨b', uy, y, f1, _, f3, f4, f5, f6, f7⟩ := e4 j3 hlt3
                    simp only [Value.slice.injEq] at e1
                    have f1' : ra4 = some ⟨b', 0, none⟩ := e1.1.trans f1
                    subst f1'
                    obtain ⟨hyn, hyk, hco⟩ := unhide HF2 y (List.mem_of_getElem? f3)
                    have hyl := ((unhide KEYS).2 y hyn).1
                    obtain ⟨ya, yc, ey, _⟩ := id f7
                    subst ey
                    obtain ⟨wy, hwy⟩ : ∃ wy, wy = wr.alloc (.cells #[.slice ya y.1.length yc, .int .i64 y.2.1, .int .i64 y.2.2] 71) := ⟨_, rfl⟩
                    have bwy : Below wr.heap.size wr wy := by rw [hwy]; exact allocB wr _
                    have qwy : wy.heap[wr.heap.size]? = some (.cells #[.slice ya y.1.length yc, .int .i64 y.2.1, .int .i64 y.2.2] 71 (0, 0)) := by rw [hwy]; exact World.alloc_heap_new wr _
                    obtain ⟨yb, hyb⟩ : ∃ yb, yb = wr.heap.size := ⟨_, rfl⟩
                    rw [← hyb] at qwy
                    have HY := hide (And.intro (hbr3.trans (bwy.mono hbr3.size)) (And.intro qwy (And.intro (f7.later bwy) (And.intro hyl (And.intro hyk hco)))))
                    have HYB := hide hyb
                    have hg3 : (j3 : Int) < (R2.length : Int) := by omega
                    clear e1 e4 f1 f3 f7 hbr3 hyn hyk hco hyl bwy qwy hyb
                    go_wp2_with fail
                    rw [← unhide HYB, ← hwy]
                    clear hwy f4 f5 f6
                    go_loopw [142] (fun i wr => BelR wy wd i wr) (fun i _ => wd - (intOf i).toNat)
                    case atStart => exact ⟨0, Nat.zero_le _, rfl, Below.refl _ _⟩
                    case round =>
                      obtain ⟨c, hc, rfl, hbr4⟩ := hrel
                      by_cases hlt4 : c < wd
                      · have hlt4' : (c : Int) < (wd : Int) := by omega
                        obtain ⟨_, z1, _, _⟩ := unhide CELL wr ((unhide B6).trans ((unhide HY).1.trans (hbr4.mono (unhide HY).1.size) |>.mono (unhide B6).size))
                        have z2 : wr.cell? ⟨yb, 0, none⟩ = some (.slice ya y.1.length yc) := by rw [cell_at ((hbr4.block _ (lt_heap (unhide HY).2.1)).trans (unhide HY).2.1)]; rfl
                        have hyc : c < y.1.length := by rw [(unhide HY).2.2.2.1]; exact hlt4
                        have hxc : c < p.1.length := by rw [(unhide HP).2.1.1]; exact hlt4
                        obtain ⟨g1, o1, u1, z3⟩ := ((unhide HY).2.2.1.later hbr4).ints.nat hyc
                        obtain ⟨g2, o2, u2, z4⟩ := ((unhide HP).2.2.later ((unhide B6).trans ((unhide HY).1.trans (hbr4.mono (unhide HY).1.size) |>.mono (unhide B6).size))).ints.nat hxc
                        obtain ⟨va, hva⟩ : ∃ va, va = p.1[c] := ⟨_, rfl⟩
                        obtain ⟨vb, hvb⟩ : ∃ vb, vb = y.1[c] := ⟨_, rfl⟩
                        rw [← hva] at z4
                        rw [← hvb] at z3
                        obtain ⟨hyk, hcl, hc0, hc1⟩ := (unhide HY).2.2.2.2
                        have hpw : 2 ^ wd ≤ 2 ^ 8 := Nat.pow_le_pow_right (by omega) hw8
                        have hcn : ((cols.toNat : Nat) : Int) = cols := Int.toNat_of_nonneg hc0
                        have hbit := bit_and cols.toNat c (by omega)
                        rw [hcn] at hbit
                        have hyc' : (c : Int) < (y.1.length : Int) := by omega
                        have hxc' : (c : Int) < (p.1.length : Int) := by omega
                        have HV : Hid (cols.toNat.testBit c = true → vb = va) := fun hb => by
                          have := like_bit hyk hyc hb
                          rw [List.getD_eq_getElem?_getD, List.getD_eq_getElem?_getD, List.getElem?_eq_getElem hyc, List.getElem?_eq_getElem hxc] at this
                          rw [hva, hvb]; exact this
                        subst u1
                        subst u2
                        have HB4 := hide hbr4
                        clear hva hvb hyk hcl hc0 hc1 hpw hcn hbr4 hyc hxc
                        cases ht : cols.toNat.testBit c with
                        | false =>
                          rw [ht] at hbit
                          simp only [Bool.false_eq_true, if_false] at hbit
                          clear ht
                          go_wp2_with fail
                          go_quiet (fail)
                          go_wp2_with fail
                          go_roundw
                          case rel => exact ⟨c + 1, by omega, by go_num, below_drewN (unhide HB4) _⟩
                          case measure => simp [intOf]; omega
                        | true =>
                          rw [ht] at hbit
                          simp only [if_true] at hbit
                          have hv := unhide HV ht
                          subst hv
                          clear ht
                          go_wp2_with fail
                          go_quiet (fail)
                          go_wp2_with fail
                          go_roundw
                          case rel => exact ⟨c + 1, by omega, by go_num, below_drewN (unhide HB4) _⟩
                          case measure => simp [intOf]; omega
                      · have hg4 : ¬ ((c : Int) < (wd : Int)) := by omega
                        have HB4 := hide ((unhide HY).1.trans (hbr4.mono (unhide HY).1.size))
                        clear hbr4
                        go_wp2_with fail
                        go_roundw
                        case rel => exact ⟨j3 + 1, by omega, by go_num, unhide HB4⟩
                        case measure => simp [intOf]; omega
                  · have hg3 : ¬ ((j3 : Int) < (R2.length : Int)) := by omega
                    have HB6 := hide ((unhide B89).trans (((unhide B6).trans (hbr3.mono (unhide B6).size)).mono (unhide B89).size))
                    clear hbr3
                    go_wp2_with fail
                    go_roundw
                    case rel => exact ⟨j2 + 1, by omega, by go_num, unhide HB6⟩
                    case measure => simp [intOf]; omega
            · have hg2 : ¬ ((j2 : Int) < (ns.length : Int)) := by omega
              have HBR := hide ((unhide HD8).2.below.trans (hbr.mono (unhide HD8).2.below.size))
              clear hbr
              go_wp2_with fail
              go_ret
              exact ⟨rfl, unhide HBR⟩
  · have hno := relnew_no w width (.slice none 0 0) [] (Ints.nil _ _) (by rw [ordE_bad hw]; decide)
    rw [ordE_bad hw] at hno
    clear hL hB hrow hin hw
    go_enter Tryz.func6, Tryz.ntmps6
    go_wp2_with fail
    refine hno.mono ?_
    clear hno
    rintro e w1 ⟨rfl, hw1⟩
    subst hw1
    go_wp2_with fail
    refine (halb _).mono ?_
    clear halb
    rintro e w5 ⟨rfl, h5⟩
    have H5 := hide h5
    clear h5
    go_wp2_with fail
    go_ret
    exact ⟨rfl, unhide H5⟩
end Go.Proofs.YthcljhfankooaaaGreat
