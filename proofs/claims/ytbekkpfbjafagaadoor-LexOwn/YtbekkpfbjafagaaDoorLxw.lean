/- Walk of the document's text between quotes. -/
import Derived.Test.YtbekkpfbjafagaaDoorLxu
namespace Go.Proofs.YtbekkpfbjafagaaDoor
open Go.ChangeShapes Go.WideShapes Go.RowKit

set_option maxRecDepth 100000 in
set_option maxHeartbeats 4000000 in
theorem rtext_any (s : ByteArray) (k : Nat) (hk : k < s.size) (hs : s.size ≤ 65536) (w : World) :
    Calls Tryd.prog 24 #[.string s, .int .i64 (k : Int)] w fun e w' => e = .returned (resT k (txRes (s.data.toList.drop (k + 1)))).val ∧ Below w.heap.size w w' := by
  have hb := two_made w
  obtain ⟨i0, hi, hz0, hz1, hz2⟩ := info_parts5
  have HI := hide (show Tryd.prog.info? 5 = some i0 ∧ i0.zero = some (.int .u8 0) ∧ i0.size = 1 ∧ i0.bytes = 1 from ⟨hi, hz0, hz1, hz2⟩)
  clear hi hz0 hz1 hz2
  obtain ⟨W0, hW0⟩ : ∃ W0, (w.alloc tokZ).alloc fltZ = W0 := ⟨_, rfl⟩
  have hW0s : W0.heap.size = w.heap.size + 2 := by rw [← hW0]; simp
  have HBX := hide (show ∀ w2, Below (w.heap.size + 2) W0 w2 → Boxes w2 w.heap.size (w.heap.size + 1) ∧ Below w.heap.size w w2 from fun w2 h => by
    rw [← hW0] at h
    exact ⟨boxes_later h, hb.trans (h.mono (by omega))⟩)
  have HW0 := hide hW0s
  go_enter Tryd.func24, Tryd.ntmps24
  go_wp2
  clear hW0 hW0s hb
  go_loopw [7, 8] (fun v i wr => TxRel s k (w.heap.size + 2) W0 v i wr) (fun _ i _ => s.size - (intOf i).toNat)
  case atStart => exact ⟨k + 1, [], by go_num, hide ⟨Nat.le_refl _, by omega, Nat.zero_le _, World.ownsRow_nil _ _ _ _, Below.refl _ _, by rw [Nat.sub_self, TR.app_nil], fun _ => rfl⟩⟩
  case round =>
    obtain ⟨m, bs, rfl, HH⟩ := hrel
    obtain ⟨hkm, hms, hbl, hown, hbel, htx, hnil⟩ := unhide HH
    have hsz := hbel.size
    rw [unhide HW0] at hsz
    by_cases hlt : m < s.size
    · cases e1 : ((s[m].toNat : Int) == 34) with
      | true =>
        by_cases hbs : bs = []
        · have H := hide (show resT k (txRes (s.data.toList.drop (k + 1))) = ⟨3, ⟨bs.toArray⟩, 0, (k : Int), (m : Int) + 1, 0, 0⟩ by
            unfold txRes; rw [htx, (show s.data.toList.drop m = 34 :: s.data.toList.drop (m + 1) by rw [drop_at s m hlt, (bv_eq (k := 34) (by omega)).1 (beq_iff_eq.1 e1)]; rfl), tx_quote]
            simp only [TR.app, resT, List.append_nil]; congr 1; omega)
          obtain ⟨⟨x0, x1, x2, x3, y0, y1, fx, fy⟩, bw⟩ := unhide HBX wr hbel
          have hv := hnil hbs
          subst hv hbs
          have hcv := conv_nil wr
          clear htx hnil hown HBX
          go_wp2_with fail
          refine bodyPost_ret (v := TV.val ⟨3, ⟨#[]⟩, 0, (k : Int), (m : Int) + 1, 0, 0⟩) (by simp [results, Tryd.results24, go_sem, x0, x1, x2, x3, y0, y1]) rfl ?_
          exact ⟨ret_tv (unhide H).symm, six_below bw (Nat.le_refl _) (Nat.le_succ _) _ _ _ _ _ _⟩
        · have H := hide (show resT k (txRes (s.data.toList.drop (k + 1))) = ⟨3, ⟨bs.toArray⟩, 0, (k : Int), (m : Int) + 1, 0, 0⟩ by
            unfold txRes; rw [htx, (show s.data.toList.drop m = 34 :: s.data.toList.drop (m + 1) by rw [drop_at s m hlt, (bv_eq (k := 34) (by omega)).1 (beq_iff_eq.1 e1)]; rfl), tx_quote]
            simp only [TR.app, resT, List.append_nil]; congr 1; omega)
          obtain ⟨⟨x0, x1, x2, x3, y0, y1, fx, fy⟩, bw⟩ := unhide HBX wr hbel
          have hcv := conv_own hown hbs
          clear htx hnil hown hbs HBX
          go_wp2_with fail
          refine bodyPost_ret (v := TV.val ⟨3, ⟨bs.toArray⟩, 0, (k : Int), (m : Int) + 1, 0, 0⟩) (by simp [results, Tryd.results24, go_sem, x0, x1, x2, x3, y0, y1]) rfl ?_
          exact ⟨ret_tv (unhide H).symm, six_below bw (Nat.le_refl _) (Nat.le_succ _) _ _ _ _ _ _⟩
      | false =>
        have n1 := beq_eq_false_iff_ne.1 e1
        cases e2 : ((s[m].toNat : Int) == 10) with
        | true =>
          have H := hide (show resT k (txRes (s.data.toList.drop (k + 1))) = ⟨0, ⟨#[]⟩, 0, 0, 0, 7, (m : Int)⟩ by
            unfold txRes; rw [htx, (show s.data.toList.drop m = 10 :: s.data.toList.drop (m + 1) by rw [drop_at s m hlt, (bv_eq (k := 10) (by omega)).1 (beq_iff_eq.1 e2)]; rfl), tx_line]
            simp only [TR.app, resT]; congr 1; omega)
          clear htx hnil hown
          go_wp2_with fail
          refine (fault_any _ _ _).mono ?_
          rintro e w2 ⟨rfl, b2⟩
          obtain ⟨⟨x0, x1, x2, x3, y0, y1, fx, fy⟩, bw⟩ := unhide HBX w2 (hbel.trans (b2.mono (by omega)))
          clear HBX
          go_wp2_with fail
          refine bodyPost_ret (v := TV.val ⟨0, ⟨#[]⟩, 0, 0, 0, 7, (m : Int)⟩) (by simp [results, Tryd.results24, go_sem, x0, x1, x2, x3, y0, y1]) rfl ?_
          exact ⟨ret_tv (unhide H).symm, six_below bw (Nat.le_refl _) (Nat.le_succ _) _ _ _ _ _ _⟩
        | false =>
          have n2 := beq_eq_false_iff_ne.1 e2
          cases e3 : ((s[m].toNat : Int) == 92) with
          | true =>
            have hd := esc_at hlt (beq_iff_eq.1 e3)
            by_cases h2 : m + 1 < s.size
            · cases f1 : ((s[m + 1].toNat : Int) == 34) with
              | true =>
                have ec : s[m + 1] = 34 := (bv_eq (k := 34) (by omega)).1 (beq_iff_eq.1 f1)
                have HEC := hide ec
                clear ec
                have HT := hide (show txScan (s.data.toList.drop m) = (txScan (s.data.toList.drop (m + 2))).pre s[m + 1] 2 by
                  rw [hd, drop_at s (m + 1) h2, tx_esc (show esc s[m + 1] = some s[m + 1] from by rw [unhide HEC]; rfl)])
                clear hd htx hnil
                go_wp2_with (at_builtin; refine wpList_append_own _ rfl _ _ 49 rfl (w.heap.size + 2) 5 i0 (.int .u8 0) 1 1 Tryd.underlying49 (unhide HI).1 (unhide HI).2.1 (unhide HI).2.2.1 (unhide HI).2.2.2 rfl (by decide) _ _ _ rfl (hown.alloc _) ⟨_, 0, none⟩ 1 1 [.int .u8 (s[m + 1].toNat : Int)] rfl rfl (byte_cell _ _) (byte_one _) (by unfold maxLen; omega) (by omega) (by simp; omega) ?_; intro v' w3 hown' hgrow _)
                go_roundw
                case rel =>
                  have := tx_next (n := 2) (c := s[m + 1]) rfl (by have := unhide HW0; omega) (unhide HH) (by omega) (by omega) (unhide HT) hown' hgrow
                  rw [show ((m + 2 : Nat) : Int) = (m : Int) + 1 + 1 by omega] at this; exact this
                case measure => simp [intOf]; omega
              | false =>
                cases f2 : ((s[m + 1].toNat : Int) == 92) with
                | true =>
                  have ec : s[m + 1] = 92 := (bv_eq (k := 92) (by omega)).1 (beq_iff_eq.1 f2)
                  have HEC := hide ec
                  clear ec
                  have HT := hide (show txScan (s.data.toList.drop m) = (txScan (s.data.toList.drop (m + 2))).pre s[m + 1] 2 by
                    rw [hd, drop_at s (m + 1) h2, tx_esc (show esc s[m + 1] = some s[m + 1] from by rw [unhide HEC]; rfl)])
                  clear hd htx hnil
                  go_wp2_with (at_builtin; refine wpList_append_own _ rfl _ _ 49 rfl (w.heap.size + 2) 5 i0 (.int .u8 0) 1 1 Tryd.underlying49 (unhide HI).1 (unhide HI).2.1 (unhide HI).2.2.1 (unhide HI).2.2.2 rfl (by decide) _ _ _ rfl (hown.alloc _) ⟨_, 0, none⟩ 1 1 [.int .u8 (s[m + 1].toNat : Int)] rfl rfl (byte_cell _ _) (byte_one _) (by unfold maxLen; omega) (by omega) (by simp; omega) ?_; intro v' w3 hown' hgrow _)
                  go_roundw
                  case rel =>
                    have := tx_next (n := 2) (c := s[m + 1]) rfl (by have := unhide HW0; omega) (unhide HH) (by omega) (by omega) (unhide HT) hown' hgrow
                    rw [show ((m + 2 : Nat) : Int) = (m : Int) + 1 + 1 by omega] at this; exact this
                  case measure => simp [intOf]; omega
                | false =>
                  cases f3 : ((s[m + 1].toNat : Int) == 110) with
                  | true =>
                    have ec : s[m + 1] = 110 := (bv_eq (k := 110) (by omega)).1 (beq_iff_eq.1 f3)
                    have HEC := hide ec
                    clear ec
                    have HT := hide (show txScan (s.data.toList.drop m) = (txScan (s.data.toList.drop (m + 2))).pre 10 2 by
                      rw [hd, drop_at s (m + 1) h2, tx_esc (show esc s[m + 1] = some 10 from by rw [unhide HEC]; rfl)])
                    clear hd htx hnil
                    go_wp2_with (at_builtin; refine wpList_append_own _ rfl _ _ 49 rfl (w.heap.size + 2) 5 i0 (.int .u8 0) 1 1 Tryd.underlying49 (unhide HI).1 (unhide HI).2.1 (unhide HI).2.2.1 (unhide HI).2.2.2 rfl (by decide) _ _ _ rfl (hown.alloc _) ⟨_, 0, none⟩ 1 1 [.int .u8 10] rfl rfl (byte_cell _ _) (byte_one _) (by unfold maxLen; omega) (by omega) (by simp; omega) ?_; intro v' w3 hown' hgrow _)
                    go_roundw
                    case rel =>
                      have := tx_next (n := 2) (c := 10) rfl (by have := unhide HW0; omega) (unhide HH) (by omega) (by omega) (unhide HT) hown' hgrow
                      rw [show ((m + 2 : Nat) : Int) = (m : Int) + 1 + 1 by omega] at this; exact this
                    case measure => simp [intOf]; omega
                  | false =>
                    cases f4 : ((s[m + 1].toNat : Int) == 116) with
                    | true =>
                      have ec : s[m + 1] = 116 := (bv_eq (k := 116) (by omega)).1 (beq_iff_eq.1 f4)
                      have HEC := hide ec
                      clear ec
                      have HT := hide (show txScan (s.data.toList.drop m) = (txScan (s.data.toList.drop (m + 2))).pre 9 2 by
                        rw [hd, drop_at s (m + 1) h2, tx_esc (show esc s[m + 1] = some 9 from by rw [unhide HEC]; rfl)])
                      clear hd htx hnil
                      go_wp2_with (at_builtin; refine wpList_append_own _ rfl _ _ 49 rfl (w.heap.size + 2) 5 i0 (.int .u8 0) 1 1 Tryd.underlying49 (unhide HI).1 (unhide HI).2.1 (unhide HI).2.2.1 (unhide HI).2.2.2 rfl (by decide) _ _ _ rfl (hown.alloc _) ⟨_, 0, none⟩ 1 1 [.int .u8 9] rfl rfl (byte_cell _ _) (byte_one _) (by unfold maxLen; omega) (by omega) (by simp; omega) ?_; intro v' w3 hown' hgrow _)
                      go_roundw
                      case rel =>
                        have := tx_next (n := 2) (c := 9) rfl (by have := unhide HW0; omega) (unhide HH) (by omega) (by omega) (unhide HT) hown' hgrow
                        rw [show ((m + 2 : Nat) : Int) = (m : Int) + 1 + 1 by omega] at this; exact this
                      case measure => simp [intOf]; omega
                    | false =>
                      have g1 := beq_eq_false_iff_ne.1 f1
                      have g2 := beq_eq_false_iff_ne.1 f2
                      have g3 := beq_eq_false_iff_ne.1 f3
                      have g4 := beq_eq_false_iff_ne.1 f4
                      have hno : ∀ d u, s.data.toList.drop (m + 1) = d :: u → esc d = none := fun d u h => by
                        rw [drop_at s (m + 1) h2] at h
                        injection h with h _
                        rw [← h]
                        unfold esc
                        rw [if_neg (by rintro (e | e); · exact g1 (by rw [e]; rfl)
                                       · exact g2 (by rw [e]; rfl)), if_neg (fun e => g3 (by rw [e]; rfl)), if_neg (fun e => g4 (by rw [e]; rfl))]
                      have H := hide (show resT k (txRes (s.data.toList.drop (k + 1))) = ⟨0, ⟨#[]⟩, 0, 0, 0, 7, (m : Int)⟩ by
                        unfold txRes; rw [htx, hd, tx_noesc _ hno]
                        simp only [TR.app, resT]; congr 1; omega)
                      clear htx hnil hown hd hno
                      go_wp2_with fail
                      refine (fault_any _ _ _).mono ?_
                      rintro e w2 ⟨rfl, b2⟩
                      obtain ⟨⟨x0, x1, x2, x3, y0, y1, fx, fy⟩, bw⟩ := unhide HBX w2 (hbel.trans (b2.mono (by omega)))
                      clear HBX
                      go_wp2_with fail
                      refine bodyPost_ret (v := TV.val ⟨0, ⟨#[]⟩, 0, 0, 0, 7, (m : Int)⟩) (by simp [results, Tryd.results24, go_sem, x0, x1, x2, x3, y0, y1]) rfl ?_
                      exact ⟨ret_tv (unhide H).symm, six_below bw (Nat.le_refl _) (Nat.le_succ _) _ _ _ _ _ _⟩
            · have hno : ∀ d u, s.data.toList.drop (m + 1) = d :: u → esc d = none := fun d u h => by rw [drop_end s (m + 1) (by omega)] at h; cases h
              have H := hide (show resT k (txRes (s.data.toList.drop (k + 1))) = ⟨0, ⟨#[]⟩, 0, 0, 0, 7, (m : Int)⟩ by
                unfold txRes; rw [htx, hd, tx_noesc _ hno]
                simp only [TR.app, resT]; congr 1; omega)
              clear htx hnil hown hd hno
              go_wp2_with fail
              refine (fault_any _ _ _).mono ?_
              rintro e w2 ⟨rfl, b2⟩
              obtain ⟨⟨x0, x1, x2, x3, y0, y1, fx, fy⟩, bw⟩ := unhide HBX w2 (hbel.trans (b2.mono (by omega)))
              clear HBX
              go_wp2_with fail
              refine bodyPost_ret (v := TV.val ⟨0, ⟨#[]⟩, 0, 0, 0, 7, (m : Int)⟩) (by simp [results, Tryd.results24, go_sem, x0, x1, x2, x3, y0, y1]) rfl ?_
              exact ⟨ret_tv (unhide H).symm, six_below bw (Nat.le_refl _) (Nat.le_succ _) _ _ _ _ _ _⟩
          | false =>
            have n3 := beq_eq_false_iff_ne.1 e3
            have HT := hide (show txScan (s.data.toList.drop m) = (txScan (s.data.toList.drop (m + 1))).pre s[m] 1 by
              rw [drop_at s m hlt, tx_plain (fun e => n1 (by rw [e]; rfl)) (fun e => n2 (by rw [e]; rfl)) (fun e => n3 (by rw [e]; rfl))])
            clear htx hnil
            go_wp2_with (at_builtin; refine wpList_append_own _ rfl _ _ 49 rfl (w.heap.size + 2) 5 i0 (.int .u8 0) 1 1 Tryd.underlying49 (unhide HI).1 (unhide HI).2.1 (unhide HI).2.2.1 (unhide HI).2.2.2 rfl (by decide) _ _ _ rfl (hown.alloc _) ⟨_, 0, none⟩ 1 1 [.int .u8 (s[m].toNat : Int)] rfl rfl (byte_cell _ _) (byte_one _) (by unfold maxLen; omega) (by omega) (by simp; omega) ?_; intro v' w3 hown' hgrow _)
            go_roundw
            case rel =>
              have := tx_next (n := 1) (c := s[m]) rfl (by have := unhide HW0; omega) (unhide HH) (by omega) (by omega) (unhide HT) hown' hgrow
              simpa using this
            case measure => simp [intOf]; omega
    · have H := hide (show resT k (txRes (s.data.toList.drop (k + 1))) = ⟨0, ⟨#[]⟩, 0, 0, 0, 7, (k : Int)⟩ by
        unfold txRes; rw [htx, drop_end s m (by omega)]
        simp [txScan, TR.app, resT])
      clear htx hnil hown
      go_wp2_with fail
      refine (fault_any _ _ _).mono ?_
      rintro e w2 ⟨rfl, b2⟩
      obtain ⟨⟨x0, x1, x2, x3, y0, y1, fx, fy⟩, bw⟩ := unhide HBX w2 (hbel.trans (b2.mono (by omega)))
      clear HBX
      go_wp2_with fail
      refine bodyPost_ret (v := TV.val ⟨0, ⟨#[]⟩, 0, 0, 0, 7, (k : Int)⟩) (by simp [results, Tryd.results24, go_sem, x0, x1, x2, x3, y0, y1]) rfl ?_
      exact ⟨ret_tv (unhide H).symm, six_below bw (Nat.le_refl _) (Nat.le_succ _) _ _ _ _ _ _⟩
end Go.Proofs.YtbekkpfbjafagaaDoor
