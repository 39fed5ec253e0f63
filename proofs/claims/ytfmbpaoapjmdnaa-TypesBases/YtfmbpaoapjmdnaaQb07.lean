/- Walk of the document's text between quotes. Walk of the document's sign. Walk of the document's Tokens. -/
import Derived.Test.YtfmbpaoapjmdnaaQb06
import Derived.Test.YtfmbpaoapjmdnaaQb05
set_option maxRecDepth 100000
set_option maxHeartbeats 32000000
namespace Go.Proofs.Ytfmbpaoapjmdnaa
section
open Go.ChangeShapes Go.WideShapes Go.RowKit
theorem Qoh (s : ByteArray) (k : Nat) (hk : k < s.size) (hs : s.size ≤ 65536) (w : World) :
    Calls Try.prog 48 #[.string s, .int .i64 (k : Int)] w fun e w' => e = .returned (resT k (txRes (s.data.toList.drop (k + 1)))).val ∧ Below w.heap.size w w' := by
  have hb := Qkt w
  obtain ⟨i0, hi, hz0, hz1, hz2⟩ := Qjm
  have HI := hide (show Try.prog.info? 5 = some i0 ∧ i0.zero = some (.int .u8 0) ∧ i0.size = 1 ∧ i0.bytes = 1 from ⟨hi, hz0, hz1, hz2⟩)
  clear hi hz0 hz1 hz2
  obtain ⟨W0, hW0⟩ : ∃ W0, (w.alloc tokZ).alloc fltZ = W0 := ⟨_, rfl⟩
  have hW0s : W0.heap.size = w.heap.size + 2 := by rw [← hW0]; simp
  have HBX := hide (show ∀ w2, Below (w.heap.size + 2) W0 w2 → Boxes w2 w.heap.size (w.heap.size + 1) ∧ Below w.heap.size w w2 from fun w2 h => by
    rw [← hW0] at h
    exact ⟨Qcm h, hb.trans (h.mono (by omega))⟩)
  have HW0 := hide hW0s
  go_enter Try.func48, Try.ntmps48
  go_wp2
  clear hW0 hW0s hb
  go_loopw [7, 8] (fun v i wr => TxRel s k (w.heap.size + 2) W0 v i wr) (fun _ i _ => s.size - (intOf i).toNat)
  case atStart => exact ⟨k + 1, [], by go_num, hide ⟨Nat.le_refl _, by omega, Nat.zero_le _, World.ownsRow_nil _ _ _ _, Below.refl _ _, by rw [Nat.sub_self, TR.app_nil], fun _ => rfl⟩⟩
  obtain ⟨m, bs, rfl, HH⟩ := hrel
  obtain ⟨hkm, hms, hbl, hown, hbel, htx, hnil⟩ := Qa HH
  have hsz := hbel.size
  rw [Qa HW0] at hsz
  by_cases hlt : m < s.size
  · cases e1 : ((s[m].toNat : Int) == 34) with
    | true =>
      by_cases hbs : bs = []
      · have H := hide (show resT k (txRes (s.data.toList.drop (k + 1))) = ⟨3, ⟨bs.toArray⟩, 0, (k : Int), (m : Int) + 1, 0, 0⟩ by
          unfold txRes; rw [htx, (show s.data.toList.drop m = 34 :: s.data.toList.drop (m + 1) by rw [Qan s m hlt, (Qfj (k := 34) (by omega)).1 (beq_iff_eq.1 e1)]; rfl), Qkw]
          simp only [TR.app, resT, List.append_nil]; congr 1; omega)
        obtain ⟨⟨x0, x1, x2, x3, y0, y1, fx, fy⟩, bw⟩ := Qa HBX wr hbel
        have hv := hnil hbs
        subst hv hbs
        have hcv := Qph wr
        clear htx hnil hown HBX
        go_wp2_with fail
        refine bodyPost_ret (v := TV.val ⟨3, ⟨#[]⟩, 0, (k : Int), (m : Int) + 1, 0, 0⟩) (by simp [results, Try.results48, go_sem, x0, x1, x2, x3, y0, y1]) rfl ?_
        exact ⟨Qdc (Qa H).symm, Qbp bw (Nat.le_refl _) (Nat.le_succ _) _ _ _ _ _ _⟩
      · have H := hide (show resT k (txRes (s.data.toList.drop (k + 1))) = ⟨3, ⟨bs.toArray⟩, 0, (k : Int), (m : Int) + 1, 0, 0⟩ by
          unfold txRes; rw [htx, (show s.data.toList.drop m = 34 :: s.data.toList.drop (m + 1) by rw [Qan s m hlt, (Qfj (k := 34) (by omega)).1 (beq_iff_eq.1 e1)]; rfl), Qkw]
          simp only [TR.app, resT, List.append_nil]; congr 1; omega)
        obtain ⟨⟨x0, x1, x2, x3, y0, y1, fx, fy⟩, bw⟩ := Qa HBX wr hbel
        have hcv := Qpi hown hbs
        clear htx hnil hown hbs HBX
        go_wp2_with fail
        refine bodyPost_ret (v := TV.val ⟨3, ⟨bs.toArray⟩, 0, (k : Int), (m : Int) + 1, 0, 0⟩) (by simp [results, Try.results48, go_sem, x0, x1, x2, x3, y0, y1]) rfl ?_
        exact ⟨Qdc (Qa H).symm, Qbp bw (Nat.le_refl _) (Nat.le_succ _) _ _ _ _ _ _⟩
    | false =>
      have n1 := beq_eq_false_iff_ne.1 e1
      cases e2 : ((s[m].toNat : Int) == 10) with
      | true =>
        have H := hide (show resT k (txRes (s.data.toList.drop (k + 1))) = ⟨0, ⟨#[]⟩, 0, 0, 0, 7, (m : Int)⟩ by
          unfold txRes; rw [htx, (show s.data.toList.drop m = 10 :: s.data.toList.drop (m + 1) by rw [Qan s m hlt, (Qfj (k := 10) (by omega)).1 (beq_iff_eq.1 e2)]; rfl), tx_line]
          simp only [TR.app, resT]; congr 1; omega)
        clear htx hnil hown
        go_wp2_with fail
        refine (Qbh _ _ _).mono ?_
        rintro e w2 ⟨rfl, b2⟩
        obtain ⟨⟨x0, x1, x2, x3, y0, y1, fx, fy⟩, bw⟩ := Qa HBX w2 (hbel.trans (b2.mono (by omega)))
        clear HBX
        go_wp2_with fail
        refine bodyPost_ret (v := TV.val ⟨0, ⟨#[]⟩, 0, 0, 0, 7, (m : Int)⟩) (by simp [results, Try.results48, go_sem, x0, x1, x2, x3, y0, y1]) rfl ?_
        exact ⟨Qdc (Qa H).symm, Qbp bw (Nat.le_refl _) (Nat.le_succ _) _ _ _ _ _ _⟩
      | false =>
        have n2 := beq_eq_false_iff_ne.1 e2
        cases e3 : ((s[m].toNat : Int) == 92) with
        | true =>
          have hd := esc_at hlt (beq_iff_eq.1 e3)
          by_cases h2 : m + 1 < s.size
          · cases f1 : ((s[m + 1].toNat : Int) == 34) with
            | true =>
              have ec : s[m + 1] = 34 := (Qfj (k := 34) (by omega)).1 (beq_iff_eq.1 f1)
              have HEC := hide ec
              clear ec
              have HT := hide (show txScan (s.data.toList.drop m) = (txScan (s.data.toList.drop (m + 2))).pre s[m + 1] 2 by
                rw [hd, Qan s (m + 1) h2, Qku (show esc s[m + 1] = some s[m + 1] from by rw [Qa HEC]; rfl)])
              clear hd htx hnil
              go_wp2_with (at_builtin; refine wpList_append_own _ rfl _ _ 158 rfl (w.heap.size + 2) 5 i0 (.int .u8 0) 1 1 Try.underlying158 (Qa HI).1 (Qa HI).2.1 (Qa HI).2.2.1 (Qa HI).2.2.2 rfl (by decide) _ _ _ rfl (hown.alloc _) ⟨_, 0, none⟩ 1 1 [.int .u8 (s[m + 1].toNat : Int)] rfl rfl (Qdd _ _) (Qeb _) (by unfold maxLen; omega) (by omega) (by simp; omega) ?_; intro v' w3 hown' hgrow _)
              go_roundw
              case rel =>
                have := Qgc (n := 2) (c := s[m + 1]) rfl (by have := Qa HW0; omega) (Qa HH) (by omega) (by omega) (Qa HT) hown' hgrow
                rw [show ((m + 2 : Nat) : Int) = (m : Int) + 1 + 1 by omega] at this; exact this
              case measure => simp [intOf]; omega
            | false =>
              cases f2 : ((s[m + 1].toNat : Int) == 92) with
              | true =>
                have ec : s[m + 1] = 92 := (Qfj (k := 92) (by omega)).1 (beq_iff_eq.1 f2)
                have HEC := hide ec
                clear ec
                have HT := hide (show txScan (s.data.toList.drop m) = (txScan (s.data.toList.drop (m + 2))).pre s[m + 1] 2 by
                  rw [hd, Qan s (m + 1) h2, Qku (show esc s[m + 1] = some s[m + 1] from by rw [Qa HEC]; rfl)])
                clear hd htx hnil
                go_wp2_with (at_builtin; refine wpList_append_own _ rfl _ _ 158 rfl (w.heap.size + 2) 5 i0 (.int .u8 0) 1 1 Try.underlying158 (Qa HI).1 (Qa HI).2.1 (Qa HI).2.2.1 (Qa HI).2.2.2 rfl (by decide) _ _ _ rfl (hown.alloc _) ⟨_, 0, none⟩ 1 1 [.int .u8 (s[m + 1].toNat : Int)] rfl rfl (Qdd _ _) (Qeb _) (by unfold maxLen; omega) (by omega) (by simp; omega) ?_; intro v' w3 hown' hgrow _)
                go_roundw
                case rel =>
                  have := Qgc (n := 2) (c := s[m + 1]) rfl (by have := Qa HW0; omega) (Qa HH) (by omega) (by omega) (Qa HT) hown' hgrow
                  rw [show ((m + 2 : Nat) : Int) = (m : Int) + 1 + 1 by omega] at this; exact this
                case measure => simp [intOf]; omega
              | false =>
                cases f3 : ((s[m + 1].toNat : Int) == 110) with
                | true =>
                  have ec : s[m + 1] = 110 := (Qfj (k := 110) (by omega)).1 (beq_iff_eq.1 f3)
                  have HEC := hide ec
                  clear ec
                  have HT := hide (show txScan (s.data.toList.drop m) = (txScan (s.data.toList.drop (m + 2))).pre 10 2 by
                    rw [hd, Qan s (m + 1) h2, Qku (show esc s[m + 1] = some 10 from by rw [Qa HEC]; rfl)])
                  clear hd htx hnil
                  go_wp2_with (at_builtin; refine wpList_append_own _ rfl _ _ 158 rfl (w.heap.size + 2) 5 i0 (.int .u8 0) 1 1 Try.underlying158 (Qa HI).1 (Qa HI).2.1 (Qa HI).2.2.1 (Qa HI).2.2.2 rfl (by decide) _ _ _ rfl (hown.alloc _) ⟨_, 0, none⟩ 1 1 [.int .u8 10] rfl rfl (Qdd _ _) (Qeb _) (by unfold maxLen; omega) (by omega) (by simp; omega) ?_; intro v' w3 hown' hgrow _)
                  go_roundw
                  case rel =>
                    have := Qgc (n := 2) (c := 10) rfl (by have := Qa HW0; omega) (Qa HH) (by omega) (by omega) (Qa HT) hown' hgrow
                    rw [show ((m + 2 : Nat) : Int) = (m : Int) + 1 + 1 by omega] at this; exact this
                  case measure => simp [intOf]; omega
                | false =>
                  cases f4 : ((s[m + 1].toNat : Int) == 116) with
                  | true =>
                    have ec : s[m + 1] = 116 := (Qfj (k := 116) (by omega)).1 (beq_iff_eq.1 f4)
                    have HEC := hide ec
                    clear ec
                    have HT := hide (show txScan (s.data.toList.drop m) = (txScan (s.data.toList.drop (m + 2))).pre 9 2 by
                      rw [hd, Qan s (m + 1) h2, Qku (show esc s[m + 1] = some 9 from by rw [Qa HEC]; rfl)])
                    clear hd htx hnil
                    go_wp2_with (at_builtin; refine wpList_append_own _ rfl _ _ 158 rfl (w.heap.size + 2) 5 i0 (.int .u8 0) 1 1 Try.underlying158 (Qa HI).1 (Qa HI).2.1 (Qa HI).2.2.1 (Qa HI).2.2.2 rfl (by decide) _ _ _ rfl (hown.alloc _) ⟨_, 0, none⟩ 1 1 [.int .u8 9] rfl rfl (Qdd _ _) (Qeb _) (by unfold maxLen; omega) (by omega) (by simp; omega) ?_; intro v' w3 hown' hgrow _)
                    go_roundw
                    case rel =>
                      have := Qgc (n := 2) (c := 9) rfl (by have := Qa HW0; omega) (Qa HH) (by omega) (by omega) (Qa HT) hown' hgrow
                      rw [show ((m + 2 : Nat) : Int) = (m : Int) + 1 + 1 by omega] at this; exact this
                    case measure => simp [intOf]; omega
                  | false =>
                    have g1 := beq_eq_false_iff_ne.1 f1
                    have g2 := beq_eq_false_iff_ne.1 f2
                    have g3 := beq_eq_false_iff_ne.1 f3
                    have g4 := beq_eq_false_iff_ne.1 f4
                    have hno : ∀ d u, s.data.toList.drop (m + 1) = d :: u → esc d = none := fun d u h => by
                      rw [Qan s (m + 1) h2] at h
                      injection h with h _
                      rw [← h]
                      unfold esc
                      rw [if_neg (by rintro (e | e); · exact g1 (by rw [e]; rfl)
                                     · exact g2 (by rw [e]; rfl)), if_neg (fun e => g3 (by rw [e]; rfl)), if_neg (fun e => g4 (by rw [e]; rfl))]
                    have H := hide (show resT k (txRes (s.data.toList.drop (k + 1))) = ⟨0, ⟨#[]⟩, 0, 0, 0, 7, (m : Int)⟩ by
                      unfold txRes; rw [htx, hd, Qkv _ hno]
                      simp only [TR.app, resT]; congr 1; omega)
                    clear htx hnil hown hd hno
                    go_wp2_with fail
                    refine (Qbh _ _ _).mono ?_
                    rintro e w2 ⟨rfl, b2⟩
                    obtain ⟨⟨x0, x1, x2, x3, y0, y1, fx, fy⟩, bw⟩ := Qa HBX w2 (hbel.trans (b2.mono (by omega)))
                    clear HBX
                    go_wp2_with fail
                    refine bodyPost_ret (v := TV.val ⟨0, ⟨#[]⟩, 0, 0, 0, 7, (m : Int)⟩) (by simp [results, Try.results48, go_sem, x0, x1, x2, x3, y0, y1]) rfl ?_
                    exact ⟨Qdc (Qa H).symm, Qbp bw (Nat.le_refl _) (Nat.le_succ _) _ _ _ _ _ _⟩
          · have hno : ∀ d u, s.data.toList.drop (m + 1) = d :: u → esc d = none := fun d u h => by rw [Qbt s (m + 1) (by omega)] at h; cases h
            have H := hide (show resT k (txRes (s.data.toList.drop (k + 1))) = ⟨0, ⟨#[]⟩, 0, 0, 0, 7, (m : Int)⟩ by
              unfold txRes; rw [htx, hd, Qkv _ hno]
              simp only [TR.app, resT]; congr 1; omega)
            clear htx hnil hown hd hno
            go_wp2_with fail
            refine (Qbh _ _ _).mono ?_
            rintro e w2 ⟨rfl, b2⟩
            obtain ⟨⟨x0, x1, x2, x3, y0, y1, fx, fy⟩, bw⟩ := Qa HBX w2 (hbel.trans (b2.mono (by omega)))
            clear HBX
            go_wp2_with fail
            refine bodyPost_ret (v := TV.val ⟨0, ⟨#[]⟩, 0, 0, 0, 7, (m : Int)⟩) (by simp [results, Try.results48, go_sem, x0, x1, x2, x3, y0, y1]) rfl ?_
            exact ⟨Qdc (Qa H).symm, Qbp bw (Nat.le_refl _) (Nat.le_succ _) _ _ _ _ _ _⟩
        | false =>
          have n3 := beq_eq_false_iff_ne.1 e3
          have HT := hide (show txScan (s.data.toList.drop m) = (txScan (s.data.toList.drop (m + 1))).pre s[m] 1 by
            rw [Qan s m hlt, Qqj (fun e => n1 (by rw [e]; rfl)) (fun e => n2 (by rw [e]; rfl)) (fun e => n3 (by rw [e]; rfl))])
          clear htx hnil
          go_wp2_with (at_builtin; refine wpList_append_own _ rfl _ _ 158 rfl (w.heap.size + 2) 5 i0 (.int .u8 0) 1 1 Try.underlying158 (Qa HI).1 (Qa HI).2.1 (Qa HI).2.2.1 (Qa HI).2.2.2 rfl (by decide) _ _ _ rfl (hown.alloc _) ⟨_, 0, none⟩ 1 1 [.int .u8 (s[m].toNat : Int)] rfl rfl (Qdd _ _) (Qeb _) (by unfold maxLen; omega) (by omega) (by simp; omega) ?_; intro v' w3 hown' hgrow _)
          go_roundw
          case rel =>
            have := Qgc (n := 1) (c := s[m]) rfl (by have := Qa HW0; omega) (Qa HH) (by omega) (by omega) (Qa HT) hown' hgrow
            simpa using this
          case measure => simp [intOf]; omega
  · have H := hide (show resT k (txRes (s.data.toList.drop (k + 1))) = ⟨0, ⟨#[]⟩, 0, 0, 0, 7, (k : Int)⟩ by
      unfold txRes; rw [htx, Qbt s m (by omega)]
      simp [txScan, TR.app, resT])
    clear htx hnil hown
    go_wp2_with fail
    refine (Qbh _ _ _).mono ?_
    rintro e w2 ⟨rfl, b2⟩
    obtain ⟨⟨x0, x1, x2, x3, y0, y1, fx, fy⟩, bw⟩ := Qa HBX w2 (hbel.trans (b2.mono (by omega)))
    clear HBX
    go_wp2_with fail
    refine bodyPost_ret (v := TV.val ⟨0, ⟨#[]⟩, 0, 0, 0, 7, (k : Int)⟩) (by simp [results, Try.results48, go_sem, x0, x1, x2, x3, y0, y1]) rfl ?_
    exact ⟨Qdc (Qa H).symm, Qbp bw (Nat.le_refl _) (Nat.le_succ _) _ _ _ _ _ _⟩
end
section
open Go.RowKit
abbrev hdO : Obj := .cells #[str [46, 100, 101, 99, 108], str [46, 116, 121, 112, 101], str [46, 99, 111, 109, 112], str [46, 105, 110, 105, 116]] 9
abbrev twO : Obj := .cells #[str [58, 45], str [60, 58], str [60, 61], str [62, 61], str [33, 61]] 9
theorem hdO_at (w : World) {j : Nat} (h : j < 4) : (w.alloc hdO).cell? ⟨w.heap.size, j, none⟩ = some (str (hds.getD j [])) := by
 rw [Lib.cell_of_heap (heap_alloc_new w hdO)]
 rcases (by omega : j = 0 ∨ j = 1 ∨ j = 2 ∨ j = 3) with rfl | rfl | rfl | rfl <;> rfl
theorem twO_at (w : World) {j : Nat} (h : j < 5) : (w.alloc twO).cell? ⟨w.heap.size, j, none⟩ = some (str (twos.getD j [])) := by
 rw [Lib.cell_of_heap (heap_alloc_new w twO)]
 rcases (by omega : j = 0 ∨ j = 1 ∨ j = 2 ∨ j = 3 ∨ j = 4) with rfl | rfl | rfl | rfl | rfl <;> rfl
theorem wd_hd {r : Txt} {j : Nat} (hj : j < 4) (hp : pre (hds.getD j []) r = true) : (decide (wdLen (r.drop 1) = 4)) = noW (r.drop 5) := by
 have hm : hds.getD j [] ∈ hds := by
  rcases (by omega : j = 0 ∨ j = 1 ∨ j = 2 ∨ j = 3) with rfl | rfl | rfl | rfl <;> decide
 have hlen := Qkh hj
 generalize hds.getD j [] = h at hp hm hlen
 simp only [hds, List.mem_cons, List.not_mem_nil, or_false] at hm
 have ht := Qfd hp
 rw [hlen] at ht
 match r, ht with
 | a :: b :: c :: d :: e :: t, ht =>
  simp only [List.take_succ_cons, List.take_zero] at ht
  have key : isL (bv b) = true ∧ inW (bv c) = true ∧ inW (bv d) = true ∧ inW (bv e) = true := by
   rcases hm with rfl | rfl | rfl | rfl
   all_goals
    simp only [List.cons.injEq] at ht
    obtain ⟨rfl, rfl, rfl, rfl, rfl, _⟩ := ht
    decide
  obtain ⟨k1, k2, k3, k4⟩ := key
  have e1 : wdLen ((a :: b :: c :: d :: e :: t).drop 1) = wcn t + 4 := by
   show wdLen (b :: c :: d :: e :: t) = _
   rw [Qgd, if_pos k1]
   simp [wcn, k2, k3, k4]
  rw [e1]
  show decide (wcn t + 4 = 4) = noW t
  cases t with
  | nil => rfl
  | cons f u =>
   cases hf : inW (bv f) with
   | true => simp [noW, wcn, hf]
   | false => simp [noW, wcn, hf]
 | [], ht => rcases hm with rfl | rfl | rfl | rfl <;> simp at ht
 | [a], ht => rcases hm with rfl | rfl | rfl | rfl <;> simp at ht
 | [a, b], ht => rcases hm with rfl | rfl | rfl | rfl <;> simp at ht
 | [a, b, c], ht => rcases hm with rfl | rfl | rfl | rfl <;> simp at ht
 | [a, b, c, d], ht => rcases hm with rfl | rfl | rfl | rfl <;> simp at ht
theorem two_hit {l : Txt} {j : Nat} (hj : j < 5) (h0 : isHd l = false) (hp : pre (twos.getD j []) l = true) : sgLen l = 2 := by
 unfold sgLen
 rw [h0, Qmd (l := twos) (p := fun h => pre h l) [] (show j < twos.length from hj) hp]; rfl
theorem Qon {j : Nat} (h : j < 5) : (twos.getD j []).length = 2 := by
 rcases (by omega : j = 0 ∨ j = 1 ∨ j = 2 ∨ j = 3 ∨ j = 4) with rfl | rfl | rfl | rfl | rfl <;> rfl
theorem one_hit {l : Txt} {j : Nat} (hj : j < 18) (h0 : isHd l = false) (h2 : twos.any (fun h => pre h l) = false) (hp : pre [ones.getD j 0] l = true) : sgLen l = 1 := by
 unfold sgLen
 rw [h0, h2, Qmd (l := ones) (p := fun c => pre [c] l) 0 (show j < ones.length from hj) hp]; rfl
theorem Qpv {l : Txt} (h0 : isHd l = false) (h2 : twos.any (fun h => pre h l) = false) (h : ∀ j, j < 18 → pre [ones.getD j 0] l = false) : sgLen l = 0 := by
 unfold sgLen
 rw [h0, h2, Qmf (l := ones) (p := fun c => pre [c] l) 0 (fun j hj => h j hj)]; rfl
theorem Qhu {a b : ByteArray} (h : a = b) : Ending.returned (.string a) = .returned (.string b) := by rw [h]
theorem one_at {s : ByteArray} {k : Nat} (hk : k < s.size) (c : UInt8) : pre [c] (s.data.toList.drop k) = (c == s[k]) := by
 rw [Qan s k hk]
 show (c == s[k] && _) = _
 simp [List.isPrefixOf]

def sgStr (s : ByteArray) (k : Nat) : ByteArray := ⟨((s.data.toList.drop k).take (sgLen (s.data.toList.drop k))).toArray⟩

theorem Qog (s : ByteArray) (k : Nat) (hk : k < s.size) (hs : s.size ≤ 65536) (w : World) :
  Calls Try.prog 49 #[.string s, .int .i64 (k : Int)] w fun e w' => e = .returned (.string (sgStr s k)) ∧ Below w.heap.size w w' := by
 have hs2 : s.size ≤ 140737488355328 := by omega
 have HB1 := hide ((Below.refl w.heap.size w).alloc (Nat.le_refl _) hdO)
 have HB2 := hide (((Below.refl w.heap.size w).alloc (Nat.le_refl _) hdO).alloc (by simp) twO)
 have HC1 := hide (fun (j : Nat) (h : j < 4) => hdO_at w h)
 have HC2 := hide (fun (j : Nat) (h : j < 5) => twO_at (w.alloc hdO) h)
 obtain ⟨W1, hW1⟩ : ∃ W1, w.alloc hdO = W1 := ⟨_, rfl⟩
 have HW1 := hide hW1
 rw [hW1] at HB1 HB2 HC1 HC2
 have hz1 : W1.heap.size = w.heap.size + 1 := by rw [← hW1]; simp
 have HZ1 := hide hz1
 clear hW1 hz1
 go_enter Try.func49, Try.ntmps49
 go_wp2_with fail
 rw [show w.alloc (.cells #[.string ⟨#[46, 100, 101, 99, 108]⟩, .string ⟨#[46, 116, 121, 112, 101]⟩, .string ⟨#[46, 99, 111, 109, 112]⟩, .string ⟨#[46, 105, 110, 105, 116]⟩] 9) = W1 from Qa HW1]
 go_loop [13] (fun i => ∃ j : Nat, i = .int .i64 (j : Int) ∧ j ≤ 4 ∧ Hid (∀ q, q < j → (pre (hds.getD q []) (s.data.toList.drop k) && noW ((s.data.toList.drop k).drop 5)) = false)) (fun i => 4 - (intOf i).toNat)
 case atStart => exact ⟨0, rfl, by omega, hide fun q hq => absurd hq (Nat.not_lt_zero q)⟩
 obtain ⟨j, rfl, hj, HH⟩ := hrel
 by_cases hlt : j < 4
 ·
  have hcell := Qa HC1 j hlt
  obtain ⟨p, hp⟩ : ∃ p : ByteArray, (⟨(hds.getD j []).toArray⟩ : ByteArray) = p := ⟨_, rfl⟩
  have hpl : p.data.toList = hds.getD j [] := by rw [← hp]
  have hps : p.size = 5 := by rw [Qct, hpl, Qkh hlt]
  unfold str at hcell
  rw [hp] at hcell
  have HPL := hide hpl
  have HPS := hide hps
  clear hp hpl hps
  cases hpre : pre (hds.getD j []) (s.data.toList.drop k) with
  | false =>
   have HA := hide (show pre p.data.toList (s.data.toList.drop k) = false by rw [Qa HPL]; exact hpre)
   have HN := hide (show ∀ q, q < j + 1 → (pre (hds.getD q []) (s.data.toList.drop k) && noW ((s.data.toList.drop k).drop 5)) = false from fun q hq => by
    by_cases hqj : q < j
    · exact Qa HH q hqj
    · rw [show q = j by omega, hpre]; rfl)
   clear hpre
   go_wp2_with (go_at_call 86; refine (Qdw s _ k p false rfl (Qa HA) (by omega) hs2 (by rw [Qa HPS]; decide) _).mono ?_; rintro e w' ⟨rfl, rfl⟩)
   go_round
   case rel => exact ⟨j + 1, by go_num, by omega, HN⟩
   case measure => simp [intOf]; omega
  | true =>
   have HA := hide (show pre p.data.toList (s.data.toList.drop k) = true by rw [Qa HPL]; exact hpre)
   have hk5 : k + 5 ≤ s.size := by
    have := Qet hpre
    rw [Qkh hlt, Qbg] at this
    omega
   have hwd := wd_hd hlt hpre
   rw [List.drop_drop] at hwd
   obtain ⟨m, hm⟩ : ∃ m, wdLen (s.data.toList.drop (k + 1)) = m := ⟨_, rfl⟩
   have HM := hide hm
   rw [hm] at hwd
   clear hm
   by_cases h4 : m = 4
   ·
    have hno : noW ((s.data.toList.drop k).drop 5) = true := by rw [← hwd, decide_eq_true h4]
    have H := hide (show p = sgStr s k by
     unfold sgStr
     rw [hd_hit hlt hpre hno, ← Qkh hlt, Qfd hpre, ← Qa HPL])
    have h4b : ((m : Int) == 4) = true := by rw [beq_iff_eq]; omega
    clear hpre hno hwd h4
    go_wp2_with (first
     | (go_at_call 86; refine (Qdw s _ k p true rfl (Qa HA) (by omega) hs2 (by rw [Qa HPS]; decide) _).mono ?_; rintro e w' ⟨rfl, rfl⟩)
     | (go_at_call 87; refine (Qeg s _ (k + 1) m (by omega) (Qa HM) (by omega) hs2 _).mono ?_; rintro e w' ⟨rfl, rfl⟩))
    go_ret
    exact ⟨Qhu (Qa H), Qa HB1⟩
   have hno : noW ((s.data.toList.drop k).drop 5) = false := by rw [← hwd, decide_eq_false h4]
   have HN := hide (show ∀ q, q < j + 1 → (pre (hds.getD q []) (s.data.toList.drop k) && noW ((s.data.toList.drop k).drop 5)) = false from fun q hq => by rw [hno, Bool.and_false])
   have h4b : ((m : Int) == 4) = false := by rw [beq_eq_false_iff_ne]; omega
   clear hpre hno hwd h4
   go_wp2_with (first
    | (go_at_call 86; refine (Qdw s _ k p true rfl (Qa HA) (by omega) hs2 (by rw [Qa HPS]; decide) _).mono ?_; rintro e w' ⟨rfl, rfl⟩)
    | (go_at_call 87; refine (Qeg s _ (k + 1) m (by omega) (Qa HM) (by omega) hs2 _).mono ?_; rintro e w' ⟨rfl, rfl⟩))
   go_round
   case rel => exact ⟨j + 1, by go_num, by omega, HN⟩
   case measure => simp [intOf]; omega
 have e4 : j = 4 := by omega
 subst e4
 have HD := hide (hd_none (Qa HH))
 clear HH
 have HC3 := hide (fun (q : Nat) (h : q < 5) => Qa HC2 q h)
 obtain ⟨W2, hW2⟩ : ∃ W2, W1.alloc twO = W2 := ⟨_, rfl⟩
 have HW2 := hide hW2
 rw [hW2] at HB2 HC3
 clear hW2 HC2
 go_wp2_with fail
 rw [show W1.alloc (.cells #[.string ⟨#[58, 45]⟩, .string ⟨#[60, 58]⟩, .string ⟨#[60, 61]⟩, .string ⟨#[62, 61]⟩, .string ⟨#[33, 61]⟩] 9) = W2 from Qa HW2]
 go_loop [32] (fun i => ∃ j : Nat, i = .int .i64 (j : Int) ∧ j ≤ 5 ∧ Hid (∀ q, q < j → pre (twos.getD q []) (s.data.toList.drop k) = false)) (fun i => 5 - (intOf i).toNat)
 case atStart => exact ⟨0, rfl, by omega, hide fun q hq => absurd hq (Nat.not_lt_zero q)⟩
 obtain ⟨j, rfl, hj, HH⟩ := hrel
 by_cases hlt : j < 5
 ·
  have hcell := Qa HC3 j hlt
  obtain ⟨p, hp⟩ : ∃ p : ByteArray, (⟨(twos.getD j []).toArray⟩ : ByteArray) = p := ⟨_, rfl⟩
  have hpl : p.data.toList = twos.getD j [] := by rw [← hp]
  have hps : p.size = 2 := by rw [Qct, hpl, Qon hlt]
  unfold str at hcell
  rw [hp] at hcell
  have HPL := hide hpl
  have HPS := hide hps
  clear hp hpl hps
  cases hpre : pre (twos.getD j []) (s.data.toList.drop k) with
  | false =>
   have HA := hide (show pre p.data.toList (s.data.toList.drop k) = false by rw [Qa HPL]; exact hpre)
   have HN := hide (show ∀ q, q < j + 1 → pre (twos.getD q []) (s.data.toList.drop k) = false from fun q hq => by
    by_cases hqj : q < j
    · exact Qa HH q hqj
    · rw [show q = j by omega, hpre])
   clear hpre
   go_wp2_with (go_at_call 86; refine (Qdw s _ k p false rfl (Qa HA) (by omega) hs2 (by rw [Qa HPS]; decide) _).mono ?_; rintro e w' ⟨rfl, rfl⟩)
   go_round
   case rel => exact ⟨j + 1, by go_num, by omega, HN⟩
   case measure => simp [intOf]; omega
  | true =>
   have HA := hide (show pre p.data.toList (s.data.toList.drop k) = true by rw [Qa HPL]; exact hpre)
   have H := hide (show p = sgStr s k by
    unfold sgStr
    rw [two_hit hlt (Qa HD) hpre, ← Qon hlt, Qfd hpre, ← Qa HPL])
   clear hpre
   go_wp2_with (go_at_call 86; refine (Qdw s _ k p true rfl (Qa HA) (by omega) hs2 (by rw [Qa HPS]; decide) _).mono ?_; rintro e w' ⟨rfl, rfl⟩)
   go_ret
   exact ⟨Qhu (Qa H), Qa HB2⟩
 have e5 : j = 5 := by omega
 subst e5
 have HT := hide (Qmf (l := twos) (p := fun h => pre h (s.data.toList.drop k)) [] (fun q hq => Qa HH q hq))
 clear HH
 go_wp2_with fail
 obtain ⟨O, hO⟩ : ∃ O : ByteArray, (⟨#[40, 41, 123, 125, 44, 46, 58, 124, 33, 61, 60, 62, 43, 45, 42, 47, 37, 36]⟩ : ByteArray) = O := ⟨_, rfl⟩
 have hOl : O.data.toList = ones := by rw [← hO]; rfl
 have hOs : O.size = 18 := by rw [← hO]; rfl
 rw [hO]
 have hO1 : O.size ≤ 18 := by omega
 have hO2 : 18 ≤ O.size := by omega
 have HOL := hide hOl
 clear hO hOl hOs
 have hrun := Qiv s k 1 (k : Int) ((k : Int) + 1) rfl (by omega) (by omega)
 obtain ⟨u, hu⟩ : ∃ u, s.extract k (k + 1) = u := ⟨_, rfl⟩
 have hul : u.data.toList = (s.data.toList.drop k).take 1 := by rw [← hu]; exact Qik s k 1
 rw [hu] at hrun
 have HUL := hide hul
 clear hu hul
 go_loopw [10] (fun i wr => ∃ j : Nat, i = .int .i64 (j : Int) ∧ j ≤ 18 ∧ Hid (∀ q, q < j → pre [ones.getD q 0] (s.data.toList.drop k) = false) ∧ Hid (Below w.heap.size w wr)) (fun i _ => 18 - (intOf i).toNat)
 case atStart => exact ⟨0, rfl, by omega, hide fun q hq => absurd hq (Nat.not_lt_zero q), HB2⟩
 obtain ⟨j, rfl, hj, HH, HBR⟩ := hrel
 by_cases hlt : j < 18
 ·
  have hjO : j < O.size := by omega
  have hoj : ones.getD j 0 = O[j] := by
   have h1 := Qan O j hjO
   rw [Qa HOL] at h1
   rw [List.getD_eq_getElem?_getD, ← List.head?_drop, h1]; rfl
  have hpo := one_at hk (ones.getD j 0)
  rw [hoj] at hpo
  cases heq : ((s[k].toNat : Int) == (O[j].toNat : Int)) with
  | true =>
   have ec : O[j] = s[k] := UInt8.toNat_inj.1 (by have := beq_iff_eq.1 heq; omega)
   have H := hide (show u = sgStr s k by
    unfold sgStr
    rw [one_hit hlt (Qa HD) (Qa HT) (by rw [hoj, hpo, ec]; simp), ← Qa HUL])
   clear hpo ec hoj
   go_wp2_with fail
   go_region
   all_goals
    go_wp2_with fail
    go_ret
    exact ⟨Qhu (Qa H), (Qa HBR).drew⟩
  | false =>
   have ec : ¬ O[j] = s[k] := fun e => beq_eq_false_iff_ne.1 heq (by rw [e])
   have HN := hide (show ∀ q, q < j + 1 → pre [ones.getD q 0] (s.data.toList.drop k) = false from fun q hq => by
    by_cases hqj : q < j
    · exact Qa HH q hqj
    · rw [show q = j by omega, hoj, hpo]; exact beq_eq_false_iff_ne.2 ec)
   clear hpo ec hoj
   go_wp2_with fail
   go_region
   all_goals
    go_wp2_with fail
    go_roundw
    case rel => exact ⟨j + 1, by go_num, by omega, HN, hide (Qa HBR).drew⟩
    case measure => simp [intOf]; omega
 have e18 : j = 18 := by omega
 subst e18
 have H := hide (show (⟨#[]⟩ : ByteArray) = sgStr s k by unfold sgStr; rw [Qpv (Qa HD) (Qa HT) (Qa HH)]; rfl)
 have hj2 : ((18 : Int) < (O.size : Int)) = False := by simp; omega
 go_wp2_with fail
 go_ret
 exact ⟨Qhu (Qa H), Qa HBR⟩
end
section
open Go.RowKit
structure RkInv (s : ByteArray) (w : World) (v : Value) (wr : World) (toks : List Tok) (m : Nat) : Prop where
 own : wr.ownsRow (w.heap.size + 1) 54 4 v toks.length (tokCells toks)
 bel : Below w.heap.size w wr
 rb : wr.heap[w.heap.size]? = some fltZ
 ms : m ≤ s.size
 tl : toks.length ≤ m
 sc : scan 0 s.data.toList = (scan m (s.data.toList.drop m)).app toks
def RkRel (s : ByteArray) (w : World) (v i : Value) (wr : World) : Prop := ∃ (toks : List Tok) (m : Nat), i = .int .i64 (m : Int) ∧ Hid (RkInv s w v wr toks m)
structure Aft (w wr w8 : World) (v : Value) (toks : List Tok) (kd : Int) (tx : ByteArray) (nm a why fa : Int) : Prop where
 ft : w8.heap[wr.heap.size]? = some (.cells #[.int .i64 kd, .string tx, .int .i64 nm, .int .i64 a] 54)
 ff : w8.heap[wr.heap.size + 1]? = some (.cells #[.int .i64 why, .int .i64 fa] 31)
 fr : w8.heap[w.heap.size]? = some fltZ
 bel : Below w.heap.size w w8
 own : w8.ownsRow (w.heap.size + 1) 54 4 v toks.length (tokCells toks)
 sz : wr.heap.size + 2 ≤ w8.heap.size
theorem aft0 {s : ByteArray} {w wr w6 : World} {v : Value} {toks : List Tok} {m : Nat} (h : RkInv s w v wr toks m) (b6 : Below (wr.heap.size + 2) ((wr.alloc tokZ).alloc fltZ) w6) : Aft w wr w6 v toks 0 ⟨#[]⟩ 0 0 0 0 := by
 have hsz := h.bel.size
 have hrb : w.heap.size < wr.heap.size := (Array.getElem?_eq_some_iff.1 h.rb).1
 have s6 := b6.size
 simp at s6
 refine ⟨?_, ?_, ?_, ?_, ?_, by omega⟩
 · rw [b6.block _ (by omega), Lib.alloc_old (wr.alloc tokZ) _ _ (by simp)]; exact heap_alloc_new wr _
 ·
  rw [b6.block _ (by omega)]
  have := heap_alloc_new (wr.alloc tokZ) fltZ
  rwa [show (wr.alloc tokZ).heap.size = wr.heap.size + 1 by simp] at this
 · rw [b6.block _ (by omega), Lib.alloc_old (wr.alloc tokZ) _ _ (by simp; omega), Lib.alloc_old wr _ _ hrb]; exact h.rb
 · exact ((h.bel.alloc hsz _).alloc (by simp; omega) _).trans (b6.mono (by omega))
 refine Qpw h.own fun g cur hg => ?_
 have hlt : g < wr.heap.size := (Array.getElem?_eq_some_iff.1 hg).1
 rw [b6.block _ (by omega), Lib.alloc_old (wr.alloc tokZ) _ _ (by simp; omega), Lib.alloc_old wr _ _ hlt]
theorem Qns {wr : World} {B : Nat} {v : Value} {n : Nat} {xs : List Value} (h : wr.ownsRow B 54 4 v n xs) {w8 : World} (h8 : w8.ownsRow B 54 4 v n xs) (hk : ∀ g, g < wr.heap.size → ∀ w9 : World, (∀ k, k < wr.heap.size → w9.heap[k]? = w8.heap[k]?) → w9.heap[g]? = w8.heap[g]?) (w9 : World) (h9 : ∀ k, k < wr.heap.size → w9.heap[k]? = w8.heap[k]?) : w9.ownsRow B 54 4 v n xs := by
 refine ⟨h8.1, ?_⟩
 rcases h8.2 with e | ⟨g, cap, cur, hv, hg, hh, h4, h5, h6, h7⟩
 · exact .inl e
 refine .inr ⟨g, cap, cur, hv, hg, ?_, h4, h5, h6, h7⟩
 have hlt : g < wr.heap.size := by
  rcases h.2 with ⟨e, _⟩ | ⟨g', cap', cur', hv', _, hh', _⟩
  · rw [e] at hv; cases hv
  rw [hv'] at hv
  injection hv with e1 _ _
  injection e1 with e1
  injection e1 with e1 _ _
  subst e1
  exact (Array.getElem?_eq_some_iff.1 hh').1
 rw [hk g hlt w9 h9]; exact hh
theorem Qeo {w wr w6 : World} {v : Value} {toks : List Tok} {kd0 nm0 a0 why fa : Int} {tx0 : ByteArray} (h0 : wr.ownsRow (w.heap.size + 1) 54 4 v toks.length (tokCells toks)) (hb : w.heap.size < wr.heap.size) (h : Aft w wr w6 v toks kd0 tx0 nm0 a0 why fa) (kd nm a : Int) (tx : ByteArray) :
  ∃ w7, (tkStore (.pointer (some ⟨wr.heap.size, 0, none⟩)) (.agg #[.int .i64 kd, .string tx, .int .i64 nm, .int .i64 a])).run Try.prog w6 = .ok () w7 ∧ Aft w wr w7 v toks kd tx nm a why fa := by
 have n1 : ∀ k, k ≠ wr.heap.size → ((((w6.setCell ⟨wr.heap.size, 0, none⟩ (.int .i64 kd)).setCell ⟨wr.heap.size, 1, none⟩ (.string tx)).setCell ⟨wr.heap.size, 2, none⟩ (.int .i64 nm)).setCell ⟨wr.heap.size, 3, none⟩ (.int .i64 a)).heap[k]? = w6.heap[k]? := fun k hk => by
  rw [heap_setCell_other _ _ _ _ hk, heap_setCell_other _ _ _ _ hk, heap_setCell_other _ _ _ _ hk, heap_setCell_other _ _ _ _ hk]
 refine ⟨_, Qqi h.ft kd nm a tx, heap_setCell_same _ _ 3 _ _ _ (heap_setCell_same _ _ 2 _ _ _ (heap_setCell_same _ _ 1 _ _ _ (heap_setCell_same _ _ 0 _ _ _ h.ft))), by rw [n1 _ (by omega)]; exact h.ff, by rw [n1 _ (by omega)]; exact h.fr, ?_, ?_, ?_⟩
 · exact (((h.bel.setCell (p := ⟨wr.heap.size, 0, none⟩) (by show w.heap.size ≤ wr.heap.size; omega) _).setCell (p := ⟨wr.heap.size, 1, none⟩) (by show w.heap.size ≤ wr.heap.size; omega) _).setCell (p := ⟨wr.heap.size, 2, none⟩) (by show w.heap.size ≤ wr.heap.size; omega) _).setCell (p := ⟨wr.heap.size, 3, none⟩) (by show w.heap.size ≤ wr.heap.size; omega) _
 · exact Qns h0 h.own (fun g hg w9 h9 => h9 g hg) _ (fun k hk => n1 k (by omega))
 · simp; exact h.sz
theorem Qfh {w wr w6 : World} {v : Value} {toks : List Tok} {kd nm a why0 fa0 : Int} {tx : ByteArray} (h0 : wr.ownsRow (w.heap.size + 1) 54 4 v toks.length (tokCells toks)) (hb : w.heap.size < wr.heap.size) (h : Aft w wr w6 v toks kd tx nm a why0 fa0) (why fa : Int) :
  ∃ w7, (flStore (.pointer (some ⟨wr.heap.size + 1, 0, none⟩)) (.agg #[.int .i64 why, .int .i64 fa])).run Try.prog w6 = .ok () w7 ∧ Aft w wr w7 v toks kd tx nm a why fa := by
 have n1 : ∀ k, k ≠ wr.heap.size + 1 → ((w6.setCell ⟨wr.heap.size + 1, 0, none⟩ (.int .i64 why)).setCell ⟨wr.heap.size + 1, 1, none⟩ (.int .i64 fa)).heap[k]? = w6.heap[k]? := fun k hk => by
  rw [heap_setCell_other _ _ _ _ hk, heap_setCell_other _ _ _ _ hk]
 refine ⟨_, Qkg h.ff why fa, by rw [n1 _ (by omega)]; exact h.ft, Qom _ _ _ _ _ _ h.ff, by rw [n1 _ (by omega)]; exact h.fr, ?_, ?_, ?_⟩
 · exact (h.bel.setCell (p := ⟨wr.heap.size + 1, 0, none⟩) (by show w.heap.size ≤ wr.heap.size + 1; omega) _).setCell (p := ⟨wr.heap.size + 1, 1, none⟩) (by show w.heap.size ≤ wr.heap.size + 1; omega) _
 · exact Qns h0 h.own (fun g hg w9 h9 => h9 g hg) _ (fun k hk => n1 k (by omega))
 · simp; exact h.sz
theorem Qmc {w wr w6 w7 : World} {v : Value} {toks : List Tok} {kd nm a why fa : Int} {tx : ByteArray} (hb : w.heap.size < wr.heap.size) (h0 : wr.ownsRow (w.heap.size + 1) 54 4 v toks.length (tokCells toks)) (h : Aft w wr w6 v toks kd tx nm a why fa) (b : Below w6.heap.size w6 w7) : Aft w wr w7 v toks kd tx nm a why fa := by
 have hz := h.sz
 refine ⟨by rw [b.block _ (by omega)]; exact h.ft, by rw [b.block _ (by omega)]; exact h.ff, by rw [b.block _ (by omega)]; exact h.fr, h.bel.trans (b.mono h.bel.size), ?_, by have := b.size; omega⟩
 exact Qns h0 h.own (fun g hg w9 h9 => h9 g hg) _ (fun k hk => b.block k (by omega))
theorem app_nil (o : Out) : o.app [] = o := by cases o <;> rfl

theorem Qhv {s : ByteArray} {w wr w8 w9 : World} {v v' : Value} {toks : List Tok} {m n : Nat} {kd nm : Int} {tx : Txt} (h : RkInv s w v wr toks m) (ha : Aft w wr w8 v toks kd ⟨tx.toArray⟩ nm (m : Int) 0 0) (hg : gapAt (s.data.toList.drop m) = .none) (ht : tokAt (s.data.toList.drop m) = .tok kd tx nm n)
  (hown : w9.ownsRow (w.heap.size + 1) 54 4 v' (toks.length + 1) (tokCells toks ++ [.int .i64 kd, .string ⟨tx.toArray⟩, .int .i64 nm, .int .i64 (m : Int)]))
  (hgrow : (w8.alloc (.cells #[.int .i64 kd, .string ⟨tx.toArray⟩, .int .i64 nm, .int .i64 (m : Int)] 54)).grownBy w9 v.ownBlock) :
  RkInv s w v' w9 (toks ++ [⟨kd, tx, nm, m⟩]) (m + n) := by
 have hp := Qcw ht
 rw [Qbg] at hp
 have hms := h.ms
 have hbs := ha.bel.size
 have hrb : w.heap.size < w8.heap.size := (Array.getElem?_eq_some_iff.1 ha.fr).1
 refine ⟨?_, ?_, ?_, by omega, by have := h.tl; rw [List.length_append]; simp; omega, ?_⟩
 ·
  have e : tokCells (toks ++ [⟨kd, tx, nm, m⟩]) = tokCells toks ++ [.int .i64 kd, .string ⟨tx.toArray⟩, .int .i64 nm, .int .i64 (m : Int)] := Qej _ _
  rw [e, List.length_append]; exact hown
 · exact (ha.bel.alloc hbs _).grown hgrow (by simp; omega) (fun g hg => by have := (ha.own.lt g hg).1; omega)
 ·
  rw [hgrow.block _ (by simp; omega) (fun e => by have := (ha.own.lt _ e.symm).1; omega), Lib.alloc_old _ _ _ hrb]
  exact ha.fr
 · rw [h.sc, Qeh hg ht, Qpe, List.drop_drop]
end
end Go.Proofs.Ytfmbpaoapjmdnaa
