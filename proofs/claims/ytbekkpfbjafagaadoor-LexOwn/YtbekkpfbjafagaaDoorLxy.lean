/- Walk of the document's sign. -/
import Derived.Test.YtbekkpfbjafagaaDoorLxu
namespace Go.Proofs.YtbekkpfbjafagaaDoor
open Go.RowKit

abbrev hdO : Obj := .cells #[str [46, 100, 101, 99, 108], str [46, 116, 121, 112, 101], str [46, 99, 111, 109, 112], str [46, 105, 110, 105, 116]] 9
abbrev twO : Obj := .cells #[str [58, 45], str [60, 58], str [60, 61], str [62, 61], str [33, 61]] 9
theorem hdO_at (w : World) {j : Nat} (h : j < 4) : (w.alloc hdO).cell? ⟨w.heap.size, j, none⟩ = some (str (hds.getD j [])) := by
  rw [Lib.cell_of_heap (heap_alloc_new w hdO)]
  rcases (by omega : j = 0 ∨ j = 1 ∨ j = 2 ∨ j = 3) with rfl | rfl | rfl | rfl <;> rfl
theorem twO_at (w : World) {j : Nat} (h : j < 5) : (w.alloc twO).cell? ⟨w.heap.size, j, none⟩ = some (str (twos.getD j [])) := by
  rw [Lib.cell_of_heap (heap_alloc_new w twO)]
  rcases (by omega : j = 0 ∨ j = 1 ∨ j = 2 ∨ j = 3 ∨ j = 4) with rfl | rfl | rfl | rfl | rfl <;> rfl
theorem wd_hd {r : Txt} {j : Nat} (hj : j < 4) (hp : pre (hds.getD j []) r = true) : (decide (wdLen (r.drop 1) = 4)) = noW (r.drop 5) := by
  have hm : hds.getD j [] ∈ hds := by
    rcases (by omega : j = 0 ∨ j = 1 ∨ j = 2 ∨ j = 3) with rfl | rfl | rfl | rfl <;> decide
  have hlen := hd_len hj
  generalize hds.getD j [] = h at hp hm hlen
  simp only [hds, List.mem_cons, List.not_mem_nil, or_false] at hm
  have ht := pre_take hp
  rw [hlen] at ht
  match r, ht with
  | a :: b :: c :: d :: e :: t, ht =>
    simp only [List.take_succ_cons, List.take_zero] at ht
    have key : isL (bv b) = true ∧ inW (bv c) = true ∧ inW (bv d) = true ∧ inW (bv e) = true := by
      rcases hm with rfl | rfl | rfl | rfl
      all_goals
        simp only [List.cons.injEq] at ht
        obtain ⟨rfl, rfl, rfl, rfl, rfl, _⟩ := ht
        decide
    obtain ⟨k1, k2, k3, k4⟩ := key
    have e1 : wdLen ((a :: b :: c :: d :: e :: t).drop 1) = wcn t + 4 := by
      show wdLen (b :: c :: d :: e :: t) = _
      rw [wd_cons, if_pos k1]
      simp [wcn, k2, k3, k4]
    rw [e1]
    show decide (wcn t + 4 = 4) = noW t
    cases t with
    | nil => rfl
    | cons f u =>
      cases hf : inW (bv f) with
      | true => simp [noW, wcn, hf]
      | false => simp [noW, wcn, hf]
  | [], ht => rcases hm with rfl | rfl | rfl | rfl <;> simp at ht
  | [a], ht => rcases hm with rfl | rfl | rfl | rfl <;> simp at ht
  | [a, b], ht => rcases hm with rfl | rfl | rfl | rfl <;> simp at ht
  | [a, b, c], ht => rcases hm with rfl | rfl | rfl | rfl <;> simp at ht
  | [a, b, c, d], ht => rcases hm with rfl | rfl | rfl | rfl <;> simp at ht
theorem two_hit {l : Txt} {j : Nat} (hj : j < 5) (h0 : isHd l = false) (hp : pre (twos.getD j []) l = true) : sgLen l = 2 := by
  unfold sgLen
  rw [h0, any_at (l := twos) (p := fun h => pre h l) [] (show j < twos.length from hj) hp]; rfl
theorem two_len {j : Nat} (h : j < 5) : (twos.getD j []).length = 2 := by
  rcases (by omega : j = 0 ∨ j = 1 ∨ j = 2 ∨ j = 3 ∨ j = 4) with rfl | rfl | rfl | rfl | rfl <;> rfl
theorem one_hit {l : Txt} {j : Nat} (hj : j < 18) (h0 : isHd l = false) (h2 : twos.any (fun h => pre h l) = false) (hp : pre [ones.getD j 0] l = true) : sgLen l = 1 := by
  unfold sgLen
  rw [h0, h2, any_at (l := ones) (p := fun c => pre [c] l) 0 (show j < ones.length from hj) hp]; rfl
theorem one_none {l : Txt} (h0 : isHd l = false) (h2 : twos.any (fun h => pre h l) = false) (h : ∀ j, j < 18 → pre [ones.getD j 0] l = false) : sgLen l = 0 := by
  unfold sgLen
  rw [h0, h2, any_lt (l := ones) (p := fun c => pre [c] l) 0 (fun j hj => h j hj)]; rfl
theorem ret_str {a b : ByteArray} (h : a = b) : Ending.returned (.string a) = .returned (.string b) := by rw [h]
theorem one_at {s : ByteArray} {k : Nat} (hk : k < s.size) (c : UInt8) : pre [c] (s.data.toList.drop k) = (c == s[k]) := by
  rw [drop_at s k hk]
  show (c == s[k] && _) = _
  simp [List.isPrefixOf]

def sgStr (s : ByteArray) (k : Nat) : ByteArray := ⟨((s.data.toList.drop k).take (sgLen (s.data.toList.drop k))).toArray⟩

set_option maxRecDepth 100000 in
set_option maxHeartbeats 4000000 in
theorem rsign_any (s : ByteArray) (k : Nat) (hk : k < s.size) (hs : s.size ≤ 65536) (w : World) :
    Calls Tryd.prog 25 #[.string s, .int .i64 (k : Int)] w fun e w' => e = .returned (.string (sgStr s k)) ∧ Below w.heap.size w w' := by
  have hs2 : s.size ≤ 140737488355328 := by omega
  have HB1 := hide ((Below.refl w.heap.size w).alloc (Nat.le_refl _) hdO)
  have HB2 := hide (((Below.refl w.heap.size w).alloc (Nat.le_refl _) hdO).alloc (by simp) twO)
  have HC1 := hide (fun (j : Nat) (h : j < 4) => hdO_at w h)
  have HC2 := hide (fun (j : Nat) (h : j < 5) => twO_at (w.alloc hdO) h)
  obtain ⟨W1, hW1⟩ : ∃ W1, w.alloc hdO = W1 := ⟨_, rfl⟩
  have HW1 := hide hW1
  rw [hW1] at HB1 HB2 HC1 HC2
  have hz1 : W1.heap.size = w.heap.size + 1 := by rw [← hW1]; simp
  have HZ1 := hide hz1
  clear hW1 hz1
  go_enter Tryd.func25, Tryd.ntmps25
  go_wp2_with fail
  rw [show w.alloc (.cells #[.string ⟨#[46, 100, 101, 99, 108]⟩, .string ⟨#[46, 116, 121, 112, 101]⟩, .string ⟨#[46, 99, 111, 109, 112]⟩, .string ⟨#[46, 105, 110, 105, 116]⟩] 9) = W1 from unhide HW1]
  go_loop [13] (fun i => ∃ j : Nat, i = .int .i64 (j : Int) ∧ j ≤ 4 ∧ Hid (∀ q, q < j → (pre (hds.getD q []) (s.data.toList.drop k) && noW ((s.data.toList.drop k).drop 5)) = false)) (fun i => 4 - (intOf i).toNat)
  case atStart => exact ⟨0, rfl, by omega, hide fun q hq => absurd hq (Nat.not_lt_zero q)⟩
  case round =>
    obtain ⟨j, rfl, hj, HH⟩ := hrel
    by_cases hlt : j < 4
    · have hcell := unhide HC1 j hlt
      obtain ⟨p, hp⟩ : ∃ p : ByteArray, (⟨(hds.getD j []).toArray⟩ : ByteArray) = p := ⟨_, rfl⟩
      have hpl : p.data.toList = hds.getD j [] := by rw [← hp]
      have hps : p.size = 5 := by rw [size_len, hpl, hd_len hlt]
      unfold str at hcell
      rw [hp] at hcell
      have HPL := hide hpl
      have HPS := hide hps
      clear hp hpl hps
      cases hpre : pre (hds.getD j []) (s.data.toList.drop k) with
      | false =>
        have HA := hide (show pre p.data.toList (s.data.toList.drop k) = false by rw [unhide HPL]; exact hpre)
        have HN := hide (show ∀ q, q < j + 1 → (pre (hds.getD q []) (s.data.toList.drop k) && noW ((s.data.toList.drop k).drop 5)) = false from fun q hq => by
          by_cases hqj : q < j
          · exact unhide HH q hqj
          · rw [show q = j by omega, hpre]; rfl)
        clear hpre
        go_wp2_with (go_at_call 39; refine (at_is s _ k p false rfl (unhide HA) (by omega) hs2 (by rw [unhide HPS]; decide) _).mono ?_; rintro e w' ⟨rfl, rfl⟩)
        go_round
        case rel => exact ⟨j + 1, by go_num, by omega, HN⟩
        case measure => simp [intOf]; omega
      | true =>
        have HA := hide (show pre p.data.toList (s.data.toList.drop k) = true by rw [unhide HPL]; exact hpre)
        have hk5 : k + 5 ≤ s.size := by
          have := pre_len hpre
          rw [hd_len hlt, len_drop] at this
          omega
        have hwd := wd_hd hlt hpre
        rw [List.drop_drop] at hwd
        obtain ⟨m, hm⟩ : ∃ m, wdLen (s.data.toList.drop (k + 1)) = m := ⟨_, rfl⟩
        have HM := hide hm
        rw [hm] at hwd
        clear hm
        by_cases h4 : m = 4
        · have hno : noW ((s.data.toList.drop k).drop 5) = true := by rw [← hwd, decide_eq_true h4]
          have H := hide (show p = sgStr s k by
            unfold sgStr
            rw [hd_hit hlt hpre hno, ← hd_len hlt, pre_take hpre, ← unhide HPL])
          have h4b : ((m : Int) == 4) = true := by rw [beq_iff_eq]; omega
          clear hpre hno hwd h4
          go_wp2_with (first
            | (go_at_call 39; refine (at_is s _ k p true rfl (unhide HA) (by omega) hs2 (by rw [unhide HPS]; decide) _).mono ?_; rintro e w' ⟨rfl, rfl⟩)
            | (go_at_call 27; refine (rword_is s _ (k + 1) m (by omega) (unhide HM) (by omega) hs2 _).mono ?_; rintro e w' ⟨rfl, rfl⟩))
          go_ret
          exact ⟨ret_str (unhide H), unhide HB1⟩
        · have hno : noW ((s.data.toList.drop k).drop 5) = false := by rw [← hwd, decide_eq_false h4]
          have HN := hide (show ∀ q, q < j + 1 → (pre (hds.getD q []) (s.data.toList.drop k) && noW ((s.data.toList.drop k).drop 5)) = false from fun q hq => by rw [hno, Bool.and_false])
          have h4b : ((m : Int) == 4) = false := by rw [beq_eq_false_iff_ne]; omega
          clear hpre hno hwd h4
          go_wp2_with (first
            | (go_at_call 39; refine (at_is s _ k p true rfl (unhide HA) (by omega) hs2 (by rw [unhide HPS]; decide) _).mono ?_; rintro e w' ⟨rfl, rfl⟩)
            | (go_at_call 27; refine (rword_is s _ (k + 1) m (by omega) (unhide HM) (by omega) hs2 _).mono ?_; rintro e w' ⟨rfl, rfl⟩))
          go_round
          case rel => exact ⟨j + 1, by go_num, by omega, HN⟩
          case measure => simp [intOf]; omega
    · have e4 : j = 4 := by omega
      subst e4
      have HD := hide (hd_none (unhide HH))
      clear HH
      have HC3 := hide (fun (q : Nat) (h : q < 5) => unhide HC2 q h)
      obtain ⟨W2, hW2⟩ : ∃ W2, W1.alloc twO = W2 := ⟨_, rfl⟩
      have HW2 := hide hW2
      rw [hW2] at HB2 HC3
      clear hW2 HC2
      go_wp2_with fail
      rw [show W1.alloc (.cells #[.string ⟨#[58, 45]⟩, .string ⟨#[60, 58]⟩, .string ⟨#[60, 61]⟩, .string ⟨#[62, 61]⟩, .string ⟨#[33, 61]⟩] 9) = W2 from unhide HW2]
      go_loop [32] (fun i => ∃ j : Nat, i = .int .i64 (j : Int) ∧ j ≤ 5 ∧ Hid (∀ q, q < j → pre (twos.getD q []) (s.data.toList.drop k) = false)) (fun i => 5 - (intOf i).toNat)
      case atStart => exact ⟨0, rfl, by omega, hide fun q hq => absurd hq (Nat.not_lt_zero q)⟩
      case round =>
        obtain ⟨j, rfl, hj, HH⟩ := hrel
        by_cases hlt : j < 5
        · have hcell := unhide HC3 j hlt
          obtain ⟨p, hp⟩ : ∃ p : ByteArray, (⟨(twos.getD j []).toArray⟩ : ByteArray) = p := ⟨_, rfl⟩
          have hpl : p.data.toList = twos.getD j [] := by rw [← hp]
          have hps : p.size = 2 := by rw [size_len, hpl, two_len hlt]
          unfold str at hcell
          rw [hp] at hcell
          have HPL := hide hpl
          have HPS := hide hps
          clear hp hpl hps
          cases hpre : pre (twos.getD j []) (s.data.toList.drop k) with
          | false =>
            have HA := hide (show pre p.data.toList (s.data.toList.drop k) = false by rw [unhide HPL]; exact hpre)
            have HN := hide (show ∀ q, q < j + 1 → pre (twos.getD q []) (s.data.toList.drop k) = false from fun q hq => by
              by_cases hqj : q < j
              · exact unhide HH q hqj
              · rw [show q = j by omega, hpre])
            clear hpre
            go_wp2_with (go_at_call 39; refine (at_is s _ k p false rfl (unhide HA) (by omega) hs2 (by rw [unhide HPS]; decide) _).mono ?_; rintro e w' ⟨rfl, rfl⟩)
            go_round
            case rel => exact ⟨j + 1, by go_num, by omega, HN⟩
            case measure => simp [intOf]; omega
          | true =>
            have HA := hide (show pre p.data.toList (s.data.toList.drop k) = true by rw [unhide HPL]; exact hpre)
            have H := hide (show p = sgStr s k by
              unfold sgStr
              rw [two_hit hlt (unhide HD) hpre, ← two_len hlt, pre_take hpre, ← unhide HPL])
            clear hpre
            go_wp2_with (go_at_call 39; refine (at_is s _ k p true rfl (unhide HA) (by omega) hs2 (by rw [unhide HPS]; decide) _).mono ?_; rintro e w' ⟨rfl, rfl⟩)
            go_ret
            exact ⟨ret_str (unhide H), unhide HB2⟩
        · have e5 : j = 5 := by omega
          subst e5
          have HT := hide (any_lt (l := twos) (p := fun h => pre h (s.data.toList.drop k)) [] (fun q hq => unhide HH q hq))
          clear HH
          go_wp2_with fail
          obtain ⟨O, hO⟩ : ∃ O : ByteArray, (⟨#[40, 41, 123, 125, 44, 46, 58, 124, 33, 61, 60, 62, 43, 45, 42, 47, 37, 36]⟩ : ByteArray) = O := ⟨_, rfl⟩
          have hOl : O.data.toList = ones := by rw [← hO]; rfl
          have hOs : O.size = 18 := by rw [← hO]; rfl
          rw [hO]
          have hO1 : O.size ≤ 18 := by omega
          have hO2 : 18 ≤ O.size := by omega
          have HOL := hide hOl
          clear hO hOl hOs
          have hrun := run_piece s k 1 (k : Int) ((k : Int) + 1) rfl (by omega) (by omega)
          obtain ⟨u, hu⟩ : ∃ u, s.extract k (k + 1) = u := ⟨_, rfl⟩
          have hul : u.data.toList = (s.data.toList.drop k).take 1 := by rw [← hu]; exact ext_piece s k 1
          rw [hu] at hrun
          have HUL := hide hul
          clear hu hul
          go_loopw [10] (fun i wr => ∃ j : Nat, i = .int .i64 (j : Int) ∧ j ≤ 18 ∧ Hid (∀ q, q < j → pre [ones.getD q 0] (s.data.toList.drop k) = false) ∧ Hid (Below w.heap.size w wr)) (fun i _ => 18 - (intOf i).toNat)
          case atStart => exact ⟨0, rfl, by omega, hide fun q hq => absurd hq (Nat.not_lt_zero q), HB2⟩
          case round =>
            obtain ⟨j, rfl, hj, HH, HBR⟩ := hrel
            by_cases hlt : j < 18
            · have hjO : j < O.size := by omega
              have hoj : ones.getD j 0 = O[j] := by
                have h1 := drop_at O j hjO
                rw [unhide HOL] at h1
                rw [List.getD_eq_getElem?_getD, ← List.head?_drop, h1]; rfl
              have hpo := one_at hk (ones.getD j 0)
              rw [hoj] at hpo
              cases heq : ((s[k].toNat : Int) == (O[j].toNat : Int)) with
              | true =>
                have ec : O[j] = s[k] := UInt8.toNat_inj.1 (by have := beq_iff_eq.1 heq; omega)
                have H := hide (show u = sgStr s k by
                  unfold sgStr
                  rw [one_hit hlt (unhide HD) (unhide HT) (by rw [hoj, hpo, ec]; simp), ← unhide HUL])
                clear hpo ec hoj
                go_wp2_with fail
                go_region
                all_goals
                  go_wp2_with fail
                  go_ret
                  exact ⟨ret_str (unhide H), (unhide HBR).drew⟩
              | false =>
                have ec : ¬ O[j] = s[k] := fun e => beq_eq_false_iff_ne.1 heq (by rw [e])
                have HN := hide (show ∀ q, q < j + 1 → pre [ones.getD q 0] (s.data.toList.drop k) = false from fun q hq => by
                  by_cases hqj : q < j
                  · exact unhide HH q hqj
                  · rw [show q = j by omega, hoj, hpo]; exact beq_eq_false_iff_ne.2 ec)
                clear hpo ec hoj
                go_wp2_with fail
                go_region
                all_goals
                  go_wp2_with fail
                  go_roundw
                  case rel => exact ⟨j + 1, by go_num, by omega, HN, hide (unhide HBR).drew⟩
                  case measure => simp [intOf]; omega
            · have e18 : j = 18 := by omega
              subst e18
              have H := hide (show (⟨#[]⟩ : ByteArray) = sgStr s k by unfold sgStr; rw [one_none (unhide HD) (unhide HT) (unhide HH)]; rfl)
              have hj2 : ((18 : Int) < (O.size : Int)) = False := by simp; omega
              go_wp2_with fail
              go_ret
              exact ⟨ret_str (unhide H), unhide HBR⟩
end Go.Proofs.YtbekkpfbjafagaaDoor
