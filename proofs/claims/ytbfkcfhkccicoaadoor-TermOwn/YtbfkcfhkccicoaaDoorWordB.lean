/- Walks of the two tests of a word, whole. -/
import Derived.Test.YtbfkcfhkccicoaaDoorWord
import Derived.Lib.Strings
namespace Go.Proofs.YtbfkcfhkccicoaaDoor
open Go.RowKit

theorem wd_len {s : ByteArray} (h : s.size = 0 ∨ 64 < s.size) : isWd s = false := by
  unfold isWd
  rcases h with h | h
  · rw [h]; rfl
  · have : decide (s.size ≤ 64) = false := decide_eq_false (by omega)
    rw [this]; simp
theorem wd_bad {s : ByteArray} {k : Nat} (hk : k < s.size) (h : wch k (chAt s k) = false) : isWd s = false := by
  unfold isWd
  rw [allTo_bad hk h]
  simp
theorem wd_good {s : ByteArray} (h1 : 1 ≤ s.size) (h2 : s.size ≤ 64) (h : allTo (fun i => wch i (chAt s i)) s.size = true) : isWd s = true := by
  unfold isWd
  rw [h, decide_eq_true h1, decide_eq_true h2]
  rfl

set_option maxHeartbeats 1000000 in
theorem isWord_any (s : ByteArray) (w : World) (hs : s.size ≤ 9223372036854775807) :
    Calls Tryd.prog 48 #[.string s] w fun e w' => e = .returned (.bool (isWd s)) ∧ w' = w := by
  by_cases h0 : s.size = 0
  · have H : Hid (isWd s = false) := wd_len (.inl h0)
    have e0 : (s.toList == []) = true := by
      rw [Lib.toList_data]
      have : s.data.toList.length = 0 := h0
      rw [List.length_eq_zero_iff.1 this]; rfl
    clear h0
    go_enter Tryd.func48, Tryd.ntmps48
    go_wp2_with fail
    go_ret
    exact ⟨ret_bool H.out.symm, rfl⟩
  · have e0 : (s.toList == []) = false := by
      rw [Lib.toList_data, beq_eq_false_iff_ne]
      intro e
      exact h0 (by show s.data.toList.length = 0; rw [e]; rfl)
    by_cases h1 : 64 < s.size
    · have H : Hid (isWd s = false) := wd_len (.inr h1)
      have h2 : (64 : Int) < (s.size : Int) := by omega
      clear h0
      go_enter Tryd.func48, Tryd.ntmps48
      go_wp2_with fail
      go_ret
      exact ⟨ret_bool H.out.symm, rfl⟩
    · have hpos : 0 < s.size := by omega
      have hd0 : Hid (∀ k, (hk : k < s.size) → wch k (s[k].toNat : Int) = wch k (chAt s k)) := fun k hk => by rw [chAt_eq hk]
      cases hdig : dg (s[0].toNat : Int) with
      | true =>
        have H : Hid (isWd s = false) := wd_bad hpos (by
          rw [← hd0.out 0 hpos]
          have h48 := hdig
          simp [dg] at h48
          simp [wch, lt]; omega)
        clear h0
        go_enter Tryd.func48, Tryd.ntmps48
        go_wp2_with (go_at_call 61; refine (isDigit_any _ _).mono ?_; rintro e w' ⟨rfl, rfl⟩)
        go_ret
        exact ⟨ret_bool H.out.symm, rfl⟩
      | false =>
        have D0 : Hid (dg (s[0].toNat : Int) = false) := hdig
        clear h0
        go_enter Tryd.func48, Tryd.ntmps48
        go_wp2_with (go_at_call 61; refine (isDigit_any _ _).mono ?_; rintro e w' ⟨rfl, rfl⟩)
        clear hdig
        go_loop [18] (fun i => ∃ k : Nat, k ≤ s.size ∧ i = .int .i64 k ∧ Hid (allTo (fun i => wch i (chAt s i)) k = true)) (fun i => s.size - (intOf i).toNat)
        case atStart => exact ⟨0, Nat.zero_le _, rfl, rfl⟩
        case round =>
          obtain ⟨k, hk, rfl, hd⟩ := hrel
          by_cases hlt : k < s.size
          · have hbad : Hid (wch k (s[k].toNat : Int) = false → isWd s = false) := fun h => wd_bad hlt (by rw [← hd0.out k hlt]; exact h)
            have hgood : Hid (wch k (s[k].toNat : Int) = true → allTo (fun i => wch i (chAt s i)) (k + 1) = true) := fun h => by
              simp only [allTo]
              rw [hd.out, ← hd0.out k hlt, h]; rfl
            have hk0 : Hid (k = 0 → dg (s[k].toNat : Int) = false) := fun e => by subst e; exact D0.out
            clear hd
            cases hl : lt (s[k].toNat : Int) with
            | true =>
              go_wp2_with (first
                | (go_at_call 62; refine (isLetter_any _ _).mono ?_; rintro e w' ⟨rfl, rfl⟩)
                | (go_at_call 61; refine (isDigit_any _ _).mono ?_; rintro e w' ⟨rfl, rfl⟩))
              go_round
              case rel => exact ⟨k + 1, by omega, by go_num, hgood.out (by simp [wch, hl])⟩
              case measure => simp [intOf]; omega
            | false =>
              cases hdg : dg (s[k].toNat : Int) with
              | true =>
                go_wp2_with (first
                  | (go_at_call 62; refine (isLetter_any _ _).mono ?_; rintro e w' ⟨rfl, rfl⟩)
                  | (go_at_call 61; refine (isDigit_any _ _).mono ?_; rintro e w' ⟨rfl, rfl⟩))
                go_round
                case rel => exact ⟨k + 1, by omega, by go_num, hgood.out (by
                  have : k ≠ 0 := fun e => by have := hk0.out e; rw [hdg] at this; cases this
                  simp [wch, hdg, this])⟩
                case measure => simp [intOf]; omega
              | false =>
                by_cases h95 : (s[k].toNat : Int) = 95
                · have h95b : ((s[k].toNat : Int) != 95) = false := by simp [h95]
                  have H95 := hide h95
                  clear h95
                  go_wp2_with (first
                    | (go_at_call 62; refine (isLetter_any _ _).mono ?_; rintro e w' ⟨rfl, rfl⟩)
                    | (go_at_call 61; refine (isDigit_any _ _).mono ?_; rintro e w' ⟨rfl, rfl⟩))
                  go_round
                  case rel => exact ⟨k + 1, by omega, by go_num, hgood.out (by simp [wch, unhide H95])⟩
                  case measure => simp [intOf]; omega
                · have h95b : ((s[k].toNat : Int) != 95) = true := bne_iff_ne.2 h95
                  have H95 := hide h95
                  clear h95
                  go_wp2_with (first
                    | (go_at_call 62; refine (isLetter_any _ _).mono ?_; rintro e w' ⟨rfl, rfl⟩)
                    | (go_at_call 61; refine (isDigit_any _ _).mono ?_; rintro e w' ⟨rfl, rfl⟩))
                  go_ret
                  exact ⟨ret_bool (hbad.out (by simp [wch, hl, hdg, unhide H95])).symm, rfl⟩
          · go_wp2_with fail
            go_ret
            have : k = s.size := by omega
            subst this
            exact ⟨ret_bool (wd_good (by omega) (by omega) hd.out).symm, rfl⟩

theorem rlt_eq (n : Int) : rlt n = (lt n || n == 95) := by
  unfold rlt lt
  cases decide (97 ≤ n) <;> cases decide (n ≤ 122) <;> cases decide (65 ≤ n) <;> cases decide (n ≤ 90) <;> cases (n == 95) <;> rfl

set_option maxHeartbeats 1000000 in
theorem word_any (s : ByteArray) (w : World) (hs : s.size ≤ 9223372036854775807) :
    Calls Tryd.prog 30 #[.string s] w fun e w' => e = .returned (.bool (isWd s)) ∧ w' = w := by
  have hd0 : Hid (∀ k, (hk : k < s.size) → wch k (s[k].toNat : Int) = wch k (chAt s k)) := fun k hk => by rw [chAt_eq hk]
  go_enter Tryd.func30, Tryd.ntmps30
  go_wp2_with fail
  go_loop [3] (fun i => ∃ k : Nat, k ≤ s.size ∧ i = .int .i64 k ∧ Hid (allTo (fun i => wch i (chAt s i)) k = true)) (fun i => s.size - (intOf i).toNat)
  case atStart => exact ⟨0, Nat.zero_le _, rfl, rfl⟩
  case round =>
    obtain ⟨k, hk, rfl, hd⟩ := hrel
    by_cases hlt : k < s.size
    · have hbad : Hid (wch k (s[k].toNat : Int) = false → isWd s = false) := fun h => wd_bad hlt (by rw [← hd0.out k hlt]; exact h)
      have hgood : Hid (wch k (s[k].toNat : Int) = true → allTo (fun i => wch i (chAt s i)) (k + 1) = true) := fun h => by
        simp only [allTo]
        rw [hd.out, ← hd0.out k hlt, h]; rfl
      have hwch : Hid (wch k (s[k].toNat : Int) = (rlt (s[k].toNat : Int) || (k != 0 && dg (s[k].toNat : Int)))) := by rw [rlt_eq]; rfl
      clear hd
      cases hl : rlt (s[k].toNat : Int) with
      | true =>
        go_wp2_with (first
          | (go_at_call 46; refine (letter_any _ _).mono ?_; rintro e w' ⟨rfl, rfl⟩)
          | (go_at_call 47; refine (digit_any _ _).mono ?_; rintro e w' ⟨rfl, rfl⟩))
        go_round
        case rel => exact ⟨k + 1, by omega, by go_num, hgood.out (by rw [hwch.out, hl]; rfl)⟩
        case measure => simp [intOf]; omega
      | false =>
        by_cases h0 : k = 0
        · have K0 := hide h0
          have k0 : ((k : Int) == 0) = true := by simp [h0]
          clear h0
          go_wp2_with (first
            | (go_at_call 46; refine (letter_any _ _).mono ?_; rintro e w' ⟨rfl, rfl⟩)
            | (go_at_call 47; refine (digit_any _ _).mono ?_; rintro e w' ⟨rfl, rfl⟩))
          go_ret
          exact ⟨ret_bool (hbad.out (by rw [hwch.out, hl]; have := unhide K0; simp [bne, this])).symm, rfl⟩
        · have k0 : ((k : Int) == 0) = false := beq_eq_false_iff_ne.2 (by omega)
          cases hdg : dg (s[k].toNat : Int) with
          | true =>
            go_wp2_with (first
              | (go_at_call 46; refine (letter_any _ _).mono ?_; rintro e w' ⟨rfl, rfl⟩)
              | (go_at_call 47; refine (digit_any _ _).mono ?_; rintro e w' ⟨rfl, rfl⟩))
            go_round
            case rel => exact ⟨k + 1, by omega, by go_num, hgood.out (by rw [hwch.out, hdg]; simp; omega)⟩
            case measure => simp [intOf]; omega
          | false =>
            go_wp2_with (first
              | (go_at_call 46; refine (letter_any _ _).mono ?_; rintro e w' ⟨rfl, rfl⟩)
              | (go_at_call 47; refine (digit_any _ _).mono ?_; rintro e w' ⟨rfl, rfl⟩))
            go_ret
            exact ⟨ret_bool (hbad.out (by rw [hwch.out, hl, hdg]; simp)).symm, rfl⟩
    · have : k = s.size := by omega
      subst this
      by_cases h1 : 1 ≤ s.size
      · have h1i : (1 : Int) ≤ (s.size : Int) := by omega
        by_cases h2 : s.size ≤ 64
        · have h2i : (s.size : Int) ≤ 64 := by omega
          go_wp2_with fail
          go_ret
          exact ⟨ret_bool (wd_good h1 h2 hd.out).symm, rfl⟩
        · have h2i : decide ((s.size : Int) ≤ 64) = false := decide_eq_false (by omega)
          go_wp2_with fail
          go_ret
          exact ⟨ret_bool (wd_len (.inr (by omega))).symm, rfl⟩
      · have h1i : decide ((1 : Int) ≤ (s.size : Int)) = false := decide_eq_false (by omega)
        go_wp2_with fail
        go_ret
        exact ⟨ret_bool (wd_len (.inl (by omega))).symm, rfl⟩
end Go.Proofs.YtbfkcfhkccicoaaDoor
