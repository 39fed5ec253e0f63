/- Walks of the ends of names and numbers, of the document's words and names, and of what a backslash means. -/
import Derived.Test.YtbekkpfbjafagaaDoorLxa
namespace Go.Proofs.YtbekkpfbjafagaaDoor
open Go.RowKit

def intOf : Value → Int | .int _ q => q | _ => 0

theorem nm_step1 {s : ByteArray} {k m : Nat} (h : m < s.size) (hw : inW (bv s[m]) = true) (hh : k + nmLen (s.data.toList.drop k) = m + nmLen (s.data.toList.drop m)) :
    k + nmLen (s.data.toList.drop k) = (m + 1) + nmLen (s.data.toList.drop (m + 1)) := by
  rw [drop_at s m h, nm_in hw] at hh; omega
theorem nm_step2 {s : ByteArray} {k m : Nat} (h : m + 1 < s.size) (hd : bv s[m] = 46) (hl : isL (bv s[m + 1]) = true) (hh : k + nmLen (s.data.toList.drop k) = m + nmLen (s.data.toList.drop m)) :
    k + nmLen (s.data.toList.drop k) = (m + 2) + nmLen (s.data.toList.drop (m + 2)) := by
  have e : s[m] = 46 := (bv_eq (k := 46) (by omega)).1 hd
  have e2 : s.data.toList.drop m = 46 :: s[m + 1] :: s.data.toList.drop (m + 2) := by rw [drop_at s m (by omega), drop_at s (m + 1) h, e]
  rw [e2, nm_dot hl] at hh
  omega
theorem nm_step3 {s : ByteArray} {k m : Nat} (h : ∀ hm : m < s.size, inW (bv s[m]) = false) (h2 : ∀ (hlt : m + 1 < s.size), bv (s[m]'(by omega)) = 46 → isL (bv s[m + 1]) = false) (hh : k + nmLen (s.data.toList.drop k) = m + nmLen (s.data.toList.drop m)) :
    k + nmLen (s.data.toList.drop k) = m := by
  by_cases hm : m < s.size
  · rw [drop_at s m hm, nm_stop (h hm)] at hh
    · exact hh
    · intro d u hd hc
      by_cases hlt : m + 1 < s.size
      · rw [drop_at s (m + 1) hlt] at hd
        cases hd
        exact h2 hlt (by rw [hc]; rfl)
      · rw [drop_end s (m + 1) (by omega)] at hd
        cases hd
  · rw [drop_end s m (by omega)] at hh
    exact hh

set_option maxHeartbeats 4000000 in
theorem nameEnd_any (s : ByteArray) (k : Nat) (hk : k ≤ s.size) (hs : s.size ≤ 140737488355328) (w : World) :
    Calls Tryd.prog 29 #[.string s, .int .i64 (k : Int)] w fun e w' => e = .returned (.int .i64 ((k + nmLen (s.data.toList.drop k) : Nat) : Int)) ∧ w' = w := by
  go_enter Tryd.func29, Tryd.ntmps29
  go_wp2
  refine wp_scope_jumps 0 (fun a' w' => w' = w ∧ ∃ (m : Nat) (u5 u6 u7 u8 u9 u10 u11 u12 u13 u14 u15 u16 u17 u18 u19 u20 u21 u22 u23 u24 u25 u26 u27 u28 u29 u30 u31 u32 u33 u34 u35 u36 u37 : Value), a' = { tmps := #[.string s, .int .i64 (m : Int), undef, undef, .int .i64 0, u5, u6, u7, u8, u9, u10, u11, u12, u13, u14, u15, u16, u17, u18, u19, u20, u21, u22, u23, u24, u25, u26, u27, u28, u29, u30, u31, u32, u33, u34, u35, u36, u37], defers := [] } ∧ m ≤ s.size ∧ Hid (k + nmLen (s.data.toList.drop k) = m + nmLen (s.data.toList.drop m))) (fun a' _ => s.size - (intOf (a'.tmps.getD 1 undef)).toNat) rfl ?_ ?_
  · go_wp2
    go_step3
    by_cases hlt : k < s.size
    · cases hw : inW (s[k].toNat : Int) with
      | true =>
        go_wp2_with (first
          | (go_at_call 42; refine (inWord_any _ _).mono ?_; rintro e w' ⟨rfl, rfl⟩; rw [hw])
          | (go_at_call 28; refine (begins_any _ _).mono ?_; rintro e w' ⟨rfl, rfl⟩; rw [hl]))
        go_step3
        refine ⟨rfl, rfl, k + 1, _, _, _, _, _, _, _, _, _, _, _, _, _, _, _, _, _, _, _, _, _, _, _, _, _, _, _, _, _, _, _, _, _, rfl, by omega, hide (nm_step1 hlt hw rfl)⟩
      | false =>
        by_cases h2 : k + 1 < s.size
        · cases hd : ((s[k].toNat : Int) == 46) with
          | true =>
            cases hl : isL (s[k + 1].toNat : Int) with
            | true =>
              go_wp2_with (first
                | (go_at_call 42; refine (inWord_any _ _).mono ?_; rintro e w' ⟨rfl, rfl⟩; rw [hw])
                | (go_at_call 28; refine (begins_any _ _).mono ?_; rintro e w' ⟨rfl, rfl⟩; rw [hl]))
              go_step3
              refine ⟨rfl, rfl, k + 2, _, _, _, _, _, _, _, _, _, _, _, _, _, _, _, _, _, _, _, _, _, _, _, _, _, _, _, _, _, _, _, _, _, rfl, by omega, hide (nm_step2 h2 (beq_iff_eq.1 hd) hl rfl)⟩
            | false =>
              go_wp2_with (first
                | (go_at_call 42; refine (inWord_any _ _).mono ?_; rintro e w' ⟨rfl, rfl⟩; rw [hw])
                | (go_at_call 28; refine (begins_any _ _).mono ?_; rintro e w' ⟨rfl, rfl⟩; rw [hl]))
              simp only [Exit.jump]
              go_ret
              exact ⟨ret_int (by have := nm_step3 (fun _ => hw) (fun _ _ => hl) rfl; omega), rfl⟩
          | false =>
            go_wp2_with (first
              | (go_at_call 42; refine (inWord_any _ _).mono ?_; rintro e w' ⟨rfl, rfl⟩; rw [hw])
              | (go_at_call 28; refine (begins_any _ _).mono ?_; rintro e w' ⟨rfl, rfl⟩; rw [hl]))
            simp only [Exit.jump]
            go_ret
            exact ⟨ret_int (by have := nm_step3 (fun _ => hw) (fun _ h => absurd h (beq_eq_false_iff_ne.1 hd)) rfl; omega), rfl⟩
        · go_wp2_with (first
            | (go_at_call 42; refine (inWord_any _ _).mono ?_; rintro e w' ⟨rfl, rfl⟩; rw [hw])
            | (go_at_call 28; refine (begins_any _ _).mono ?_; rintro e w' ⟨rfl, rfl⟩; rw [hl]))
          simp only [Exit.jump]
          go_ret
          exact ⟨ret_int (by have := nm_step3 (fun _ => hw) (fun h => absurd h h2) rfl; omega), rfl⟩
    · go_wp2
      simp only [Exit.jump]
      go_ret
      exact ⟨ret_int (by have := nm_step3 (fun h => absurd h hlt) (fun h => absurd (Nat.lt_of_succ_lt h) hlt) rfl; omega), rfl⟩
  · rintro a' w' ⟨rfl, m, u5, u6, u7, u8, u9, u10, u11, u12, u13, u14, u15, u16, u17, u18, u19, u20, u21, u22, u23, u24, u25, u26, u27, u28, u29, u30, u31, u32, u33, u34, u35, u36, u37, rfl, hm, HH⟩
    by_cases hlt : m < s.size
    · cases hw : inW (s[m].toNat : Int) with
      | true =>
        go_wp2_with (first
          | (go_at_call 42; refine (inWord_any _ _).mono ?_; rintro e w' ⟨rfl, rfl⟩; rw [hw])
          | (go_at_call 28; refine (begins_any _ _).mono ?_; rintro e w' ⟨rfl, rfl⟩; rw [hl]))
        go_step3
        refine ⟨rfl, ⟨rfl, m + 1, _, _, _, _, _, _, _, _, _, _, _, _, _, _, _, _, _, _, _, _, _, _, _, _, _, _, _, _, _, _, _, _, _, rfl, by omega, hide (nm_step1 hlt hw (unhide HH))⟩, ?_⟩
        simp [intOf]
        omega
      | false =>
        by_cases h2 : m + 1 < s.size
        · cases hd : ((s[m].toNat : Int) == 46) with
          | true =>
            cases hl : isL (s[m + 1].toNat : Int) with
            | true =>
              go_wp2_with (first
                | (go_at_call 42; refine (inWord_any _ _).mono ?_; rintro e w' ⟨rfl, rfl⟩; rw [hw])
                | (go_at_call 28; refine (begins_any _ _).mono ?_; rintro e w' ⟨rfl, rfl⟩; rw [hl]))
              go_step3
              refine ⟨rfl, ⟨rfl, m + 2, _, _, _, _, _, _, _, _, _, _, _, _, _, _, _, _, _, _, _, _, _, _, _, _, _, _, _, _, _, _, _, _, _, rfl, by omega, hide (nm_step2 h2 (beq_iff_eq.1 hd) hl (unhide HH))⟩, ?_⟩
              simp [intOf]
              omega
            | false =>
              go_wp2_with (first
                | (go_at_call 42; refine (inWord_any _ _).mono ?_; rintro e w' ⟨rfl, rfl⟩; rw [hw])
                | (go_at_call 28; refine (begins_any _ _).mono ?_; rintro e w' ⟨rfl, rfl⟩; rw [hl]))
              simp only [Exit.jump]
              go_ret
              exact ⟨ret_int (by have := nm_step3 (fun _ => hw) (fun _ _ => hl) (unhide HH); omega), rfl⟩
          | false =>
            go_wp2_with (first
              | (go_at_call 42; refine (inWord_any _ _).mono ?_; rintro e w' ⟨rfl, rfl⟩; rw [hw])
              | (go_at_call 28; refine (begins_any _ _).mono ?_; rintro e w' ⟨rfl, rfl⟩; rw [hl]))
            simp only [Exit.jump]
            go_ret
            exact ⟨ret_int (by have := nm_step3 (fun _ => hw) (fun _ h => absurd h (beq_eq_false_iff_ne.1 hd)) (unhide HH); omega), rfl⟩
        · go_wp2_with (first
            | (go_at_call 42; refine (inWord_any _ _).mono ?_; rintro e w' ⟨rfl, rfl⟩; rw [hw])
            | (go_at_call 28; refine (begins_any _ _).mono ?_; rintro e w' ⟨rfl, rfl⟩; rw [hl]))
          simp only [Exit.jump]
          go_ret
          exact ⟨ret_int (by have := nm_step3 (fun _ => hw) (fun h => absurd h h2) (unhide HH); omega), rfl⟩
    · go_wp2
      simp only [Exit.jump]
      go_ret
      exact ⟨ret_int (by have := nm_step3 (fun h => absurd h hlt) (fun h => absurd (Nat.lt_of_succ_lt h) hlt) (unhide HH); omega), rfl⟩

theorem dcn_at {s : ByteArray} {k m : Nat} (h : m < s.size) (hd : isD (bv s[m]) = true) (hh : k + dcn (s.data.toList.drop k) = m + dcn (s.data.toList.drop m)) :
    k + dcn (s.data.toList.drop k) = (m + 1) + dcn (s.data.toList.drop (m + 1)) := by
  rw [drop_at s m h] at hh
  simp only [dcn, hd, if_pos] at hh
  omega
theorem dcn_end {s : ByteArray} {k m : Nat} (h : ∀ hm : m < s.size, isD (bv s[m]) = false) (hh : k + dcn (s.data.toList.drop k) = m + dcn (s.data.toList.drop m)) :
    k + dcn (s.data.toList.drop k) = m := by
  by_cases hm : m < s.size
  · rw [drop_at s m hm] at hh
    simp only [dcn, h hm] at hh
    simpa using hh
  · rw [drop_end s m (by omega)] at hh
    exact hh
theorem dg_zero {s : ByteArray} {k : Nat} (h : k < s.size) (h0 : bv s[k] = 48) : dgLen (s.data.toList.drop k) = 1 := by
  have e : s[k] = 48 := (bv_eq (k := 48) (by omega)).1 h0
  rw [drop_at s k h, dg_cons, if_pos e]
theorem dg_other {s : ByteArray} {k : Nat} (h : k < s.size) (h0 : ¬ bv s[k] = 48) : dgLen (s.data.toList.drop k) = dcn (s.data.toList.drop k) := by
  rw [drop_at s k h, dg_cons, if_neg]
  intro e
  exact h0 (by rw [e]; rfl)

set_option maxHeartbeats 1000000 in
theorem digitsEnd_any (s : ByteArray) (k : Nat) (hk : k < s.size) (hs : s.size ≤ 140737488355328) (w : World) :
    Calls Tryd.prog 47 #[.string s, .int .i64 (k : Int)] w fun e w' => e = .returned (.int .i64 ((k + dgLen (s.data.toList.drop k) : Nat) : Int)) ∧ w' = w := by
  cases h0 : ((s[k].toNat : Int) == 48) with
  | true =>
    have H := hide (dg_zero hk (beq_iff_eq.1 h0))
    go_enter Tryd.func47, Tryd.ntmps47
    go_wp2
    go_ret
    exact ⟨ret_int (by have := unhide H; omega), rfl⟩
  | false =>
    have H := hide (dg_other hk (beq_eq_false_iff_ne.1 h0))
    go_enter Tryd.func47, Tryd.ntmps47
    go_wp2
    go_loop [1] (fun i => ∃ m : Nat, m ≤ s.size ∧ i = .int .i64 (m : Int) ∧ Hid (k + dcn (s.data.toList.drop k) = m + dcn (s.data.toList.drop m))) (fun i => s.size - (intOf i).toNat)
    case atStart => exact ⟨k, by omega, rfl, hide rfl⟩
    case round =>
      obtain ⟨m, hm, rfl, HH⟩ := hrel
      by_cases hlt : m < s.size
      · cases hd : isD (s[m].toNat : Int) with
        | true =>
          go_wp2_with (go_at_call 35; refine (isDigit_any _ _).mono ?_; rintro e w' ⟨rfl, rfl⟩; rw [hd])
          go_round
          case rel => exact ⟨m + 1, by omega, by go_num, hide (dcn_at hlt hd (unhide HH))⟩
          case measure => simp [intOf]; omega
        | false =>
          go_wp2_with (go_at_call 35; refine (isDigit_any _ _).mono ?_; rintro e w' ⟨rfl, rfl⟩; rw [hd])
          go_ret
          exact ⟨ret_int (by have := unhide H; have := dcn_end (fun _ => hd) (unhide HH); omega), rfl⟩
      · go_wp2
        go_ret
        exact ⟨ret_int (by have := unhide H; have := dcn_end (fun h => absurd h hlt) (unhide HH); omega), rfl⟩

end Go.Proofs.YtbekkpfbjafagaaDoor
