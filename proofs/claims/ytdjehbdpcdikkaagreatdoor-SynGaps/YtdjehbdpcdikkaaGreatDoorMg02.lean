/- Walks of the ends of names and numbers, of the document's words and names, and of what a backslash means. Walks of what a backslash means, and of the document's words and names. -/
import Derived.Test.YtdjehbdpcdikkaaGreatDoorMg01
namespace Go.Proofs.YtdjehbdpcdikkaaGreatDoor
open Go.RowKit

def intOf : Value → Int | .int _ q => q | _ => 0

theorem nm_step1 {s : ByteArray} {k m : Nat} (h : m < s.size) (hw : inW (bv s[m]) = true) (hh : k + nmLen (s.data.toList.drop k) = m + nmLen (s.data.toList.drop m)) :
    k + nmLen (s.data.toList.drop k) = (m + 1) + nmLen (s.data.toList.drop (m + 1)) := by
  rw [drop_at s m h, nm_in hw] at hh; omega
theorem nm_step2 {s : ByteArray} {k m : Nat} (h : m + 1 < s.size) (hd : bv s[m] = 46) (hl : isL (bv s[m + 1]) = true) (hh : k + nmLen (s.data.toList.drop k) = m + nmLen (s.data.toList.drop m)) :
    k + nmLen (s.data.toList.drop k) = (m + 2) + nmLen (s.data.toList.drop (m + 2)) := by
  have e : s[m] = 46 := (bv_eq (k := 46) (by omega)).1 hd
  have e2 : s.data.toList.drop m = 46 :: s[m + 1] :: s.data.toList.drop (m + 2) := by rw [drop_at s m (by omega), drop_at s (m + 1) h, e]
  rw [e2, nm_dot hl] at hh
  omega
theorem nm_step3 {s : ByteArray} {k m : Nat} (h : ∀ hm : m < s.size, inW (bv s[m]) = false) (h2 : ∀ (hlt : m + 1 < s.size), bv (s[m]'(by omega)) = 46 → isL (bv s[m + 1]) = false) (hh : k + nmLen (s.data.toList.drop k) = m + nmLen (s.data.toList.drop m)) :
    k + nmLen (s.data.toList.drop k) = m := by
  by_cases hm : m < s.size
  · rw [drop_at s m hm, nm_stop (h hm)] at hh
    · exact hh
    · intro d u hd hc
      by_cases hlt : m + 1 < s.size
      · rw [drop_at s (m + 1) hlt] at hd
        cases hd
        exact h2 hlt (by rw [hc]; rfl)
      · rw [drop_end s (m + 1) (by omega)] at hd
        cases hd
  · rw [drop_end s m (by omega)] at hh
    exact hh

set_option maxHeartbeats 4000000 in
theorem nameEnd_any (s : ByteArray) (k : Nat) (hk : k ≤ s.size) (hs : s.size ≤ 140737488355328) (w : World) :
    Calls Tryz.prog 124 #[.string s, .int .i64 (k : Int)] w fun e w' => e = .returned (.int .i64 ((k + nmLen (s.data.toList.drop k) : Nat) : Int)) ∧ w' = w := by
  go_enter Tryz.func124, Tryz.ntmps124
  go_wp2
  refine wp_scope_jumps 0 (fun a' w' => w' = w ∧ ∃ (m : Nat) (u5 u6 u7 u8 u9 u10 u11 u12 u13 u14 u15 u16 u17 u18 u19 u20 u21 u22 u23 u24 u25 u26 u27 u28 u29 u30 u31 u32 u33 u34 u35 u36 u37 : Value), a' = { tmps := #[.string s, .int .i64 (m : Int), undef, undef, .int .i64 0, u5, u6, u7, u8, u9, u10, u11, u12, u13, u14, u15, u16, u17, u18, u19, u20, u21, u22, u23, u24, u25, u26, u27, u28, u29, u30, u31, u32, u33, u34, u35, u36, u37], defers := [] } ∧ m ≤ s.size ∧ Hid (k + nmLen (s.data.toList.drop k) = m + nmLen (s.data.toList.drop m))) (fun a' _ => s.size - (intOf (a'.tmps.getD 1 undef)).toNat) rfl ?_ ?_
  · go_wp2
    go_step3
    by_cases hlt : k < s.size
    · cases hw : inW (s[k].toNat : Int) with
      | true =>
        go_wp2_with (first
          | (go_at_call 128; refine (inWord_any _ _).mono ?_; rintro e w' ⟨rfl, rfl⟩; rw [hw])
          | (go_at_call 101; refine (begins_any _ _).mono ?_; rintro e w' ⟨rfl, rfl⟩; rw [hl]))
        go_step3
        refine ⟨rfl, rfl, k + 1, _, _, _, _, _, _, _, _, _, _, _, _, _, _, _, _, _, _, _, _, _, _, _, _, _, _, _, _, _, _, _, _, _, rfl, by omega, hide (nm_step1 hlt hw rfl)⟩
      | false =>
        by_cases h2 : k + 1 < s.size
        · cases hd : ((s[k].toNat : Int) == 46) with
          | true =>
            cases hl : isL (s[k + 1].toNat : Int) with
            | true =>
              go_wp2_with (first
                | (go_at_call 128; refine (inWord_any _ _).mono ?_; rintro e w' ⟨rfl, rfl⟩; rw [hw])
                | (go_at_call 101; refine (begins_any _ _).mono ?_; rintro e w' ⟨rfl, rfl⟩; rw [hl]))
              go_step3
              refine ⟨rfl, rfl, k + 2, _, _, _, _, _, _, _, _, _, _, _, _, _, _, _, _, _, _, _, _, _, _, _, _, _, _, _, _, _, _, _, _, _, rfl, by omega, hide (nm_step2 h2 (beq_iff_eq.1 hd) hl rfl)⟩
            | false =>
              go_wp2_with (first
                | (go_at_call 128; refine (inWord_any _ _).mono ?_; rintro e w' ⟨rfl, rfl⟩; rw [hw])
                | (go_at_call 101; refine (begins_any _ _).mono ?_; rintro e w' ⟨rfl, rfl⟩; rw [hl]))
              simp only [Exit.jump]
              go_ret
              exact ⟨ret_int (by have := nm_step3 (fun _ => hw) (fun _ _ => hl) rfl; omega), rfl⟩
          | false =>
            go_wp2_with (first
              | (go_at_call 128; refine (inWord_any _ _).mono ?_; rintro e w' ⟨rfl, rfl⟩; rw [hw])
              | (go_at_call 101; refine (begins_any _ _).mono ?_; rintro e w' ⟨rfl, rfl⟩; rw [hl]))
            simp only [Exit.jump]
            go_ret
            exact ⟨ret_int (by have := nm_step3 (fun _ => hw) (fun _ h => absurd h (beq_eq_false_iff_ne.1 hd)) rfl; omega), rfl⟩
        · go_wp2_with (first
            | (go_at_call 128; refine (inWord_any _ _).mono ?_; rintro e w' ⟨rfl, rfl⟩; rw [hw])
            | (go_at_call 101; refine (begins_any _ _).mono ?_; rintro e w' ⟨rfl, rfl⟩; rw [hl]))
          simp only [Exit.jump]
          go_ret
          exact ⟨ret_int (by have := nm_step3 (fun _ => hw) (fun h => absurd h h2) rfl; omega), rfl⟩
    · go_wp2
      simp only [Exit.jump]
      go_ret
      exact ⟨ret_int (by have := nm_step3 (fun h => absurd h hlt) (fun h => absurd (Nat.lt_of_succ_lt h) hlt) rfl; omega), rfl⟩
  · rintro a' w' ⟨rfl, m, u5, u6, u7, u8, u9, u10, u11, u12, u13, u14, u15, u16, u17, u18, u19, u20, u21, u22, u23, u24, u25, u26, u27, u28, u29, u30, u31, u32, u33, u34, u35, u36, u37, rfl, hm, HH⟩
    by_cases hlt : m < s.size
    · cases hw : inW (s[m].toNat : Int) with
      | true =>
        go_wp2_with (first
          | (go_at_call 128; refine (inWord_any _ _).mono ?_; rintro e w' ⟨rfl, rfl⟩; rw [hw])
          | (go_at_call 101; refine (begins_any _ _).mono ?_; rintro e w' ⟨rfl, rfl⟩; rw [hl]))
        go_step3
        refine ⟨rfl, ⟨rfl, m + 1, _, _, _, _, _, _, _, _, _, _, _, _, _, _, _, _, _, _, _, _, _, _, _, _, _, _, _, _, _, _, _, _, _, rfl, by omega, hide (nm_step1 hlt hw (unhide HH))⟩, ?_⟩
        simp [intOf]
        omega
      | false =>
        by_cases h2 : m + 1 < s.size
        · cases hd : ((s[m].toNat : Int) == 46) with
          | true =>
            cases hl : isL (s[m + 1].toNat : Int) with
            | true =>
              go_wp2_with (first
                | (go_at_call 128; refine (inWord_any _ _).mono ?_; rintro e w' ⟨rfl, rfl⟩; rw [hw])
                | (go_at_call 101; refine (begins_any _ _).mono ?_; rintro e w' ⟨rfl, rfl⟩; rw [hl]))
              go_step3
              refine ⟨rfl, ⟨rfl, m + 2, _, _, _, _, _, _, _, _, _, _, _, _, _, _, _, _, _, _, _, _, _, _, _, _, _, _, _, _, _, _, _, _, _, rfl, by omega, hide (nm_step2 h2 (beq_iff_eq.1 hd) hl (unhide HH))⟩, ?_⟩
              simp [intOf]
              omega
            | false =>
              go_wp2_with (first
                | (go_at_call 128; refine (inWord_any _ _).mono ?_; rintro e w' ⟨rfl, rfl⟩; rw [hw])
                | (go_at_call 101; refine (begins_any _ _).mono ?_; rintro e w' ⟨rfl, rfl⟩; rw [hl]))
              simp only [Exit.jump]
              go_ret
              exact ⟨ret_int (by have := nm_step3 (fun _ => hw) (fun _ _ => hl) (unhide HH); omega), rfl⟩
          | false =>
            go_wp2_with (first
              | (go_at_call 128; refine (inWord_any _ _).mono ?_; rintro e w' ⟨rfl, rfl⟩; rw [hw])
              | (go_at_call 101; refine (begins_any _ _).mono ?_; rintro e w' ⟨rfl, rfl⟩; rw [hl]))
            simp only [Exit.jump]
            go_ret
            exact ⟨ret_int (by have := nm_step3 (fun _ => hw) (fun _ h => absurd h (beq_eq_false_iff_ne.1 hd)) (unhide HH); omega), rfl⟩
        · go_wp2_with (first
            | (go_at_call 128; refine (inWord_any _ _).mono ?_; rintro e w' ⟨rfl, rfl⟩; rw [hw])
            | (go_at_call 101; refine (begins_any _ _).mono ?_; rintro e w' ⟨rfl, rfl⟩; rw [hl]))
          simp only [Exit.jump]
          go_ret
          exact ⟨ret_int (by have := nm_step3 (fun _ => hw) (fun h => absurd h h2) (unhide HH); omega), rfl⟩
    · go_wp2
      simp only [Exit.jump]
      go_ret
      exact ⟨ret_int (by have := nm_step3 (fun h => absurd h hlt) (fun h => absurd (Nat.lt_of_succ_lt h) hlt) (unhide HH); omega), rfl⟩

theorem dcn_at {s : ByteArray} {k m : Nat} (h : m < s.size) (hd : isD (bv s[m]) = true) (hh : k + dcn (s.data.toList.drop k) = m + dcn (s.data.toList.drop m)) :
    k + dcn (s.data.toList.drop k) = (m + 1) + dcn (s.data.toList.drop (m + 1)) := by
  rw [drop_at s m h] at hh
  simp only [dcn, hd, if_pos] at hh
  omega
theorem dcn_end {s : ByteArray} {k m : Nat} (h : ∀ hm : m < s.size, isD (bv s[m]) = false) (hh : k + dcn (s.data.toList.drop k) = m + dcn (s.data.toList.drop m)) :
    k + dcn (s.data.toList.drop k) = m := by
  by_cases hm : m < s.size
  · rw [drop_at s m hm] at hh
    simp only [dcn, h hm] at hh
    simpa using hh
  · rw [drop_end s m (by omega)] at hh
    exact hh
theorem dg_zero {s : ByteArray} {k : Nat} (h : k < s.size) (h0 : bv s[k] = 48) : dgLen (s.data.toList.drop k) = 1 := by
  have e : s[k] = 48 := (bv_eq (k := 48) (by omega)).1 h0
  rw [drop_at s k h, dg_cons, if_pos e]
theorem dg_other {s : ByteArray} {k : Nat} (h : k < s.size) (h0 : ¬ bv s[k] = 48) : dgLen (s.data.toList.drop k) = dcn (s.data.toList.drop k) := by
  rw [drop_at s k h, dg_cons, if_neg]
  intro e
  exact h0 (by rw [e]; rfl)

set_option maxHeartbeats 1000000 in
theorem digitsEnd_any (s : ByteArray) (k : Nat) (hk : k < s.size) (hs : s.size ≤ 140737488355328) (w : World) :
    Calls Tryz.prog 127 #[.string s, .int .i64 (k : Int)] w fun e w' => e = .returned (.int .i64 ((k + dgLen (s.data.toList.drop k) : Nat) : Int)) ∧ w' = w := by
  cases h0 : ((s[k].toNat : Int) == 48) with
  | true =>
    have H := hide (dg_zero hk (beq_iff_eq.1 h0))
    go_enter Tryz.func127, Tryz.ntmps127
    go_wp2
    go_ret
    exact ⟨ret_int (by have := unhide H; omega), rfl⟩
  | false =>
    have H := hide (dg_other hk (beq_eq_false_iff_ne.1 h0))
    go_enter Tryz.func127, Tryz.ntmps127
    go_wp2
    go_loop [1] (fun i => ∃ m : Nat, m ≤ s.size ∧ i = .int .i64 (m : Int) ∧ Hid (k + dcn (s.data.toList.drop k) = m + dcn (s.data.toList.drop m))) (fun i => s.size - (intOf i).toNat)
    case atStart => exact ⟨k, by omega, rfl, hide rfl⟩
    case round =>
      obtain ⟨m, hm, rfl, HH⟩ := hrel
      by_cases hlt : m < s.size
      · cases hd : isD (s[m].toNat : Int) with
        | true =>
          go_wp2_with (go_at_call 103; refine (isDigit_any _ _).mono ?_; rintro e w' ⟨rfl, rfl⟩; rw [hd])
          go_round
          case rel => exact ⟨m + 1, by omega, by go_num, hide (dcn_at hlt hd (unhide HH))⟩
          case measure => simp [intOf]; omega
        | false =>
          go_wp2_with (go_at_call 103; refine (isDigit_any _ _).mono ?_; rintro e w' ⟨rfl, rfl⟩; rw [hd])
          go_ret
          exact ⟨ret_int (by have := unhide H; have := dcn_end (fun _ => hd) (unhide HH); omega), rfl⟩
      · go_wp2
        go_ret
        exact ⟨ret_int (by have := unhide H; have := dcn_end (fun h => absurd h hlt) (unhide HH); omega), rfl⟩

end Go.Proofs.YtdjehbdpcdikkaaGreatDoor

namespace Go.Proofs.YtdjehbdpcdikkaaGreatDoor
open Go.RowKit

def escI (n : Int) : Int × Bool := if n = 34 ∨ n = 92 then (n, true) else if n = 110 then (10, true) else if n = 116 then (9, true) else (0, false)
def escR : Txt → Int × Bool
  | [] => (0, false)
  | c :: _ => escI (bv c)
theorem ret_pair {a : Int} {b : Bool} {p : Int × Bool} (h : p = (a, b)) : Ending.returned (.tuple #[.int .u8 a, .bool b]) = .returned (.tuple #[.int .u8 p.1, .bool p.2]) := by subst h; rfl
theorem esc_some {c b : UInt8} (h : esc c = some b) : escI (bv c) = (bv b, true) := by
  unfold esc at h
  split at h
  · rename_i h1
    cases h
    unfold escI
    rw [if_pos]
    rcases h1 with rfl | rfl
    · exact .inl rfl
    · exact .inr rfl
  · split at h
    · rename_i h2; subst h2; cases h; rfl
    · split at h
      · rename_i h3; subst h3; cases h; rfl
      · cases h
theorem esc_none {c : UInt8} (h : esc c = none) : escI (bv c) = (0, false) := by
  unfold esc at h
  split at h
  · cases h
  · rename_i h1
    split at h
    · cases h
    · rename_i h2
      split at h
      · cases h
      · rename_i h3
        unfold escI
        rw [if_neg, if_neg, if_neg]
        · exact fun e => h3 ((bv_eq (k := 116) (by omega)).1 e)
        · exact fun e => h2 ((bv_eq (k := 110) (by omega)).1 e)
        · rintro (e | e)
          · exact h1 (.inl ((bv_eq (k := 34) (by omega)).1 e))
          · exact h1 (.inr ((bv_eq (k := 92) (by omega)).1 e))

set_option maxHeartbeats 1000000 in
theorem escaped_any (s : ByteArray) (hs : s.size ≤ 140737488355328) (w : World) :
    Calls Tryz.prog 130 #[.string s] w fun e w' => e = .returned (.tuple #[.int .u8 (escR s.data.toList).1, .bool (escR s.data.toList).2]) ∧ w' = w := by
  by_cases h0 : 0 < s.size
  · have H := hide (show escR s.data.toList = escI (s[0].toNat : Int) by
      have := drop_at s 0 h0
      rw [List.drop_zero] at this
      rw [this]; rfl)
    have hne : s.toList.isEmpty = false := by
      have := drop_at s 0 h0
      rw [List.drop_zero] at this
      rw [Lib.toList_data, this]; rfl
    cases e1 : ((s[0].toNat : Int) == 34) with
    | true =>
      go_enter Tryz.func130, Tryz.ntmps130
      go_wp2
      go_ret2
      refine ⟨ret_pair ?_, rfl⟩
      rw [unhide H]
      unfold escI
      rw [if_pos (.inl (beq_iff_eq.1 e1))]
    | false =>
      have n1 := beq_eq_false_iff_ne.1 e1
      cases e2 : ((s[0].toNat : Int) == 92) with
      | true =>
        go_enter Tryz.func130, Tryz.ntmps130
        go_wp2
        go_ret2
        refine ⟨ret_pair ?_, rfl⟩
        rw [unhide H]
        unfold escI
        rw [if_pos (.inr (beq_iff_eq.1 e2))]
      | false =>
        have n2 := beq_eq_false_iff_ne.1 e2
        cases e3 : ((s[0].toNat : Int) == 110) with
        | true =>
          go_enter Tryz.func130, Tryz.ntmps130
          go_wp2
          go_ret2
          refine ⟨ret_pair ?_, rfl⟩
          rw [unhide H]
          unfold escI
          rw [if_neg (by omega), if_pos (beq_iff_eq.1 e3)]
        | false =>
          have n3 := beq_eq_false_iff_ne.1 e3
          cases e4 : ((s[0].toNat : Int) == 116) with
          | true =>
            go_enter Tryz.func130, Tryz.ntmps130
            go_wp2
            go_ret2
            refine ⟨ret_pair ?_, rfl⟩
            rw [unhide H]
            unfold escI
            rw [if_neg (by omega), if_neg n3, if_pos (beq_iff_eq.1 e4)]
          | false =>
            have n4 := beq_eq_false_iff_ne.1 e4
            go_enter Tryz.func130, Tryz.ntmps130
            go_wp2
            go_ret2
            refine ⟨ret_pair ?_, rfl⟩
            rw [unhide H]
            unfold escI
            rw [if_neg (by omega), if_neg n3, if_neg n4]
  · have e : s = ⟨#[]⟩ := ByteArray.ext (Array.eq_empty_of_size_eq_zero (by have : s.size = s.data.size := rfl; omega))
    subst e
    go_enter Tryz.func130, Tryz.ntmps130
    go_wp2
    go_ret2
    exact ⟨rfl, rfl⟩

theorem at_pre (s : ByteArray) (k : Nat) (t : ByteArray) (h : k + t.size ≤ s.size) : ((s.extract k (k + t.size)).toList == t.toList) = pre t.data.toList (s.data.toList.drop k) := by
  rw [Lib.toList_data, Lib.toList_data]
  unfold pre
  rw [← Lib.hasPrefix_of_take]
  have e : (s.extract k (k + t.size)).data.toList = (s.data.toList.drop k).take t.data.toList.length := by
    have : (s.extract k (k + t.size)).data = s.data.extract k (k + t.size) := by simp
    rw [this, Array.toList_extract]
    simp [List.take_drop]
  rw [e]
  have e2 : decide (t.data.toList.length ≤ (s.data.toList.drop k).length) = true := by
    rw [decide_eq_true_eq, len_drop, Array.length_toList]
    have : t.size = t.data.size := rfl
    omega
  rw [e2, Bool.true_and]
theorem pre_short {s : ByteArray} {k : Nat} {t : ByteArray} (h : ¬ k + t.size ≤ s.size) (hk : k ≤ s.size) : pre t.data.toList (s.data.toList.drop k) = false := by
  cases hp : pre t.data.toList (s.data.toList.drop k) with
  | false => rfl
  | true =>
    have := pre_len hp
    rw [len_drop, Array.length_toList] at this
    have : t.size = t.data.size := rfl
    omega
set_option maxHeartbeats 1000000 in
theorem at_any (s : ByteArray) (k : Nat) (t : ByteArray) (hk : k ≤ s.size) (hs : s.size ≤ 140737488355328) (ht : t.size ≤ 1000) (w : World) :
    Calls Tryz.prog 76 #[.string s, .int .i64 (k : Int), .string t] w fun e w' => e = .returned (.bool (pre t.data.toList (s.data.toList.drop k))) ∧ w' = w := by
  by_cases h : k + t.size ≤ s.size
  · have H := hide (at_pre s k t h)
    have h3 : ((k : Int) + (t.size : Int)).toNat = k + t.size := by omega
    have hrun : ∀ w : World, (Instr.slice 9 (.string s) (some (.int .i64 (k : Int))) (some (.int .i64 ((k : Int) + (t.size : Int)))) none).run Tryz.prog w = .ok (.string (s.extract k (k + t.size))) w := by
      intro w
      have := run_slice_string (P := Tryz.prog) w 9 s .i64 .i64 (k : Int) ((k : Int) + (t.size : Int)) Tryz.underlying9 (by omega) (by omega) (by omega)
      rw [h3] at this
      exact this
    obtain ⟨u, hu⟩ : ∃ u, s.extract k (k + t.size) = u := ⟨_, rfl⟩
    rw [hu] at hrun H
    clear h3 hu
    go_enter Tryz.func76, Tryz.ntmps76
    go_wp2
    go_ret
    exact ⟨ret_bool (unhide H), rfl⟩
  · have H := hide (pre_short h hk)
    go_enter Tryz.func76, Tryz.ntmps76
    go_wp2
    go_ret
    exact ⟨ret_bool (unhide H).symm, rfl⟩

def wdAt (s : ByteArray) (i n : Nat) : Nat := if n = 0 then wdLen (s.data.toList.drop i) else n + wcn (s.data.toList.drop (i + n))
theorem wdAt_step {s : ByteArray} {i n : Nat} (h : i + n < s.size) (hc : isL (bv s[i + n]) = true ∨ (0 < n ∧ isD (bv s[i + n]) = true)) : wdAt s i n = wdAt s i (n + 1) := by
  unfold wdAt
  rw [if_neg (by omega : ¬ n + 1 = 0)]
  by_cases h0 : n = 0
  · subst h0
    rw [if_pos rfl]
    rcases hc with hc | hc
    · simp only [Nat.add_zero, Nat.zero_add] at hc ⊢
      rw [drop_at s i (by omega), wd_cons, if_pos hc]; omega
    · exact absurd hc.1 (by omega)
  · rw [if_neg h0, drop_at s (i + n) h]
    have : inW (bv s[i + n]) = true := by
      rcases hc with hc | hc
      · exact inW_L hc
      · exact inW_D hc.2
    have e : wcn (s[i + n] :: s.data.toList.drop (i + n + 1)) = wcn (s.data.toList.drop (i + n + 1)) + 1 := by simp [wcn, this]
    have e2 : i + (n + 1) = i + n + 1 := rfl
    rw [e, e2]; omega
theorem wdAt_end {s : ByteArray} {i n : Nat} (h : ∀ hlt : i + n < s.size, isL (bv s[i + n]) = false ∧ (0 < n → isD (bv s[i + n]) = false)) : wdAt s i n = n := by
  unfold wdAt
  by_cases hlt : i + n < s.size
  · obtain ⟨h1, h2⟩ := h hlt
    by_cases h0 : n = 0
    · subst h0
      rw [if_pos rfl]
      simp only [Nat.add_zero] at h1 hlt
      rw [drop_at s i hlt, wd_cons, if_neg (by simp [h1])]
    · rw [if_neg h0, drop_at s (i + n) hlt]
      have : inW (bv s[i + n]) = false := by unfold inW; rw [h1, h2 (by omega)]; rfl
      simp [wcn, this]
  · by_cases h0 : n = 0
    · subst h0
      rw [if_pos rfl, drop_end s i (by omega)]; rfl
    · rw [if_neg h0, drop_end s (i + n) (by omega)]; rfl

set_option maxHeartbeats 2000000 in
theorem rword_any (s : ByteArray) (k : Nat) (hk : k ≤ s.size) (hs : s.size ≤ 140737488355328) (w : World) :
    Calls Tryz.prog 77 #[.string s, .int .i64 (k : Int)] w fun e w' => e = .returned (.int .i64 (wdLen (s.data.toList.drop k) : Int)) ∧ w' = w := by
  go_enter Tryz.func77, Tryz.ntmps77
  go_wp2
  go_loop [5] (fun i => ∃ m : Nat, k + m ≤ s.size ∧ i = .int .i64 (m : Int) ∧ Hid (wdLen (s.data.toList.drop k) = wdAt s k m)) (fun i => s.size - (intOf i).toNat)
  case atStart => exact ⟨0, by omega, rfl, hide rfl⟩
  case round =>
    obtain ⟨m, hm, rfl, HH⟩ := hrel
    by_cases hlt : k + m < s.size
    · cases hl : isL (s[k + m].toNat : Int) with
      | true =>
        go_wp2_with (go_at_call 78; refine (letter_any _ _).mono ?_; rintro e w' ⟨rfl, rfl⟩; rw [hl])
        go_round
        case rel => exact ⟨m + 1, by omega, by go_num, hide ((unhide HH).trans (wdAt_step hlt (.inl hl)))⟩
        case measure => simp [intOf]; omega
      | false =>
        by_cases h0 : 0 < m
        · cases hd : isD (s[k + m].toNat : Int) with
          | true =>
            go_wp2_with (first
              | (go_at_call 78; refine (letter_any _ _).mono ?_; rintro e w' ⟨rfl, rfl⟩; rw [hl])
              | (go_at_call 43; refine (digit_any _ _).mono ?_; rintro e w' ⟨rfl, rfl⟩; rw [hd]))
            go_round
            case rel => exact ⟨m + 1, by omega, by go_num, hide ((unhide HH).trans (wdAt_step hlt (.inr ⟨h0, hd⟩)))⟩
            case measure => simp [intOf]; omega
          | false =>
            go_wp2_with (first
              | (go_at_call 78; refine (letter_any _ _).mono ?_; rintro e w' ⟨rfl, rfl⟩; rw [hl])
              | (go_at_call 43; refine (digit_any _ _).mono ?_; rintro e w' ⟨rfl, rfl⟩; rw [hd]))
            go_ret
            exact ⟨ret_int (by have := unhide HH; have := wdAt_end (s := s) (i := k) (n := m) (fun _ => ⟨hl, fun _ => hd⟩); omega), rfl⟩
        · go_wp2_with (go_at_call 78; refine (letter_any _ _).mono ?_; rintro e w' ⟨rfl, rfl⟩; rw [hl])
          go_ret
          exact ⟨ret_int (by have := unhide HH; have := wdAt_end (s := s) (i := k) (n := m) (fun _ => ⟨hl, fun h => absurd h h0⟩); omega), rfl⟩
    · go_wp2
      go_ret
      exact ⟨ret_int (by have := unhide HH; have := wdAt_end (s := s) (i := k) (n := m) (fun h => absurd h hlt); omega), rfl⟩

end Go.Proofs.YtdjehbdpcdikkaaGreatDoor
