/- Walks of the ends of names and numbers, of the document's words and names, and of what a backslash means. Walks of what a backslash means, and of the document's words and names. The library's contracts that the lexer's walk takes, laid at this program. -/
import Derived.Test.YtdjehbdpcdikkaaGreatDoorMt04
import Derived.Shelf.Small.Strs
import Derived.Shelf.Small.Wraps
import Derived.Shelf.LaysM
import Derived.Shelf.LaysC
import Derived.Shelf.Strconv.Clone
import Derived.Shelf.Strconv.AtoiAll
import Derived.Shelf.Strconv.ErrVarAll
import Derived.Shelf.Strings.Search3
import Derived.Shelf.Strings.Shaped
import Derived.Shelf.Strings.Prefix
import Derived.Lib.AtoiTie
import Derived.Lib.AtoiErrMem
import Derived.Test.YtdjehbdpcdikkaaGreatDoorProg
namespace Go.Proofs.YtdjehbdpcdikkaaGreatDoor
open Go.RowKit

def intOf : Value → Int | .int _ q => q | _ => 0

theorem nm_step1 {s : ByteArray} {k m : Nat} (h : m < s.size) (hw : inW (bv s[m]) = true) (hh : k + nmLen (s.data.toList.drop k) = m + nmLen (s.data.toList.drop m)) :
  k + nmLen (s.data.toList.drop k) = (m + 1) + nmLen (s.data.toList.drop (m + 1)) := by
 rw [drop_at s m h, nm_in hw] at hh; omega
theorem nm_step2 {s : ByteArray} {k m : Nat} (h : m + 1 < s.size) (hd : bv s[m] = 46) (hl : isL (bv s[m + 1]) = true) (hh : k + nmLen (s.data.toList.drop k) = m + nmLen (s.data.toList.drop m)) :
  k + nmLen (s.data.toList.drop k) = (m + 2) + nmLen (s.data.toList.drop (m + 2)) := by
 have e : s[m] = 46 := (bv_eq (k := 46) (by omega)).1 hd
 have e2 : s.data.toList.drop m = 46 :: s[m + 1] :: s.data.toList.drop (m + 2) := by rw [drop_at s m (by omega), drop_at s (m + 1) h, e]
 rw [e2, nm_dot hl] at hh
 omega
theorem nm_step3 {s : ByteArray} {k m : Nat} (h : ∀ hm : m < s.size, inW (bv s[m]) = false) (h2 : ∀ (hlt : m + 1 < s.size), bv (s[m]'(by omega)) = 46 → isL (bv s[m + 1]) = false) (hh : k + nmLen (s.data.toList.drop k) = m + nmLen (s.data.toList.drop m)) :
  k + nmLen (s.data.toList.drop k) = m := by
 by_cases hm : m < s.size
 ·
  rw [drop_at s m hm, nm_stop (h hm)] at hh
  · exact hh
  ·
   intro d u hd hc
   by_cases hlt : m + 1 < s.size
   ·
    rw [drop_at s (m + 1) hlt] at hd
    cases hd
    exact h2 hlt (by rw [hc]; rfl)
   ·
    rw [drop_end s (m + 1) (by omega)] at hd
    cases hd
 ·
  rw [drop_end s m (by omega)] at hh
  exact hh

set_option maxHeartbeats 4000000 in
theorem nameEnd_any (s : ByteArray) (k : Nat) (hk : k ≤ s.size) (hs : s.size ≤ 140737488355328) (w : World) :
  Calls Tryz.prog 124 #[.string s, .int .i64 (k : Int)] w fun e w' => e = .returned (.int .i64 ((k + nmLen (s.data.toList.drop k) : Nat) : Int)) ∧ w' = w := by
 go_enter Tryz.func124, Tryz.ntmps124
 go_wp2
 refine wp_scope_jumps 0 (fun a' w' => w' = w ∧ ∃ (m : Nat) (u5 u6 u7 u8 u9 u10 u11 u12 u13 u14 u15 u16 u17 u18 u19 u20 u21 u22 u23 u24 u25 u26 u27 u28 u29 u30 u31 u32 u33 u34 u35 u36 u37 : Value), a' = { tmps := #[.string s, .int .i64 (m : Int), undef, undef, .int .i64 0, u5, u6, u7, u8, u9, u10, u11, u12, u13, u14, u15, u16, u17, u18, u19, u20, u21, u22, u23, u24, u25, u26, u27, u28, u29, u30, u31, u32, u33, u34, u35, u36, u37], defers := [] } ∧ m ≤ s.size ∧ Hid (k + nmLen (s.data.toList.drop k) = m + nmLen (s.data.toList.drop m))) (fun a' _ => s.size - (intOf (a'.tmps.getD 1 undef)).toNat) rfl ?_ ?_
 ·
  go_wp2
  go_step3
  by_cases hlt : k < s.size
  ·
   cases hw : inW (s[k].toNat : Int) with
   | true =>
    go_wp2_with (first
     | (go_at_call 128; refine (inWord_any _ _).mono ?_; rintro e w' ⟨rfl, rfl⟩; rw [hw])
     | (go_at_call 101; refine (begins_any _ _).mono ?_; rintro e w' ⟨rfl, rfl⟩; rw [hl]))
    go_step3
    refine ⟨rfl, rfl, k + 1, _, _, _, _, _, _, _, _, _, _, _, _, _, _, _, _, _, _, _, _, _, _, _, _, _, _, _, _, _, _, _, _, _, rfl, by omega, hide (nm_step1 hlt hw rfl)⟩
   | false =>
    by_cases h2 : k + 1 < s.size
    ·
     cases hd : ((s[k].toNat : Int) == 46) with
     | true =>
      cases hl : isL (s[k + 1].toNat : Int) with
      | true =>
       go_wp2_with (first
        | (go_at_call 128; refine (inWord_any _ _).mono ?_; rintro e w' ⟨rfl, rfl⟩; rw [hw])
        | (go_at_call 101; refine (begins_any _ _).mono ?_; rintro e w' ⟨rfl, rfl⟩; rw [hl]))
       go_step3
       refine ⟨rfl, rfl, k + 2, _, _, _, _, _, _, _, _, _, _, _, _, _, _, _, _, _, _, _, _, _, _, _, _, _, _, _, _, _, _, _, _, _, rfl, by omega, hide (nm_step2 h2 (beq_iff_eq.1 hd) hl rfl)⟩
      | false =>
       go_wp2_with (first
        | (go_at_call 128; refine (inWord_any _ _).mono ?_; rintro e w' ⟨rfl, rfl⟩; rw [hw])
        | (go_at_call 101; refine (begins_any _ _).mono ?_; rintro e w' ⟨rfl, rfl⟩; rw [hl]))
       simp only [Exit.jump]
       go_ret
       exact ⟨ret_int (by have := nm_step3 (fun _ => hw) (fun _ _ => hl) rfl; omega), rfl⟩
     | false =>
      go_wp2_with (first
       | (go_at_call 128; refine (inWord_any _ _).mono ?_; rintro e w' ⟨rfl, rfl⟩; rw [hw])
       | (go_at_call 101; refine (begins_any _ _).mono ?_; rintro e w' ⟨rfl, rfl⟩; rw [hl]))
      simp only [Exit.jump]
      go_ret
      exact ⟨ret_int (by have := nm_step3 (fun _ => hw) (fun _ h => absurd h (beq_eq_false_iff_ne.1 hd)) rfl; omega), rfl⟩
    ·
     go_wp2_with (first
      | (go_at_call 128; refine (inWord_any _ _).mono ?_; rintro e w' ⟨rfl, rfl⟩; rw [hw])
      | (go_at_call 101; refine (begins_any _ _).mono ?_; rintro e w' ⟨rfl, rfl⟩; rw [hl]))
     simp only [Exit.jump]
     go_ret
     exact ⟨ret_int (by have := nm_step3 (fun _ => hw) (fun h => absurd h h2) rfl; omega), rfl⟩
  ·
   go_wp2
   simp only [Exit.jump]
   go_ret
   exact ⟨ret_int (by have := nm_step3 (fun h => absurd h hlt) (fun h => absurd (Nat.lt_of_succ_lt h) hlt) rfl; omega), rfl⟩
 ·
  rintro a' w' ⟨rfl, m, u5, u6, u7, u8, u9, u10, u11, u12, u13, u14, u15, u16, u17, u18, u19, u20, u21, u22, u23, u24, u25, u26, u27, u28, u29, u30, u31, u32, u33, u34, u35, u36, u37, rfl, hm, HH⟩
  by_cases hlt : m < s.size
  ·
   cases hw : inW (s[m].toNat : Int) with
   | true =>
    go_wp2_with (first
     | (go_at_call 128; refine (inWord_any _ _).mono ?_; rintro e w' ⟨rfl, rfl⟩; rw [hw])
     | (go_at_call 101; refine (begins_any _ _).mono ?_; rintro e w' ⟨rfl, rfl⟩; rw [hl]))
    go_step3
    refine ⟨rfl, ⟨rfl, m + 1, _, _, _, _, _, _, _, _, _, _, _, _, _, _, _, _, _, _, _, _, _, _, _, _, _, _, _, _, _, _, _, _, _, rfl, by omega, hide (nm_step1 hlt hw (unhide HH))⟩, ?_⟩
    simp [intOf]
    omega
   | false =>
    by_cases h2 : m + 1 < s.size
    ·
     cases hd : ((s[m].toNat : Int) == 46) with
     | true =>
      cases hl : isL (s[m + 1].toNat : Int) with
      | true =>
       go_wp2_with (first
        | (go_at_call 128; refine (inWord_any _ _).mono ?_; rintro e w' ⟨rfl, rfl⟩; rw [hw])
        | (go_at_call 101; refine (begins_any _ _).mono ?_; rintro e w' ⟨rfl, rfl⟩; rw [hl]))
       go_step3
       refine ⟨rfl, ⟨rfl, m + 2, _, _, _, _, _, _, _, _, _, _, _, _, _, _, _, _, _, _, _, _, _, _, _, _, _, _, _, _, _, _, _, _, _, rfl, by omega, hide (nm_step2 h2 (beq_iff_eq.1 hd) hl (unhide HH))⟩, ?_⟩
       simp [intOf]
       omega
      | false =>
       go_wp2_with (first
        | (go_at_call 128; refine (inWord_any _ _).mono ?_; rintro e w' ⟨rfl, rfl⟩; rw [hw])
        | (go_at_call 101; refine (begins_any _ _).mono ?_; rintro e w' ⟨rfl, rfl⟩; rw [hl]))
       simp only [Exit.jump]
       go_ret
       exact ⟨ret_int (by have := nm_step3 (fun _ => hw) (fun _ _ => hl) (unhide HH); omega), rfl⟩
     | false =>
      go_wp2_with (first
       | (go_at_call 128; refine (inWord_any _ _).mono ?_; rintro e w' ⟨rfl, rfl⟩; rw [hw])
       | (go_at_call 101; refine (begins_any _ _).mono ?_; rintro e w' ⟨rfl, rfl⟩; rw [hl]))
      simp only [Exit.jump]
      go_ret
      exact ⟨ret_int (by have := nm_step3 (fun _ => hw) (fun _ h => absurd h (beq_eq_false_iff_ne.1 hd)) (unhide HH); omega), rfl⟩
    ·
     go_wp2_with (first
      | (go_at_call 128; refine (inWord_any _ _).mono ?_; rintro e w' ⟨rfl, rfl⟩; rw [hw])
      | (go_at_call 101; refine (begins_any _ _).mono ?_; rintro e w' ⟨rfl, rfl⟩; rw [hl]))
     simp only [Exit.jump]
     go_ret
     exact ⟨ret_int (by have := nm_step3 (fun _ => hw) (fun h => absurd h h2) (unhide HH); omega), rfl⟩
  ·
   go_wp2
   simp only [Exit.jump]
   go_ret
   exact ⟨ret_int (by have := nm_step3 (fun h => absurd h hlt) (fun h => absurd (Nat.lt_of_succ_lt h) hlt) (unhide HH); omega), rfl⟩

theorem dcn_at {s : ByteArray} {k m : Nat} (h : m < s.size) (hd : isD (bv s[m]) = true) (hh : k + dcn (s.data.toList.drop k) = m + dcn (s.data.toList.drop m)) :
  k + dcn (s.data.toList.drop k) = (m + 1) + dcn (s.data.toList.drop (m + 1)) := by
 rw [drop_at s m h] at hh
 simp only [dcn, hd, if_pos] at hh
 omega
theorem dcn_end {s : ByteArray} {k m : Nat} (h : ∀ hm : m < s.size, isD (bv s[m]) = false) (hh : k + dcn (s.data.toList.drop k) = m + dcn (s.data.toList.drop m)) :
  k + dcn (s.data.toList.drop k) = m := by
 by_cases hm : m < s.size
 ·
  rw [drop_at s m hm] at hh
  simp only [dcn, h hm] at hh
  simpa using hh
 ·
  rw [drop_end s m (by omega)] at hh
  exact hh
theorem dg_zero {s : ByteArray} {k : Nat} (h : k < s.size) (h0 : bv s[k] = 48) : dgLen (s.data.toList.drop k) = 1 := by
 have e : s[k] = 48 := (bv_eq (k := 48) (by omega)).1 h0
 rw [drop_at s k h, dg_cons, if_pos e]
theorem dg_other {s : ByteArray} {k : Nat} (h : k < s.size) (h0 : ¬ bv s[k] = 48) : dgLen (s.data.toList.drop k) = dcn (s.data.toList.drop k) := by
 rw [drop_at s k h, dg_cons, if_neg]
 intro e
 exact h0 (by rw [e]; rfl)

set_option maxHeartbeats 1000000 in
theorem digitsEnd_any (s : ByteArray) (k : Nat) (hk : k < s.size) (hs : s.size ≤ 140737488355328) (w : World) :
  Calls Tryz.prog 127 #[.string s, .int .i64 (k : Int)] w fun e w' => e = .returned (.int .i64 ((k + dgLen (s.data.toList.drop k) : Nat) : Int)) ∧ w' = w := by
 cases h0 : ((s[k].toNat : Int) == 48) with
 | true =>
  have H := hide (dg_zero hk (beq_iff_eq.1 h0))
  go_enter Tryz.func127, Tryz.ntmps127
  go_wp2
  go_ret
  exact ⟨ret_int (by have := unhide H; omega), rfl⟩
 | false =>
  have H := hide (dg_other hk (beq_eq_false_iff_ne.1 h0))
  go_enter Tryz.func127, Tryz.ntmps127
  go_wp2
  go_loop [1] (fun i => ∃ m : Nat, m ≤ s.size ∧ i = .int .i64 (m : Int) ∧ Hid (k + dcn (s.data.toList.drop k) = m + dcn (s.data.toList.drop m))) (fun i => s.size - (intOf i).toNat)
  case atStart => exact ⟨k, by omega, rfl, hide rfl⟩
  case round =>
   obtain ⟨m, hm, rfl, HH⟩ := hrel
   by_cases hlt : m < s.size
   ·
    cases hd : isD (s[m].toNat : Int) with
    | true =>
     go_wp2_with (go_at_call 103; refine (isDigit_any _ _).mono ?_; rintro e w' ⟨rfl, rfl⟩; rw [hd])
     go_round
     case rel => exact ⟨m + 1, by omega, by go_num, hide (dcn_at hlt hd (unhide HH))⟩
     case measure => simp [intOf]; omega
    | false =>
     go_wp2_with (go_at_call 103; refine (isDigit_any _ _).mono ?_; rintro e w' ⟨rfl, rfl⟩; rw [hd])
     go_ret
     exact ⟨ret_int (by have := unhide H; have := dcn_end (fun _ => hd) (unhide HH); omega), rfl⟩
   ·
    go_wp2
    go_ret
    exact ⟨ret_int (by have := unhide H; have := dcn_end (fun h => absurd h hlt) (unhide HH); omega), rfl⟩

end Go.Proofs.YtdjehbdpcdikkaaGreatDoor

namespace Go.Proofs.YtdjehbdpcdikkaaGreatDoor
open Go.RowKit

def escI (n : Int) : Int × Bool := if n = 34 ∨ n = 92 then (n, true) else if n = 110 then (10, true) else if n = 116 then (9, true) else (0, false)
def escR : Txt → Int × Bool
 | [] => (0, false)
 | c :: _ => escI (bv c)
theorem ret_pair {a : Int} {b : Bool} {p : Int × Bool} (h : p = (a, b)) : Ending.returned (.tuple #[.int .u8 a, .bool b]) = .returned (.tuple #[.int .u8 p.1, .bool p.2]) := by subst h; rfl
theorem esc_some {c b : UInt8} (h : esc c = some b) : escI (bv c) = (bv b, true) := by
 unfold esc at h
 split at h
 ·
  rename_i h1
  cases h
  unfold escI
  rw [if_pos]
  rcases h1 with rfl | rfl
  · exact .inl rfl
  · exact .inr rfl
 ·
  split at h
  · rename_i h2; subst h2; cases h; rfl
  ·
   split at h
   · rename_i h3; subst h3; cases h; rfl
   · cases h
theorem esc_none {c : UInt8} (h : esc c = none) : escI (bv c) = (0, false) := by
 unfold esc at h
 split at h
 · cases h
 ·
  rename_i h1
  split at h
  · cases h
  ·
   rename_i h2
   split at h
   · cases h
   ·
    rename_i h3
    unfold escI
    rw [if_neg, if_neg, if_neg]
    · exact fun e => h3 ((bv_eq (k := 116) (by omega)).1 e)
    · exact fun e => h2 ((bv_eq (k := 110) (by omega)).1 e)
    ·
     rintro (e | e)
     · exact h1 (.inl ((bv_eq (k := 34) (by omega)).1 e))
     · exact h1 (.inr ((bv_eq (k := 92) (by omega)).1 e))

set_option maxHeartbeats 1000000 in
theorem escaped_any (s : ByteArray) (hs : s.size ≤ 140737488355328) (w : World) :
  Calls Tryz.prog 130 #[.string s] w fun e w' => e = .returned (.tuple #[.int .u8 (escR s.data.toList).1, .bool (escR s.data.toList).2]) ∧ w' = w := by
 by_cases h0 : 0 < s.size
 ·
  have H := hide (show escR s.data.toList = escI (s[0].toNat : Int) by
   have := drop_at s 0 h0
   rw [List.drop_zero] at this
   rw [this]; rfl)
  have hne : s.toList.isEmpty = false := by
   have := drop_at s 0 h0
   rw [List.drop_zero] at this
   rw [Lib.toList_data, this]; rfl
  cases e1 : ((s[0].toNat : Int) == 34) with
  | true =>
   go_enter Tryz.func130, Tryz.ntmps130
   go_wp2
   go_ret2
   refine ⟨ret_pair ?_, rfl⟩
   rw [unhide H]
   unfold escI
   rw [if_pos (.inl (beq_iff_eq.1 e1))]
  | false =>
   have n1 := beq_eq_false_iff_ne.1 e1
   cases e2 : ((s[0].toNat : Int) == 92) with
   | true =>
    go_enter Tryz.func130, Tryz.ntmps130
    go_wp2
    go_ret2
    refine ⟨ret_pair ?_, rfl⟩
    rw [unhide H]
    unfold escI
    rw [if_pos (.inr (beq_iff_eq.1 e2))]
   | false =>
    have n2 := beq_eq_false_iff_ne.1 e2
    cases e3 : ((s[0].toNat : Int) == 110) with
    | true =>
     go_enter Tryz.func130, Tryz.ntmps130
     go_wp2
     go_ret2
     refine ⟨ret_pair ?_, rfl⟩
     rw [unhide H]
     unfold escI
     rw [if_neg (by omega), if_pos (beq_iff_eq.1 e3)]
    | false =>
     have n3 := beq_eq_false_iff_ne.1 e3
     cases e4 : ((s[0].toNat : Int) == 116) with
     | true =>
      go_enter Tryz.func130, Tryz.ntmps130
      go_wp2
      go_ret2
      refine ⟨ret_pair ?_, rfl⟩
      rw [unhide H]
      unfold escI
      rw [if_neg (by omega), if_neg n3, if_pos (beq_iff_eq.1 e4)]
     | false =>
      have n4 := beq_eq_false_iff_ne.1 e4
      go_enter Tryz.func130, Tryz.ntmps130
      go_wp2
      go_ret2
      refine ⟨ret_pair ?_, rfl⟩
      rw [unhide H]
      unfold escI
      rw [if_neg (by omega), if_neg n3, if_neg n4]
 ·
  have e : s = ⟨#[]⟩ := ByteArray.ext (Array.eq_empty_of_size_eq_zero (by have : s.size = s.data.size := rfl; omega))
  subst e
  go_enter Tryz.func130, Tryz.ntmps130
  go_wp2
  go_ret2
  exact ⟨rfl, rfl⟩

theorem at_pre (s : ByteArray) (k : Nat) (t : ByteArray) (h : k + t.size ≤ s.size) : ((s.extract k (k + t.size)).toList == t.toList) = pre t.data.toList (s.data.toList.drop k) := by
 rw [Lib.toList_data, Lib.toList_data]
 unfold pre
 rw [← Lib.hasPrefix_of_take]
 have e : (s.extract k (k + t.size)).data.toList = (s.data.toList.drop k).take t.data.toList.length := by
  have : (s.extract k (k + t.size)).data = s.data.extract k (k + t.size) := by simp
  rw [this, Array.toList_extract]
  simp [List.take_drop]
 rw [e]
 have e2 : decide (t.data.toList.length ≤ (s.data.toList.drop k).length) = true := by
  rw [decide_eq_true_eq, len_drop, Array.length_toList]
  have : t.size = t.data.size := rfl
  omega
 rw [e2, Bool.true_and]
theorem pre_short {s : ByteArray} {k : Nat} {t : ByteArray} (h : ¬ k + t.size ≤ s.size) (hk : k ≤ s.size) : pre t.data.toList (s.data.toList.drop k) = false := by
 cases hp : pre t.data.toList (s.data.toList.drop k) with
 | false => rfl
 | true =>
  have := pre_len hp
  rw [len_drop, Array.length_toList] at this
  have : t.size = t.data.size := rfl
  omega
set_option maxHeartbeats 1000000 in
theorem at_any (s : ByteArray) (k : Nat) (t : ByteArray) (hk : k ≤ s.size) (hs : s.size ≤ 140737488355328) (ht : t.size ≤ 1000) (w : World) :
  Calls Tryz.prog 76 #[.string s, .int .i64 (k : Int), .string t] w fun e w' => e = .returned (.bool (pre t.data.toList (s.data.toList.drop k))) ∧ w' = w := by
 by_cases h : k + t.size ≤ s.size
 ·
  have H := hide (at_pre s k t h)
  have h3 : ((k : Int) + (t.size : Int)).toNat = k + t.size := by omega
  have hrun : ∀ w : World, (Instr.slice 9 (.string s) (some (.int .i64 (k : Int))) (some (.int .i64 ((k : Int) + (t.size : Int)))) none).run Tryz.prog w = .ok (.string (s.extract k (k + t.size))) w := by
   intro w
   have := run_slice_string (P := Tryz.prog) w 9 s .i64 .i64 (k : Int) ((k : Int) + (t.size : Int)) Tryz.underlying9 (by omega) (by omega) (by omega)
   rw [h3] at this
   exact this
  obtain ⟨u, hu⟩ : ∃ u, s.extract k (k + t.size) = u := ⟨_, rfl⟩
  rw [hu] at hrun H
  clear h3 hu
  go_enter Tryz.func76, Tryz.ntmps76
  go_wp2
  go_ret
  exact ⟨ret_bool (unhide H), rfl⟩
 ·
  have H := hide (pre_short h hk)
  go_enter Tryz.func76, Tryz.ntmps76
  go_wp2
  go_ret
  exact ⟨ret_bool (unhide H).symm, rfl⟩

def wdAt (s : ByteArray) (i n : Nat) : Nat := if n = 0 then wdLen (s.data.toList.drop i) else n + wcn (s.data.toList.drop (i + n))
theorem wdAt_step {s : ByteArray} {i n : Nat} (h : i + n < s.size) (hc : isL (bv s[i + n]) = true ∨ (0 < n ∧ isD (bv s[i + n]) = true)) : wdAt s i n = wdAt s i (n + 1) := by
 unfold wdAt
 rw [if_neg (by omega : ¬ n + 1 = 0)]
 by_cases h0 : n = 0
 ·
  subst h0
  rw [if_pos rfl]
  rcases hc with hc | hc
  ·
   simp only [Nat.add_zero, Nat.zero_add] at hc ⊢
   rw [drop_at s i (by omega), wd_cons, if_pos hc]; omega
  · exact absurd hc.1 (by omega)
 ·
  rw [if_neg h0, drop_at s (i + n) h]
  have : inW (bv s[i + n]) = true := by
   rcases hc with hc | hc
   · exact inW_L hc
   · exact inW_D hc.2
  have e : wcn (s[i + n] :: s.data.toList.drop (i + n + 1)) = wcn (s.data.toList.drop (i + n + 1)) + 1 := by simp [wcn, this]
  have e2 : i + (n + 1) = i + n + 1 := rfl
  rw [e, e2]; omega
theorem wdAt_end {s : ByteArray} {i n : Nat} (h : ∀ hlt : i + n < s.size, isL (bv s[i + n]) = false ∧ (0 < n → isD (bv s[i + n]) = false)) : wdAt s i n = n := by
 unfold wdAt
 by_cases hlt : i + n < s.size
 ·
  obtain ⟨h1, h2⟩ := h hlt
  by_cases h0 : n = 0
  ·
   subst h0
   rw [if_pos rfl]
   simp only [Nat.add_zero] at h1 hlt
   rw [drop_at s i hlt, wd_cons, if_neg (by simp [h1])]
  ·
   rw [if_neg h0, drop_at s (i + n) hlt]
   have : inW (bv s[i + n]) = false := by unfold inW; rw [h1, h2 (by omega)]; rfl
   simp [wcn, this]
 ·
  by_cases h0 : n = 0
  ·
   subst h0
   rw [if_pos rfl, drop_end s i (by omega)]; rfl
  · rw [if_neg h0, drop_end s (i + n) (by omega)]; rfl

set_option maxHeartbeats 2000000 in
theorem rword_any (s : ByteArray) (k : Nat) (hk : k ≤ s.size) (hs : s.size ≤ 140737488355328) (w : World) :
  Calls Tryz.prog 77 #[.string s, .int .i64 (k : Int)] w fun e w' => e = .returned (.int .i64 (wdLen (s.data.toList.drop k) : Int)) ∧ w' = w := by
 go_enter Tryz.func77, Tryz.ntmps77
 go_wp2
 go_loop [5] (fun i => ∃ m : Nat, k + m ≤ s.size ∧ i = .int .i64 (m : Int) ∧ Hid (wdLen (s.data.toList.drop k) = wdAt s k m)) (fun i => s.size - (intOf i).toNat)
 case atStart => exact ⟨0, by omega, rfl, hide rfl⟩
 case round =>
  obtain ⟨m, hm, rfl, HH⟩ := hrel
  by_cases hlt : k + m < s.size
  ·
   cases hl : isL (s[k + m].toNat : Int) with
   | true =>
    go_wp2_with (go_at_call 78; refine (letter_any _ _).mono ?_; rintro e w' ⟨rfl, rfl⟩; rw [hl])
    go_round
    case rel => exact ⟨m + 1, by omega, by go_num, hide ((unhide HH).trans (wdAt_step hlt (.inl hl)))⟩
    case measure => simp [intOf]; omega
   | false =>
    by_cases h0 : 0 < m
    ·
     cases hd : isD (s[k + m].toNat : Int) with
     | true =>
      go_wp2_with (first
       | (go_at_call 78; refine (letter_any _ _).mono ?_; rintro e w' ⟨rfl, rfl⟩; rw [hl])
       | (go_at_call 43; refine (digit_any _ _).mono ?_; rintro e w' ⟨rfl, rfl⟩; rw [hd]))
      go_round
      case rel => exact ⟨m + 1, by omega, by go_num, hide ((unhide HH).trans (wdAt_step hlt (.inr ⟨h0, hd⟩)))⟩
      case measure => simp [intOf]; omega
     | false =>
      go_wp2_with (first
       | (go_at_call 78; refine (letter_any _ _).mono ?_; rintro e w' ⟨rfl, rfl⟩; rw [hl])
       | (go_at_call 43; refine (digit_any _ _).mono ?_; rintro e w' ⟨rfl, rfl⟩; rw [hd]))
      go_ret
      exact ⟨ret_int (by have := unhide HH; have := wdAt_end (s := s) (i := k) (n := m) (fun _ => ⟨hl, fun _ => hd⟩); omega), rfl⟩
    ·
     go_wp2_with (go_at_call 78; refine (letter_any _ _).mono ?_; rintro e w' ⟨rfl, rfl⟩; rw [hl])
     go_ret
     exact ⟨ret_int (by have := unhide HH; have := wdAt_end (s := s) (i := k) (n := m) (fun _ => ⟨hl, fun h => absurd h h0⟩); omega), rfl⟩
  ·
   go_wp2
   go_ret
   exact ⟨ret_int (by have := unhide HH; have := wdAt_end (s := s) (i := k) (n := m) (fun h => absurd h hlt); omega), rfl⟩

end Go.Proofs.YtdjehbdpcdikkaaGreatDoor

namespace Go.Proofs
open Go.Shelf
def Tryz.lays137_ren : Go.Shelf.Ren := ⟨fun | 137 => 122 | 217 => 144 | 266 => 172 | n => n, fun | 9 => 9 | 5 => 5 | 3 => 3 | n => n, fun | n => n⟩
theorem Tryz.lays137 : Go.Proofs.Lays.n137 Tryz.prog Tryz.lays137_ren := {
  mixed := by kernel_rfl
  f137 := Tryz.func122.trans (congrArg some (by kernel_rfl))
  f217 := Tryz.func144.trans (congrArg some (by kernel_rfl))
  f266 := Tryz.func172.trans (congrArg some (by kernel_rfl))
  t3 := Tryz.underlying3
  a3 := Tryz.isAgg3
  z3 := Tryz.sizeOf3
  v3 := Tryz.zeroValue3
  t5 := Tryz.underlying5
  a5 := Tryz.isAgg5
  z5 := Tryz.sizeOf5
  v5 := Tryz.zeroValue5
  t9 := Tryz.underlying9
  a9 := Tryz.isAgg9
  z9 := Tryz.sizeOf9
  v9 := Tryz.zeroValue9 }
open Go.RowKit in
theorem Tryz.strings_IndexByte (s : ByteArray) (c : Int) (w : World) :
    Calls Tryz.prog 122 #[.string s, .int .u8 c] w fun e w' => e = .returned (.int .i64 (Lib.indexByte s.data.toList c.toNat.toUInt8)) ∧ w' = w := Any.strings_IndexByte Tryz.lays137 s c w
def Tryz.lays103_ren : Go.Shelf.Ren := ⟨fun | 103 => 149 | 210 => 180 | 206 => 121 | n => n, fun | 9 => 9 | 4 => 4 | 24 => 195 | 3 => 3 | n => n, fun | n => n⟩
theorem Tryz.lays103 : Go.Proofs.Lays.n103 Tryz.prog Tryz.lays103_ren := {
  mixed := by kernel_rfl
  f103 := Tryz.func149.trans (congrArg some (by kernel_rfl))
  f206 := Tryz.func121.trans (congrArg some (by kernel_rfl))
  f210 := Tryz.func180.trans (congrArg some (by kernel_rfl))
  t3 := Tryz.underlying3
  a3 := Tryz.isAgg3
  z3 := Tryz.sizeOf3
  v3 := Tryz.zeroValue3
  t4 := Tryz.underlying4
  a4 := Tryz.isAgg4
  z4 := Tryz.sizeOf4
  v4 := Tryz.zeroValue4
  t9 := Tryz.underlying9
  a9 := Tryz.isAgg9
  z9 := Tryz.sizeOf9
  v9 := Tryz.zeroValue9
  t24 := Tryz.underlying195
  a24 := Tryz.isAgg195
  z24 := Tryz.sizeOf195
  v24 := Tryz.zeroValue195 }
open Go.RowKit in
theorem Tryz.strings_CutPrefix (s p : ByteArray) (w : World) :
    Calls Tryz.prog 149 #[.string s, .string p] w fun e w' => e = .returned (.tuple #[.string ⟨(Lib.trimPrefix s.data.toList p.data.toList).toArray⟩, .bool (Lib.hasPrefix s.data.toList p.data.toList)]) ∧ w' = w := Any.strings_CutPrefix Tryz.lays103 s p w
def Tryz.laysM316_ren : Go.Shelf.Ren := ⟨fun | 316 => 146 | n => n, fun | 9 => 9 | 3 => 3 | 4 => 4 | 37 => 104 | 0 => 0 | 127 => 149 | 5 => 5 | n => n, fun | n => n⟩
theorem Tryz.laysM316 : Go.Proofs.LaysM.n316 Tryz.prog Tryz.laysM316_ren := {
  mixed := by kernel_rfl
  f316 := Tryz.func146.trans (congrArg some (by kernel_rfl))
  t0 := Tryz.underlying0
  a0 := Tryz.isAgg0
  z0 := Tryz.sizeOf0
  v0 := Tryz.zeroValue0
  t3 := Tryz.underlying3
  a3 := Tryz.isAgg3
  z3 := Tryz.sizeOf3
  v3 := Tryz.zeroValue3
  t4 := Tryz.underlying4
  a4 := Tryz.isAgg4
  z4 := Tryz.sizeOf4
  v4 := Tryz.zeroValue4
  t9 := Tryz.underlying9
  a9 := Tryz.isAgg9
  z9 := Tryz.sizeOf9
  v9 := Tryz.zeroValue9
  t37 := Tryz.underlying104
  a37 := Tryz.isAgg104
  z37 := Tryz.sizeOf104
  v37 := Tryz.zeroValue104
  t127 := Tryz.underlying149
  a127 := Tryz.isAgg149
  z127 := Tryz.sizeOf149
  v127 := Tryz.zeroValue149
  t5 := Tryz.underlying5
  a5 := Tryz.isAgg5
  z5 := Tryz.sizeOf5
  v5 := Tryz.zeroValue5
  i0 := by kernel_rfl
  i3 := by kernel_rfl
  i4 := by kernel_rfl
  i5 := by kernel_rfl
  i9 := by kernel_rfl
  i37 := by kernel_rfl
  i127 := by kernel_rfl }
open Go.RowKit in
theorem Tryz.stringslite_Clone (s : ByteArray) (w : World) (hlim : s.size ≤ 281474976710656) :
    Calls Tryz.prog 146 #[.string s] w fun e w' => e = .returned (.string s) ∧ Below w.heap.size w w' := Any.stringslite_Clone Tryz.laysM316 s w hlim
def Tryz.laysC172_ren : Go.Shelf.Ren := ⟨fun | 172 => 148 | 244 => 178 | 245 => 179 | 247 => 194 | 279 => 195 | 280 => 196 | 281 => 197 | 282 => 198 | 287 => 208 | 316 => 146 | 171 => 187 | 205 => 209 | 321 => 216 | 322 => 217 | 243 => 204 | 246 => 212 | 283 => 220 | 284 => 221 | 285 => 222 | 286 => 223 | 129 => 228 | 317 => 227 | 318 => 229 | 319 => 230 | 320 => 231 | 337 => 232 | 338 => 233 | n => n, fun | 9 => 9 | 3 => 3 | 75 => 188 | 76 => 189 | 4 => 4 | 5 => 5 | 167 => 225 | 37 => 104 | 0 => 0 | 85 => 226 | 2 => 2 | 168 => 228 | 53 => 237 | 175 => 238 | 46 => 211 | 210 => 241 | 127 => 149 | 145 => 250 | 143 => 248 | 21 => 21 | 171 => 251 | 173 => 254 | 212 => 257 | 51 => 222 | 20 => 20 | 213 => 258 | 232 => 262 | 233 => 263 | 80 => 110 | n => n, fun | 15 => 3 | 16 => 4 | 17 => 5 | 18 => 6 | 19 => 7 | n => n⟩
theorem Tryz.laysC172 : Go.Proofs.LaysC.n172 Tryz.prog Tryz.laysC172_ren := {
  mixed := by kernel_rfl
  f129 := Tryz.func228.trans (congrArg some (by kernel_rfl))
  f171 := Tryz.func187.trans (congrArg some (by kernel_rfl))
  f172 := Tryz.func148.trans (congrArg some (by kernel_rfl))
  f205 := Tryz.func209.trans (congrArg some (by kernel_rfl))
  f243 := Tryz.func204.trans (congrArg some (by kernel_rfl))
  f244 := Tryz.func178.trans (congrArg some (by kernel_rfl))
  f245 := Tryz.func179.trans (congrArg some (by kernel_rfl))
  f246 := Tryz.func212.trans (congrArg some (by kernel_rfl))
  f247 := Tryz.func194.trans (congrArg some (by kernel_rfl))
  f279 := Tryz.func195.trans (congrArg some (by kernel_rfl))
  f280 := Tryz.func196.trans (congrArg some (by kernel_rfl))
  f281 := Tryz.func197.trans (congrArg some (by kernel_rfl))
  f282 := Tryz.func198.trans (congrArg some (by kernel_rfl))
  f283 := Tryz.func220.trans (congrArg some (by kernel_rfl))
  f284 := Tryz.func221.trans (congrArg some (by kernel_rfl))
  f285 := Tryz.func222.trans (congrArg some (by kernel_rfl))
  f286 := Tryz.func223.trans (congrArg some (by kernel_rfl))
  f287 := Tryz.func208.trans (congrArg some (by kernel_rfl))
  f316 := Tryz.func146.trans (congrArg some (by kernel_rfl))
  f317 := Tryz.func227.trans (congrArg some (by kernel_rfl))
  f318 := Tryz.func229.trans (congrArg some (by kernel_rfl))
  f319 := Tryz.func230.trans (congrArg some (by kernel_rfl))
  f320 := Tryz.func231.trans (congrArg some (by kernel_rfl))
  f321 := Tryz.func216.trans (congrArg some (by kernel_rfl))
  f322 := Tryz.func217.trans (congrArg some (by kernel_rfl))
  f337 := Tryz.func232.trans (congrArg some (by kernel_rfl))
  f338 := Tryz.func233.trans (congrArg some (by kernel_rfl))
  t0 := Tryz.underlying0
  a0 := Tryz.isAgg0
  z0 := Tryz.sizeOf0
  v0 := Tryz.zeroValue0
  t2 := Tryz.underlying2
  a2 := Tryz.isAgg2
  z2 := Tryz.sizeOf2
  v2 := Tryz.zeroValue2
  t3 := Tryz.underlying3
  a3 := Tryz.isAgg3
  z3 := Tryz.sizeOf3
  v3 := Tryz.zeroValue3
  t4 := Tryz.underlying4
  a4 := Tryz.isAgg4
  z4 := Tryz.sizeOf4
  v4 := Tryz.zeroValue4
  t5 := Tryz.underlying5
  a5 := Tryz.isAgg5
  z5 := Tryz.sizeOf5
  v5 := Tryz.zeroValue5
  t9 := Tryz.underlying9
  a9 := Tryz.isAgg9
  z9 := Tryz.sizeOf9
  v9 := Tryz.zeroValue9
  t20 := Tryz.underlying20
  a20 := Tryz.isAgg20
  z20 := Tryz.sizeOf20
  v20 := Tryz.zeroValue20
  t21 := Tryz.underlying21
  a21 := Tryz.isAgg21
  z21 := Tryz.sizeOf21
  v21 := Tryz.zeroValue21
  t37 := Tryz.underlying104
  a37 := Tryz.isAgg104
  z37 := Tryz.sizeOf104
  v37 := Tryz.zeroValue104
  t46 := Tryz.underlying211
  a46 := Tryz.isAgg211
  z46 := Tryz.sizeOf211
  v46 := Tryz.zeroValue211
  t51 := Tryz.underlying222
  a51 := Tryz.isAgg222
  z51 := Tryz.sizeOf222
  v51 := Tryz.zeroValue222
  t53 := Tryz.underlying237
  a53 := Tryz.isAgg237
  z53 := Tryz.sizeOf237
  v53 := Tryz.zeroValue237
  t75 := Tryz.underlying188
  a75 := Tryz.isAgg188
  z75 := Tryz.sizeOf188
  v75 := Tryz.zeroValue188
  t76 := Tryz.underlying189
  a76 := Tryz.isAgg189
  z76 := Tryz.sizeOf189
  v76 := Tryz.zeroValue189
  t85 := Tryz.underlying226
  a85 := Tryz.isAgg226
  z85 := Tryz.sizeOf226
  v85 := Tryz.zeroValue226
  t127 := Tryz.underlying149
  a127 := Tryz.isAgg149
  z127 := Tryz.sizeOf149
  v127 := Tryz.zeroValue149
  t143 := Tryz.underlying248
  a143 := Tryz.isAgg248
  z143 := Tryz.sizeOf248
  v143 := Tryz.zeroValue248
  t145 := Tryz.underlying250
  a145 := Tryz.isAgg250
  z145 := Tryz.sizeOf250
  v145 := Tryz.zeroValue250
  t167 := Tryz.underlying225
  a167 := Tryz.isAgg225
  z167 := Tryz.sizeOf225
  v167 := Tryz.zeroValue225
  t168 := Tryz.underlying228
  a168 := Tryz.isAgg228
  z168 := Tryz.sizeOf228
  v168 := Tryz.zeroValue228
  t171 := Tryz.underlying251
  a171 := Tryz.isAgg251
  z171 := Tryz.sizeOf251
  v171 := Tryz.zeroValue251
  t173 := Tryz.underlying254
  a173 := Tryz.isAgg254
  z173 := Tryz.sizeOf254
  v173 := Tryz.zeroValue254
  t175 := Tryz.underlying238
  a175 := Tryz.isAgg238
  z175 := Tryz.sizeOf238
  v175 := Tryz.zeroValue238
  t210 := Tryz.underlying241
  a210 := Tryz.isAgg241
  z210 := Tryz.sizeOf241
  v210 := Tryz.zeroValue241
  t212 := Tryz.underlying257
  a212 := Tryz.isAgg257
  z212 := Tryz.sizeOf257
  v212 := Tryz.zeroValue257
  t213 := Tryz.underlying258
  a213 := Tryz.isAgg258
  z213 := Tryz.sizeOf258
  t232 := Tryz.underlying262
  a232 := Tryz.isAgg262
  z232 := Tryz.sizeOf262
  v232 := Tryz.zeroValue262
  t233 := Tryz.underlying263
  a233 := Tryz.isAgg263
  z233 := Tryz.sizeOf263
  v233 := Tryz.zeroValue263
  g15 := by kernel_rfl
  g16 := by kernel_rfl
  g17 := by kernel_rfl
  g18 := by kernel_rfl
  g19 := by kernel_rfl
  t80 := Tryz.underlying110
  a80 := Tryz.isAgg110
  z80 := Tryz.sizeOf110
  v80 := Tryz.zeroValue110
  i0 := by kernel_rfl
  i2 := by kernel_rfl
  i3 := by kernel_rfl
  i4 := by kernel_rfl
  i5 := by kernel_rfl
  i9 := by kernel_rfl
  i20 := by kernel_rfl
  i21 := by kernel_rfl
  i37 := by kernel_rfl
  i46 := by kernel_rfl
  i51 := by kernel_rfl
  i53 := by kernel_rfl
  i75 := by kernel_rfl
  i76 := by kernel_rfl
  i80 := by kernel_rfl
  i85 := by kernel_rfl
  i127 := by kernel_rfl
  i143 := by kernel_rfl
  i145 := by kernel_rfl
  i167 := by kernel_rfl
  i168 := by kernel_rfl
  i171 := by kernel_rfl
  i173 := by kernel_rfl
  i175 := by kernel_rfl
  i210 := by kernel_rfl
  i212 := by kernel_rfl
  i232 := by kernel_rfl
  i233 := by kernel_rfl
  m15 := by kernel_rfl
  m16 := by kernel_rfl
  m17 := by kernel_rfl
  m18 := by kernel_rfl
  m19 := by kernel_rfl
  c0 := by kernel_rfl
  c2 := by kernel_rfl
  c3 := by kernel_rfl
  c4 := by kernel_rfl
  c5 := by kernel_rfl
  c9 := by kernel_rfl
  c20 := by kernel_rfl
  c21 := by kernel_rfl
  c37 := by kernel_rfl
  c46 := by kernel_rfl
  c51 := by kernel_rfl
  c53 := by kernel_rfl
  c75 := by kernel_rfl
  c76 := by kernel_rfl
  c80 := by kernel_rfl
  c85 := by kernel_rfl
  c127 := by kernel_rfl
  c143 := by kernel_rfl
  c145 := by kernel_rfl
  c167 := by kernel_rfl
  c168 := by kernel_rfl
  c171 := by kernel_rfl
  c173 := by kernel_rfl
  c175 := by kernel_rfl
  c210 := by kernel_rfl
  c212 := by kernel_rfl
  c213 := by kernel_rfl
  c232 := by kernel_rfl
  c233 := by kernel_rfl }
def Tryz.lays143_ren : Go.Shelf.Ren := ⟨fun | 143 => 123 | 219 => 145 | 217 => 144 | 225 => 173 | 224 => 174 | 267 => 175 | 266 => 172 | 314 => 192 | n => n, fun | 9 => 9 | 3 => 3 | 4 => 4 | 5 => 5 | 46 => 211 | 146 => 223 | 51 => 222 | n => n, fun | 1 => 2 | n => n⟩
theorem Tryz.lays143 : Go.Proofs.Lays.n143 Tryz.prog Tryz.lays143_ren := {
  mixed := by kernel_rfl
  f143 := Tryz.func123.trans (congrArg some (by kernel_rfl))
  f217 := Tryz.func144.trans (congrArg some (by kernel_rfl))
  f219 := Tryz.func145.trans (congrArg some (by kernel_rfl))
  f224 := Tryz.func174.trans (congrArg some (by kernel_rfl))
  f225 := Tryz.func173.trans (congrArg some (by kernel_rfl))
  f266 := Tryz.func172.trans (congrArg some (by kernel_rfl))
  f267 := Tryz.func175.trans (congrArg some (by kernel_rfl))
  f314 := Tryz.func192.trans (congrArg some (by kernel_rfl))
  t3 := Tryz.underlying3
  a3 := Tryz.isAgg3
  z3 := Tryz.sizeOf3
  v3 := Tryz.zeroValue3
  t4 := Tryz.underlying4
  a4 := Tryz.isAgg4
  z4 := Tryz.sizeOf4
  v4 := Tryz.zeroValue4
  t5 := Tryz.underlying5
  a5 := Tryz.isAgg5
  z5 := Tryz.sizeOf5
  v5 := Tryz.zeroValue5
  t9 := Tryz.underlying9
  a9 := Tryz.isAgg9
  z9 := Tryz.sizeOf9
  v9 := Tryz.zeroValue9
  t46 := Tryz.underlying211
  a46 := Tryz.isAgg211
  z46 := Tryz.sizeOf211
  v46 := Tryz.zeroValue211
  t51 := Tryz.underlying222
  a51 := Tryz.isAgg222
  z51 := Tryz.sizeOf222
  v51 := Tryz.zeroValue222
  t146 := Tryz.underlying223
  a146 := Tryz.isAgg223
  z146 := Tryz.sizeOf223
  v146 := Tryz.zeroValue223
  g1 := by kernel_rfl }
open Go.RowKit Go.Lib in
theorem Tryz.strings_Index (s sub : ByteArray) (m : Int) (w : World) (hs : s.size < 4294967281) (hm : w.cell? ⟨2, 0, none⟩ = some (.int .i64 m)) :
    Calls Tryz.prog 123 #[.string s, .string sub] w fun e w' => e = .returned (.int .i64 (Lib.index s.data.toList sub.data.toList)) ∧ w' = w := Any.strings_Index Tryz.lays143 s sub m w hs hm
def Tryz.lays144_ren : Go.Shelf.Ren := ⟨fun | 144 => 199 | 143 => 123 | 219 => 145 | 217 => 144 | 225 => 173 | 224 => 174 | 267 => 175 | 266 => 172 | 314 => 192 | n => n, fun | 9 => 9 | 4 => 4 | 3 => 3 | 5 => 5 | 46 => 211 | 146 => 223 | 51 => 222 | n => n, fun | 1 => 2 | n => n⟩
theorem Tryz.lays144 : Go.Proofs.Lays.n144 Tryz.prog Tryz.lays144_ren := {
  mixed := by kernel_rfl
  f143 := Tryz.func123.trans (congrArg some (by kernel_rfl))
  f144 := Tryz.func199.trans (congrArg some (by kernel_rfl))
  f217 := Tryz.func144.trans (congrArg some (by kernel_rfl))
  f219 := Tryz.func145.trans (congrArg some (by kernel_rfl))
  f224 := Tryz.func174.trans (congrArg some (by kernel_rfl))
  f225 := Tryz.func173.trans (congrArg some (by kernel_rfl))
  f266 := Tryz.func172.trans (congrArg some (by kernel_rfl))
  f267 := Tryz.func175.trans (congrArg some (by kernel_rfl))
  f314 := Tryz.func192.trans (congrArg some (by kernel_rfl))
  t3 := Tryz.underlying3
  a3 := Tryz.isAgg3
  z3 := Tryz.sizeOf3
  v3 := Tryz.zeroValue3
  t4 := Tryz.underlying4
  a4 := Tryz.isAgg4
  z4 := Tryz.sizeOf4
  v4 := Tryz.zeroValue4
  t5 := Tryz.underlying5
  a5 := Tryz.isAgg5
  z5 := Tryz.sizeOf5
  v5 := Tryz.zeroValue5
  t9 := Tryz.underlying9
  a9 := Tryz.isAgg9
  z9 := Tryz.sizeOf9
  v9 := Tryz.zeroValue9
  t46 := Tryz.underlying211
  a46 := Tryz.isAgg211
  z46 := Tryz.sizeOf211
  v46 := Tryz.zeroValue211
  t51 := Tryz.underlying222
  a51 := Tryz.isAgg222
  z51 := Tryz.sizeOf222
  v51 := Tryz.zeroValue222
  t146 := Tryz.underlying223
  a146 := Tryz.isAgg223
  z146 := Tryz.sizeOf223
  v146 := Tryz.zeroValue223
  g1 := by kernel_rfl }
open Go.RowKit Go.Lib in
theorem Tryz.strings_Contains_one (s : ByteArray) (c : UInt8) (w : World) :
    Calls Tryz.prog 199 #[.string s, .string ⟨#[c]⟩] w fun e w' => e = .returned (.bool (decide (0 ≤ Lib.indexByte s.data.toList c))) ∧ w' = w := Any.strings_Contains_one Tryz.lays144 s c w
def Tryz.laysM143_ren : Go.Shelf.Ren := ⟨fun | 143 => 123 | 219 => 145 | 217 => 144 | 225 => 173 | 224 => 174 | 267 => 175 | 266 => 172 | 314 => 192 | n => n, fun | 9 => 9 | 3 => 3 | 4 => 4 | 5 => 5 | 46 => 211 | 146 => 223 | 51 => 222 | n => n, fun | 1 => 2 | n => n⟩
theorem Tryz.laysM143 : Go.Proofs.LaysM.n143 Tryz.prog Tryz.laysM143_ren := {
  mixed := by kernel_rfl
  f143 := Tryz.func123.trans (congrArg some (by kernel_rfl))
  f217 := Tryz.func144.trans (congrArg some (by kernel_rfl))
  f219 := Tryz.func145.trans (congrArg some (by kernel_rfl))
  f224 := Tryz.func174.trans (congrArg some (by kernel_rfl))
  f225 := Tryz.func173.trans (congrArg some (by kernel_rfl))
  f266 := Tryz.func172.trans (congrArg some (by kernel_rfl))
  f267 := Tryz.func175.trans (congrArg some (by kernel_rfl))
  f314 := Tryz.func192.trans (congrArg some (by kernel_rfl))
  t3 := Tryz.underlying3
  a3 := Tryz.isAgg3
  z3 := Tryz.sizeOf3
  v3 := Tryz.zeroValue3
  t4 := Tryz.underlying4
  a4 := Tryz.isAgg4
  z4 := Tryz.sizeOf4
  v4 := Tryz.zeroValue4
  t5 := Tryz.underlying5
  a5 := Tryz.isAgg5
  z5 := Tryz.sizeOf5
  v5 := Tryz.zeroValue5
  t9 := Tryz.underlying9
  a9 := Tryz.isAgg9
  z9 := Tryz.sizeOf9
  v9 := Tryz.zeroValue9
  t46 := Tryz.underlying211
  a46 := Tryz.isAgg211
  z46 := Tryz.sizeOf211
  v46 := Tryz.zeroValue211
  t51 := Tryz.underlying222
  a51 := Tryz.isAgg222
  z51 := Tryz.sizeOf222
  v51 := Tryz.zeroValue222
  t146 := Tryz.underlying223
  a146 := Tryz.isAgg223
  z146 := Tryz.sizeOf223
  v146 := Tryz.zeroValue223
  g1 := by kernel_rfl
  i3 := by kernel_rfl
  i4 := by kernel_rfl
  i5 := by kernel_rfl
  i9 := by kernel_rfl
  i46 := by kernel_rfl
  i51 := by kernel_rfl
  i146 := by kernel_rfl
  m1 := by kernel_rfl
  s1_3 := fun w h => Go.Proofs.cell_of_shapedOpen_int (zero := #[.int .i64 0]) (t := 3) h (of_decide_eq_true (by kernel_rfl)) (by kernel_rfl) rfl (by kernel_rfl) (by kernel_rfl) Tryz.underlying3 }
def Tryz.lays99_ren : Go.Shelf.Ren := ⟨fun | 99 => 98 | 206 => 121 | n => n, fun | 9 => 9 | 4 => 4 | 3 => 3 | n => n, fun | n => n⟩
theorem Tryz.lays99 : Go.Proofs.Lays.n99 Tryz.prog Tryz.lays99_ren := {
  mixed := by kernel_rfl
  f99 := Tryz.func98.trans (congrArg some (by kernel_rfl))
  f206 := Tryz.func121.trans (congrArg some (by kernel_rfl))
  t3 := Tryz.underlying3
  a3 := Tryz.isAgg3
  z3 := Tryz.sizeOf3
  v3 := Tryz.zeroValue3
  t4 := Tryz.underlying4
  a4 := Tryz.isAgg4
  z4 := Tryz.sizeOf4
  v4 := Tryz.zeroValue4
  t9 := Tryz.underlying9
  a9 := Tryz.isAgg9
  z9 := Tryz.sizeOf9
  v9 := Tryz.zeroValue9 }
open Go.RowKit Go.Lib in
theorem Tryz.strings_HasPrefix (s p : ByteArray) (w : World) :
    Calls Tryz.prog 98 #[.string s, .string p] w fun e w' => e = .returned (.bool (Lib.hasPrefix s.data.toList p.data.toList)) ∧ w' = w := Any.strings_HasPrefix Tryz.lays99 s p w
def Tryz.lays101_ren : Go.Shelf.Ren := ⟨fun | 101 => 176 | 208 => 193 | 206 => 121 | n => n, fun | 9 => 9 | 4 => 4 | 3 => 3 | n => n, fun | n => n⟩
theorem Tryz.lays101 : Go.Proofs.Lays.n101 Tryz.prog Tryz.lays101_ren := {
  mixed := by kernel_rfl
  f101 := Tryz.func176.trans (congrArg some (by kernel_rfl))
  f206 := Tryz.func121.trans (congrArg some (by kernel_rfl))
  f208 := Tryz.func193.trans (congrArg some (by kernel_rfl))
  t3 := Tryz.underlying3
  a3 := Tryz.isAgg3
  z3 := Tryz.sizeOf3
  v3 := Tryz.zeroValue3
  t4 := Tryz.underlying4
  a4 := Tryz.isAgg4
  z4 := Tryz.sizeOf4
  v4 := Tryz.zeroValue4
  t9 := Tryz.underlying9
  a9 := Tryz.isAgg9
  z9 := Tryz.sizeOf9
  v9 := Tryz.zeroValue9 }
open Go.RowKit Go.Lib in
theorem Tryz.strings_TrimPrefix (s p : ByteArray) (w : World) :
    Calls Tryz.prog 176 #[.string s, .string p] w fun e w' => e = .returned (.string ⟨(Lib.trimPrefix s.data.toList p.data.toList).toArray⟩) ∧ w' = w := Any.strings_TrimPrefix Tryz.lays101 s p w
open Go.RowKit in
theorem Tryz.atoi_ok (s : ByteArray) (hmax : s.size ≤ 9223372036854775806) (v : Int) (h : Lib.atoiAll s.data.toList = .ok v) (w : World) :
    Calls Tryz.prog 148 #[.string s] w fun e w' => e = .returned (.tuple #[.int .i64 v, .nilIface]) ∧ Below w.heap.size w w' := by
  refine (Any.strconv_Atoi_ok Tryz.laysC172 s hmax v h w).mono ?_
  rintro e w' ⟨rfl, h⟩
  refine ⟨rfl, ?_⟩
  rcases h with rfl | ⟨t, rfl⟩
  · exact Below.refl _ _
  · exact Lib.bytesWorld_below _ _ _
open Go.RowKit in
theorem Tryz.atoi_range (s : ByteArray) (hlim : s.size ≤ 281474976710656) (h : Lib.atoiAll s.data.toList = .range) (tp : TypeId) (p : Value) (w : World) (hvar : w.var? Tryz.prog "strconv.ErrRange" = some #[.iface tp p]) :
    Calls Tryz.prog 148 #[.string s] w fun e w' => (∃ N, e = .returned (.tuple #[.int .i64 (Lib.atoiSat s.data.toList), .iface 228 (.pointer (some ⟨N, 0, none⟩))])) ∧ Below w.heap.size w w' := by
  refine (Any.strconv_Atoi_range_var Tryz.laysC172 s hlim h tp p w hvar).mono ?_
  rintro e w' ⟨N, rfl, _, _, h⟩
  exact ⟨⟨N, rfl⟩, h⟩
end Go.Proofs
