/- Walks of the document's fault and gap. Walk of the document's number. Walk of the document's text between quotes. -/
import Derived.Test.YtdjehbdpcdikkaaGreatDoorMt24
namespace Go.Proofs.YtdjehbdpcdikkaaGreatDoor
open Go.RowKit

set_option maxRecDepth 100000 in
set_option maxHeartbeats 1000000 in
theorem fault_any (why a : Int) (w : World) :
  Calls Tryz.prog 40 #[.int .i64 why, .int .i64 a] w fun e w' => e = .returned (.agg #[.int .i64 why, .int .i64 a]) ∧ Below w.heap.size w w' := by
 go_enter Tryz.func40, Tryz.ntmps40
 go_wp2_with fail
 refine bodyPost_ret (v := .agg #[.int .i64 why, .int .i64 a]) (by simp [results, Tryz.results40, go_sem]) rfl ?_
 exact ⟨rfl, (Below.refl _ w).alloc (Nat.le_refl _) _⟩

/-- What the document's gap answers. -/
def gapV (k : Nat) : G → Int
 | .none => (k : Int)
 | .gap n => (k : Int) + (n : Int)
 | .never => -1
theorem ln_at {s : ByteArray} {k m : Nat} (h : m < s.size) (hd : ¬ bv s[m] = 10) (hh : k + lnLen (s.data.toList.drop k) = m + lnLen (s.data.toList.drop m)) :
  k + lnLen (s.data.toList.drop k) = (m + 1) + lnLen (s.data.toList.drop (m + 1)) := by
 rw [drop_at s m h] at hh
 have : lnLen (s[m] :: s.data.toList.drop (m + 1)) = lnLen (s.data.toList.drop (m + 1)) + 1 := by
  unfold lnLen
  rw [if_neg (fun e => hd (by rw [e]; rfl))]
  cases s.data.toList.drop (m + 1) <;> rfl
 omega
theorem ln_end {s : ByteArray} {k m : Nat} (h : ∀ hm : m < s.size, bv s[m] = 10) (hh : k + lnLen (s.data.toList.drop k) = m + lnLen (s.data.toList.drop m)) : k + lnLen (s.data.toList.drop k) = m := by
 by_cases hm : m < s.size
 ·
  have e : s[m] = 10 := (bv_eq (k := 10) (by omega)).1 (h hm)
  rw [drop_at s m hm, e] at hh
  simp [lnLen] at hh
  exact hh
 ·
  rw [drop_end s m (by omega)] at hh
  exact hh
theorem ce_at {s : ByteArray} {m : Nat} (h : m < s.size) (hp : pre [42, 47] (s.data.toList.drop m) = false) : cEnd (s.data.toList.drop m) = (cEnd (s.data.toList.drop (m + 1))).map (· + 1) := by
 rw [drop_at s m h] at hp ⊢
 rw [cEnd, if_neg (by rw [hp]; simp)]
theorem ce_hit {s : ByteArray} {m : Nat} (h : m < s.size) (hp : pre [42, 47] (s.data.toList.drop m) = true) : cEnd (s.data.toList.drop m) = some 0 := by
 rw [drop_at s m h] at hp ⊢
 rw [cEnd, if_pos hp]
/-- The comment's end, looked for from k on, up to m. -/
def CeAt (s : ByteArray) (k m : Nat) : Prop := k ≤ m ∧ m ≤ s.size ∧ cEnd (s.data.toList.drop k) = (cEnd (s.data.toList.drop m)).map (· + (m - k))
theorem CeAt.step {s : ByteArray} {k m : Nat} (h : CeAt s k m) (hm : m < s.size) (hp : pre [42, 47] (s.data.toList.drop m) = false) : CeAt s k (m + 1) := by
 obtain ⟨h1, h2, h3⟩ := h
 refine ⟨by omega, by omega, ?_⟩
 rw [h3, ce_at hm hp, Option.map_map]
 cases cEnd (s.data.toList.drop (m + 1)) with
 | none => rfl
 | some j => simp; omega

set_option maxHeartbeats 4000000 in
theorem rgap_any (s : ByteArray) (k : Nat) (hk : k < s.size) (hs : s.size ≤ 140737488355328) (w : World) :
  Calls Tryz.prog 41 #[.string s, .int .i64 (k : Int)] w fun e w' => e = .returned (.int .i64 (gapV k (gapAt (s.data.toList.drop k)))) ∧ w' = w := by
 cases hb : isB (s[k].toNat : Int) with
 | true =>
  have H := hide (show gapV k (gapAt (s.data.toList.drop k)) = (k : Int) + 1 by rw [gap_blank hk hb]; rfl)
  have hb' : (s[k].toNat : Int) = 32 ∨ (s[k].toNat : Int) = 9 ∨ (s[k].toNat : Int) = 10 ∨ (s[k].toNat : Int) = 13 := by
   simp only [isB, Bool.or_eq_true, decide_eq_true_eq] at hb; omega
  go_enter Tryz.func41, Tryz.ntmps41
  rcases hb' with e | e | e | e
  all_goals
   go_wp2_with fail
   go_ret
   exact ⟨ret_int (unhide H).symm, rfl⟩
 | false =>
  have hb' : ¬ (s[k].toNat : Int) = 32 ∧ ¬ (s[k].toNat : Int) = 9 ∧ ¬ (s[k].toNat : Int) = 10 ∧ ¬ (s[k].toNat : Int) = 13 := by
   simp only [isB, Bool.or_eq_false_iff, decide_eq_false_iff_not] at hb; omega
  obtain ⟨n1, n2, n3, n4⟩ := hb'
  have m1 : ((s[k].toNat : Int) == 32) = false := beq_eq_false_iff_ne.2 n1
  have m2 : ((s[k].toNat : Int) == 9) = false := beq_eq_false_iff_ne.2 n2
  have m3 : ((s[k].toNat : Int) == 10) = false := beq_eq_false_iff_ne.2 n3
  have m4 : ((s[k].toNat : Int) == 13) = false := beq_eq_false_iff_ne.2 n4
  clear n1 n2 n4
  cases hp : pre [47, 47] (s.data.toList.drop k) with
  | true =>
   have HP := hide hp
   have H := hide (show gapV k (gapAt (s.data.toList.drop k)) = (k : Int) + (lnLen (s.data.toList.drop k) : Int) by rw [gap_line hk hb hp]; rfl)
   clear hp
   go_enter Tryz.func41, Tryz.ntmps41
   go_wp2_with (go_at_call 76; refine (at_is s _ k ⟨#[47, 47]⟩ true rfl (unhide HP) (by omega) hs (by decide) _).mono ?_; rintro e w' ⟨rfl, rfl⟩)
   go_loop [1] (fun i => ∃ m : Nat, i = .int .i64 (m : Int) ∧ m ≤ s.size ∧ Hid (k + lnLen (s.data.toList.drop k) = m + lnLen (s.data.toList.drop m))) (fun i => s.size - (intOf i).toNat)
   case atStart => exact ⟨k, rfl, by omega, hide rfl⟩
   case round =>
    obtain ⟨m, rfl, hm, HH⟩ := hrel
    by_cases hlt : m < s.size
    ·
     cases h10 : ((s[m].toNat : Int) != 10) with
     | true =>
      go_wp2_with fail
      go_round
      case rel => exact ⟨m + 1, by go_num, by omega, hide (ln_at hlt (bne_iff_ne.1 h10) (unhide HH))⟩
      case measure => simp [intOf]; omega
     | false =>
      go_wp2_with fail
      go_ret
      have e10 : (s[m].toNat : Int) = 10 := by simpa using h10
      exact ⟨ret_int (by rw [unhide H]; have := ln_end (fun _ => e10) (unhide HH); omega), rfl⟩
    ·
     go_wp2_with fail
     go_ret
     exact ⟨ret_int (by rw [unhide H]; have := ln_end (fun h => absurd h hlt) (unhide HH); omega), rfl⟩
  | false =>
   cases hq : pre [47, 42] (s.data.toList.drop k) with
   | false =>
    have HP := hide hp
    have HQ := hide hq
    have H := hide (show gapV k (gapAt (s.data.toList.drop k)) = (k : Int) by rw [gap_not hk hb hp hq]; rfl)
    clear hp hq
    go_enter Tryz.func41, Tryz.ntmps41
    go_wp2_with fail
    refine (at_is s _ k ⟨#[47, 47]⟩ false rfl (unhide HP) (by omega) hs (by decide) _).mono ?_
    rintro e w' ⟨rfl, rfl⟩
    go_wp2_with fail
    refine (at_is s _ k ⟨#[47, 42]⟩ false rfl (unhide HQ) (by omega) hs (by decide) _).mono ?_
    rintro e w' ⟨rfl, rfl⟩
    go_wp2_with fail
    go_ret
    exact ⟨ret_int (unhide H).symm, rfl⟩
   | true =>
    have HP := hide hp
    have HQ := hide hq
    have h2 := pre_two hq
    have H := hide (show gapV k (gapAt (s.data.toList.drop k)) = match cEnd (s.data.toList.drop (k + 2)) with | some n => (k : Int) + ((n + 4 : Nat) : Int) | none => -1 by
     rw [gap_comm hk hb hp hq]; unfold cGap; cases cEnd (s.data.toList.drop (k + 2)) <;> rfl)
    clear hp hq
    go_enter Tryz.func41, Tryz.ntmps41
    go_wp2_with fail
    refine (at_is s _ k ⟨#[47, 47]⟩ false rfl (unhide HP) (by omega) hs (by decide) _).mono ?_
    rintro e w' ⟨rfl, rfl⟩
    go_wp2_with fail
    refine (at_is s _ k ⟨#[47, 42]⟩ true rfl (unhide HQ) (by omega) hs (by decide) _).mono ?_
    rintro e w' ⟨rfl, rfl⟩
    go_wp2_with fail
    go_loop [6] (fun i => ∃ m : Nat, i = .int .i64 (m : Int) ∧ Hid (CeAt s (k + 2) m)) (fun i => s.size - (intOf i).toNat)
    case atStart => exact ⟨k + 2, by go_num, hide ⟨Nat.le_refl _, h2, by rw [Nat.sub_self]; cases cEnd (s.data.toList.drop (k + 2)) <;> rfl⟩⟩
    case round =>
     obtain ⟨m, rfl, HH⟩ := hrel
     have hm := (unhide HH).2.1
     have hkm := (unhide HH).1
     by_cases hlt : m < s.size
     ·
      cases hr : pre [42, 47] (s.data.toList.drop m) with
      | true =>
       have HR := hide hr
       clear hr
       go_wp2_with (go_at_call 76; refine (at_is s _ m ⟨#[42, 47]⟩ true rfl (unhide HR) (by omega) hs (by decide) _).mono ?_; rintro e w' ⟨rfl, rfl⟩)
       go_ret
       refine ⟨ret_int ?_, rfl⟩
       rw [unhide H, (unhide HH).2.2, ce_hit hlt (unhide HR), Option.map_some]
       show (m : Int) + 2 = (k : Int) + ((0 + (m - (k + 2)) + 4 : Nat) : Int)
       omega
      | false =>
       have HR := hide hr
       clear hr
       go_wp2_with (go_at_call 76; refine (at_is s _ m ⟨#[42, 47]⟩ false rfl (unhide HR) (by omega) hs (by decide) _).mono ?_; rintro e w' ⟨rfl, rfl⟩)
       go_round
       case rel => exact ⟨m + 1, by go_num, hide ((unhide HH).step hlt (unhide HR))⟩
       case measure => simp [intOf]; omega
     ·
      go_wp2_with fail
      go_ret
      refine ⟨ret_int ?_, rfl⟩
      rw [unhide H, (unhide HH).2.2, drop_end s m (by omega)]
      rfl
end Go.Proofs.YtdjehbdpcdikkaaGreatDoor

namespace Go.Proofs.YtdjehbdpcdikkaaGreatDoor
open Go.RowKit

theorem isD_iff {n : Int} : isD n = true ↔ 48 ≤ n ∧ n ≤ 57 := by simp [isD]
theorem vl_snoc : ∀ (l : Txt) (acc : Nat) (c : UInt8), vl acc (l ++ [c]) = vl acc l * 10 + (c.toNat - 48)
 | [], _, _ => rfl
 | _ :: l, _, c => vl_snoc l _ c
def vlAt (s : ByteArray) (k m : Nat) : Nat := vl 0 ((s.data.toList.drop k).take (m - k))
theorem vlAt_start (s : ByteArray) (k : Nat) : vlAt s k k = 0 := by unfold vlAt; rw [Nat.sub_self]; rfl
theorem vlAt_step {s : ByteArray} {k m : Nat} (hk : k ≤ m) (hm : m < s.size) : vlAt s k (m + 1) = vlAt s k m * 10 + (s[m].toNat - 48) := by
 unfold vlAt
 have e : m + 1 - k = (m - k) + 1 := by omega
 have hlen : m - k < (s.data.toList.drop k).length := by rw [len_drop]; omega
 have e2 : (s.data.toList.drop k)[m - k] = s[m] := by
  rw [List.getElem_drop]
  have e3 : k + (m - k) = m := by omega
  simp only [e3]
  rfl
 rw [e, List.take_succ_eq_append_getElem hlen, vl_snoc, e2]
theorem dg_more {s : ByteArray} {k m : Nat} (hk : k < s.size) (h1 : k ≤ m) (h2 : m < k + dgLen (s.data.toList.drop k)) (hd : isD (bv s[k]) = true) : ∃ hm : m < s.size, isD (bv s[m]) = true ∧ (m = k ∨ ¬ bv s[k] = 48) := by
 by_cases h0 : bv s[k] = 48
 ·
  rw [dg_zero hk h0] at h2
  have e : m = k := by omega
  subst e
  exact ⟨hk, hd, .inl rfl⟩
 ·
  rw [dg_other hk h0] at h2
  obtain ⟨j, rfl⟩ : ∃ j, m = k + j := ⟨m - k, by omega⟩
  have key : ∀ (j : Nat) (k : Nat), j < dcn (s.data.toList.drop k) → ∃ hm : k + j < s.size, isD (bv s[k + j]) = true := by
   intro j
   induction j with
   | zero =>
    intro k h
    by_cases hk : k < s.size
    ·
     rw [drop_at s k hk] at h
     cases hd : isD (bv s[k]) with
     | true => exact ⟨hk, hd⟩
     | false => simp [dcn, hd] at h
    · rw [drop_end s k (by omega)] at h; simp [dcn] at h
   | succ j ih =>
    intro k h
    by_cases hk : k < s.size
    ·
     rw [drop_at s k hk] at h
     cases hd : isD (bv s[k]) with
     | false => simp [dcn, hd] at h
     | true =>
      have : j < dcn (s.data.toList.drop (k + 1)) := by simp [dcn, hd] at h; omega
      obtain ⟨h1, h2⟩ := ih (k + 1) this
      have e : k + (j + 1) = k + 1 + j := by omega
      simp only [e]
      exact ⟨h1, h2⟩
    · rw [drop_end s k (by omega)] at h; simp [dcn] at h
  obtain ⟨h3, h4⟩ := key j k (by omega)
  exact ⟨h3, h4, .inr h0⟩
theorem dg_stop {s : ByteArray} {k m : Nat} (hk : k < s.size) (h2 : m = k + dgLen (s.data.toList.drop k)) (hm : m < s.size) : isD (bv s[m]) = false ∨ (¬ m = k ∧ bv s[k] = 48) := by
 by_cases h0 : bv s[k] = 48
 ·
  rw [dg_zero hk h0] at h2
  exact .inr ⟨by omega, h0⟩
 ·
  left
  rw [dg_other hk h0] at h2
  have key : ∀ (j : Nat) (k : Nat), j = dcn (s.data.toList.drop k) → ∀ hm : k + j < s.size, isD (bv s[k + j]) = false := by
   intro j
   induction j with
   | zero =>
    intro k h hm
    have hk : k < s.size := hm
    rw [drop_at s k hk] at h
    cases hd : isD (bv s[k]) with
    | false => first | exact hd | rfl
    | true => simp [dcn, hd] at h
   | succ j ih =>
    intro k h hm
    by_cases hk : k < s.size
    ·
     rw [drop_at s k hk] at h
     cases hd : isD (bv s[k]) with
     | false => simp [dcn, hd] at h
     | true =>
      have h5 : j = dcn (s.data.toList.drop (k + 1)) := by simp [dcn, hd] at h; omega
      have e : k + (j + 1) = k + 1 + j := by omega
      simp only [e]
      exact ih (k + 1) h5 (by omega)
    · omega
  subst h2
  exact key _ k rfl hm

/-- At a round's head. -/
structure NuI (s : ByteArray) (k m : Nat) (n : Int) (ov : Bool) : Prop where
 h1 : k ≤ m
 h2 : m ≤ k + dgLen (s.data.toList.drop k)
 v : ov = decide (9223372036854775807 < vlAt s k m)
 n0 : 0 ≤ n
 n1 : n ≤ 9223372036854775807
 n : ov = false → n = (vlAt s k m : Int)
theorem NuI.over {s : ByteArray} {k m : Nat} {n : Int} (h : NuI s k m n true) (hm : m < s.size) (hlt : m < k + dgLen (s.data.toList.drop k)) : NuI s k (m + 1) n true := by
 refine ⟨by have := h.h1; omega, by omega, ?_, h.n0, h.n1, (fun e => by cases e)⟩
 have hv := of_decide_eq_true h.v.symm
 rw [eq_comm, decide_eq_true_eq, vlAt_step h.h1 hm]; omega
theorem NuI.step {s : ByteArray} {k m : Nat} {n : Int} (h : NuI s k m n false) (hm : m < s.size) (hlt : m < k + dgLen (s.data.toList.drop k)) (hd : isD (bv s[m]) = true) :
  (¬ (9223372036854775807 - ((s[m].toNat : Int) - 48)) / 10 < n → NuI s k (m + 1) (n * 10 + ((s[m].toNat : Int) - 48)) false) ∧ ((9223372036854775807 - ((s[m].toNat : Int) - 48)) / 10 < n → NuI s k (m + 1) n true) := by
 have hv := h.n rfl
 have hd' : 48 ≤ (s[m].toNat : Int) ∧ (s[m].toNat : Int) ≤ 57 := by
  exact isD_iff.1 hd
 have e := vlAt_step h.h1 hm
 have n0 := h.n0
 constructor
 ·
  intro hlt2
  refine ⟨by have := h.h1; omega, by omega, ?_, by omega, by omega, fun _ => by rw [e]; omega⟩
  rw [eq_comm, decide_eq_false_iff_not, e]; omega
 ·
  intro hlt2
  refine ⟨by have := h.h1; omega, by omega, ?_, h.n0, h.n1, (fun e => by cases e)⟩
  rw [eq_comm, decide_eq_true_eq, e]; omega

set_option maxRecDepth 100000 in
set_option maxHeartbeats 4000000 in
theorem rnumber_any (s : ByteArray) (k : Nat) (hk : k < s.size) (hdg : isD (bv s[k]) = true) (hs : s.size ≤ 65536) (w : World) :
  Calls Tryz.prog 44 #[.string s, .int .i64 (k : Int)] w fun e w' => e = .returned (resT k (dgRes (s.data.toList.drop k))).val ∧ Below w.heap.size w w' := by
 have hb := two_made w
 have hle := dg_le (s.data.toList.drop k)
 rw [len_drop] at hle
 have HD := hide hdg
 obtain ⟨L, hL⟩ : ∃ L, dgLen (s.data.toList.drop k) = L := ⟨_, rfl⟩
 have HL := hide hL
 rw [hL] at hle
 clear hdg hL
 go_enter Tryz.func44, Tryz.ntmps44
 go_wp2_with fail
 go_loop [7, 8, 9] (fun i nv ov => ∃ (m : Nat) (n : Int) (o : Bool), i = .int .i64 (m : Int) ∧ nv = .int .i64 n ∧ ov = .bool o ∧ m ≤ k + L ∧ 0 ≤ n ∧ n ≤ 9223372036854775807 ∧ Hid (NuI s k m n o)) (fun i _ _ => k + L - (intOf i).toNat)
 case atStart => exact ⟨k, 0, false, rfl, rfl, rfl, by omega, by omega, by omega, hide ⟨Nat.le_refl _, by omega, by rw [vlAt_start]; rfl, by omega, by omega, fun _ => by rw [vlAt_start]; rfl⟩⟩
 case round =>
  obtain ⟨m, n, o, rfl, rfl, rfl, hmL, n0, n1, HH⟩ := hrel
  have hkm := (unhide HH).h1
  by_cases hlt : m < k + L
  ·
   obtain ⟨hms, hdm, hor⟩ := dg_more hk hkm (by rw [unhide HL]; exact hlt) (unhide HD)
   have hdm2 : isD (s[m].toNat : Int) = true := hdm
   have hd48 : 48 ≤ (s[m].toNat : Int) ∧ (s[m].toNat : Int) ≤ 57 := by
    exact isD_iff.1 hdm
   obtain ⟨d1, d2⟩ := hd48
   have HDM := hide hdm
   clear hdm
   have hf : ((m : Int) == (k : Int)) = true ∨ (((m : Int) == (k : Int)) = false ∧ ((s[k].toNat : Int) != 48) = true) := by
    by_cases e : m = k
    · left; rw [beq_iff_eq, e]
    ·
     right
     refine ⟨beq_eq_false_iff_ne.2 (by omega), bne_iff_ne.2 ?_⟩
     rcases hor with h | h
     · exact absurd h e
     · exact h
   clear hor
   cases o with
   | true =>
    have HN := hide ((unhide HH).over hms (by rw [unhide HL]; exact hlt))
    rcases hf with hf | ⟨hf, hf2⟩
    ·
     go_wp2_with (go_at_call 43; refine (digit_any _ _).mono ?_; rintro e w' ⟨rfl, rfl⟩; rw [hdm2])
     go_round
     case rel => exact ⟨m + 1, n, true, by go_num, rfl, rfl, by omega, n0, n1, HN⟩
     case measure => simp [intOf]; omega
    ·
     go_wp2_with (go_at_call 43; refine (digit_any _ _).mono ?_; rintro e w' ⟨rfl, rfl⟩; rw [hdm2])
     go_round
     case rel => exact ⟨m + 1, n, true, by go_num, rfl, rfl, by omega, n0, n1, HN⟩
     case measure => simp [intOf]; omega
   | false =>
    have HN := hide ((unhide HH).step hms (by rw [unhide HL]; exact hlt) (unhide HDM))
    by_cases hov : (9223372036854775807 - ((s[m].toNat : Int) - 48)) / 10 < n
    ·
     have hov2 : decide ((9223372036854775807 - ((s[m].toNat : Int) - 48)) / 10 < n) = true := decide_eq_true hov
     have HV := hide hov
     clear hov
     rcases hf with hf | ⟨hf, hf2⟩
     all_goals
      go_wp2_with (go_at_call 43; refine (digit_any _ _).mono ?_; rintro e w' ⟨rfl, rfl⟩; rw [hdm2])
      go_round
      case rel => exact ⟨m + 1, n, true, by go_num, rfl, rfl, by omega, n0, n1, hide ((unhide HN).2 (unhide HV))⟩
      case measure => simp [intOf]; omega
    ·
     have hov2 : decide ((9223372036854775807 - ((s[m].toNat : Int) - 48)) / 10 < n) = false := decide_eq_false hov
     have hw1 : wrap64 (n * 10) = n * 10 := by unfold wrap64; omega
     have hw2 : wrap64 (n * 10 + ((s[m].toNat : Int) - 48)) = n * 10 + ((s[m].toNat : Int) - 48) := by unfold wrap64; omega
     have HV := hide hov
     have b0 : 0 ≤ n * 10 + ((s[m].toNat : Int) - 48) := by omega
     have b1 : n * 10 + ((s[m].toNat : Int) - 48) ≤ 9223372036854775807 := by omega
     have HB0 := hide b0
     have HB1 := hide b1
     clear hov b0 b1
     rcases hf with hf | ⟨hf, hf2⟩
     all_goals
      go_wp2_with (go_at_call 43; refine (digit_any _ _).mono ?_; rintro e w' ⟨rfl, rfl⟩; rw [hdm2])
      go_round
      case rel => exact ⟨m + 1, n * 10 + ((s[m].toNat : Int) - 48), false, by go_num, by first | rfl | (rw [hw2]), rfl, by omega, unhide HB0, unhide HB1, hide ((unhide HN).1 (unhide HV))⟩
      case measure => simp [intOf]; omega
  ·
   have eL : m = k + L := by omega
   have hV := (unhide HH).v
   have hNv := (unhide HH).n
   have HRES := hide (show dgRes (s.data.toList.drop k) = if noW (s.data.toList.drop m) = false then .bad 7 L else if 9223372036854775807 < vlAt s k m then .bad 8 0 else .tok 2 [] (vlAt s k m) L by
    unfold dgRes vlAt
    rw [unhide HL, List.drop_drop, ← eL, show m - k = L by omega])
   have HST := hide (fun hm => dg_stop hk (show m = k + dgLen (s.data.toList.drop k) by rw [unhide HL]; exact eL) hm)
   have HEL := hide eL
   clear eL
   clear HH hkm
   by_cases hms : m < s.size
   ·
    cases hdm2 : isD (s[m].toNat : Int) with
    | true =>
     obtain ⟨e1, e2⟩ : ¬ m = k ∧ bv s[k] = 48 := by
      rcases unhide HST hms with h | h
      · rw [show isD (bv s[m]) = true from hdm2] at h; cases h
      · exact h
     have hf : ((m : Int) == (k : Int)) = false := beq_eq_false_iff_ne.2 (by omega)
     have hf2 : ((s[k].toNat : Int) != 48) = false := by rw [show (s[k].toNat : Int) = 48 from e2]; rfl
     have hwm : noW (s.data.toList.drop m) = false := by rw [noW_at hms, inW_D (show isD (bv s[m]) = true from hdm2)]; rfl
     have H := hide (show resT k (dgRes (s.data.toList.drop k)) = ⟨0, ⟨#[]⟩, 0, 0, 0, 7, (m : Int)⟩ by
      have e := unhide HRES
      rw [if_pos hwm] at e
      rw [e, resT, ← unhide HEL])
     clear hV hNv HRES HST hwm e1 e2
     go_wp2_with (go_at_call 43; refine (digit_any _ _).mono ?_; rintro e w' ⟨rfl, rfl⟩; rw [hdm2])
     refine (fault_any _ _ _).mono ?_
     rintro e w2 ⟨rfl, b2⟩
     have bx := boxes_later (w := w) (w2 := w2) (by simpa using b2)
     have bw : Below w.heap.size w w2 := hb.trans (b2.mono (by simp; omega))
     obtain ⟨x0, x1, x2, x3, y0, y1, fx, fy⟩ := bx
     clear b2 hb
     go_wp2_with fail
     refine bodyPost_ret (v := TV.val ⟨0, ⟨#[]⟩, 0, 0, 0, 7, (m : Int)⟩) (by simp [results, Tryz.results44, go_sem, x0, x1, x2, x3, y0, y1]) rfl ?_
     exact ⟨ret_tv (unhide H).symm, six_below bw (Nat.le_refl _) (Nat.le_succ _) _ _ _ _ _ _⟩
    | false =>
     cases hl : isL (s[m].toNat : Int) with
     | true =>
      have hwm : noW (s.data.toList.drop m) = false := by rw [noW_at hms, inW_L (show isL (bv s[m]) = true from hl)]; rfl
      have H := hide (show resT k (dgRes (s.data.toList.drop k)) = ⟨0, ⟨#[]⟩, 0, 0, 0, 7, (m : Int)⟩ by
       have e := unhide HRES
       rw [if_pos hwm] at e
       rw [e, resT, ← unhide HEL])
      clear hV hNv HRES HST hwm
      go_wp2_with (first
       | (go_at_call 43; refine (digit_any _ _).mono ?_; rintro e w' ⟨rfl, rfl⟩; rw [hdm2])
       | (go_at_call 78; refine (letter_any _ _).mono ?_; rintro e w' ⟨rfl, rfl⟩; rw [hl]))
      refine (fault_any _ _ _).mono ?_
      rintro e w2 ⟨rfl, b2⟩
      have bx := boxes_later (w := w) (w2 := w2) (by simpa using b2)
      have bw : Below w.heap.size w w2 := hb.trans (b2.mono (by simp; omega))
      obtain ⟨x0, x1, x2, x3, y0, y1, fx, fy⟩ := bx
      clear b2 hb
      go_wp2_with fail
      refine bodyPost_ret (v := TV.val ⟨0, ⟨#[]⟩, 0, 0, 0, 7, (m : Int)⟩) (by simp [results, Tryz.results44, go_sem, x0, x1, x2, x3, y0, y1]) rfl ?_
      exact ⟨ret_tv (unhide H).symm, six_below bw (Nat.le_refl _) (Nat.le_succ _) _ _ _ _ _ _⟩
     | false =>
      have hwm : noW (s.data.toList.drop m) = true := by rw [noW_at hms]; unfold inW; rw [show isL (bv s[m]) = false from hl, show isD (bv s[m]) = false from hdm2]; rfl
      cases o with
      | false =>
       have H := hide (show resT k (dgRes (s.data.toList.drop k)) = ⟨2, ⟨#[]⟩, n, (k : Int), (m : Int), 0, 0⟩ by
        have e := unhide HRES
        rw [if_neg (by rw [show noW (s.data.toList.drop m) = true from hwm]; simp), if_neg (of_decide_eq_false hV.symm)] at e
        have := unhide HEL
        rw [e, resT, ← hNv rfl]; simp; omega)
       clear hV hNv HRES
       clear HST hwm
       go_wp2_with (first
        | (go_at_call 43; refine (digit_any _ _).mono ?_; rintro e w' ⟨rfl, rfl⟩; rw [hdm2])
        | (go_at_call 78; refine (letter_any _ _).mono ?_; rintro e w' ⟨rfl, rfl⟩; rw [hl]))
       refine bodyPost_ret (v := TV.val ⟨2, ⟨#[]⟩, n, (k : Int), (m : Int), 0, 0⟩) (by simp [results, Tryz.results44, go_sem]) rfl ?_
       exact ⟨ret_tv (unhide H).symm, ((Below.refl _ w).alloc (Nat.le_refl _) _).alloc (by simp) _⟩
      | true =>
       have H := hide (show resT k (dgRes (s.data.toList.drop k)) = ⟨0, ⟨#[]⟩, 0, 0, 0, 8, (k : Int)⟩ by
        have e := unhide HRES
        rw [if_neg (by rw [show noW (s.data.toList.drop m) = true from hwm]; simp), if_pos (of_decide_eq_true hV.symm)] at e
        rw [e]; simp [resT])
       clear hV hNv HRES
       clear HST hwm
       go_wp2_with (first
        | (go_at_call 43; refine (digit_any _ _).mono ?_; rintro e w' ⟨rfl, rfl⟩; rw [hdm2])
        | (go_at_call 78; refine (letter_any _ _).mono ?_; rintro e w' ⟨rfl, rfl⟩; rw [hl]))
       refine (fault_any _ _ _).mono ?_
       rintro e w2 ⟨rfl, b2⟩
       have bx := boxes_later (w := w) (w2 := w2) (by simpa using b2)
       have bw : Below w.heap.size w w2 := hb.trans (b2.mono (by simp; omega))
       obtain ⟨x0, x1, x2, x3, y0, y1, fx, fy⟩ := bx
       clear b2 hb
       go_wp2_with fail
       refine bodyPost_ret (v := TV.val ⟨0, ⟨#[]⟩, 0, 0, 0, 8, (k : Int)⟩) (by simp [results, Tryz.results44, go_sem, x0, x1, x2, x3, y0, y1]) rfl ?_
       exact ⟨ret_tv (unhide H).symm, six_below bw (Nat.le_refl _) (Nat.le_succ _) _ _ _ _ _ _⟩
   ·
    have hwm : noW (s.data.toList.drop m) = true := by rw [drop_end s m (by omega)]; rfl
    cases o with
    | false =>
     have H := hide (show resT k (dgRes (s.data.toList.drop k)) = ⟨2, ⟨#[]⟩, n, (k : Int), (m : Int), 0, 0⟩ by
      have e := unhide HRES
      rw [if_neg (by rw [show noW (s.data.toList.drop m) = true from hwm]; simp), if_neg (of_decide_eq_false hV.symm)] at e
      have := unhide HEL
      rw [e, resT, ← hNv rfl]; simp; omega)
     clear hV hNv HRES
     clear HST hwm
     go_wp2_with fail
     refine bodyPost_ret (v := TV.val ⟨2, ⟨#[]⟩, n, (k : Int), (m : Int), 0, 0⟩) (by simp [results, Tryz.results44, go_sem]) rfl ?_
     exact ⟨ret_tv (unhide H).symm, ((Below.refl _ w).alloc (Nat.le_refl _) _).alloc (by simp) _⟩
    | true =>
     have H := hide (show resT k (dgRes (s.data.toList.drop k)) = ⟨0, ⟨#[]⟩, 0, 0, 0, 8, (k : Int)⟩ by
      have e := unhide HRES
      rw [if_neg (by rw [show noW (s.data.toList.drop m) = true from hwm]; simp), if_pos (of_decide_eq_true hV.symm)] at e
      rw [e]; simp [resT])
     clear hV hNv HRES
     clear HST hwm
     go_wp2_with fail
     refine (fault_any _ _ _).mono ?_
     rintro e w2 ⟨rfl, b2⟩
     have bx := boxes_later (w := w) (w2 := w2) (by simpa using b2)
     have bw : Below w.heap.size w w2 := hb.trans (b2.mono (by simp; omega))
     obtain ⟨x0, x1, x2, x3, y0, y1, fx, fy⟩ := bx
     clear b2 hb
     go_wp2_with fail
     refine bodyPost_ret (v := TV.val ⟨0, ⟨#[]⟩, 0, 0, 0, 8, (k : Int)⟩) (by simp [results, Tryz.results44, go_sem, x0, x1, x2, x3, y0, y1]) rfl ?_
     exact ⟨ret_tv (unhide H).symm, six_below bw (Nat.le_refl _) (Nat.le_succ _) _ _ _ _ _ _⟩
end Go.Proofs.YtdjehbdpcdikkaaGreatDoor

namespace Go.Proofs.YtdjehbdpcdikkaaGreatDoor
open Go.ChangeShapes Go.WideShapes Go.RowKit

set_option maxRecDepth 100000 in
set_option maxHeartbeats 4000000 in
theorem rtext_any (s : ByteArray) (k : Nat) (hk : k < s.size) (hs : s.size ≤ 65536) (w : World) :
    Calls Tryz.prog 45 #[.string s, .int .i64 (k : Int)] w fun e w' => e = .returned (resT k (txRes (s.data.toList.drop (k + 1)))).val ∧ Below w.heap.size w w' := by
  have hb := two_made w
  obtain ⟨i0, hi, hz0, hz1, hz2⟩ := info_parts5
  have HI := hide (show Tryz.prog.info? 5 = some i0 ∧ i0.zero = some (.int .u8 0) ∧ i0.size = 1 ∧ i0.bytes = 1 from ⟨hi, hz0, hz1, hz2⟩)
  clear hi hz0 hz1 hz2
  obtain ⟨W0, hW0⟩ : ∃ W0, (w.alloc tokZ).alloc fltZ = W0 := ⟨_, rfl⟩
  have hW0s : W0.heap.size = w.heap.size + 2 := by rw [← hW0]; simp
  have HBX := hide (show ∀ w2, Below (w.heap.size + 2) W0 w2 → Boxes w2 w.heap.size (w.heap.size + 1) ∧ Below w.heap.size w w2 from fun w2 h => by
    rw [← hW0] at h
    exact ⟨boxes_later h, hb.trans (h.mono (by omega))⟩)
  have HW0 := hide hW0s
  go_enter Tryz.func45, Tryz.ntmps45
  go_wp2
  clear hW0 hW0s hb
  go_loopw [7, 8] (fun v i wr => TxRel s k (w.heap.size + 2) W0 v i wr) (fun _ i _ => s.size - (intOf i).toNat)
  case atStart => exact ⟨k + 1, [], by go_num, hide ⟨Nat.le_refl _, by omega, Nat.zero_le _, World.ownsRow_nil _ _ _ _, Below.refl _ _, by rw [Nat.sub_self, TR.app_nil], fun _ => rfl⟩⟩
  case round =>
    obtain ⟨m, bs, rfl, HH⟩ := hrel
    obtain ⟨hkm, hms, hbl, hown, hbel, htx, hnil⟩ := unhide HH
    have hsz := hbel.size
    rw [unhide HW0] at hsz
    by_cases hlt : m < s.size
    · cases e1 : ((s[m].toNat : Int) == 34) with
      | true =>
        by_cases hbs : bs = []
        · have H := hide (show resT k (txRes (s.data.toList.drop (k + 1))) = ⟨3, ⟨bs.toArray⟩, 0, (k : Int), (m : Int) + 1, 0, 0⟩ by
            unfold txRes; rw [htx, (show s.data.toList.drop m = 34 :: s.data.toList.drop (m + 1) by rw [drop_at s m hlt, (bv_eq (k := 34) (by omega)).1 (beq_iff_eq.1 e1)]; rfl), tx_quote]
            simp only [TR.app, resT, List.append_nil]; congr 1; omega)
          obtain ⟨⟨x0, x1, x2, x3, y0, y1, fx, fy⟩, bw⟩ := unhide HBX wr hbel
          have hv := hnil hbs
          subst hv hbs
          have hcv := conv_nil wr
          clear htx hnil hown HBX
          go_wp2_with fail
          refine bodyPost_ret (v := TV.val ⟨3, ⟨#[]⟩, 0, (k : Int), (m : Int) + 1, 0, 0⟩) (by simp [results, Tryz.results45, go_sem, x0, x1, x2, x3, y0, y1]) rfl ?_
          exact ⟨ret_tv (unhide H).symm, six_below bw (Nat.le_refl _) (Nat.le_succ _) _ _ _ _ _ _⟩
        · have H := hide (show resT k (txRes (s.data.toList.drop (k + 1))) = ⟨3, ⟨bs.toArray⟩, 0, (k : Int), (m : Int) + 1, 0, 0⟩ by
            unfold txRes; rw [htx, (show s.data.toList.drop m = 34 :: s.data.toList.drop (m + 1) by rw [drop_at s m hlt, (bv_eq (k := 34) (by omega)).1 (beq_iff_eq.1 e1)]; rfl), tx_quote]
            simp only [TR.app, resT, List.append_nil]; congr 1; omega)
          obtain ⟨⟨x0, x1, x2, x3, y0, y1, fx, fy⟩, bw⟩ := unhide HBX wr hbel
          have hcv := conv_own hown hbs
          clear htx hnil hown hbs HBX
          go_wp2_with fail
          refine bodyPost_ret (v := TV.val ⟨3, ⟨bs.toArray⟩, 0, (k : Int), (m : Int) + 1, 0, 0⟩) (by simp [results, Tryz.results45, go_sem, x0, x1, x2, x3, y0, y1]) rfl ?_
          exact ⟨ret_tv (unhide H).symm, six_below bw (Nat.le_refl _) (Nat.le_succ _) _ _ _ _ _ _⟩
      | false =>
        have n1 := beq_eq_false_iff_ne.1 e1
        cases e2 : ((s[m].toNat : Int) == 10) with
        | true =>
          have H := hide (show resT k (txRes (s.data.toList.drop (k + 1))) = ⟨0, ⟨#[]⟩, 0, 0, 0, 7, (m : Int)⟩ by
            unfold txRes; rw [htx, (show s.data.toList.drop m = 10 :: s.data.toList.drop (m + 1) by rw [drop_at s m hlt, (bv_eq (k := 10) (by omega)).1 (beq_iff_eq.1 e2)]; rfl), tx_line]
            simp only [TR.app, resT]; congr 1; omega)
          clear htx hnil hown
          go_wp2_with fail
          refine (fault_any _ _ _).mono ?_
          rintro e w2 ⟨rfl, b2⟩
          obtain ⟨⟨x0, x1, x2, x3, y0, y1, fx, fy⟩, bw⟩ := unhide HBX w2 (hbel.trans (b2.mono (by omega)))
          clear HBX
          go_wp2_with fail
          refine bodyPost_ret (v := TV.val ⟨0, ⟨#[]⟩, 0, 0, 0, 7, (m : Int)⟩) (by simp [results, Tryz.results45, go_sem, x0, x1, x2, x3, y0, y1]) rfl ?_
          exact ⟨ret_tv (unhide H).symm, six_below bw (Nat.le_refl _) (Nat.le_succ _) _ _ _ _ _ _⟩
        | false =>
          have n2 := beq_eq_false_iff_ne.1 e2
          cases e3 : ((s[m].toNat : Int) == 92) with
          | true =>
            have hd := esc_at hlt (beq_iff_eq.1 e3)
            by_cases h2 : m + 1 < s.size
            · cases f1 : ((s[m + 1].toNat : Int) == 34) with
              | true =>
                have ec : s[m + 1] = 34 := (bv_eq (k := 34) (by omega)).1 (beq_iff_eq.1 f1)
                have HEC := hide ec
                clear ec
                have HT := hide (show txScan (s.data.toList.drop m) = (txScan (s.data.toList.drop (m + 2))).pre s[m + 1] 2 by
                  rw [hd, drop_at s (m + 1) h2, tx_esc (show esc s[m + 1] = some s[m + 1] from by rw [unhide HEC]; rfl)])
                clear hd htx hnil
                go_wp2_with (at_builtin; refine wpList_append_own _ rfl _ _ 104 rfl (w.heap.size + 2) 5 i0 (.int .u8 0) 1 1 Tryz.underlying104 (unhide HI).1 (unhide HI).2.1 (unhide HI).2.2.1 (unhide HI).2.2.2 rfl (by decide) _ _ _ rfl (hown.alloc _) ⟨_, 0, none⟩ 1 1 [.int .u8 (s[m + 1].toNat : Int)] rfl rfl (byte_cell _ _) (byte_one _) (by unfold maxLen; omega) (by omega) (by simp; omega) ?_; intro v' w3 hown' hgrow _)
                go_roundw
                case rel =>
                  have := tx_next (n := 2) (c := s[m + 1]) rfl (by have := unhide HW0; omega) (unhide HH) (by omega) (by omega) (unhide HT) hown' hgrow
                  rw [show ((m + 2 : Nat) : Int) = (m : Int) + 1 + 1 by omega] at this; exact this
                case measure => simp [intOf]; omega
              | false =>
                cases f2 : ((s[m + 1].toNat : Int) == 92) with
                | true =>
                  have ec : s[m + 1] = 92 := (bv_eq (k := 92) (by omega)).1 (beq_iff_eq.1 f2)
                  have HEC := hide ec
                  clear ec
                  have HT := hide (show txScan (s.data.toList.drop m) = (txScan (s.data.toList.drop (m + 2))).pre s[m + 1] 2 by
                    rw [hd, drop_at s (m + 1) h2, tx_esc (show esc s[m + 1] = some s[m + 1] from by rw [unhide HEC]; rfl)])
                  clear hd htx hnil
                  go_wp2_with (at_builtin; refine wpList_append_own _ rfl _ _ 104 rfl (w.heap.size + 2) 5 i0 (.int .u8 0) 1 1 Tryz.underlying104 (unhide HI).1 (unhide HI).2.1 (unhide HI).2.2.1 (unhide HI).2.2.2 rfl (by decide) _ _ _ rfl (hown.alloc _) ⟨_, 0, none⟩ 1 1 [.int .u8 (s[m + 1].toNat : Int)] rfl rfl (byte_cell _ _) (byte_one _) (by unfold maxLen; omega) (by omega) (by simp; omega) ?_; intro v' w3 hown' hgrow _)
                  go_roundw
                  case rel =>
                    have := tx_next (n := 2) (c := s[m + 1]) rfl (by have := unhide HW0; omega) (unhide HH) (by omega) (by omega) (unhide HT) hown' hgrow
                    rw [show ((m + 2 : Nat) : Int) = (m : Int) + 1 + 1 by omega] at this; exact this
                  case measure => simp [intOf]; omega
                | false =>
                  cases f3 : ((s[m + 1].toNat : Int) == 110) with
                  | true =>
                    have ec : s[m + 1] = 110 := (bv_eq (k := 110) (by omega)).1 (beq_iff_eq.1 f3)
                    have HEC := hide ec
                    clear ec
                    have HT := hide (show txScan (s.data.toList.drop m) = (txScan (s.data.toList.drop (m + 2))).pre 10 2 by
                      rw [hd, drop_at s (m + 1) h2, tx_esc (show esc s[m + 1] = some 10 from by rw [unhide HEC]; rfl)])
                    clear hd htx hnil
                    go_wp2_with (at_builtin; refine wpList_append_own _ rfl _ _ 104 rfl (w.heap.size + 2) 5 i0 (.int .u8 0) 1 1 Tryz.underlying104 (unhide HI).1 (unhide HI).2.1 (unhide HI).2.2.1 (unhide HI).2.2.2 rfl (by decide) _ _ _ rfl (hown.alloc _) ⟨_, 0, none⟩ 1 1 [.int .u8 10] rfl rfl (byte_cell _ _) (byte_one _) (by unfold maxLen; omega) (by omega) (by simp; omega) ?_; intro v' w3 hown' hgrow _)
                    go_roundw
                    case rel =>
                      have := tx_next (n := 2) (c := 10) rfl (by have := unhide HW0; omega) (unhide HH) (by omega) (by omega) (unhide HT) hown' hgrow
                      rw [show ((m + 2 : Nat) : Int) = (m : Int) + 1 + 1 by omega] at this; exact this
                    case measure => simp [intOf]; omega
                  | false =>
                    cases f4 : ((s[m + 1].toNat : Int) == 116) with
                    | true =>
                      have ec : s[m + 1] = 116 := (bv_eq (k := 116) (by omega)).1 (beq_iff_eq.1 f4)
                      have HEC := hide ec
                      clear ec
                      have HT := hide (show txScan (s.data.toList.drop m) = (txScan (s.data.toList.drop (m + 2))).pre 9 2 by
                        rw [hd, drop_at s (m + 1) h2, tx_esc (show esc s[m + 1] = some 9 from by rw [unhide HEC]; rfl)])
                      clear hd htx hnil
                      go_wp2_with (at_builtin; refine wpList_append_own _ rfl _ _ 104 rfl (w.heap.size + 2) 5 i0 (.int .u8 0) 1 1 Tryz.underlying104 (unhide HI).1 (unhide HI).2.1 (unhide HI).2.2.1 (unhide HI).2.2.2 rfl (by decide) _ _ _ rfl (hown.alloc _) ⟨_, 0, none⟩ 1 1 [.int .u8 9] rfl rfl (byte_cell _ _) (byte_one _) (by unfold maxLen; omega) (by omega) (by simp; omega) ?_; intro v' w3 hown' hgrow _)
                      go_roundw
                      case rel =>
                        have := tx_next (n := 2) (c := 9) rfl (by have := unhide HW0; omega) (unhide HH) (by omega) (by omega) (unhide HT) hown' hgrow
                        rw [show ((m + 2 : Nat) : Int) = (m : Int) + 1 + 1 by omega] at this; exact this
                      case measure => simp [intOf]; omega
                    | false =>
                      have g1 := beq_eq_false_iff_ne.1 f1
                      have g2 := beq_eq_false_iff_ne.1 f2
                      have g3 := beq_eq_false_iff_ne.1 f3
                      have g4 := beq_eq_false_iff_ne.1 f4
                      have hno : ∀ d u, s.data.toList.drop (m + 1) = d :: u → esc d = none := fun d u h => by
                        rw [drop_at s (m + 1) h2] at h
                        injection h with h _
                        rw [← h]
                        unfold esc
                        rw [if_neg (by rintro (e | e); · exact g1 (by rw [e]; rfl)
                                       · exact g2 (by rw [e]; rfl)), if_neg (fun e => g3 (by rw [e]; rfl)), if_neg (fun e => g4 (by rw [e]; rfl))]
                      have H := hide (show resT k (txRes (s.data.toList.drop (k + 1))) = ⟨0, ⟨#[]⟩, 0, 0, 0, 7, (m : Int)⟩ by
                        unfold txRes; rw [htx, hd, tx_noesc _ hno]
                        simp only [TR.app, resT]; congr 1; omega)
                      clear htx hnil hown hd hno
                      go_wp2_with fail
                      refine (fault_any _ _ _).mono ?_
                      rintro e w2 ⟨rfl, b2⟩
                      obtain ⟨⟨x0, x1, x2, x3, y0, y1, fx, fy⟩, bw⟩ := unhide HBX w2 (hbel.trans (b2.mono (by omega)))
                      clear HBX
                      go_wp2_with fail
                      refine bodyPost_ret (v := TV.val ⟨0, ⟨#[]⟩, 0, 0, 0, 7, (m : Int)⟩) (by simp [results, Tryz.results45, go_sem, x0, x1, x2, x3, y0, y1]) rfl ?_
                      exact ⟨ret_tv (unhide H).symm, six_below bw (Nat.le_refl _) (Nat.le_succ _) _ _ _ _ _ _⟩
            · have hno : ∀ d u, s.data.toList.drop (m + 1) = d :: u → esc d = none := fun d u h => by rw [drop_end s (m + 1) (by omega)] at h; cases h
              have H := hide (show resT k (txRes (s.data.toList.drop (k + 1))) = ⟨0, ⟨#[]⟩, 0, 0, 0, 7, (m : Int)⟩ by
                unfold txRes; rw [htx, hd, tx_noesc _ hno]
                simp only [TR.app, resT]; congr 1; omega)
              clear htx hnil hown hd hno
              go_wp2_with fail
              refine (fault_any _ _ _).mono ?_
              rintro e w2 ⟨rfl, b2⟩
              obtain ⟨⟨x0, x1, x2, x3, y0, y1, fx, fy⟩, bw⟩ := unhide HBX w2 (hbel.trans (b2.mono (by omega)))
              clear HBX
              go_wp2_with fail
              refine bodyPost_ret (v := TV.val ⟨0, ⟨#[]⟩, 0, 0, 0, 7, (m : Int)⟩) (by simp [results, Tryz.results45, go_sem, x0, x1, x2, x3, y0, y1]) rfl ?_
              exact ⟨ret_tv (unhide H).symm, six_below bw (Nat.le_refl _) (Nat.le_succ _) _ _ _ _ _ _⟩
          | false =>
            have n3 := beq_eq_false_iff_ne.1 e3
            have HT := hide (show txScan (s.data.toList.drop m) = (txScan (s.data.toList.drop (m + 1))).pre s[m] 1 by
              rw [drop_at s m hlt, tx_plain (fun e => n1 (by rw [e]; rfl)) (fun e => n2 (by rw [e]; rfl)) (fun e => n3 (by rw [e]; rfl))])
            clear htx hnil
            go_wp2_with (at_builtin; refine wpList_append_own _ rfl _ _ 104 rfl (w.heap.size + 2) 5 i0 (.int .u8 0) 1 1 Tryz.underlying104 (unhide HI).1 (unhide HI).2.1 (unhide HI).2.2.1 (unhide HI).2.2.2 rfl (by decide) _ _ _ rfl (hown.alloc _) ⟨_, 0, none⟩ 1 1 [.int .u8 (s[m].toNat : Int)] rfl rfl (byte_cell _ _) (byte_one _) (by unfold maxLen; omega) (by omega) (by simp; omega) ?_; intro v' w3 hown' hgrow _)
            go_roundw
            case rel =>
              have := tx_next (n := 1) (c := s[m]) rfl (by have := unhide HW0; omega) (unhide HH) (by omega) (by omega) (unhide HT) hown' hgrow
              simpa using this
            case measure => simp [intOf]; omega
    · have H := hide (show resT k (txRes (s.data.toList.drop (k + 1))) = ⟨0, ⟨#[]⟩, 0, 0, 0, 7, (k : Int)⟩ by
        unfold txRes; rw [htx, drop_end s m (by omega)]
        simp [txScan, TR.app, resT])
      clear htx hnil hown
      go_wp2_with fail
      refine (fault_any _ _ _).mono ?_
      rintro e w2 ⟨rfl, b2⟩
      obtain ⟨⟨x0, x1, x2, x3, y0, y1, fx, fy⟩, bw⟩ := unhide HBX w2 (hbel.trans (b2.mono (by omega)))
      clear HBX
      go_wp2_with fail
      refine bodyPost_ret (v := TV.val ⟨0, ⟨#[]⟩, 0, 0, 0, 7, (k : Int)⟩) (by simp [results, Tryz.results45, go_sem, x0, x1, x2, x3, y0, y1]) rfl ?_
      exact ⟨ret_tv (unhide H).symm, six_below bw (Nat.le_refl _) (Nat.le_succ _) _ _ _ _ _ _⟩
end Go.Proofs.YtdjehbdpcdikkaaGreatDoor
