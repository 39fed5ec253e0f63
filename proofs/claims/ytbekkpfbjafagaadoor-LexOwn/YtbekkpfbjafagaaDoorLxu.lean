/- Walks of the document's fault and gap. -/
import Derived.Test.YtbekkpfbjafagaaDoorLxo
namespace Go.Proofs.YtbekkpfbjafagaaDoor
open Go.RowKit

set_option maxRecDepth 100000 in
set_option maxHeartbeats 1000000 in
theorem fault_any (why a : Int) (w : World) :
    Calls Tryd.prog 19 #[.int .i64 why, .int .i64 a] w fun e w' => e = .returned (.agg #[.int .i64 why, .int .i64 a]) ∧ Below w.heap.size w w' := by
  go_enter Tryd.func19, Tryd.ntmps19
  go_wp2_with fail
  refine bodyPost_ret (v := .agg #[.int .i64 why, .int .i64 a]) (by simp [results, Tryd.results19, go_sem]) rfl ?_
  exact ⟨rfl, (Below.refl _ w).alloc (Nat.le_refl _) _⟩

/-- What the document's gap answers. -/
def gapV (k : Nat) : G → Int
  | .none => (k : Int)
  | .gap n => (k : Int) + (n : Int)
  | .never => -1
theorem ln_at {s : ByteArray} {k m : Nat} (h : m < s.size) (hd : ¬ bv s[m] = 10) (hh : k + lnLen (s.data.toList.drop k) = m + lnLen (s.data.toList.drop m)) :
    k + lnLen (s.data.toList.drop k) = (m + 1) + lnLen (s.data.toList.drop (m + 1)) := by
  rw [drop_at s m h] at hh
  have : lnLen (s[m] :: s.data.toList.drop (m + 1)) = lnLen (s.data.toList.drop (m + 1)) + 1 := by
    unfold lnLen
    rw [if_neg (fun e => hd (by rw [e]; rfl))]
    cases s.data.toList.drop (m + 1) <;> rfl
  omega
theorem ln_end {s : ByteArray} {k m : Nat} (h : ∀ hm : m < s.size, bv s[m] = 10) (hh : k + lnLen (s.data.toList.drop k) = m + lnLen (s.data.toList.drop m)) : k + lnLen (s.data.toList.drop k) = m := by
  by_cases hm : m < s.size
  · have e : s[m] = 10 := (bv_eq (k := 10) (by omega)).1 (h hm)
    rw [drop_at s m hm, e] at hh
    simp [lnLen] at hh
    exact hh
  · rw [drop_end s m (by omega)] at hh
    exact hh
theorem ce_at {s : ByteArray} {m : Nat} (h : m < s.size) (hp : pre [42, 47] (s.data.toList.drop m) = false) : cEnd (s.data.toList.drop m) = (cEnd (s.data.toList.drop (m + 1))).map (· + 1) := by
  rw [drop_at s m h] at hp ⊢
  rw [cEnd, if_neg (by rw [hp]; simp)]
theorem ce_hit {s : ByteArray} {m : Nat} (h : m < s.size) (hp : pre [42, 47] (s.data.toList.drop m) = true) : cEnd (s.data.toList.drop m) = some 0 := by
  rw [drop_at s m h] at hp ⊢
  rw [cEnd, if_pos hp]
/-- The comment's end, looked for from k on, up to m. -/
def CeAt (s : ByteArray) (k m : Nat) : Prop := k ≤ m ∧ m ≤ s.size ∧ cEnd (s.data.toList.drop k) = (cEnd (s.data.toList.drop m)).map (· + (m - k))
theorem CeAt.step {s : ByteArray} {k m : Nat} (h : CeAt s k m) (hm : m < s.size) (hp : pre [42, 47] (s.data.toList.drop m) = false) : CeAt s k (m + 1) := by
  obtain ⟨h1, h2, h3⟩ := h
  refine ⟨by omega, by omega, ?_⟩
  rw [h3, ce_at hm hp, Option.map_map]
  cases cEnd (s.data.toList.drop (m + 1)) with
  | none => rfl
  | some j => simp; omega

set_option maxHeartbeats 4000000 in
theorem rgap_any (s : ByteArray) (k : Nat) (hk : k < s.size) (hs : s.size ≤ 140737488355328) (w : World) :
    Calls Tryd.prog 20 #[.string s, .int .i64 (k : Int)] w fun e w' => e = .returned (.int .i64 (gapV k (gapAt (s.data.toList.drop k)))) ∧ w' = w := by
  cases hb : isB (s[k].toNat : Int) with
  | true =>
    have H := hide (show gapV k (gapAt (s.data.toList.drop k)) = (k : Int) + 1 by rw [gap_blank hk hb]; rfl)
    have hb' : (s[k].toNat : Int) = 32 ∨ (s[k].toNat : Int) = 9 ∨ (s[k].toNat : Int) = 10 ∨ (s[k].toNat : Int) = 13 := by
      simp only [isB, Bool.or_eq_true, decide_eq_true_eq] at hb; omega
    go_enter Tryd.func20, Tryd.ntmps20
    rcases hb' with e | e | e | e
    all_goals
      go_wp2_with fail
      go_ret
      exact ⟨ret_int (unhide H).symm, rfl⟩
  | false =>
    have hb' : ¬ (s[k].toNat : Int) = 32 ∧ ¬ (s[k].toNat : Int) = 9 ∧ ¬ (s[k].toNat : Int) = 10 ∧ ¬ (s[k].toNat : Int) = 13 := by
      simp only [isB, Bool.or_eq_false_iff, decide_eq_false_iff_not] at hb; omega
    obtain ⟨n1, n2, n3, n4⟩ := hb'
    have m1 : ((s[k].toNat : Int) == 32) = false := beq_eq_false_iff_ne.2 n1
    have m2 : ((s[k].toNat : Int) == 9) = false := beq_eq_false_iff_ne.2 n2
    have m3 : ((s[k].toNat : Int) == 10) = false := beq_eq_false_iff_ne.2 n3
    have m4 : ((s[k].toNat : Int) == 13) = false := beq_eq_false_iff_ne.2 n4
    clear n1 n2 n4
    cases hp : pre [47, 47] (s.data.toList.drop k) with
    | true =>
      have HP := hide hp
      have H := hide (show gapV k (gapAt (s.data.toList.drop k)) = (k : Int) + (lnLen (s.data.toList.drop k) : Int) by rw [gap_line hk hb hp]; rfl)
      clear hp
      go_enter Tryd.func20, Tryd.ntmps20
      go_wp2_with (go_at_call 39; refine (at_is s _ k ⟨#[47, 47]⟩ true rfl (unhide HP) (by omega) hs (by decide) _).mono ?_; rintro e w' ⟨rfl, rfl⟩)
      go_loop [1] (fun i => ∃ m : Nat, i = .int .i64 (m : Int) ∧ m ≤ s.size ∧ Hid (k + lnLen (s.data.toList.drop k) = m + lnLen (s.data.toList.drop m))) (fun i => s.size - (intOf i).toNat)
      case atStart => exact ⟨k, rfl, by omega, hide rfl⟩
      case round =>
        obtain ⟨m, rfl, hm, HH⟩ := hrel
        by_cases hlt : m < s.size
        · cases h10 : ((s[m].toNat : Int) != 10) with
          | true =>
            go_wp2_with fail
            go_round
            case rel => exact ⟨m + 1, by go_num, by omega, hide (ln_at hlt (bne_iff_ne.1 h10) (unhide HH))⟩
            case measure => simp [intOf]; omega
          | false =>
            go_wp2_with fail
            go_ret
            have e10 : (s[m].toNat : Int) = 10 := by simpa using h10
            exact ⟨ret_int (by rw [unhide H]; have := ln_end (fun _ => e10) (unhide HH); omega), rfl⟩
        · go_wp2_with fail
          go_ret
          exact ⟨ret_int (by rw [unhide H]; have := ln_end (fun h => absurd h hlt) (unhide HH); omega), rfl⟩
    | false =>
      cases hq : pre [47, 42] (s.data.toList.drop k) with
      | false =>
        have HP := hide hp
        have HQ := hide hq
        have H := hide (show gapV k (gapAt (s.data.toList.drop k)) = (k : Int) by rw [gap_not hk hb hp hq]; rfl)
        clear hp hq
        go_enter Tryd.func20, Tryd.ntmps20
        go_wp2_with fail
        refine (at_is s _ k ⟨#[47, 47]⟩ false rfl (unhide HP) (by omega) hs (by decide) _).mono ?_
        rintro e w' ⟨rfl, rfl⟩
        go_wp2_with fail
        refine (at_is s _ k ⟨#[47, 42]⟩ false rfl (unhide HQ) (by omega) hs (by decide) _).mono ?_
        rintro e w' ⟨rfl, rfl⟩
        go_wp2_with fail
        go_ret
        exact ⟨ret_int (unhide H).symm, rfl⟩
      | true =>
        have HP := hide hp
        have HQ := hide hq
        have h2 := pre_two hq
        have H := hide (show gapV k (gapAt (s.data.toList.drop k)) = match cEnd (s.data.toList.drop (k + 2)) with | some n => (k : Int) + ((n + 4 : Nat) : Int) | none => -1 by
          rw [gap_comm hk hb hp hq]; unfold cGap; cases cEnd (s.data.toList.drop (k + 2)) <;> rfl)
        clear hp hq
        go_enter Tryd.func20, Tryd.ntmps20
        go_wp2_with fail
        refine (at_is s _ k ⟨#[47, 47]⟩ false rfl (unhide HP) (by omega) hs (by decide) _).mono ?_
        rintro e w' ⟨rfl, rfl⟩
        go_wp2_with fail
        refine (at_is s _ k ⟨#[47, 42]⟩ true rfl (unhide HQ) (by omega) hs (by decide) _).mono ?_
        rintro e w' ⟨rfl, rfl⟩
        go_wp2_with fail
        go_loop [6] (fun i => ∃ m : Nat, i = .int .i64 (m : Int) ∧ Hid (CeAt s (k + 2) m)) (fun i => s.size - (intOf i).toNat)
        case atStart => exact ⟨k + 2, by go_num, hide ⟨Nat.le_refl _, h2, by rw [Nat.sub_self]; cases cEnd (s.data.toList.drop (k + 2)) <;> rfl⟩⟩
        case round =>
          obtain ⟨m, rfl, HH⟩ := hrel
          have hm := (unhide HH).2.1
          have hkm := (unhide HH).1
          by_cases hlt : m < s.size
          · cases hr : pre [42, 47] (s.data.toList.drop m) with
            | true =>
              have HR := hide hr
              clear hr
              go_wp2_with (go_at_call 39; refine (at_is s _ m ⟨#[42, 47]⟩ true rfl (unhide HR) (by omega) hs (by decide) _).mono ?_; rintro e w' ⟨rfl, rfl⟩)
              go_ret
              refine ⟨ret_int ?_, rfl⟩
              rw [unhide H, (unhide HH).2.2, ce_hit hlt (unhide HR), Option.map_some]
              show (m : Int) + 2 = (k : Int) + ((0 + (m - (k + 2)) + 4 : Nat) : Int)
              omega
            | false =>
              have HR := hide hr
              clear hr
              go_wp2_with (go_at_call 39; refine (at_is s _ m ⟨#[42, 47]⟩ false rfl (unhide HR) (by omega) hs (by decide) _).mono ?_; rintro e w' ⟨rfl, rfl⟩)
              go_round
              case rel => exact ⟨m + 1, by go_num, hide ((unhide HH).step hlt (unhide HR))⟩
              case measure => simp [intOf]; omega
          · go_wp2_with fail
            go_ret
            refine ⟨ret_int ?_, rfl⟩
            rw [unhide H, (unhide HH).2.2, drop_end s m (by omega)]
            rfl
end Go.Proofs.YtbekkpfbjafagaaDoor
