/- Walks of how two values stand: cmp.Compare, cmp.Or, term.order, Order, Same. -/
import Derived.Test.YtbfkcfhkccicoaaDoorOrd
import Derived.StillTailTactics
namespace Go.Proofs.YtbfkcfhkccicoaaDoor
open Go.RowKit

theorem binOp_string_gtr (t : TypeId) (a b : ByteArray) : binOp .gtr t (.string a) (.string b) = pure (.bool (Op.bytesLess b.toList a.toList)) := by
  have h : (!(Op.bytesLess a.toList b.toList || a.toList == b.toList)) = Op.bytesLess b.toList a.toList := (bytes_gtr a.toList b.toList).symm
  simp [binOp, Op.stringOp, ← h]
attribute [local go_sem] binOp_string_gtr

theorem nanI_any (n : Int) (w : World) : Calls Tryd.prog 59 #[.int .i64 n] w fun e w' => e = .returned (.bool false) ∧ w' = w := by
  go_enter Tryd.func59, Tryd.ntmps59
  go_wp2
  go_ret
  exact ⟨rfl, rfl⟩
theorem nanS_any (s : ByteArray) (w : World) : Calls Tryd.prog 60 #[.string s] w fun e w' => e = .returned (.bool false) ∧ w' = w := by
  go_enter Tryd.func60, Tryd.ntmps60
  go_wp2
  go_ret
  exact ⟨rfl, rfl⟩
theorem cmpI_any (a b : Int) (w : World) : Calls Tryd.prog 43 #[.int .i64 a, .int .i64 b] w fun e w' => e = .returned (.int .i64 (cmpI a b)) ∧ w' = w := by
  by_cases h1 : a < b
  · have H : Hid (cmpI a b = -1) := if_pos h1
    go_enter Tryd.func43, Tryd.ntmps43
    go_wp2_with (go_at_call 59; refine (nanI_any _ _).mono ?_; rintro e w' ⟨rfl, rfl⟩)
    go_ret
    exact ⟨ret_int H.out.symm, rfl⟩
  · by_cases h2 : b < a
    · have H : Hid (cmpI a b = 1) := (if_neg h1).trans (if_pos h2)
      go_enter Tryd.func43, Tryd.ntmps43
      go_wp2_with (go_at_call 59; refine (nanI_any _ _).mono ?_; rintro e w' ⟨rfl, rfl⟩)
      go_ret
      exact ⟨ret_int H.out.symm, rfl⟩
    · have H : Hid (cmpI a b = 0) := (if_neg h1).trans (if_neg h2)
      go_enter Tryd.func43, Tryd.ntmps43
      go_wp2_with (go_at_call 59; refine (nanI_any _ _).mono ?_; rintro e w' ⟨rfl, rfl⟩)
      go_ret
      exact ⟨ret_int H.out.symm, rfl⟩
theorem cmpS_any (a b : ByteArray) (w : World) : Calls Tryd.prog 44 #[.string a, .string b] w fun e w' => e = .returned (.int .i64 (cmpS a b)) ∧ w' = w := by
  cases h1 : Op.bytesLess a.toList b.toList
  · cases h2 : Op.bytesLess b.toList a.toList
    · have H : Hid (cmpS a b = 0) := by show cmpS a b = 0; unfold cmpS; rw [h1, h2]; rfl
      go_enter Tryd.func44, Tryd.ntmps44
      go_wp2_with (go_at_call 60; refine (nanS_any _ _).mono ?_; rintro e w' ⟨rfl, rfl⟩)
      go_ret
      exact ⟨ret_int H.out.symm, rfl⟩
    · have H : Hid (cmpS a b = 1) := by show cmpS a b = 1; unfold cmpS; rw [h1, h2]; rfl
      go_enter Tryd.func44, Tryd.ntmps44
      go_wp2_with (go_at_call 60; refine (nanS_any _ _).mono ?_; rintro e w' ⟨rfl, rfl⟩)
      go_ret
      exact ⟨ret_int H.out.symm, rfl⟩
  · have H : Hid (cmpS a b = -1) := by show cmpS a b = -1; unfold cmpS; rw [h1]; rfl
    go_enter Tryd.func44, Tryd.ntmps44
    go_wp2_with (go_at_call 60; refine (nanS_any _ _).mono ?_; rintro e w' ⟨rfl, rfl⟩)
    go_ret
    exact ⟨ret_int H.out.symm, rfl⟩
theorem rorder_any (a b : Int) (w : World) : Calls Tryd.prog 65 #[.int .i64 a, .int .i64 b] w fun e w' => e = .returned (.int .i64 (cmpI a b)) ∧ w' = w := by
  by_cases h1 : a < b
  · have H : Hid (cmpI a b = -1) := if_pos h1
    go_enter Tryd.func65, Tryd.ntmps65
    go_wp2_with fail
    go_ret
    exact ⟨ret_int H.out.symm, rfl⟩
  · by_cases h2 : b < a
    · have H : Hid (cmpI a b = 1) := (if_neg h1).trans (if_pos h2)
      go_enter Tryd.func65, Tryd.ntmps65
      go_wp2_with fail
      go_ret
      exact ⟨ret_int H.out.symm, rfl⟩
    · have H : Hid (cmpI a b = 0) := (if_neg h1).trans (if_neg h2)
      go_enter Tryd.func65, Tryd.ntmps65
      go_wp2_with fail
      go_ret
      exact ⟨ret_int H.out.symm, rfl⟩
theorem rtexts_any (a b : ByteArray) (w : World) : Calls Tryd.prog 66 #[.string a, .string b] w fun e w' => e = .returned (.int .i64 (cmpS a b)) ∧ w' = w := by
  cases h1 : Op.bytesLess a.toList b.toList
  · cases h2 : Op.bytesLess b.toList a.toList
    · have H : Hid (cmpS a b = 0) := by show cmpS a b = 0; unfold cmpS; rw [h1, h2]; rfl
      go_enter Tryd.func66, Tryd.ntmps66
      go_wp2_with fail
      go_ret
      exact ⟨ret_int H.out.symm, rfl⟩
    · have H : Hid (cmpS a b = 1) := by show cmpS a b = 1; unfold cmpS; rw [h1, h2]; rfl
      go_enter Tryd.func66, Tryd.ntmps66
      go_wp2_with fail
      go_ret
      exact ⟨ret_int H.out.symm, rfl⟩
  · have H : Hid (cmpS a b = -1) := by show cmpS a b = -1; unfold cmpS; rw [h1]; rfl
    go_enter Tryd.func66, Tryd.ntmps66
    go_wp2_with fail
    go_ret
    exact ⟨ret_int H.out.symm, rfl⟩

/-- cmp.Or of four numbers. -/
theorem or_any (x : Nat → Int) (w : World) (g cap : Nat) (hc : ∀ j, j < 4 → w.cell? ⟨g, j, .none⟩ = some (.int .i64 (x j))) :
    Calls Tryd.prog 42 #[.slice (some ⟨g, 0, .none⟩) 4 cap] w fun e w' => e = .returned (.int .i64 (firstTo x 4 0)) ∧ w' = w := by
  have HC := hide hc
  clear hc
  go_enter Tryd.func42, Tryd.ntmps42
  go_wp2_with fail
  go_loop [8] (fun i => ∃ k : Nat, k ≤ 4 ∧ i = .int .i64 k ∧ Hid (firstTo x k 0 = 0)) (fun i => 4 - (intOf i).toNat)
  case atStart => exact ⟨0, Nat.zero_le _, rfl, rfl⟩
  case round =>
    obtain ⟨k, hk, rfl, hz⟩ := hrel
    by_cases hlt : k < 4
    · have c0 := unhide HC k hlt
      by_cases h0 : x k = 0
      · have h1 : (x k != 0) = false := by simp [h0]
        have H0 := hide h0
        clear h0
        go_wp2_with fail
        go_round
        case rel => exact ⟨k + 1, by omega, by go_num, by show _ = _; simp only [firstTo]; rw [hz.out, if_pos rfl, unhide H0]⟩
        case measure => simp [intOf]; omega
      · have h1 : (x k != 0) = true := bne_iff_ne.2 h0
        have H0 := hide h0
        clear h0
        go_wp2_with fail
        go_ret
        refine ⟨ret_int ?_, rfl⟩
        have : ∀ m, k + 1 ≤ m → firstTo x m 0 = x k := fun m hm => by
          induction m with
          | zero => omega
          | succ m ih =>
            simp only [firstTo]
            by_cases e : m = k
            · subst e; rw [hz.out, if_pos rfl]
            · rw [ih (by omega), if_neg (unhide H0)]
        exact (this 4 (by omega)).symm
    · have : k = 4 := by omega
      subst this
      go_wp2_with fail
      go_ret
      exact ⟨ret_int hz.out.symm, rfl⟩
end Go.Proofs.YtbfkcfhkccicoaaDoor
