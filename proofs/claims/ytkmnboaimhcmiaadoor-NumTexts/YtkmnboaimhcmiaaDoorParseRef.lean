/- Walk of the document's Parse: it answers the plain function of the text's bytes. -/
import Derived.Test.YtkmnboaimhcmiaaDoorParse
import Derived.Handy
namespace Go.Proofs.YtkmnboaimhcmiaaDoor
open Go.ChangeShapes Go.WideShapes Go.ChangeAt Go.RowKit

def valAt (t : ByteArray) (k : Nat) : Nat := valFrom 0 (t.data.toList.take k)
theorem valAt_zero (t : ByteArray) : valAt t 0 = 0 := rfl
theorem valAt_succ (t : ByteArray) (k : Nat) (h : k < t.size) : valAt t (k + 1) = valAt t k * 10 + (t[k].toNat - 48) := by
  unfold valAt; rw [take_snoc t k h, valFrom_snoc]
theorem valAt_all (t : ByteArray) : valAt t t.size = valFrom 0 t.data.toList := by
  unfold valAt; rw [List.take_of_length_le (by rw [Array.length_toList]; exact Nat.le_refl _)]
theorem valFrom_app : ∀ (l r : List UInt8) (acc : Nat), valFrom acc (l ++ r) = valFrom (valFrom acc l) r
  | [], _, _ => rfl
  | c :: l, r, acc => valFrom_app l r (acc * 10 + (c.toNat - 48))
theorem valAt_le (t : ByteArray) (k : Nat) : valAt t k ≤ valFrom 0 t.data.toList := by
  have e : t.data.toList = t.data.toList.take k ++ t.data.toList.drop k := (List.take_append_drop k _).symm
  unfold valAt
  rw [congrArg (valFrom 0) e, valFrom_app]
  exact valFrom_le _ _
theorem dig_at {t : ByteArray} (h : allDig t.data.toList = true) (k : Nat) (hk : k < t.size) : 48 ≤ (t[k].toNat : Int) ∧ (t[k].toNat : Int) ≤ 57 := by
  have := dig_iff.1 (List.all_eq_true.1 h t[k] (by
    have : t[k] = t.data.toList[k]'(by simpa using hk) := rfl
    rw [this]; exact List.getElem_mem _))
  omega

theorem tdiv_least {x : Int} (h1 : 48 ≤ x) (h2 : x ≤ 57) : (-9223372036854775808 + (x - 48)).tdiv 10 = -((9223372036854775808 - (x - 48)) / 10) := by
  rw [show (-9223372036854775808 + (x - 48) : Int) = -(9223372036854775808 - (x - 48)) by omega, Int.neg_tdiv, Int.tdiv_eq_ediv_of_nonneg (by omega)]

theorem form_of {l : List UInt8} (h0 : ¬ l = [48]) (hne : trim l ≠ []) (hh : (trim l).head? ≠ some 48) : numForm l = allDig (trim l) := by
  cases ht : trim l with
  | nil => exact absurd ht hne
  | cons c r =>
    rw [ht] at hh
    exact form_cons h0 ht (fun e => hh (by rw [e]; rfl))

set_option maxHeartbeats 2000000 in
theorem rparse_pos (t : ByteArray) (hs : t.size ≤ maxLen) (h0 : 0 < t.size) (h45 : ((t[0].toNat : Int) == 45) = false) (h48 : ¬ (t[0].toNat : Int) = 48) (w : World)
    (P : Int × Int) (HP : Hid (allDig t.data.toList = false → P = (0, 7))) (HV : Hid (allDig t.data.toList = true → (valFrom 0 t.data.toList : Int) ≤ 9223372036854775807 → P = ((valFrom 0 t.data.toList : Int), 0))) (HO : Hid (allDig t.data.toList = true → ¬ (valFrom 0 t.data.toList : Int) ≤ 9223372036854775807 → P = (0, 8))) :
    Calls Tryd.prog 26 #[.string t] w fun e w' => e = .returned (.tuple #[.int .i64 P.1, .int .i64 P.2]) ∧ w' = w := by
  unfold maxLen at hs
  have hts2 : t.size ≤ 9223372036854775807 := by omega
  have hemp : ¬ t = ByteArray.empty := by rintro rfl; exact absurd h0 (by decide)
  have hz0 : ((t.size : Int) == 0) = false := by rw [beq_eq_false_iff_ne]; omega
  go_enter Tryd.func26, Tryd.ntmps26
  go_wp2
  go_loop [6] (fun i => ∃ k : Nat, k ≤ t.size ∧ i = .int .i64 k ∧ Hid (allDig (t.data.toList.take k) = true)) (fun i => t.size - (intOf i).toNat)
  case atStart => exact ⟨0, Nat.zero_le _, rfl, rfl⟩
  case round =>
    obtain ⟨k, hk, rfl, hd⟩ := hrel
    by_cases hlt : k < t.size
    · have hts : Hid (t.data.toList.take (k + 1) = t.data.toList.take k ++ [t[k]]) := take_snoc t k hlt
      have hbad : Hid (¬ (48 ≤ (t[k].toNat : Int) ∧ (t[k].toNat : Int) ≤ 57) → allDig t.data.toList = false) := all_bad hlt
      go_wp2
      · go_ret2
        exact ⟨ret2 (HP.out (hbad.out (by omega))), rfl⟩
      · go_round
        case rel => exact ⟨k + 1, by omega, by go_num, by show allDig _ = true; rw [hts.out]; exact all_snoc hd.out (by omega) (by omega)⟩
        case measure => simp [intOf]; omega
      · go_ret2
        exact ⟨ret2 (HP.out (hbad.out (by omega))), rfl⟩
    · have hall : Hid (allDig t.data.toList = true) := by
        have e : k = t.size := by omega
        subst e
        exact all_take hd.out
      clear hd
      go_wp2
      go_loop [7, 8] (fun nv i => ∃ (k : Nat) (a : Int), k ≤ t.size ∧ i = .int .i64 k ∧ nv = .int .i64 a ∧ 0 ≤ a ∧ a ≤ 9223372036854775807 ∧ Hid (a = (valAt t k : Int))) (fun _ i => t.size - (intOf i).toNat)
      case atStart => exact ⟨0, 0, Nat.zero_le _, rfl, rfl, by omega, by omega, rfl⟩
      case round =>
        obtain ⟨k2, a, hk2, rfl, rfl, a1, a2, hval⟩ := hrel
        by_cases hlt2 : k2 < t.size
        · have hdg := dig_at hall.out k2 hlt2
          obtain ⟨g1, g2⟩ := hdg
          have hsucc : Hid ((valAt t (k2 + 1) : Int) = valAt t k2 * 10 + (t[k2].toNat - 48)) := by show (_ : Int) = _; rw [valAt_succ t k2 hlt2]; omega
          have hle : Hid (valAt t (k2 + 1) ≤ valFrom 0 t.data.toList) := valAt_le t (k2 + 1)
          go_wp2
          · go_ret2
            refine ⟨ret2 (HO.out hall.out ?_), rfl⟩
            have z1 := hval.out
            have z2 := hsucc.out
            have z3 := hle.out
            omega
          · have z1 := hval.out
            have z2 := hsucc.out
            go_round
            case rel => exact ⟨k2 + 1, a * 10 + (t[k2].toNat - 48), by omega, by go_num, rfl, by omega, by omega, by show _ = _; omega⟩
            case measure => simp [intOf]; omega
        · go_wp2
          go_ret2
          have e : k2 = t.size := by omega
          subst e
          have hv := hval.out
          rw [valAt_all] at hv
          exact ⟨ret2 (by rw [hv]; exact HV.out hall.out (by omega)), rfl⟩

set_option maxHeartbeats 2000000 in
theorem rparse_neg (s t : ByteArray) (hs : s.size ≤ maxLen) (hlt : 0 < s.size) (h45 : ((s[0].toNat : Int) == 45) = true) (hext : s.extract 1 s.size = t) (h0 : 0 < t.size) (h48 : ¬ (t[0].toNat : Int) = 48) (w : World)
    (P : Int × Int) (HP : Hid (allDig t.data.toList = false → P = (0, 7))) (HV : Hid (allDig t.data.toList = true → -9223372036854775808 ≤ -(valFrom 0 t.data.toList : Int) → P = (-(valFrom 0 t.data.toList : Int), 0))) (HO : Hid (allDig t.data.toList = true → ¬ -9223372036854775808 ≤ -(valFrom 0 t.data.toList : Int) → P = (0, 8))) :
    Calls Tryd.prog 26 #[.string s] w fun e w' => e = .returned (.tuple #[.int .i64 P.1, .int .i64 P.2]) ∧ w' = w := by
  unfold maxLen at hs
  have hts2 : t.size ≤ 9223372036854775807 := by have e : (s.extract 1 s.size).size = s.size - 1 := (by simp); rw [hext] at e; omega
  have hemp : ¬ t = ByteArray.empty := by rintro rfl; exact absurd h0 (by decide)
  have hz0 : ((t.size : Int) == 0) = false := by rw [beq_eq_false_iff_ne]; omega
  go_enter Tryd.func26, Tryd.ntmps26
  go_wp2
  go_loop [6] (fun i => ∃ k : Nat, k ≤ t.size ∧ i = .int .i64 k ∧ Hid (allDig (t.data.toList.take k) = true)) (fun i => t.size - (intOf i).toNat)
  case atStart => exact ⟨0, Nat.zero_le _, rfl, rfl⟩
  case round =>
    obtain ⟨k, hk, rfl, hd⟩ := hrel
    by_cases hlt : k < t.size
    · have hts : Hid (t.data.toList.take (k + 1) = t.data.toList.take k ++ [t[k]]) := take_snoc t k hlt
      have hbad : Hid (¬ (48 ≤ (t[k].toNat : Int) ∧ (t[k].toNat : Int) ≤ 57) → allDig t.data.toList = false) := all_bad hlt
      go_wp2
      · go_ret2
        exact ⟨ret2 (HP.out (hbad.out (by omega))), rfl⟩
      · go_round
        case rel => exact ⟨k + 1, by omega, by go_num, by show allDig _ = true; rw [hts.out]; exact all_snoc hd.out (by omega) (by omega)⟩
        case measure => simp [intOf]; omega
      · go_ret2
        exact ⟨ret2 (HP.out (hbad.out (by omega))), rfl⟩
    · have hall : Hid (allDig t.data.toList = true) := by
        have e : k = t.size := by omega
        subst e
        exact all_take hd.out
      clear hd
      go_wp2
      go_loop [7, 8] (fun nv i => ∃ (k : Nat) (a : Int), k ≤ t.size ∧ i = .int .i64 k ∧ nv = .int .i64 a ∧ -9223372036854775808 ≤ a ∧ a ≤ 0 ∧ Hid (a = -(valAt t k : Int))) (fun _ i => t.size - (intOf i).toNat)
      case atStart => exact ⟨0, 0, Nat.zero_le _, rfl, rfl, by omega, by omega, rfl⟩
      case round =>
        obtain ⟨k2, a, hk2, rfl, rfl, a1, a2, hval⟩ := hrel
        by_cases hlt2 : k2 < t.size
        · have hdg := dig_at hall.out k2 hlt2
          obtain ⟨g1, g2⟩ := hdg
          have hsucc : Hid ((valAt t (k2 + 1) : Int) = valAt t k2 * 10 + (t[k2].toNat - 48)) := by show (_ : Int) = _; rw [valAt_succ t k2 hlt2]; omega
          have hle : Hid (valAt t (k2 + 1) ≤ valFrom 0 t.data.toList) := valAt_le t (k2 + 1)
          have htd : Hid ((-9223372036854775808 + ((t[k2].toNat : Int) - 48)).tdiv 10 = -((9223372036854775808 - ((t[k2].toNat : Int) - 48)) / 10)) := tdiv_least g1 g2
          by_cases hov : a < (-9223372036854775808 + ((t[k2].toNat : Int) - 48)).tdiv 10
          · go_wp2
            go_ret2
            refine ⟨ret2 (HO.out hall.out ?_), rfl⟩
            have z0 := htd.out
            have z1 := hval.out
            have z2 := hsucc.out
            have z3 := hle.out
            rw [z0] at hov
            omega
          · go_wp2
            have z0 := htd.out
            have z1 := hval.out
            have z2 := hsucc.out
            go_round
            case rel =>
              rw [z0] at hov
              exact ⟨k2 + 1, a * 10 - (t[k2].toNat - 48), by omega, by go_num, congrArg (Value.int .i64) (by rw [wrap_fits (n := a * 10) (by unfold Fits; omega), wrap_fits (by unfold Fits; omega)]), by omega, by omega, by show _ = _; omega⟩
            case measure => simp [intOf]; omega
        · go_wp2
          go_ret2
          have e : k2 = t.size := by omega
          subst e
          have hv := hval.out
          rw [valAt_all] at hv
          exact ⟨ret2 (by rw [hv]; exact HV.out hall.out (by omega)), rfl⟩

theorem head_at {t : ByteArray} (h : 0 < t.size) : t.data.toList.head? = some t[0] := by
  rw [List.head?_eq_getElem?, List.getElem?_eq_getElem (by simpa using h)]; rfl
theorem toNat_eq {c : UInt8} {k : Nat} (hk : k < 256) : (c.toNat : Int) = k ↔ c = UInt8.ofNat k := by
  constructor
  · intro h
    exact UInt8.toNat_inj.1 (by rw [UInt8.toNat_ofNat', Nat.mod_eq_of_lt (by omega)]; omega)
  · rintro rfl
    rw [UInt8.toNat_ofNat', Nat.mod_eq_of_lt (by omega)]

set_option maxHeartbeats 1000000 in
theorem rparse_empty (w : World) : Calls Tryd.prog 26 #[.string ⟨#[]⟩] w fun e w' => e = .returned (.tuple #[.int .i64 0, .int .i64 7]) ∧ w' = w := by
  go_enter Tryd.func26, Tryd.ntmps26
  go_wp2
  go_ret2
  exact ⟨rfl, rfl⟩
set_option maxHeartbeats 1000000 in
theorem rparse_minus (w : World) : Calls Tryd.prog 26 #[.string ⟨#[45]⟩] w fun e w' => e = .returned (.tuple #[.int .i64 0, .int .i64 7]) ∧ w' = w := by
  go_enter Tryd.func26, Tryd.ntmps26
  go_wp2
  go_ret2
  exact ⟨rfl, rfl⟩
set_option maxHeartbeats 1000000 in
theorem rparse_zero (w : World) : Calls Tryd.prog 26 #[.string ⟨#[48]⟩] w fun e w' => e = .returned (.tuple #[.int .i64 0, .int .i64 0]) ∧ w' = w := by
  go_enter Tryd.func26, Tryd.ntmps26
  go_wp2
  go_rounds 2
  go_rounds 2
  go_ret2
  exact ⟨rfl, rfl⟩
set_option maxHeartbeats 1000000 in
theorem rparse_pos0 (t : ByteArray) (hs : t.size ≤ maxLen) (h0 : 0 < t.size) (h48 : (t[0].toNat : Int) = 48) (hne : (t.toList == [48]) = false) (w : World) :
    Calls Tryd.prog 26 #[.string t] w fun e w' => e = .returned (.tuple #[.int .i64 0, .int .i64 7]) ∧ w' = w := by
  unfold maxLen at hs
  have hemp : ¬ t = ByteArray.empty := by rintro rfl; exact absurd h0 (by decide)
  have hz0 : ((t.size : Int) == 0) = false := by rw [beq_eq_false_iff_ne]; omega
  go_enter Tryd.func26, Tryd.ntmps26
  go_wp2
  go_ret2
  exact ⟨rfl, rfl⟩
set_option maxHeartbeats 1000000 in
theorem rparse_neg0 (s t : ByteArray) (hs : s.size ≤ maxLen) (hlt : 0 < s.size) (h45 : ((s[0].toNat : Int) == 45) = true) (hext : s.extract 1 s.size = t) (h0 : 0 < t.size) (h48 : (t[0].toNat : Int) = 48) (hne : (s.toList == [48]) = false) (w : World) :
    Calls Tryd.prog 26 #[.string s] w fun e w' => e = .returned (.tuple #[.int .i64 0, .int .i64 7]) ∧ w' = w := by
  unfold maxLen at hs
  have hts2 : t.size ≤ 9223372036854775807 := by have e : (s.extract 1 s.size).size = s.size - 1 := (by simp); rw [hext] at e; omega
  have hemp : ¬ t = ByteArray.empty := by rintro rfl; exact absurd h0 (by decide)
  have hz0 : ((t.size : Int) == 0) = false := by rw [beq_eq_false_iff_ne]; omega
  go_enter Tryd.func26, Tryd.ntmps26
  go_wp2
  go_ret2
  exact ⟨rfl, rfl⟩
end Go.Proofs.YtkmnboaimhcmiaaDoor
