/- Walks of num.Parse and what it calls: it answers the plain function of the text's bytes. -/
import Derived.Test.YtbekkpfbjafagaaDoorChecked
import Derived.Test.YtbekkpfbjafagaaDoorShelfL
import Derived.Test.YtbekkpfbjafagaaDoorNmt
import Derived.WalkKit
import Derived.ProofKit
namespace Go.Proofs.YtbekkpfbjafagaaDoor.Num
open Go.ChangeShapes Go.WideShapes Go.ChangeAt Go.RowKit

theorem take_snoc (s : ByteArray) (k : Nat) (h : k < s.size) : s.data.toList.take (k + 1) = s.data.toList.take k ++ [s[k]] := by
  rw [List.take_succ_eq_append_getElem (by simpa using h)]; rfl
theorem ret_bool {a b : Bool} (h : a = b) : Ending.returned (.bool a) = .returned (.bool b) := by rw [h]
/-- 'All are digits', closed to the walk. -/
def allDig (l : List UInt8) : Bool := l.all dig
theorem all_take {s : ByteArray} (h : allDig (s.data.toList.take s.size) = true) : allDig s.data.toList = true := by
  have e : s.data.toList.take s.size = s.data.toList := List.take_of_length_le (by rw [Array.length_toList]; exact Nat.le_refl _)
  rwa [e] at h
theorem all_snoc {l : List UInt8} {c : UInt8} (h : allDig l = true) (h1 : 48 ≤ (c.toNat : Int)) (h2 : (c.toNat : Int) ≤ 57) : allDig (l ++ [c]) = true := by
  unfold allDig at *
  rw [List.all_append, h]
  simp [dig]
  omega
theorem all_bad {s : ByteArray} {k : Nat} (hk : k < s.size) (h : ¬ (48 ≤ (s[k].toNat : Int) ∧ (s[k].toNat : Int) ≤ 57)) : allDig s.data.toList = false := by
  rw [Bool.eq_false_iff]
  intro ha
  have := dig_iff.1 (List.all_eq_true.1 ha s[k] (by
    have : s[k] = s.data.toList[k]'(by simpa using hk) := rfl
    rw [this]; exact List.getElem_mem _))
  omega

set_option maxHeartbeats 400000 in
theorem allDigits_any (s : ByteArray) (w : World) (hs : s.size ≤ maxLen) :
    Calls Tryd.prog 62 #[.string s] w fun e w' => e = .returned (.bool (allDig s.data.toList)) ∧ w' = w := by
  unfold maxLen at hs
  go_enter Tryd.func62, Tryd.ntmps62
  go_wp2
  go_loop [6] (fun i => ∃ k : Nat, k ≤ s.size ∧ i = .int .i64 k ∧ Hid (allDig (s.data.toList.take k) = true)) (fun i => s.size - (intOf i).toNat)
  case atStart => exact ⟨0, Nat.zero_le _, rfl, rfl⟩
  case round =>
    obtain ⟨k, hk, rfl, hd⟩ := hrel
    by_cases hlt : k < s.size
    · have hts : Hid (s.data.toList.take (k + 1) = s.data.toList.take k ++ [s[k]]) := take_snoc s k hlt
      have hbad : Hid (¬ (48 ≤ (s[k].toNat : Int) ∧ (s[k].toNat : Int) ≤ 57) → allDig s.data.toList = false) := all_bad hlt
      go_wp2
      · go_ret
        exact ⟨ret_bool (hbad.out (by omega)).symm, rfl⟩
      · go_round
        case rel => exact ⟨k + 1, by omega, by go_num, by show allDig _ = true; rw [hts.out]; exact all_snoc hd.out (by omega) (by omega)⟩
        case measure => simp [intOf]; omega
      · go_ret
        exact ⟨ret_bool (hbad.out (by omega)).symm, rfl⟩
    · go_wp2
      go_ret
      refine ⟨ret_bool ?_, rfl⟩
      have : k = s.size := by omega
      subst this
      rw [all_take hd.out]

theorem size_list (l : List UInt8) : (⟨l.toArray⟩ : ByteArray).size = l.length := by simp [ByteArray.size]

theorem form_nil {l : List UInt8} (h0 : ¬ l = [48]) (h : trim l = []) : numForm l = false := by
  unfold numForm; rw [h]; simp [h0]
theorem form_cons0 {l r : List UInt8} (h0 : ¬ l = [48]) (h : trim l = 48 :: r) : numForm l = false := by
  unfold numForm; rw [h]; simp [h0]
theorem form_cons {l r : List UInt8} {c : UInt8} (h0 : ¬ l = [48]) (h : trim l = c :: r) (hc : ¬ c = 48) : numForm l = allDig (c :: r) := by
  have e1 : (l == [48]) = false := beq_eq_false_iff_ne.2 h0
  have e2 : ((some c : Option UInt8) != some 48) = true := bne_iff_ne.2 fun e => hc (Option.some.inj e)
  unfold numForm allDig
  rw [h]
  simp only [List.isEmpty_cons, List.head?_cons, e1, e2]
  simp
theorem trim_le (l : List UInt8) : (trim l).length ≤ l.length := by
  rcases trim_cases l with ⟨_, h⟩ | ⟨_, h⟩
  · have := congrArg List.length h
    simp at this; omega
  · rw [h]; exact Nat.le_refl _
theorem not48 {c : UInt8} (h : ¬ c = 48) : ¬ (c.toNat : Int) = 48 := fun e => h (UInt8.toNat_inj.1 (by
  have : c.toNat = 48 := by omega
  rw [this]; rfl))

set_option maxHeartbeats 400000 in
theorem isText_any (s : ByteArray) (w : World) (hs : s.size ≤ maxLen) :
    Calls Tryd.prog 54 #[.string s] w fun e w' => e = .returned (.bool (numForm s.data.toList)) ∧ w' = w := by
  by_cases h0 : s.data.toList = [48]
  · have e0 : (s.toList == [48]) = true := by rw [Lib.toList_data, h0]; rfl
    have H : Hid (numForm s.data.toList = true) := by rw [h0]; exact form_zero
    clear h0
    go_enter Tryd.func54, Tryd.ntmps54
    go_wp2
    go_ret
    exact ⟨ret_bool H.out.symm, rfl⟩
  · have e0 : (s.toList == [48]) = false := by rw [Lib.toList_data, beq_eq_false_iff_ne]; exact h0
    cases ht : trim s.data.toList with
    | nil =>
      have H : Hid (numForm s.data.toList = false) := form_nil h0 ht
      have ht' : Lib.trimPrefix s.data.toList [45] = [] := ht
      clear h0 ht
      go_enter Tryd.func54, Tryd.ntmps54
      go_wp2_with (go_at_call 61; refine (Tryd.strings_TrimPrefix _ _ _).mono ?_; rintro e w' ⟨rfl, rfl⟩)
      go_ret
      exact ⟨ret_bool H.out.symm, rfl⟩
    | cons c r =>
      have ht' : Lib.trimPrefix s.data.toList [45] = c :: r := ht
      by_cases hc : c = 48
      · have H : Hid (numForm s.data.toList = false) := by subst hc; exact form_cons0 h0 ht
        subst hc
        clear h0 ht
        go_enter Tryd.func54, Tryd.ntmps54
        go_wp2_with (go_at_call 61; refine (Tryd.strings_TrimPrefix _ _ _).mono ?_; rintro e w' ⟨rfl, rfl⟩)
        go_ret
        exact ⟨ret_bool H.out.symm, rfl⟩
      · have H : Hid (numForm s.data.toList = allDig (c :: r)) := form_cons h0 ht hc
        have hlen : (⟨(c :: r).toArray⟩ : ByteArray).size ≤ maxLen := by
          have := trim_le s.data.toList
          rw [ht] at this
          rw [size_list]
          have e : s.size = s.data.toList.length := Lib.size_eq s
          omega
        have h48 := not48 hc
        clear h0 ht hc
        go_enter Tryd.func54, Tryd.ntmps54
        go_wp2_with (first
          | (go_at_call 61; refine (Tryd.strings_TrimPrefix _ _ _).mono ?_; rintro e w' ⟨rfl, rfl⟩)
          | (go_at_call 62; refine (allDigits_any ⟨(c :: r).toArray⟩ _ hlen).mono ?_; rintro e w' ⟨rfl, rfl⟩))
        go_ret
        refine ⟨ret_bool ?_, rfl⟩
        rw [H.out]
        show ((c.toNat : Int) != 48 && allDig (c :: r)) = allDig (c :: r)
        rw [bne_iff_ne.2 h48]
        rfl

set_option maxHeartbeats 400000 in
theorem parse_any (s : ByteArray) (w : World) (hlim : s.size ≤ 281474976710656) {t1 : TypeId} {p1 : Value}
    (hv1 : w.var? Tryd.prog "strconv.ErrRange" = some #[.iface t1 p1]) :
    Calls Tryd.prog 48 #[.string s] w fun e w' => e = .returned (.tuple #[.int .i64 (parseP s.data.toList).1, .int .i64 (parseP s.data.toList).2]) ∧ Below w.heap.size w w' := by
  have hm : s.size ≤ maxLen := by unfold maxLen; omega
  have V1 : Hid (w.var? Tryd.prog "strconv.ErrRange" = some #[.iface t1 p1]) := hv1
  clear hv1
  cases hf : numForm s.data.toList with
  | false =>
    have H : Hid (parseP s.data.toList = (0, 7)) := parse_form hf
    go_enter Tryd.func48, Tryd.ntmps48
    go_wp2_with (go_at_call 54; refine (isText_any _ _ hm).mono ?_; rintro e w' ⟨rfl, rfl⟩)
    go_ret2
    exact ⟨ret2 H.out, Below.refl _ _⟩
  | true =>
    by_cases hr : Fits (numVal s.data.toList)
    · have H : Hid (parseP s.data.toList = (numVal s.data.toList, 0)) := parse_in hf hr
      have A : Hid (Lib.atoiAll s.data.toList = .ok (numVal s.data.toList)) := (atoi_form hf).1 hr
      clear hr
      go_enter Tryd.func48, Tryd.ntmps48
      go_wp2_with (first
        | (go_at_call 54; refine (isText_any _ _ hm).mono ?_; rintro e w' ⟨rfl, rfl⟩)
        | (go_at_call 55; refine (Tryd.atoi_ok s (by omega) _ A.out _).mono ?_; rintro e w1 ⟨rfl, hw⟩))
      go_ret2
      exact ⟨ret2 H.out, hw⟩
    · have H : Hid (parseP s.data.toList = (0, 8)) := parse_out hf hr
      have A : Hid (Lib.atoiAll s.data.toList = .range) := (atoi_form hf).2 hr
      clear hr
      go_enter Tryd.func48, Tryd.ntmps48
      go_wp2_with (first
        | (go_at_call 54; refine (isText_any _ _ hm).mono ?_; rintro e w' ⟨rfl, rfl⟩)
        | (go_at_call 55; refine (Tryd.atoi_range s hlim A.out _ _ _ V1.out).mono ?_; rintro e w1 ⟨⟨N, rfl⟩, hw⟩))
      go_ret2
      exact ⟨ret2 H.out, hw⟩
end Go.Proofs.YtbekkpfbjafagaaDoor.Num
