/- Walks of Cover and of the document's Cover. -/
import Derived.Test.YtclialdbaclpoaaOnes
namespace Go.Proofs.Ytclialdbaclpoaa
open Go.RowKit

theorem tupIB {a c : Int} {b d : Bool} {k : IntKind} (h1 : a = c) (h2 : b = d) : Ending.returned (.tuple #[.int k a, .bool b]) = .returned (.tuple #[.int k c, .bool d]) := by rw [h1, h2]

/-- The first columns of an order. -/
theorem Ints.take {B : Nat} {w : World} {a : Option Addr} {n cap : Nat} {l : List Int} (h : Ints B w (.slice a n cap) l) (k : Nat) (hk : k ≤ l.length) : Ints B w (.slice a k cap) (l.take k) := by
  obtain ⟨a', cap', e, h2, h3, h4⟩ := h
  simp only [Value.slice.injEq] at e
  obtain ⟨rfl, rfl, rfl⟩ := e
  refine ⟨a, cap, by rw [List.length_take, Nat.min_eq_left hk], by simp; omega, h3, fun j x hj => ?_⟩
  rw [List.getElem?_take] at hj
  split at hj
  · exact h4 j x hj
  · cases hj

theorem colsN_take {o : List Int} (hr : right o = true) (k : Nat) : colsN (o.take k) = (mask (o.take k) : Int) := by
  refine if_pos (List.all_eq_true.2 fun x hx => ?_)
  have h4 := (right_in hr).2 x (List.mem_of_mem_take hx)
  have := (right_in hr).1
  simp [inB]; omega

set_option maxRecDepth 100000 in
set_option maxHeartbeats 4000000 in
theorem cover_any (B : Nat) (w : World) (v : Value) (o : List Int) (c : Int) (ho : Ints B w v o) :
    Calls Try.prog 27 #[v, .int .i64 c] w fun e w' => e = .returned (.tuple #[.int .i64 (coverN o c), .bool (coverB o c)]) ∧ w' = w := by
  have HO := hide ho
  obtain ⟨a, cap, rfl, hc1, hc2, _⟩ := ho
  obtain ⟨p, hp⟩ : ∃ p, p = pop (IntKind.u64.wrap c) := ⟨_, rfl⟩
  have hp0 : 0 ≤ p := by rw [hp]; exact (pop_range _).1
  have hp1 : p ≤ 127 := by rw [hp]; exact (pop_range _).2
  have HP := hide hp
  clear hp
  go_enter Try.func27, Try.ntmps27
  go_wp2_with fail
  refine (ones_any _ w).mono ?_
  rw [← unhide HP]
  rintro e w' ⟨rfl, rfl⟩
  go_wp2_with fail
  refine (right_any B w' _ o (unhide HO)).mono ?_
  rintro e w' ⟨rfl, rfl⟩
  cases hr : right o with
  | false =>
    have HN := hide (cover_no (o := o) (c := c) (fun h => by rw [hr] at h; cases h))
    clear hr
    go_wp2_with fail
    go_ret2
    exact ⟨tupIB (unhide HN).1.symm (unhide HN).2.symm, rfl⟩
  | true =>
    have HR := hide hr
    clear hr
    by_cases hl : (o.length : Int) < p
    · have HN := hide (cover_no (o := o) (c := c) (fun hr n hn e => by
        have h2 := pop_mask hr n hn
        have h3 := mask_lt (o.take n) (fun x hx => by have := (right_in hr); have h4 := this.2 x (List.mem_of_mem_take hx); simp [inB]; omega)
        have h5 : IntKind.u64.wrap c = c := by rw [IntKind.wrap_u64]; omega
        rw [e, ← h5, ← unhide HP] at h2
        omega))
      go_wp2_with fail
      go_ret2
      exact ⟨tupIB (unhide HN).1.symm (unhide HN).2.symm, rfl⟩
    · obtain ⟨k, rfl⟩ : ∃ k : Nat, p = (k : Int) := ⟨p.toNat, by omega⟩
      have hk : k ≤ o.length := by omega
      have HT := hide ((unhide HO).take k hk)
      have hck : k ≤ cap := by omega
      go_wp2_with fail
      refine (cols_any B w' _ (o.take k) (unhide HT)).mono ?_
      rw [colsN_take (unhide HR) k]
      rintro e w' ⟨rfl, rfl⟩
      by_cases he : (mask (o.take k) : Int) = c
      · have HN := hide (cover_yes (unhide HR) hk he)
        have h1 : ((mask (o.take k) : Int) != c) = false := by simp [he]
        clear he
        generalize mask (o.take k) = m at *
        go_wp2_with fail
        go_ret2
        exact ⟨tupIB (unhide HN).1.symm (unhide HN).2.symm, rfl⟩
      · have HN := hide (cover_no (o := o) (c := c) (fun hr n hn e => by
          have h2 := pop_mask hr n hn
          have h3 := mask_lt (o.take n) (fun x hx => by have := (right_in hr); have h4 := this.2 x (List.mem_of_mem_take hx); simp [inB]; omega)
          have h5 : IntKind.u64.wrap c = c := by rw [IntKind.wrap_u64]; omega
          rw [e, ← h5, ← unhide HP] at h2
          have h6 : n = k := by omega
          subst h6
          exact he e))
        have h1 : ((mask (o.take k) : Int) != c) = true := by simpa using he
        clear he
        generalize mask (o.take k) = m at *
        go_wp2_with fail
        go_ret2
        exact ⟨tupIB (unhide HN).1.symm (unhide HN).2.symm, rfl⟩

/-- Behind n columns. -/
def VRel (o : List Int) (c : Int) (s i : Value) : Prop := ∃ k m : Nat, k ≤ o.length ∧ i = .int .i64 k ∧ s = .int .i64 (m : Int) ∧ m = mask (o.take k) ∧ ∀ j, j < k → (mask (o.take j) : Int) ≠ c

set_option maxRecDepth 100000 in
set_option maxHeartbeats 4000000 in
theorem rcover_any (B : Nat) (w : World) (v : Value) (o : List Int) (c : Int) (ho : Ints B w v o) :
    Calls Try.prog 26 #[v, .int .i64 c] w fun e w' => e = .returned (.tuple #[.int .i64 (coverN o c), .bool (coverB o c)]) ∧ w' = w := by
  have HO := hide ho
  obtain ⟨a, cap, rfl, hc1, hc2, _⟩ := ho
  go_enter Try.func26, Try.ntmps26
  go_wp2_with fail
  refine (rright_any B w _ o (unhide HO)).mono ?_
  rintro e w' ⟨rfl, rfl⟩
  cases hr : right o with
  | false =>
    have HN := hide (cover_no (o := o) (c := c) (fun h => by rw [hr] at h; cases h))
    clear hr
    go_wp2_with fail
    go_ret2
    exact ⟨tupIB (unhide HN).1.symm (unhide HN).2.symm, rfl⟩
  | true =>
    have h8 := (right_in hr).1
    have HR := hide hr
    clear hr
    by_cases h0 : c < 0
    · have HN := hide (cover_no (o := o) (c := c) (fun hr n hn e => by omega))
      go_wp2_with fail
      go_ret2
      exact ⟨tupIB (unhide HN).1.symm (unhide HN).2.symm, rfl⟩
    · cases hs : (c / 2 ^ o.length != 0) with
      | true =>
        have HN := hide (cover_no (o := o) (c := c) (fun hr n hn e => by
          have h2 := mask_le hr n
          have h3 : c / 2 ^ o.length = 0 := by
            rw [← e, show ((2 : Int) ^ o.length) = ((2 ^ o.length : Nat) : Int) by simp, ← Int.natCast_ediv, Nat.div_eq_of_lt h2]; rfl
          rw [h3] at hs
          cases hs))
        go_wp2_with fail
        go_ret2
        exact ⟨tupIB (unhide HN).1.symm (unhide HN).2.symm, rfl⟩
      | false =>
        go_wp2_with fail
        go_loop [6, 7] (fun s i => VRel o c s i) (fun _ i => o.length - (intOf i).toNat)
        case atStart => exact ⟨0, 0, Nat.zero_le _, rfl, rfl, rfl, fun j hj => by omega⟩
        case round =>
          obtain ⟨k, m, hk, rfl, rfl, hm, hall⟩ := hrel
          have HM := hide hm
          have HA := hide hall
          have hm2 : m < 256 := by
            have := mask_le (unhide HR) k
            have h5 := pow_lt o.length h8
            omega
          clear hall hs hm
          by_cases he : (m : Int) = c
          · have HN := hide (cover_yes (c := c) (unhide HR) hk (by rw [← unhide HM]; exact he))
            have h1 : ((m : Int) != c) = false := by simp [he]
            clear he
            go_wp2_with fail
            go_ret2
            exact ⟨tupIB (unhide HN).1.symm (unhide HN).2.symm, rfl⟩
          · have h1 : ((m : Int) != c) = true := by simpa using he
            have HE := hide he
            clear he
            by_cases hlt : k < o.length
            · obtain ⟨b0, o0, rfl, hx⟩ := (unhide HO).nat hlt
              have hin := (right_in (unhide HR)).2 o[k] (List.getElem_mem hlt)
              obtain ⟨x, hx1⟩ : ∃ x, x = o[k] := ⟨_, rfl⟩
              rw [← hx1] at hx hin
              have HX := hide hx1
              have hx0 := hin.1
              have hx8 : x < 8 := by omega
              have h2 : ((k : Int) == (o.length : Int)) = false := by simp; omega
              clear hin hx1
              go_wp2_with fail
              go_round
              case rel =>
                refine ⟨k + 1, m ||| 2 ^ x.toNat, by omega, by go_num, by rw [or_pow m x hm2 hx0 hx8], ?_, fun j hj => ?_⟩
                · rw [List.take_succ_eq_append_getElem hlt, mask_snoc, ← unhide HM, ← unhide HX]
                · rcases Nat.lt_or_eq_of_le (Nat.lt_succ_iff.1 hj) with g | rfl
                  · exact unhide HA j g
                  · rw [← unhide HM]; exact unhide HE
              case measure => simp [intOf]; omega
            · have hk2 : k = o.length := by omega
              have h2 : ((k : Int) == (o.length : Int)) = true := by simp [hk2]
              have HN := hide (cover_no (o := o) (c := c) (fun hr n hn e => by
                by_cases g : n < k
                · exact unhide HA n g e
                · have : n = k := by omega
                  rw [this, ← unhide HM] at e
                  exact unhide HE e))
              clear hk2
              go_wp2_with fail
              go_ret2
              exact ⟨tupIB (unhide HN).1.symm (unhide HN).2.symm, rfl⟩
end Go.Proofs.Ytclialdbaclpoaa
