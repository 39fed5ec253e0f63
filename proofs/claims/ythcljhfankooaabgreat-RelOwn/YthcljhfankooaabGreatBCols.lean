/- Walks of Cols, of the document's Cols, and of both Rights. -/
import Derived.Test.YthcljhfankooaabGreatBMem
namespace Go.Proofs.YthcljhfankooaabGreat
open Go.RowKit

theorem or_nat (a b : Nat) (ha : a < 4611686018427387904) (hb : b < 4611686018427387904) : bits .or .i64 (a : Int) (b : Int) = ((a ||| b : Nat) : Int) := by
  have hx : a ||| b < 2 ^ 62 := Nat.or_lt_two_pow (by omega) (by omega)
  have h1 : (BitVec.ofInt 64 (a : Int)).toNat = a := by
    rw [BitVec.ofInt_natCast, BitVec.toNat_ofNat]; exact Nat.mod_eq_of_lt (by omega)
  have h2 : (BitVec.ofInt 64 (b : Int)).toNat = b := by
    rw [BitVec.ofInt_natCast, BitVec.toNat_ofNat]; exact Nat.mod_eq_of_lt (by omega)
  show IntKind.i64.wrap ((BitVec.ofInt 64 (a : Int) ||| BitVec.ofInt 64 (b : Int)).toNat : Int) = _
  rw [BitVec.toNat_or, h1, h2, IntKind.wrap_i64]
  omega
theorem pow_lt (n : Nat) (h : n ≤ 8) : (2 : Nat) ^ n ≤ 256 := Nat.pow_le_pow_right (by omega) h
theorem pow_wrap (n : Nat) (h : n ≤ 8) : wrap64 ((2 : Int) ^ n) = ((2 ^ n : Nat) : Int) := by
  have := pow_lt n h
  have e : ((2 : Int) ^ n) = ((2 ^ n : Nat) : Int) := by simp
  rw [e, wrap64]
  generalize 2 ^ n = p at *
  omega
theorem or_pow (m : Nat) (x : Int) (hm : m < 256) (h0 : 0 ≤ x) (h8 : x < 8) : bits .or .i64 (m : Int) (wrap64 (2 ^ x.toNat)) = ((m ||| 2 ^ x.toNat : Nat) : Int) := by
  have := pow_lt x.toNat (by omega)
  rw [pow_wrap _ (by omega), or_nat _ _ (by omega) (by omega)]

/-- The answers of Cols. -/
def colsN (l : List Int) : Int := if l.all inB = true then (mask l : Int) else 0
def colsE (l : List Int) : Int := if l.all inB = true then 0 else 1
theorem cols_bad {l : List Int} {k : Nat} (hk : k < l.length) (h : inB l[k] = false) : colsN l = 0 ∧ colsE l = 1 := by
  have : ¬ l.all inB = true := fun g => by rw [List.all_eq_true.1 g _ (List.getElem_mem hk)] at h; cases h
  exact ⟨if_neg this, if_neg this⟩
/-- Behind k columns. -/
def CRel (l : List Int) (s i : Value) : Prop := ∃ k m : Nat, k ≤ l.length ∧ i = .int .i64 k ∧ s = .int .i64 (m : Int) ∧ m = mask (l.take k) ∧ (l.take k).all inB = true
theorem CRel.next {l : List Int} {k : Nat} (hk : k < l.length) (ha : (l.take k).all inB = true) (hb : inB l[k] = true) : mask (l.take (k + 1)) = mask (l.take k) ||| 2 ^ l[k].toNat ∧ (l.take (k + 1)).all inB = true := by
  rw [List.take_succ_eq_append_getElem hk, mask_snoc]
  exact ⟨rfl, by rw [List.all_append, ha]; simp [hb]⟩
theorem inB_of {x : Int} (h0 : 0 ≤ x) (h8 : x < 8) : inB x = true := by simp [inB, h0, h8]
theorem inB_not {x : Int} (h : x < 0 ∨ 8 ≤ x) : inB x = false := by simp [inB]; omega

theorem tup2 {a b c d : Int} {k k' : IntKind} (h1 : a = c) (h2 : b = d) : Ending.returned (.tuple #[.int k a, .int k' b]) = .returned (.tuple #[.int k c, .int k' d]) := by rw [h1, h2]

set_option maxRecDepth 100000 in
set_option maxHeartbeats 4000000 in
theorem cols_any (B : Nat) (w : World) (v : Value) (l : List Int) (h : Ints B w v l) :
    Calls Tryz.prog 64 #[v] w fun e w' => e = .returned (.tuple #[.int .i64 (colsN l), .int .i64 (colsE l)]) ∧ w' = w := by
  obtain ⟨a, cap, rfl, hc1, hc2, hcell⟩ := h
  have HC := hide hcell
  clear hcell
  go_enter Tryz.func64, Tryz.ntmps64
  go_wp2_with fail
  go_loop [4, 8] (fun s i => CRel l s i) (fun _ i => l.length - (intOf i).toNat)
  case atStart => exact ⟨0, 0, Nat.zero_le _, rfl, rfl, rfl, rfl⟩
  case round =>
    obtain ⟨k, m, hk, rfl, rfl, hm, hall⟩ := hrel
    have HM := hide hm
    have HA := hide hall
    by_cases hlt : k < l.length
    · obtain ⟨b, off, rfl, _, hc⟩ := unhide HC k l[k] (by simp [hlt])
      have hm2 : m < 256 := by rw [hm]; exact mask_lt (l.take k) (List.all_eq_true.1 hall)
      clear hall HC hm
      obtain ⟨x, hx⟩ : ∃ x, x = l[k] := ⟨_, rfl⟩
      rw [← hx] at hc
      have HX := hide hx
      clear hx
      by_cases h0 : x < 0 ∨ 8 ≤ x
      · have HB := hide (cols_bad hlt (by rw [← unhide HX]; exact inB_not h0))
        by_cases h1 : x < 0
        all_goals
          go_wp2_with fail
          first
          | (exfalso; omega)
          | (go_ret2
             exact ⟨tup2 (unhide HB).1.symm (unhide HB).2.symm, rfl⟩)
      · have h1 : 0 ≤ x := by omega
        have h2 : x < 8 := by omega
        have HN := hide (CRel.next hlt (unhide HA) (by rw [← unhide HX]; exact inB_of h1 h2))
        clear h0
        go_wp2_with fail
        go_round
        case rel =>
          refine ⟨k + 1, m ||| 2 ^ x.toNat, by omega, by go_num, by rw [or_pow m x hm2 h1 h2], ?_, (unhide HN).2⟩
          rw [(unhide HN).1, unhide HX, unhide HM]
        case measure => simp [intOf]; omega
    · have hk2 : k = l.length := by omega
      subst hk2
      rw [List.take_length] at hm hall
      have HB : Hid (colsN l = (m : Int) ∧ colsE l = 0) := ⟨by rw [colsN, if_pos hall, hm], if_pos hall⟩
      clear hm hall HM HA HC
      go_wp2_with fail
      go_ret2
      exact ⟨tup2 (unhide HB).1.symm (unhide HB).2.symm, rfl⟩

end Go.Proofs.YthcljhfankooaabGreat
