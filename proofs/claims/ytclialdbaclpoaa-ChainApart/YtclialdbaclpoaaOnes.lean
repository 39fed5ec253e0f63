/- How many columns a set has: bits.OnesCount64 walked; of the first columns of an order it is their number. -/
import Derived.Test.YtclialdbaclpoaaRights
import Derived.Test.YtclialdbaclpoaaBase
namespace Go.Proofs.Ytclialdbaclpoaa
open Go.RowKit

def pA (x : Int) : Int := IntKind.u64.wrap (bits .and .u64 (x / 2) 6148914691236517205 + bits .and .u64 x 6148914691236517205)
def pB (x : Int) : Int := IntKind.u64.wrap (bits .and .u64 (x / 4) 3689348814741910323 + bits .and .u64 x 3689348814741910323)
def pC (x : Int) : Int := bits .and .u64 (IntKind.u64.wrap (x / 16 + x)) 1085102592571150095
def pD (x : Int) : Int := IntKind.u64.wrap (x + x / 256)
def pE (x : Int) : Int := IntKind.u64.wrap (x + x / 65536)
def pF (x : Int) : Int := IntKind.u64.wrap (x + x / 4294967296)
def pG (x : Int) : Int := bits .and .i64 (wrap64 x) 127
/-- What bits.OnesCount64 reckons. -/
def pop (x : Int) : Int := pG (pF (pE (pD (pC (pB (pA x))))))

set_option maxRecDepth 100000 in
set_option maxHeartbeats 4000000 in
theorem ones64_any (x : Int) (w : World) : Calls Try.prog 41 #[.int .u64 x] w fun e w' => e = .returned (.int .i64 (pop x)) ∧ w' = w := by
  go_enter Try.func41, Try.ntmps41
  go_wp2_with fail
  go_ret
  refine ⟨ret_int ?_, rfl⟩
  unfold pop pG pF pE pD pC pB pA
  rfl
set_option maxRecDepth 100000 in
set_option maxHeartbeats 4000000 in
theorem ones_any (x : Int) (w : World) : Calls Try.prog 32 #[.int .u64 x] w fun e w' => e = .returned (.int .i64 (pop x)) ∧ w' = w := by
  go_enter Try.func32, Try.ntmps32
  go_wp2_with fail
  refine (ones64_any x w).mono ?_
  rintro e w' ⟨rfl, rfl⟩
  go_wp2_with fail
  go_ret
  exact ⟨rfl, rfl⟩

theorem pop_zero : pop 0 = 0 := by decide +kernel
theorem pop_add0 : ∀ m : Fin 256, ∀ x : Fin 8, m.val.testBit x.val = false → pop ((m.val ||| 2 ^ x.val : Nat) : Int) = pop (m.val : Int) + 1 := by decide +kernel
theorem pop_add (m x : Nat) (hm : m < 256) (hx : x < 8) (h : m.testBit x = false) : pop ((m ||| 2 ^ x : Nat) : Int) = pop (m : Int) + 1 := pop_add0 ⟨m, hm⟩ ⟨x, hx⟩ h

theorem and127 (x : Int) : 0 ≤ bits .and .i64 x 127 ∧ bits .and .i64 x 127 ≤ 127 := by
  show 0 ≤ IntKind.i64.wrap ((BitVec.ofInt 64 x &&& BitVec.ofInt 64 127).toNat : Int) ∧ IntKind.i64.wrap ((BitVec.ofInt 64 x &&& BitVec.ofInt 64 127).toNat : Int) ≤ 127
  have h : (BitVec.ofInt 64 x &&& BitVec.ofInt 64 127).toNat ≤ 127 := by
    rw [BitVec.toNat_and, show (BitVec.ofInt 64 127).toNat = 127 from rfl]
    exact Nat.and_le_right
  rw [IntKind.wrap_i64]
  omega
theorem pop_range (x : Int) : 0 ≤ pop x ∧ pop x ≤ 127 := and127 _

theorem pop_mask {o : List Int} (ho : right o = true) : ∀ n, n ≤ o.length → pop (mask (o.take n) : Int) = (n : Int)
  | 0, _ => by rw [List.take_zero]; exact pop_zero
  | n + 1, hn => by
    have hk : n < o.length := by omega
    obtain ⟨h8, hin⟩ := right_in ho
    have hx := hin o[n] (List.getElem_mem hk)
    have hm : mask (o.take n) < 256 := mask_lt _ fun x hx => by
      have := hin x (List.mem_of_mem_take hx)
      simp [inB]; omega
    have hb : (mask (o.take n)).testBit o[n].toNat = false := by
      rw [mask_bit, List.any_eq_false]
      intro x hx2 e
      simp only [beq_iff_eq] at e
      obtain ⟨j, hj, ej⟩ := List.getElem_of_mem hx2
      simp only [List.length_take] at hj
      rw [List.getElem_take] at ej
      have h0 := hin x (List.mem_of_mem_take hx2)
      have := right_one ho j n (by omega) hk (by omega)
      omega
    rw [List.take_succ_eq_append_getElem hk, mask_snoc, pop_add _ _ hm (by omega) hb, pop_mask ho n (by omega)]
    omega

/-- The answers of Cover. -/
def coverB (o : List Int) (c : Int) : Bool := right o && (List.range (o.length + 1)).any fun n => decide ((mask (o.take n) : Int) = c)
def coverN (o : List Int) (c : Int) : Int := if coverB o c = true then pop c else 0
theorem cover_no {o : List Int} {c : Int} (h : right o = true → ∀ n, n ≤ o.length → (mask (o.take n) : Int) ≠ c) : coverN o c = 0 ∧ coverB o c = false := by
  have : coverB o c = false := by
    unfold coverB
    cases hr : right o with
    | false => rfl
    | true =>
      rw [Bool.true_and, List.any_eq_false]
      intro n hn
      simp only [decide_eq_true_eq]
      exact h hr n (by have := List.mem_range.1 hn; omega)
  exact ⟨if_neg (by simp [this]), this⟩
theorem cover_yes {o : List Int} {c : Int} (hr : right o = true) {n : Nat} (hn : n ≤ o.length) (h : (mask (o.take n) : Int) = c) : coverN o c = n ∧ coverB o c = true := by
  have hb : coverB o c = true := by
    unfold coverB
    rw [hr, Bool.true_and, List.any_eq_true]
    exact ⟨n, List.mem_range.2 (by omega), by simpa using h⟩
  exact ⟨by rw [coverN, if_pos hb, ← h, pop_mask hr n hn], hb⟩
theorem mask_le {o : List Int} (ho : right o = true) (n : Nat) : mask (o.take n) < 2 ^ o.length := by
  refine Nat.lt_pow_two_of_testBit _ fun i hi => ?_
  rw [mask_bit]
  simp only [List.any_eq_false, beq_iff_eq]
  intro x hx e
  have := (right_in ho).2 x (List.mem_of_mem_take hx)
  omega
end Go.Proofs.Ytclialdbaclpoaa
