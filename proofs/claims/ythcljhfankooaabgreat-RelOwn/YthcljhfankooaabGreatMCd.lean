/- How many columns a set has: bits.OnesCount64 walked; of the first columns of an order it is their number. Walks of Cover and of the document's Cover. Walks of look, Pick and the document's Pick. -/
import Derived.Test.YthcljhfankooaabGreatBRights
import Derived.Test.YthcljhfankooaabGreatMCb
namespace Go.Proofs.YthcljhfankooaabGreat.C
open Go.RowKit

def pA (x : Int) : Int := IntKind.u64.wrap (bits .and .u64 (x / 2) 6148914691236517205 + bits .and .u64 x 6148914691236517205)
def pB (x : Int) : Int := IntKind.u64.wrap (bits .and .u64 (x / 4) 3689348814741910323 + bits .and .u64 x 3689348814741910323)
def pC (x : Int) : Int := bits .and .u64 (IntKind.u64.wrap (x / 16 + x)) 1085102592571150095
def pD (x : Int) : Int := IntKind.u64.wrap (x + x / 256)
def pE (x : Int) : Int := IntKind.u64.wrap (x + x / 65536)
def pF (x : Int) : Int := IntKind.u64.wrap (x + x / 4294967296)
def pG (x : Int) : Int := bits .and .i64 (wrap64 x) 127
/-- What bits.OnesCount64 reckons. -/
def pop (x : Int) : Int := pG (pF (pE (pD (pC (pB (pA x))))))

set_option maxRecDepth 100000 in
set_option maxHeartbeats 4000000 in
theorem ones64_any (x : Int) (w : World) : Calls Tryz.prog 126 #[.int .u64 x] w fun e w' => e = .returned (.int .i64 (pop x)) ∧ w' = w := by
  go_enter Tryz.func126, Tryz.ntmps126
  go_wp2_with fail
  go_ret
  refine ⟨ret_int ?_, rfl⟩
  unfold pop pG pF pE pD pC pB pA
  rfl
set_option maxRecDepth 100000 in
set_option maxHeartbeats 4000000 in
theorem ones_any (x : Int) (w : World) : Calls Tryz.prog 94 #[.int .u64 x] w fun e w' => e = .returned (.int .i64 (pop x)) ∧ w' = w := by
  go_enter Tryz.func94, Tryz.ntmps94
  go_wp2_with fail
  refine (ones64_any x w).mono ?_
  rintro e w' ⟨rfl, rfl⟩
  go_wp2_with fail
  go_ret
  exact ⟨rfl, rfl⟩

theorem pop_zero : pop 0 = 0 := by decide +kernel
theorem pop_add0 : ∀ m : Fin 256, ∀ x : Fin 8, m.val.testBit x.val = false → pop ((m.val ||| 2 ^ x.val : Nat) : Int) = pop (m.val : Int) + 1 := by decide +kernel
theorem pop_add (m x : Nat) (hm : m < 256) (hx : x < 8) (h : m.testBit x = false) : pop ((m ||| 2 ^ x : Nat) : Int) = pop (m : Int) + 1 := pop_add0 ⟨m, hm⟩ ⟨x, hx⟩ h

theorem and127 (x : Int) : 0 ≤ bits .and .i64 x 127 ∧ bits .and .i64 x 127 ≤ 127 := by
  show 0 ≤ IntKind.i64.wrap ((BitVec.ofInt 64 x &&& BitVec.ofInt 64 127).toNat : Int) ∧ IntKind.i64.wrap ((BitVec.ofInt 64 x &&& BitVec.ofInt 64 127).toNat : Int) ≤ 127
  have h : (BitVec.ofInt 64 x &&& BitVec.ofInt 64 127).toNat ≤ 127 := by
    rw [BitVec.toNat_and, show (BitVec.ofInt 64 127).toNat = 127 from rfl]
    exact Nat.and_le_right
  rw [IntKind.wrap_i64]
  omega
theorem pop_range (x : Int) : 0 ≤ pop x ∧ pop x ≤ 127 := and127 _

theorem pop_mask {o : List Int} (ho : right o = true) : ∀ n, n ≤ o.length → pop (mask (o.take n) : Int) = (n : Int)
  | 0, _ => by rw [List.take_zero]; exact pop_zero
  | n + 1, hn => by
    have hk : n < o.length := by omega
    obtain ⟨h8, hin⟩ := right_in ho
    have hx := hin o[n] (List.getElem_mem hk)
    have hm : mask (o.take n) < 256 := mask_lt _ fun x hx => by
      have := hin x (List.mem_of_mem_take hx)
      simp [inB]; omega
    have hb : (mask (o.take n)).testBit o[n].toNat = false := by
      rw [mask_bit, List.any_eq_false]
      intro x hx2 e
      simp only [beq_iff_eq] at e
      obtain ⟨j, hj, ej⟩ := List.getElem_of_mem hx2
      simp only [List.length_take] at hj
      rw [List.getElem_take] at ej
      have h0 := hin x (List.mem_of_mem_take hx2)
      have := right_one ho j n (by omega) hk (by omega)
      omega
    rw [List.take_succ_eq_append_getElem hk, mask_snoc, pop_add _ _ hm (by omega) hb, pop_mask ho n (by omega)]
    omega

/-- The answers of Cover. -/
def coverB (o : List Int) (c : Int) : Bool := right o && (List.range (o.length + 1)).any fun n => decide ((mask (o.take n) : Int) = c)
def coverN (o : List Int) (c : Int) : Int := if coverB o c = true then pop c else 0
theorem cover_no {o : List Int} {c : Int} (h : right o = true → ∀ n, n ≤ o.length → (mask (o.take n) : Int) ≠ c) : coverN o c = 0 ∧ coverB o c = false := by
  have : coverB o c = false := by
    unfold coverB
    cases hr : right o with
    | false => rfl
    | true =>
      rw [Bool.true_and, List.any_eq_false]
      intro n hn
      simp only [decide_eq_true_eq]
      exact h hr n (by have := List.mem_range.1 hn; omega)
  exact ⟨if_neg (by simp [this]), this⟩
theorem cover_yes {o : List Int} {c : Int} (hr : right o = true) {n : Nat} (hn : n ≤ o.length) (h : (mask (o.take n) : Int) = c) : coverN o c = n ∧ coverB o c = true := by
  have hb : coverB o c = true := by
    unfold coverB
    rw [hr, Bool.true_and, List.any_eq_true]
    exact ⟨n, List.mem_range.2 (by omega), by simpa using h⟩
  exact ⟨by rw [coverN, if_pos hb, ← h, pop_mask hr n hn], hb⟩
theorem mask_le {o : List Int} (ho : right o = true) (n : Nat) : mask (o.take n) < 2 ^ o.length := by
  refine Nat.lt_pow_two_of_testBit _ fun i hi => ?_
  rw [mask_bit]
  simp only [List.any_eq_false, beq_iff_eq]
  intro x hx e
  have := (right_in ho).2 x (List.mem_of_mem_take hx)
  omega
end Go.Proofs.YthcljhfankooaabGreat.C

namespace Go.Proofs.YthcljhfankooaabGreat.C
open Go.RowKit

theorem tupIB {a c : Int} {b d : Bool} {k : IntKind} (h1 : a = c) (h2 : b = d) : Ending.returned (.tuple #[.int k a, .bool b]) = .returned (.tuple #[.int k c, .bool d]) := by rw [h1, h2]

/-- The first columns of an order. -/
theorem _root_.Go.Proofs.YthcljhfankooaabGreat.Ints.take {B : Nat} {w : World} {a : Option Addr} {n cap : Nat} {l : List Int} (h : Ints B w (.slice a n cap) l) (k : Nat) (hk : k ≤ l.length) : Ints B w (.slice a k cap) (l.take k) := by
  obtain ⟨a', cap', e, h2, h3, h4⟩ := h
  simp only [Value.slice.injEq] at e
  obtain ⟨rfl, rfl, rfl⟩ := e
  refine ⟨a, cap, by rw [List.length_take, Nat.min_eq_left hk], by simp; omega, h3, fun j x hj => ?_⟩
  rw [List.getElem?_take] at hj
  split at hj
  · exact h4 j x hj
  · cases hj

theorem colsN_take {o : List Int} (hr : right o = true) (k : Nat) : colsN (o.take k) = (mask (o.take k) : Int) := by
  refine if_pos (List.all_eq_true.2 fun x hx => ?_)
  have h4 := (right_in hr).2 x (List.mem_of_mem_take hx)
  have := (right_in hr).1
  simp [inB]; omega

set_option maxRecDepth 100000 in
set_option maxHeartbeats 4000000 in
theorem cover_any (B : Nat) (w : World) (v : Value) (o : List Int) (c : Int) (ho : Ints B w v o) :
    Calls Tryz.prog 75 #[v, .int .i64 c] w fun e w' => e = .returned (.tuple #[.int .i64 (coverN o c), .bool (coverB o c)]) ∧ w' = w := by
  have HO := hide ho
  obtain ⟨a, cap, rfl, hc1, hc2, _⟩ := ho
  obtain ⟨p, hp⟩ : ∃ p, p = pop (IntKind.u64.wrap c) := ⟨_, rfl⟩
  have hp0 : 0 ≤ p := by rw [hp]; exact (pop_range _).1
  have hp1 : p ≤ 127 := by rw [hp]; exact (pop_range _).2
  have HP := hide hp
  clear hp
  go_enter Tryz.func75, Tryz.ntmps75
  go_wp2_with fail
  refine (ones_any _ w).mono ?_
  rw [← unhide HP]
  rintro e w' ⟨rfl, rfl⟩
  go_wp2_with fail
  refine (right_any B w' _ o (unhide HO)).mono ?_
  rintro e w' ⟨rfl, rfl⟩
  cases hr : right o with
  | false =>
    have HN := hide (cover_no (o := o) (c := c) (fun h => by rw [hr] at h; cases h))
    clear hr
    go_wp2_with fail
    go_ret2
    exact ⟨tupIB (unhide HN).1.symm (unhide HN).2.symm, rfl⟩
  | true =>
    have HR := hide hr
    clear hr
    by_cases hl : (o.length : Int) < p
    · have HN := hide (cover_no (o := o) (c := c) (fun hr n hn e => by
        have h2 := pop_mask hr n hn
        have h3 := mask_lt (o.take n) (fun x hx => by have := (right_in hr); have h4 := this.2 x (List.mem_of_mem_take hx); simp [inB]; omega)
        have h5 : IntKind.u64.wrap c = c := by rw [IntKind.wrap_u64]; omega
        rw [e, ← h5, ← unhide HP] at h2
        omega))
      go_wp2_with fail
      go_ret2
      exact ⟨tupIB (unhide HN).1.symm (unhide HN).2.symm, rfl⟩
    · obtain ⟨k, rfl⟩ : ∃ k : Nat, p = (k : Int) := ⟨p.toNat, by omega⟩
      have hk : k ≤ o.length := by omega
      have HT := hide ((unhide HO).take k hk)
      have hck : k ≤ cap := by omega
      go_wp2_with fail
      refine (cols_any B w' _ (o.take k) (unhide HT)).mono ?_
      rw [colsN_take (unhide HR) k]
      rintro e w' ⟨rfl, rfl⟩
      by_cases he : (mask (o.take k) : Int) = c
      · have HN := hide (cover_yes (unhide HR) hk he)
        have h1 : ((mask (o.take k) : Int) != c) = false := by simp [he]
        clear he
        generalize mask (o.take k) = m at *
        go_wp2_with fail
        go_ret2
        exact ⟨tupIB (unhide HN).1.symm (unhide HN).2.symm, rfl⟩
      · have HN := hide (cover_no (o := o) (c := c) (fun hr n hn e => by
          have h2 := pop_mask hr n hn
          have h3 := mask_lt (o.take n) (fun x hx => by have := (right_in hr); have h4 := this.2 x (List.mem_of_mem_take hx); simp [inB]; omega)
          have h5 : IntKind.u64.wrap c = c := by rw [IntKind.wrap_u64]; omega
          rw [e, ← h5, ← unhide HP] at h2
          have h6 : n = k := by omega
          subst h6
          exact he e))
        have h1 : ((mask (o.take k) : Int) != c) = true := by simpa using he
        clear he
        generalize mask (o.take k) = m at *
        go_wp2_with fail
        go_ret2
        exact ⟨tupIB (unhide HN).1.symm (unhide HN).2.symm, rfl⟩

/-- Behind n columns. -/
def VRel (o : List Int) (c : Int) (s i : Value) : Prop := ∃ k m : Nat, k ≤ o.length ∧ i = .int .i64 k ∧ s = .int .i64 (m : Int) ∧ m = mask (o.take k) ∧ ∀ j, j < k → (mask (o.take j) : Int) ≠ c

end Go.Proofs.YthcljhfankooaabGreat.C

namespace Go.Proofs.YthcljhfankooaabGreat.C
open Go.RowKit Go.Shelf Go.Maps

/-- What is wrong with searches. -/
def okB (wd : Nat) (x : Int) : Bool := !(x / 2 ^ wd != 0)
theorem okB_iff {wd : Nat} {x : Int} : okB wd x = true ↔ 0 ≤ x ∧ x < ((2 ^ wd : Nat) : Int) := by
  unfold okB
  have e : ((2 : Int) ^ wd) = ((2 ^ wd : Nat) : Int) := by simp
  have hp : (0 : Int) < ((2 ^ wd : Nat) : Int) := by have : 0 < 2 ^ wd := Nat.two_pow_pos wd; omega
  rw [e]
  generalize ((2 ^ wd : Nat) : Int) = p at hp
  simp only [Bool.not_eq_true', bne_eq_false_iff_eq]
  constructor
  · intro h
    have h1 := Int.emod_nonneg x (show p ≠ 0 by omega)
    have h2 := Int.emod_lt_of_pos x hp
    have h3 := Int.emod_add_mul_ediv x p
    rw [h, Int.mul_zero] at h3
    omega
  · rintro ⟨h1, h2⟩
    exact Int.ediv_eq_zero_of_lt h1 h2
def lookE (wd : Nat) (l : List Int) : Int := if l.length ≤ 256 then (if l.all (okB wd) = true then 0 else 1) else 3
theorem look_many {wd : Nat} {l : List Int} (h : ¬ l.length ≤ 256) : lookE wd l = 3 := if_neg h
theorem look_bad {wd : Nat} {l : List Int} (h : l.length ≤ 256) {k : Nat} (hk : k < l.length) (hb : okB wd l[k] = false) : lookE wd l = 1 := by
  unfold lookE
  rw [if_pos h, if_neg]
  intro g
  rw [List.all_eq_true.1 g _ (List.getElem_mem hk)] at hb
  cases hb
theorem look_ok {wd : Nat} {l : List Int} (h : l.length ≤ 256) (hb : l.all (okB wd) = true) : lookE wd l = 0 := by
  unfold lookE
  rw [if_pos h, if_pos hb]
def LkR (wd : Nat) (l : List Int) (i : Value) : Prop := ∃ k : Nat, k ≤ l.length ∧ i = .int .i64 (k : Int) ∧ (l.take k).all (okB wd) = true

set_option maxRecDepth 100000 in
set_option maxHeartbeats 4000000 in
theorem look_any (B : Nat) (w : World) (v : Value) (l : List Int) (h : Ints B w v l) (wd : Nat) (hw : wd ≤ 8) :
    Calls Tryz.prog 39 #[.int .i64 (wd : Int), v] w fun e w' => e = .returned (.int .i64 (lookE wd l)) ∧ w' = w := by
  obtain ⟨a, cap, rfl, hc1, hc2, hcell⟩ := h
  have HC := hide hcell
  clear hcell
  by_cases hm : l.length ≤ 256
  · have hm1 : ¬ ((256 : Int) < (l.length : Int)) := by omega
    go_enter Tryz.func39, Tryz.ntmps39
    go_wp2_with fail
    go_loop [12] (fun i => LkR wd l i) (fun i => l.length - (intOf i).toNat)
    case atStart => exact ⟨0, Nat.zero_le _, rfl, rfl⟩
    case round =>
      obtain ⟨k, hk, rfl, hall⟩ := hrel
      have HA := hide hall
      clear hall
      by_cases hlt : k < l.length
      · obtain ⟨b, off, rfl, _, hc⟩ := unhide HC k l[k] (by simp [hlt])
        obtain ⟨x, hx⟩ : ∃ x, x = l[k] := ⟨_, rfl⟩
        rw [← hx] at hc
        have HX := hide hx
        clear hx
        cases hz : (x / 2 ^ wd != 0) with
        | true =>
          have HB := hide (look_bad hm hlt (by rw [← unhide HX]; show (!(x / 2 ^ wd != 0)) = false; rw [hz]; rfl))
          go_wp2_with fail
          go_ret
          exact ⟨ret_int (unhide HB).symm, rfl⟩
        | false =>
          have HB : Hid ((l.take (k + 1)).all (okB wd) = true) := by
            show _ = _
            rw [List.take_succ_eq_append_getElem hlt, List.all_append, unhide HA, ← unhide HX]
            simp only [List.all_cons, List.all_nil, Bool.and_true, Bool.true_and]
            show (!(x / 2 ^ wd != 0)) = true
            rw [hz]; rfl
          go_wp2_with fail
          go_round
          case rel => exact ⟨k + 1, by omega, by go_num, unhide HB⟩
          case measure => simp [intOf]; omega
      · have hk2 : k = l.length := by omega
        have HB : Hid (lookE wd l = 0) := look_ok hm (by have := unhide HA; rw [hk2, List.take_length] at this; exact this)
        clear hk2
        go_wp2_with fail
        go_ret
        exact ⟨ret_int (unhide HB).symm, rfl⟩
  · have hm1 : (256 : Int) < (l.length : Int) := by omega
    have HB := hide (look_many (wd := wd) hm)
    go_enter Tryz.func39, Tryz.ntmps39
    go_wp2_with fail
    go_ret
    exact ⟨ret_int (unhide HB).symm, rfl⟩

/-- The first order that serves. -/
def pickI (os : List (List Int)) (s : Int) : Option Nat := (List.range os.length).find? fun j => coverB (os.getD j []) s
def pickN (os : List (List Int)) (s : Int) : Int := ((pickI os s).getD 0 : Nat)
def pickB (os : List (List Int)) (s : Int) : Bool := (pickI os s).isSome
theorem pick_yes {os : List (List Int)} {s : Int} {k : Nat} (hk : k < os.length) (h : ∀ j, j < k → coverB (os.getD j []) s = false) (h1 : coverB (os.getD k []) s = true) : pickN os s = k ∧ pickB os s = true := by
  have : pickI os s = some k := by
    unfold pickI
    rw [List.find?_range_eq_some]
    exact ⟨h1, List.mem_range.2 hk, fun j hj => by simpa using h j hj⟩
  simp [pickN, pickB, this]
theorem pick_no {os : List (List Int)} {s : Int} (h : ∀ j, j < os.length → coverB (os.getD j []) s = false) : pickN os s = 0 ∧ pickB os s = false := by
  have : pickI os s = none := by
    unfold pickI
    rw [List.find?_range_eq_none]
    exact fun j hj => by simpa using h j hj
  simp [pickN, pickB, this]
theorem pick_some {os : List (List Int)} {s : Int} (h : ∃ o ∈ os, coverB o s = true) : pickB os s = true := by
  obtain ⟨o, ho, hc⟩ := h
  obtain ⟨j, hj, rfl⟩ := List.getElem_of_mem ho
  cases hb : pickB os s with
  | true => rfl
  | false =>
    unfold pickB pickI at hb
    simp only [Option.isSome_eq_false_iff, Option.isNone_iff_eq_none, List.find?_range_eq_none] at hb
    have := hb j hj
    rw [List.getD, List.getElem?_eq_getElem hj] at this
    simp [hc] at this
def PkR (os : List (List Int)) (s : Int) (i : Value) : Prop := ∃ k : Nat, k ≤ os.length ∧ i = .int .i64 (k : Int) ∧ ∀ j, j < k → coverB (os.getD j []) s = false

set_option maxRecDepth 100000 in
set_option maxHeartbeats 4000000 in
theorem pick_any (S : Nat → Prop) (w : World) (ov : Value) (os : List (List Int)) (h : ListAt S w ov os) (s : Int) :
    Calls Tryz.prog 74 #[ov, .int .i64 s] w fun e w' => e = .returned (.tuple #[.int .i64 (pickN os s), .bool (pickB os s)]) ∧ w' = w := by
  obtain ⟨f, ⟨a, cap, rfl, hc1, hc2, hcell⟩, hin⟩ := h
  have HC := hide (And.intro hcell hin)
  clear hcell hin
  go_enter Tryz.func74, Tryz.ntmps74
  go_wp2_with fail
  go_loop [12] (fun i => PkR os s i) (fun i => os.length - (intOf i).toNat)
  case atStart => exact ⟨0, Nat.zero_le _, rfl, fun j hj => by omega⟩
  case round =>
    obtain ⟨k, hk, rfl, hall⟩ := hrel
    have HA := hide hall
    clear hall
    by_cases hlt : k < os.length
    · obtain ⟨b, off, rfl, _, hc⟩ := (unhide HC).1 k hlt
      have hi := ((unhide HC).2 k hlt).ints
      have hcov := cover_any w.heap.size w (f k) (os.getD k []) s hi
      obtain ⟨xa, xc, ex, _⟩ := id hi
      obtain ⟨n, hn⟩ : ∃ n, n = (os.getD k []).length := ⟨_, rfl⟩
      rw [← hn] at ex
      clear hn
      rw [ex] at hc hcov
      obtain ⟨o, ho⟩ : ∃ o, o = os.getD k [] := ⟨_, rfl⟩
      rw [← ho] at hcov
      have HO := hide ho
      clear ho ex hi
      go_wp2_with fail
      refine hcov.mono ?_
      clear hcov
      rintro e w' ⟨rfl, rfl⟩
      generalize coverN o s = cn
      cases hcb : coverB o s with
      | true =>
        have HB := hide (pick_yes hlt (unhide HA) (by rw [← unhide HO]; exact hcb))
        clear hcb
        go_wp2_with fail
        go_ret2
        exact ⟨tupIB (unhide HB).1.symm (unhide HB).2.symm, rfl⟩
      | false =>
        have HB : Hid (∀ j, j < k + 1 → coverB (os.getD j []) s = false) := fun j hj => by
          by_cases e : j = k
          · rw [e, ← unhide HO]; exact hcb
          · exact unhide HA j (by omega)
        clear hcb
        go_wp2_with fail
        go_round
        case rel => exact ⟨k + 1, by omega, by go_num, unhide HB⟩
        case measure => simp [intOf]; omega
    · have hk2 : k = os.length := by omega
      have HB := hide (pick_no (os := os) (s := s) (by have := unhide HA; rw [hk2] at this; exact this))
      clear hk2
      go_wp2_with fail
      go_ret2
      exact ⟨tupIB (unhide HB).1.symm (unhide HB).2.symm, rfl⟩

end Go.Proofs.YthcljhfankooaabGreat.C
