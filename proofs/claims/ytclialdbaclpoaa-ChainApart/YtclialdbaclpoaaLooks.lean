/- Walks of look, Pick and the document's Pick. -/
import Derived.Test.YtclialdbaclpoaaCover
import Derived.Test.YtclialdbaclpoaaBase
namespace Go.Proofs.Ytclialdbaclpoaa
open Go.RowKit Go.Shelf Go.Maps

/-- What is wrong with searches. -/
def okB (wd : Nat) (x : Int) : Bool := !(x / 2 ^ wd != 0)
theorem okB_iff {wd : Nat} {x : Int} : okB wd x = true ↔ 0 ≤ x ∧ x < ((2 ^ wd : Nat) : Int) := by
  unfold okB
  have e : ((2 : Int) ^ wd) = ((2 ^ wd : Nat) : Int) := by simp
  have hp : (0 : Int) < ((2 ^ wd : Nat) : Int) := by have : 0 < 2 ^ wd := Nat.two_pow_pos wd; omega
  rw [e]
  generalize ((2 ^ wd : Nat) : Int) = p at hp
  simp only [Bool.not_eq_true', bne_eq_false_iff_eq]
  constructor
  · intro h
    have h1 := Int.emod_nonneg x (show p ≠ 0 by omega)
    have h2 := Int.emod_lt_of_pos x hp
    have h3 := Int.emod_add_mul_ediv x p
    rw [h, Int.mul_zero] at h3
    omega
  · rintro ⟨h1, h2⟩
    exact Int.ediv_eq_zero_of_lt h1 h2
def lookE (wd : Nat) (l : List Int) : Int := if l.length ≤ 256 then (if l.all (okB wd) = true then 0 else 1) else 3
theorem look_many {wd : Nat} {l : List Int} (h : ¬ l.length ≤ 256) : lookE wd l = 3 := if_neg h
theorem look_bad {wd : Nat} {l : List Int} (h : l.length ≤ 256) {k : Nat} (hk : k < l.length) (hb : okB wd l[k] = false) : lookE wd l = 1 := by
  unfold lookE
  rw [if_pos h, if_neg]
  intro g
  rw [List.all_eq_true.1 g _ (List.getElem_mem hk)] at hb
  cases hb
theorem look_ok {wd : Nat} {l : List Int} (h : l.length ≤ 256) (hb : l.all (okB wd) = true) : lookE wd l = 0 := by
  unfold lookE
  rw [if_pos h, if_pos hb]
def LkR (wd : Nat) (l : List Int) (i : Value) : Prop := ∃ k : Nat, k ≤ l.length ∧ i = .int .i64 (k : Int) ∧ (l.take k).all (okB wd) = true

set_option maxRecDepth 100000 in
set_option maxHeartbeats 4000000 in
theorem look_any (B : Nat) (w : World) (v : Value) (l : List Int) (h : Ints B w v l) (wd : Nat) (hw : wd ≤ 8) :
    Calls Try.prog 18 #[.int .i64 (wd : Int), v] w fun e w' => e = .returned (.int .i64 (lookE wd l)) ∧ w' = w := by
  obtain ⟨a, cap, rfl, hc1, hc2, hcell⟩ := h
  have HC := hide hcell
  clear hcell
  by_cases hm : l.length ≤ 256
  · have hm1 : ¬ ((256 : Int) < (l.length : Int)) := by omega
    go_enter Try.func18, Try.ntmps18
    go_wp2_with fail
    go_loop [12] (fun i => LkR wd l i) (fun i => l.length - (intOf i).toNat)
    case atStart => exact ⟨0, Nat.zero_le _, rfl, rfl⟩
    case round =>
      obtain ⟨k, hk, rfl, hall⟩ := hrel
      have HA := hide hall
      clear hall
      by_cases hlt : k < l.length
      · obtain ⟨b, off, rfl, _, hc⟩ := unhide HC k l[k] (by simp [hlt])
        obtain ⟨x, hx⟩ : ∃ x, x = l[k] := ⟨_, rfl⟩
        rw [← hx] at hc
        have HX := hide hx
        clear hx
        cases hz : (x / 2 ^ wd != 0) with
        | true =>
          have HB := hide (look_bad hm hlt (by rw [← unhide HX]; show (!(x / 2 ^ wd != 0)) = false; rw [hz]; rfl))
          go_wp2_with fail
          go_ret
          exact ⟨ret_int (unhide HB).symm, rfl⟩
        | false =>
          have HB : Hid ((l.take (k + 1)).all (okB wd) = true) := by
            show _ = _
            rw [List.take_succ_eq_append_getElem hlt, List.all_append, unhide HA, ← unhide HX]
            simp only [List.all_cons, List.all_nil, Bool.and_true, Bool.true_and]
            show (!(x / 2 ^ wd != 0)) = true
            rw [hz]; rfl
          go_wp2_with fail
          go_round
          case rel => exact ⟨k + 1, by omega, by go_num, unhide HB⟩
          case measure => simp [intOf]; omega
      · have hk2 : k = l.length := by omega
        have HB : Hid (lookE wd l = 0) := look_ok hm (by have := unhide HA; rw [hk2, List.take_length] at this; exact this)
        clear hk2
        go_wp2_with fail
        go_ret
        exact ⟨ret_int (unhide HB).symm, rfl⟩
  · have hm1 : (256 : Int) < (l.length : Int) := by omega
    have HB := hide (look_many (wd := wd) hm)
    go_enter Try.func18, Try.ntmps18
    go_wp2_with fail
    go_ret
    exact ⟨ret_int (unhide HB).symm, rfl⟩

/-- The first order that serves. -/
def pickI (os : List (List Int)) (s : Int) : Option Nat := (List.range os.length).find? fun j => coverB (os.getD j []) s
def pickN (os : List (List Int)) (s : Int) : Int := ((pickI os s).getD 0 : Nat)
def pickB (os : List (List Int)) (s : Int) : Bool := (pickI os s).isSome
theorem pick_yes {os : List (List Int)} {s : Int} {k : Nat} (hk : k < os.length) (h : ∀ j, j < k → coverB (os.getD j []) s = false) (h1 : coverB (os.getD k []) s = true) : pickN os s = k ∧ pickB os s = true := by
  have : pickI os s = some k := by
    unfold pickI
    rw [List.find?_range_eq_some]
    exact ⟨h1, List.mem_range.2 hk, fun j hj => by simpa using h j hj⟩
  simp [pickN, pickB, this]
theorem pick_no {os : List (List Int)} {s : Int} (h : ∀ j, j < os.length → coverB (os.getD j []) s = false) : pickN os s = 0 ∧ pickB os s = false := by
  have : pickI os s = none := by
    unfold pickI
    rw [List.find?_range_eq_none]
    exact fun j hj => by simpa using h j hj
  simp [pickN, pickB, this]
theorem pick_some {os : List (List Int)} {s : Int} (h : ∃ o ∈ os, coverB o s = true) : pickB os s = true := by
  obtain ⟨o, ho, hc⟩ := h
  obtain ⟨j, hj, rfl⟩ := List.getElem_of_mem ho
  cases hb : pickB os s with
  | true => rfl
  | false =>
    unfold pickB pickI at hb
    simp only [Option.isSome_eq_false_iff, Option.isNone_iff_eq_none, List.find?_range_eq_none] at hb
    have := hb j hj
    rw [List.getD, List.getElem?_eq_getElem hj] at this
    simp [hc] at this
def PkR (os : List (List Int)) (s : Int) (i : Value) : Prop := ∃ k : Nat, k ≤ os.length ∧ i = .int .i64 (k : Int) ∧ ∀ j, j < k → coverB (os.getD j []) s = false

set_option maxRecDepth 100000 in
set_option maxHeartbeats 4000000 in
theorem pick_any (S : Nat → Prop) (w : World) (ov : Value) (os : List (List Int)) (h : ListAt S w ov os) (s : Int) :
    Calls Try.prog 16 #[ov, .int .i64 s] w fun e w' => e = .returned (.tuple #[.int .i64 (pickN os s), .bool (pickB os s)]) ∧ w' = w := by
  obtain ⟨f, ⟨a, cap, rfl, hc1, hc2, hcell⟩, hin⟩ := h
  have HC := hide (And.intro hcell hin)
  clear hcell hin
  go_enter Try.func16, Try.ntmps16
  go_wp2_with fail
  go_loop [12] (fun i => PkR os s i) (fun i => os.length - (intOf i).toNat)
  case atStart => exact ⟨0, Nat.zero_le _, rfl, fun j hj => by omega⟩
  case round =>
    obtain ⟨k, hk, rfl, hall⟩ := hrel
    have HA := hide hall
    clear hall
    by_cases hlt : k < os.length
    · obtain ⟨b, off, rfl, _, hc⟩ := (unhide HC).1 k hlt
      have hi := ((unhide HC).2 k hlt).ints
      have hcov := cover_any w.heap.size w (f k) (os.getD k []) s hi
      obtain ⟨xa, xc, ex, _⟩ := id hi
      obtain ⟨n, hn⟩ : ∃ n, n = (os.getD k []).length := ⟨_, rfl⟩
      rw [← hn] at ex
      clear hn
      rw [ex] at hc hcov
      obtain ⟨o, ho⟩ : ∃ o, o = os.getD k [] := ⟨_, rfl⟩
      rw [← ho] at hcov
      have HO := hide ho
      clear ho ex hi
      go_wp2_with fail
      refine hcov.mono ?_
      clear hcov
      rintro e w' ⟨rfl, rfl⟩
      generalize coverN o s = cn
      cases hcb : coverB o s with
      | true =>
        have HB := hide (pick_yes hlt (unhide HA) (by rw [← unhide HO]; exact hcb))
        clear hcb
        go_wp2_with fail
        go_ret2
        exact ⟨tupIB (unhide HB).1.symm (unhide HB).2.symm, rfl⟩
      | false =>
        have HB : Hid (∀ j, j < k + 1 → coverB (os.getD j []) s = false) := fun j hj => by
          by_cases e : j = k
          · rw [e, ← unhide HO]; exact hcb
          · exact unhide HA j (by omega)
        clear hcb
        go_wp2_with fail
        go_round
        case rel => exact ⟨k + 1, by omega, by go_num, unhide HB⟩
        case measure => simp [intOf]; omega
    · have hk2 : k = os.length := by omega
      have HB := hide (pick_no (os := os) (s := s) (by have := unhide HA; rw [hk2] at this; exact this))
      clear hk2
      go_wp2_with fail
      go_ret2
      exact ⟨tupIB (unhide HB).1.symm (unhide HB).2.symm, rfl⟩

set_option maxRecDepth 100000 in
set_option maxHeartbeats 4000000 in
theorem rpick_any (S : Nat → Prop) (w : World) (ov : Value) (os : List (List Int)) (h : ListAt S w ov os) (s : Int) :
    Calls Try.prog 15 #[ov, .int .i64 s] w fun e w' => e = .returned (.tuple #[.int .i64 (pickN os s), .bool (pickB os s)]) ∧ w' = w := by
  obtain ⟨f, ⟨a, cap, rfl, hc1, hc2, hcell⟩, hin⟩ := h
  have HC := hide (And.intro hcell hin)
  clear hcell hin
  go_enter Try.func15, Try.ntmps15
  go_wp2_with fail
  go_loop [6] (fun i => PkR os s i) (fun i => os.length - (intOf i).toNat)
  case atStart => exact ⟨0, Nat.zero_le _, rfl, fun j hj => by omega⟩
  case round =>
    obtain ⟨k, hk, rfl, hall⟩ := hrel
    have HA := hide hall
    clear hall
    by_cases hlt : k < os.length
    · obtain ⟨b, off, rfl, _, hc⟩ := (unhide HC).1 k hlt
      have hi := ((unhide HC).2 k hlt).ints
      have hcov := rcover_any w.heap.size w (f k) (os.getD k []) s hi
      obtain ⟨xa, xc, ex, _⟩ := id hi
      obtain ⟨n, hn⟩ : ∃ n, n = (os.getD k []).length := ⟨_, rfl⟩
      rw [← hn] at ex
      clear hn
      rw [ex] at hc hcov
      obtain ⟨o, ho⟩ : ∃ o, o = os.getD k [] := ⟨_, rfl⟩
      rw [← ho] at hcov
      have HO := hide ho
      clear ho ex hi
      go_wp2_with fail
      refine hcov.mono ?_
      clear hcov
      rintro e w' ⟨rfl, rfl⟩
      generalize coverN o s = cn
      cases hcb : coverB o s with
      | true =>
        have HB := hide (pick_yes hlt (unhide HA) (by rw [← unhide HO]; exact hcb))
        clear hcb
        go_wp2_with fail
        go_ret2
        exact ⟨tupIB (unhide HB).1.symm (unhide HB).2.symm, rfl⟩
      | false =>
        have HB : Hid (∀ j, j < k + 1 → coverB (os.getD j []) s = false) := fun j hj => by
          by_cases e : j = k
          · rw [e, ← unhide HO]; exact hcb
          · exact unhide HA j (by omega)
        clear hcb
        go_wp2_with fail
        go_round
        case rel => exact ⟨k + 1, by omega, by go_num, unhide HB⟩
        case measure => simp [intOf]; omega
    · have hk2 : k = os.length := by omega
      have HB := hide (pick_no (os := os) (s := s) (by have := unhide HA; rw [hk2] at this; exact this))
      clear hk2
      go_wp2_with fail
      go_ret2
      exact ⟨tupIB (unhide HB).1.symm (unhide HB).2.symm, rfl⟩
end Go.Proofs.Ytclialdbaclpoaa
