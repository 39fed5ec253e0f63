/- Walks of Right and the document's Right, of fit and the document's fits. -/
import Derived.Test.YthcljhfankooaabGreatBCols
namespace Go.Proofs.YthcljhfankooaabGreat
open Go.RowKit

/-- Is a number in a list? -/
def hasB (l : List Int) (n : Int) : Bool := decide (n ∈ l)
def HRel (l : List Int) (n : Int) (i : Value) : Prop := ∃ k : Nat, k ≤ l.length ∧ i = .int .i64 k ∧ n ∉ l.take k
theorem HRel.next {l : List Int} {n : Int} {k : Nat} (hk : k < l.length) (h : n ∉ l.take k) (hx : l[k] ≠ n) : n ∉ l.take (k + 1) := by
  rw [List.take_succ_eq_append_getElem hk]
  simp only [List.mem_append, List.mem_singleton, not_or]
  exact ⟨h, fun e => hx e.symm⟩

set_option maxRecDepth 100000 in
set_option maxHeartbeats 4000000 in
theorem has_any (B : Nat) (w : World) (v : Value) (l : List Int) (h : Ints B w v l) (n : Int) :
    Calls Tryz.prog 84 #[v, .int .i64 n] w fun e w' => e = .returned (.bool (hasB l n)) ∧ w' = w := by
  obtain ⟨a, cap, rfl, hc1, hc2, hcell⟩ := h
  have HC := hide hcell
  clear hcell
  go_enter Tryz.func84, Tryz.ntmps84
  go_wp2_with fail
  go_loop [5] (fun i => HRel l n i) (fun i => l.length - (intOf i).toNat)
  case atStart => exact ⟨0, Nat.zero_le _, rfl, by simp⟩
  case round =>
    obtain ⟨k, hk, rfl, hn⟩ := hrel
    have HN := hide hn
    by_cases hlt : k < l.length
    · obtain ⟨b, off, rfl, _, hc⟩ := unhide HC k l[k] (by simp [hlt])
      clear HC hn
      obtain ⟨x, hx⟩ : ∃ x, x = l[k] := ⟨_, rfl⟩
      rw [← hx] at hc
      have HX := hide hx
      clear hx
      by_cases he : x = n
      · have HB : Hid (hasB l n = true) := decide_eq_true (by rw [← he, unhide HX]; exact List.getElem_mem hlt)
        have h1 : (x == n) = true := by simpa using he
        clear he HN
        go_wp2_with fail
        go_ret
        exact ⟨ret_bool (unhide HB).symm, rfl⟩
      · have h1 : (x == n) = false := by simpa using he
        have HD := hide (HRel.next hlt (unhide HN) (by rw [← unhide HX]; exact he))
        clear he HN
        go_wp2_with fail
        go_round
        case rel => exact ⟨k + 1, by omega, by go_num, unhide HD⟩
        case measure => simp [intOf]; omega
    · have hk2 : k = l.length := by omega
      subst hk2
      rw [List.take_length] at hn
      have HB : Hid (hasB l n = false) := decide_eq_false hn
      clear hn HN HC
      go_wp2_with fail
      go_ret
      exact ⟨ret_bool (unhide HB).symm, rfl⟩

def RRel (l : List Int) (i : Value) : Prop := ∃ k : Nat, k ≤ l.length ∧ i = .int .i64 k ∧ ∀ j : Nat, j < k → (j : Int) ∈ l
theorem rright_false {l : List Int} {k : Nat} (hk : k < l.length) (h : hasB l (k : Int) = false) : right l = false := by
  rw [right_iff, rright]
  have : ¬ ∀ i, i < l.length → ((i : Nat) : Int) ∈ l := fun g => by simp [hasB] at h; exact h (g k hk)
  rw [decide_eq_false this]; rfl
theorem rright_all {l : List Int} (h : ∀ j : Nat, j < l.length → (j : Int) ∈ l) : right l = decide ((l.length : Int) ≤ 8) := by
  rw [right_iff, rright, decide_eq_true h, Bool.true_and, Bool.eq_iff_iff]
  simp only [decide_eq_true_eq]
  omega

set_option maxRecDepth 100000 in
set_option maxHeartbeats 4000000 in
theorem rright_any (B : Nat) (w : World) (v : Value) (l : List Int) (h : Ints B w v l) :
    Calls Tryz.prog 93 #[v] w fun e w' => e = .returned (.bool (right l)) ∧ w' = w := by
  have HI := hide h
  obtain ⟨a, cap, rfl, hc1, hc2, _⟩ := h
  go_enter Tryz.func93, Tryz.ntmps93
  go_wp2_with fail
  go_loop [3] (fun i => RRel l i) (fun i => l.length - (intOf i).toNat)
  case atStart => exact ⟨0, Nat.zero_le _, rfl, fun j hj => by omega⟩
  case round =>
    obtain ⟨k, hk, rfl, hn⟩ := hrel
    have HN := hide hn
    clear hn
    by_cases hlt : k < l.length
    · go_wp2_with fail
      refine (has_any B w _ l (unhide HI) k).mono ?_
      rintro e w' ⟨rfl, rfl⟩
      cases hb : hasB l (k : Int) with
      | false =>
        have HB := hide (rright_false hlt hb)
        clear hb
        go_wp2_with fail
        go_ret
        exact ⟨ret_bool (unhide HB).symm, rfl⟩
      | true =>
        have HB := hide (of_decide_eq_true hb)
        clear hb
        go_wp2_with fail
        go_round
        case rel =>
          refine ⟨k + 1, by omega, by go_num, fun j hj => ?_⟩
          rcases Nat.lt_or_eq_of_le (Nat.lt_succ_iff.1 hj) with g | rfl
          · exact unhide HN j g
          · exact unhide HB
        case measure => simp [intOf]; omega
    · have hk2 : k = l.length := by omega
      subst hk2
      have HB := hide (rright_all (unhide HN))
      go_wp2_with fail
      go_ret
      exact ⟨ret_bool (by rw [unhide HB]), rfl⟩

theorem pow_len (n : Nat) (h : n ≤ 8) (m : Nat) : ((m : Int) == wrap64 (wrap64 ((2 : Int) ^ n) - 1)) = decide ((m : Int) = 2 ^ n - 1) := by
  have e : ((2 : Int) ^ n) = ((2 ^ n : Nat) : Int) := by simp
  have := pow_lt n h
  have h1 : 1 ≤ (2 : Nat) ^ n := Nat.one_le_two_pow
  rw [pow_wrap n h, e]
  generalize 2 ^ n = p at *
  rw [Bool.eq_iff_iff, beq_iff_eq, decide_eq_true_eq, wrap64]
  omega

set_option maxRecDepth 100000 in
set_option maxHeartbeats 4000000 in
theorem right_any (B : Nat) (w : World) (v : Value) (l : List Int) (h : Ints B w v l) :
    Calls Tryz.prog 44 #[v] w fun e w' => e = .returned (.bool (right l)) ∧ w' = w := by
  have HI := hide h
  obtain ⟨a, cap, rfl, hc1, hc2, _⟩ := h
  by_cases h8 : l.length ≤ 8
  · have HP := hide (pow_len l.length h8 (mask l))
    cases ha : l.all inB with
    | true =>
      have H1 : Hid (colsN l = (mask l : Int) ∧ colsE l = 0) := ⟨if_pos ha, if_pos ha⟩
      have H2 : Hid (right l = decide ((mask l : Int) = 2 ^ l.length - 1)) := by show _ = _; rw [right, ha, decide_eq_true h8]; rfl
      clear ha
      go_enter Tryz.func44, Tryz.ntmps44
      go_wp2_with fail
      refine (cols_any B w _ l (unhide HI)).mono ?_
      rw [(unhide H1).1, (unhide H1).2]
      generalize mask l = m at H2 HP
      rintro e w' ⟨rfl, rfl⟩
      go_wp2_with fail
      go_ret
      exact ⟨ret_bool (by rw [unhide H2, unhide HP]), rfl⟩
    | false =>
      have H1 : Hid (colsN l = 0 ∧ colsE l = 1) := ⟨if_neg (by simp [ha]), if_neg (by simp [ha])⟩
      have H2 : Hid (right l = false) := by show _ = _; rw [right, ha]; simp
      clear ha
      go_enter Tryz.func44, Tryz.ntmps44
      go_wp2_with fail
      refine (cols_any B w _ l (unhide HI)).mono ?_
      rw [(unhide H1).1, (unhide H1).2]
      rintro e w' ⟨rfl, rfl⟩
      go_wp2_with fail
      go_ret
      exact ⟨ret_bool (by rw [unhide H2]), rfl⟩
  · have H2 : Hid (right l = false) := by show _ = _; rw [right, decide_eq_false h8]; rfl
    go_enter Tryz.func44, Tryz.ntmps44
    go_wp2_with fail
    go_ret
    exact ⟨ret_bool (unhide H2).symm, rfl⟩
/-- Tuples' widths, as fit sees them. -/
def Widths (w : World) (tb : Nat) (ns : List Nat) : Prop := ∀ j n, ns[j]? = some n → ∃ a c, w.cell? ⟨tb, j, none⟩ = some (.slice a n c)
def FRel (l : List Int) (ns : List Nat) (i : Value) : Prop := ∃ k : Nat, k ≤ ns.length ∧ i = .int .i64 k ∧ (ns.take k).all (fun n => decide (n = l.length)) = true
theorem fitN_bad {l : List Int} {ns : List Nat} {k : Nat} (hk : k < ns.length) (h : ns[k] ≠ l.length) : fitN l ns = false := by
  unfold fitN
  have : ns.all (fun n => decide (n = l.length)) = false := by
    rw [List.all_eq_false]
    exact ⟨ns[k], List.getElem_mem hk, by simpa using h⟩
  rw [this]; rfl
theorem FRel.next {l : List Int} {ns : List Nat} {k : Nat} (hk : k < ns.length) (ha : (ns.take k).all (fun n => decide (n = l.length)) = true) (hb : ns[k] = l.length) : (ns.take (k + 1)).all (fun n => decide (n = l.length)) = true := by
  rw [List.take_succ_eq_append_getElem hk, List.all_append, ha]
  simp [hb]

set_option maxRecDepth 100000 in
set_option maxHeartbeats 4000000 in
theorem fit_any (B : Nat) (w : World) (v : Value) (l : List Int) (h : Ints B w v l) (tb : Nat) (ns : List Nat) (hns : ns.length ≤ 9) (ht : Widths w tb ns) :
    Calls Tryz.prog 150 #[v, .slice (some ⟨tb, 0, none⟩) ns.length ns.length] w fun e w' => e = .returned (.bool (fitN l ns)) ∧ w' = w := by
  have HI := hide h
  have HT := hide ht
  clear ht
  obtain ⟨a, cap, rfl, hc1, hc2, _⟩ := h
  go_enter Tryz.func150, Tryz.ntmps150
  go_wp2_with fail
  go_loop [8] (fun i => FRel l ns i) (fun i => ns.length - (intOf i).toNat)
  case atStart => exact ⟨0, Nat.zero_le _, rfl, rfl⟩
  case round =>
    obtain ⟨k, hk, rfl, hn⟩ := hrel
    have HN := hide hn
    by_cases hlt : k < ns.length
    · obtain ⟨a1, c1, hc⟩ := unhide HT k ns[k] (by simp [hlt])
      clear HT hn
      obtain ⟨x, hx⟩ : ∃ x, x = ns[k] := ⟨_, rfl⟩
      rw [← hx] at hc
      have HX := hide hx
      clear hx
      by_cases he : x = l.length
      · have h1 : ((x : Int) != (l.length : Int)) = false := by simp [he]
        have HD := hide (FRel.next hlt (unhide HN) (by rw [← unhide HX]; exact he))
        clear he HN
        go_wp2_with fail
        go_round
        case rel => exact ⟨k + 1, by omega, by go_num, unhide HD⟩
        case measure => simp [intOf]; omega
      · have h1 : ((x : Int) != (l.length : Int)) = true := by simp; omega
        have HB := hide (fitN_bad (l := l) hlt (by rw [← unhide HX]; exact he))
        clear he HN
        go_wp2_with fail
        go_ret
        exact ⟨ret_bool (unhide HB).symm, rfl⟩
    · have hk2 : k = ns.length := by omega
      subst hk2
      rw [List.take_length] at hn
      have HB : Hid (fitN l ns = right l) := by show _ = _; rw [fitN, hn]; rfl
      clear hn HN HT
      go_wp2_with fail
      refine (right_any B w _ l (unhide HI)).mono ?_
      rintro e w' ⟨rfl, rfl⟩
      go_wp2_with fail
      go_ret
      exact ⟨ret_bool (by rw [unhide HB]), rfl⟩

theorem len_beq (x y : Nat) : ((x : Int) == (y : Int)) = decide (x = y) := by
  rw [Bool.eq_iff_iff, beq_iff_eq, decide_eq_true_eq]; omega

set_option maxRecDepth 100000 in
set_option maxHeartbeats 4000000 in
theorem fits_any (B : Nat) (w : World) (v x y : Value) (l s t : List Int) (h : Ints B w v l) (hs : Ints B w x s) (ht : Ints B w y t) :
    Calls Tryz.prog 72 #[v, x, y] w fun e w' => e = .returned (.bool (fitN l [s.length, t.length])) ∧ w' = w := by
  have HI := hide h
  obtain ⟨a, cap, rfl, hc1, hc2, _⟩ := h
  obtain ⟨a2, cap2, rfl, hd1, hd2, _⟩ := hs
  obtain ⟨a3, cap3, rfl, he1, he2, _⟩ := ht
  have E3 : Hid (fitN l [s.length, t.length] = (((s.length : Int) == (l.length : Int)) && ((t.length : Int) == (l.length : Int)) && right l)) := by show _ = _; rw [len_beq, len_beq]; simp [fitN]
  go_enter Tryz.func72, Tryz.ntmps72
  go_wp2_with fail
  refine (rright_any B w _ l (unhide HI)).mono ?_
  rintro e w' ⟨rfl, rfl⟩
  generalize right l = r at E3
  cases e1 : ((s.length : Int) == (l.length : Int))
  all_goals cases e2 : ((t.length : Int) == (l.length : Int))
  all_goals cases r
  all_goals
    have E4 := unhide E3
    rw [e1, e2] at E4
    have E5 := hide E4
    clear E3 E4
    go_wp2_with fail
    go_ret
    exact ⟨ret_bool (unhide E5).symm, rfl⟩

theorem widths2 {w : World} {tb : Nat} {a a' : Option Addr} {m c n c' : Nat} (h0 : w.cell? ⟨tb, 0, none⟩ = some (.slice a m c)) (h1 : w.cell? ⟨tb, 1, none⟩ = some (.slice a' n c')) : Widths w tb [m, n]
  | 0, _, h => by obtain rfl : m = _ := by simpa using h
                  exact ⟨a, c, h0⟩
  | 1, _, h => by obtain rfl : n = _ := by simpa using h
                  exact ⟨a', c', h1⟩
  | j + 2, _, h => by simp at h
theorem widths1 {w : World} {tb : Nat} {a : Option Addr} {m c : Nat} (h0 : w.cell? ⟨tb, 0, none⟩ = some (.slice a m c)) : Widths w tb [m]
  | 0, _, h => by obtain rfl : m = _ := by simpa using h
                  exact ⟨a, c, h0⟩
  | j + 1, _, h => by simp at h
theorem fit2_any (B : Nat) (w : World) (v : Value) (l : List Int) (h : Ints B w v l) (tb m n : Nat) (ht : Widths w tb [m, n]) :
    Calls Tryz.prog 150 #[v, .slice (some ⟨tb, 0, none⟩) 2 2] w fun e w' => e = .returned (.bool (fitN l [m, n])) ∧ w' = w := fit_any B w v l h tb [m, n] (by simp) ht
theorem fit1_any (B : Nat) (w : World) (v : Value) (l : List Int) (h : Ints B w v l) (tb m : Nat) (ht : Widths w tb [m]) :
    Calls Tryz.prog 150 #[v, .slice (some ⟨tb, 0, none⟩) 1 1] w fun e w' => e = .returned (.bool (fitN l [m])) ∧ w' = w := fit_any B w v l h tb [m] (by simp) ht
end Go.Proofs.YthcljhfankooaabGreat
