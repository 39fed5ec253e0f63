/- Walks of the document's Cmp, of Head and of the document's Head. -/
import Derived.Test.YthcljhfankooaabGreatBCmps
namespace Go.Proofs.YthcljhfankooaabGreat
open Go.RowKit

set_option maxRecDepth 100000 in
set_option maxHeartbeats 4000000 in
theorem rcmp_any (B : Nat) (w : World) (u v z : Value) (o s t : List Int) (hB : B ≤ w.heap.size) (ho : Ints B w u o) (hs : Ints B w v s) (ht : Ints B w z t) :
    Calls Tryz.prog 50 #[u, v, z] w fun e w' => e = .returned (.int .i64 (cmpA o s t)) ∧ Below w.heap.size w w' := by
  have HO := hide ho
  have HS := hide hs
  have HT := hide ht
  obtain ⟨a, cap, rfl, hc1, hc2, _⟩ := ho
  obtain ⟨a2, cap2, rfl, hd1, hd2, _⟩ := hs
  obtain ⟨a3, cap3, rfl, he1, he2, _⟩ := ht
  go_enter Tryz.func50, Tryz.ntmps50
  go_wp2_with fail
  refine (fits_any B w _ _ _ o s t (unhide HO) (unhide HS) (unhide HT)).mono ?_
  rintro e w' ⟨rfl, rfl⟩
  cases hf : fitN o [s.length, t.length] with
  | false =>
    have H := hide (cmpA_not hf)
    clear hf
    go_wp2_with fail
    go_ret
    exact ⟨ret_int (unhide H).symm, Below.refl _ _⟩
  | true =>
    have HF := hide hf
    clear hf
    go_wp2_with fail
    go_loopw [7] (fun i wr => QRel w' o s t i wr) (fun i _ => o.length - (intOf i).toNat)
    case atStart => exact ⟨0, Nat.zero_le _, rfl, rfl, Below.refl _ _⟩
    case round =>
      obtain ⟨k, hk, rfl, hq, hb⟩ := hrel
      have HQ := hide hq
      have HB := hide hb
      clear hq
      by_cases hlt : k < o.length
      · obtain ⟨b0, o0, b1, o1, b2, o2, x, rfl, rfl, rfl, hx, x0, x1, x2, y0, y1, y2⟩ := cols3 ((unhide HO).below hb hB) ((unhide HS).below hb hB) ((unhide HT).below hb hB) (unhide HF) hlt
        have HC := hide (cmpTo_step (a := s) (b := t) hlt)
        rw [← hx] at HC
        clear hx hb
        generalize at_ s x = p at *
        generalize at_ t x = q at *
        by_cases h1 : p < q
        · have HN : Hid (cmpA o s t = -1) := by show _ = _; rw [cmpA_fit (unhide HF), unhide HQ, unhide HC, if_pos h1]
          go_wp2_with fail
          go_quiet (fail)
          go_wp2_with fail
          go_ret
          exact ⟨ret_int (unhide HN).symm, below_drewN (unhide HB) _⟩
        · by_cases h2 : q < p
          · have HN : Hid (cmpA o s t = 1) := by show _ = _; rw [cmpA_fit (unhide HF), unhide HQ, unhide HC, if_neg h1, if_pos h2]
            go_wp2_with fail
            go_quiet (fail)
            go_wp2_with fail
            go_ret
            exact ⟨ret_int (unhide HN).symm, below_drewN (unhide HB) _⟩
          · have HN : Hid (cmpTo o s t 0 = cmpTo o s t (k + 1)) := by show _ = _; rw [unhide HQ, unhide HC, if_neg h1, if_neg h2]
            go_wp2_with fail
            go_quiet (fail)
            go_wp2_with fail
            go_roundw
            case rel => exact ⟨k + 1, by omega, by go_num, unhide HN, below_drewN (unhide HB) _⟩
            case measure => simp [intOf]; omega
      · have hk2 : k = o.length := by omega
        subst hk2
        have HN : Hid (cmpA o s t = 0) := by show _ = _; rw [cmpA_fit (unhide HF), unhide HQ, cmpTo_end]
        clear hb
        go_wp2_with fail
        go_ret
        exact ⟨ret_int (unhide HN).symm, unhide HB⟩

/-- Behind k columns, M of which are asked. -/
def ERel (w : World) (o s t : List Int) (M : Nat) (i : Value) (wr : World) : Prop := ∃ k : Nat, k ≤ M ∧ i = .int .i64 k ∧ (turn o s).take k = (turn o t).take k ∧ Below w.heap.size w wr
theorem headA_not {o s t : List Int} (k : Int) (h : fitN o [s.length, t.length] = false) : headA o k s t = false := by rw [headA, h]; rfl
theorem headA_fit {o s t : List Int} (k : Int) (h : fitN o [s.length, t.length] = true) {M : Nat} (hM : M = min k.toNat o.length) : headA o k s t = decide ((turn o s).take M = (turn o t).take M) := by
  rw [headA, h, Bool.true_and]
  subst hM
  by_cases g : k.toNat ≤ o.length
  · rw [Nat.min_eq_left g]
  · rw [Nat.min_eq_right (by omega), List.take_of_length_le (by simp [turn_length]; omega), List.take_of_length_le (by simp [turn_length]; omega), List.take_of_length_le (by simp [turn_length]), List.take_of_length_le (by simp [turn_length])]
theorem head_next {o s t : List Int} {k : Nat} (hk : k < o.length) (h : (turn o s).take k = (turn o t).take k) (e : at_ s o[k] = at_ t o[k]) : (turn o s).take (k + 1) = (turn o t).take (k + 1) := by
  rw [turn_take hk, turn_take hk, h, e]
theorem head_bad {o s t : List Int} {k M : Nat} (hk : k < o.length) (hM : k < M) (e : at_ s o[k] ≠ at_ t o[k]) : (turn o s).take M ≠ (turn o t).take M := by
  intro h
  apply e
  have h1 : (turn o s)[k]? = (turn o t)[k]? := by
    have := congrArg (fun l => l[k]?) h
    simpa [List.getElem?_take, hM] using this
  simpa [turn, List.getElem?_map, List.getElem?_eq_getElem hk] using h1

set_option maxRecDepth 100000 in
set_option maxHeartbeats 4000000 in
theorem head_any (B : Nat) (w : World) (u v z : Value) (o s t : List Int) (n : Int) (hB : B ≤ w.heap.size) (ho : Ints B w u o) (hs : Ints B w v s) (ht : Ints B w z t) :
    Calls Tryz.prog 130 #[u, .int .i64 n, v, z] w fun e w' => e = .returned (.bool (headA o n s t)) ∧ Below w.heap.size w w' := by
  have HO := hide ho
  have HS := hide hs
  have HT := hide ht
  obtain ⟨a, cap, rfl, hc1, hc2, _⟩ := ho
  obtain ⟨a2, cap2, rfl, hd1, hd2, _⟩ := hs
  obtain ⟨a3, cap3, rfl, he1, he2, _⟩ := ht
  obtain ⟨M, hM⟩ : ∃ M : Nat, M = min n.toNat o.length := ⟨_, rfl⟩
  have hM1 : M ≤ o.length := by omega
  have HM2 := hide hM
  go_enter Tryz.func130, Tryz.ntmps130
  go_wp2_with fail
  have b1 := two_below w (.slice a2 s.length cap2) (.slice a3 t.length cap3)
  have hw2 := two_widths w a2 a3 s.length cap2 t.length cap3
  generalize w.alloc (.cells #[.slice a2 s.length cap2, .slice a3 t.length cap3] 32) = w1 at b1 hw2 ⊢
  refine (fit2_any B w1 _ o ((unhide HO).below b1 hB) w.heap.size s.length t.length hw2).mono ?_
  rintro e w' ⟨rfl, rfl⟩
  cases hf : fitN o [s.length, t.length] with
  | false =>
    have H := hide (headA_not n hf)
    clear hf hw2 hM hM1
    go_wp2_with fail
    go_ret
    exact ⟨ret_bool (unhide H).symm, b1⟩
  | true =>
    have HF := hide hf
    have B1 := hide b1
    have HA := hide (headA_fit n hf hM)
    clear hf hw2 b1 hM
    by_cases g : (o.length : Int) < n
    all_goals
      go_wp2_with fail
      go_loopw [20] (fun i wr => ERel w o s t M i wr) (fun i _ => M - (intOf i).toNat)
      case atStart => exact ⟨0, Nat.zero_le _, rfl, rfl, unhide B1⟩
      case round =>
        obtain ⟨k, hk, rfl, hq, hb⟩ := hrel
        have HQ := hide hq
        have HB := hide hb
        clear hq
        by_cases hlt : k < M
        · have hd1 : (k : Int) < (o.length : Int) := by omega
          have hd2 : (k : Int) < n := by have := unhide HM2; omega
          obtain ⟨b0, o0, b1, o1, b2, o2, x, rfl, rfl, rfl, hx, x0, x1, x2, y0, y1, y2⟩ := cols3 ((unhide HO).below hb hB) ((unhide HS).below hb hB) ((unhide HT).below hb hB) (unhide HF) (Nat.lt_of_lt_of_le hlt hM1)
          have hk3 : k < o.length := by omega
          have HX := hide hx
          clear hx hb
          obtain ⟨p, hp⟩ : ∃ p, p = at_ s x := ⟨_, rfl⟩
          obtain ⟨q, hq⟩ : ∃ q, q = at_ t x := ⟨_, rfl⟩
          rw [← hp] at y1
          rw [← hq] at y2
          by_cases hz : p = q
          · have hz1 : (p != q) = false := by simp [hz]
            have HN := hide (head_next hk3 (unhide HQ) (by rw [← unhide HX, ← hp, ← hq]; exact hz))
            clear hz hp hq
            go_wp2_with fail
            go_quiet (fail)
            go_wp2_with fail
            go_roundw
            case rel => exact ⟨k + 1, by omega, by go_num, unhide HN, below_drewN (unhide HB) _⟩
            case measure => simp [intOf]; omega
          · have hz1 : (p != q) = true := by simpa using hz
            have HN : Hid (headA o n s t = false) := by
              show _ = _
              rw [unhide HA]
              exact decide_eq_false (head_bad hk3 hlt (by rw [← unhide HX, ← hp, ← hq]; exact hz))
            clear hz hp hq
            go_wp2_with fail
            go_quiet (fail)
            go_wp2_with fail
            go_ret
            exact ⟨ret_bool (unhide HN).symm, below_drewN (unhide HB) _⟩
        · have hk2 : k = M := by omega
          have hd : ¬ (k : Int) < n ∨ ((o.length : Int) < n ∧ ¬ (k : Int) < (o.length : Int)) := by have := unhide HM2; omega
          first
          | (have hd3 : ¬ (k : Int) < n := by omega)
          | (have hd4 : ¬ (k : Int) < (o.length : Int) := by omega)
          clear hd
          have HN : Hid (headA o n s t = true) := by show _ = _; rw [unhide HA]; exact decide_eq_true (by rw [← hk2]; exact unhide HQ)
          clear hb hk2
          go_wp2_with fail
          go_ret
          exact ⟨ret_bool (unhide HN).symm, unhide HB⟩

end Go.Proofs.YthcljhfankooaabGreat
