/- The document's comparison of heads only reads. -/
import Derived.Test.YtmjlhmhkbfnccaaQuietR
namespace Go.Proofs.Ytmjlhmhkbfnccaa
open Go.RowKit

def QERel (w : World) (o s t : List Int) (M : Nat) (i : Value) (wr : World) : Prop := ∃ k : Nat, k ≤ M ∧ i = .int .i64 k ∧ (turn o s).take k = (turn o t).take k ∧ ∃ m, wr = w.drewN m

set_option maxRecDepth 100000 in
set_option maxHeartbeats 4000000 in
theorem rhead_q (B : Nat) (w : World) (u v z : Value) (o s t : List Int) (n : Int) (hB : B ≤ w.heap.size) (ho : Ints B w u o) (hs : Ints B w v s) (ht : Ints B w z t) :
    Calls Try.prog 23 #[u, .int .i64 n, v, z] w fun e w' => e = .returned (.bool (headA o n s t)) ∧ ∃ m, w' = w.drewN m := by
  have HO := hide ho
  have HS := hide hs
  have HT := hide ht
  obtain ⟨a, cap, rfl, hc1, hc2, _⟩ := ho
  obtain ⟨a2, cap2, rfl, hd1, hd2, _⟩ := hs
  obtain ⟨a3, cap3, rfl, he1, he2, _⟩ := ht
  obtain ⟨M, hM⟩ : ∃ M : Nat, M = min n.toNat o.length := ⟨_, rfl⟩
  have hM1 : M ≤ o.length := by omega
  have HM2 := hide hM
  go_enter Try.func23, Try.ntmps23
  go_wp2_with fail
  refine (fits_any B w _ _ _ o s t (unhide HO) (unhide HS) (unhide HT)).mono ?_
  rintro e w' ⟨rfl, rfl⟩
  cases hf : fitN o [s.length, t.length] with
  | false =>
    have H := hide (headA_not n hf)
    clear hf hM hM1
    go_wp2_with fail
    go_ret
    exact ⟨ret_bool (unhide H).symm, 0, rfl⟩
  | true =>
    have HF := hide hf
    have HA := hide (headA_fit n hf hM)
    clear hf hM
    go_wp2_with fail
    go_loopw [9] (fun i wr => QERel w' o s t M i wr) (fun i _ => M - (intOf i).toNat)
    case atStart => exact ⟨0, Nat.zero_le _, rfl, rfl, 0, rfl⟩
    case round =>
      obtain ⟨k, hk, rfl, hq, m, hm⟩ := hrel
      have hb : Below w'.heap.size w' wr := by rw [hm]; exact below_drewN (Below.refl _ _) m
      have HM := hide hm
      clear hm
      have HQ := hide hq
      clear hq
      by_cases hlt : k < M
      · have hd1 : (k : Int) < (o.length : Int) := by omega
        have hd2 : (k : Int) < n := by have := unhide HM2; omega
        obtain ⟨b0, o0, b1, o1, b2, o2, x, rfl, rfl, rfl, hx, x0, x1, x2, y0, y1, y2⟩ := cols3 ((unhide HO).below hb hB) ((unhide HS).below hb hB) ((unhide HT).below hb hB) (unhide HF) (Nat.lt_of_lt_of_le hlt hM1)
        have hk3 : k < o.length := by omega
        have HX := hide hx
        clear hx hb
        obtain ⟨p, hp⟩ : ∃ p, p = at_ s x := ⟨_, rfl⟩
        obtain ⟨q, hq⟩ : ∃ q, q = at_ t x := ⟨_, rfl⟩
        rw [← hp] at y1
        rw [← hq] at y2
        by_cases hz : p = q
        · have hz1 : (p != q) = false := by simp [hz]
          have HN := hide (head_next hk3 (unhide HQ) (by rw [← unhide HX, ← hp, ← hq]; exact hz))
          clear hz hp hq
          go_wp2_with fail
          go_quiet (fail)
          go_wp2_with fail
          go_roundw
          case rel => exact ⟨k + 1, by omega, by go_num, unhide HN, _, by rw [unhide HM, World.drewN_drewN]⟩
          case measure => simp [intOf]; omega
        · have hz1 : (p != q) = true := by simpa using hz
          have HN : Hid (headA o n s t = false) := by
            show _ = _
            rw [unhide HA]
            exact decide_eq_false (head_bad hk3 hlt (by rw [← unhide HX, ← hp, ← hq]; exact hz))
          clear hz hp hq
          go_wp2_with fail
          go_quiet (fail)
          go_wp2_with fail
          go_ret
          exact ⟨ret_bool (unhide HN).symm, _, by rw [unhide HM, World.drewN_drewN]⟩
      · have hk2 : k = M := by omega
        have HN : Hid (headA o n s t = true) := by show _ = _; rw [unhide HA]; exact decide_eq_true (by rw [← hk2]; exact unhide HQ)
        have hor : ¬ ((k : Int) < (o.length : Int)) ∨ ¬ ((k : Int) < n) := by have := unhide HM2; omega
        clear hb hk2
        by_cases g : (k : Int) < (o.length : Int)
        · have g2 : ¬ ((k : Int) < n) := by omega
          clear hor
          go_wp2_with fail
          go_ret
          exact ⟨ret_bool (unhide HN).symm, _, unhide HM⟩
        · clear hor
          go_wp2_with fail
          go_ret
          exact ⟨ret_bool (unhide HN).symm, _, unhide HM⟩
end Go.Proofs.Ytmjlhmhkbfnccaa
