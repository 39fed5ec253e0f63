/- The walk of alive. -/
import Derived.Test.YtklmhgljhmodlaaCover
namespace Go.Proofs.Ytklmhgljhmodlaa
open Go.RowKit

/-- Numbers that were just written out. -/
theorem Ints.lit3 (w : World) (x y z : Int) : Ints (w.heap.size + 1) (w.alloc (.cells #[.int .i64 x, .int .i64 y, .int .i64 z] 3)) (.slice (some ⟨w.heap.size, 0, none⟩) 3 3) [x, y, z] := by
  refine ⟨_, 3, rfl, Nat.le_refl _, by omega, fun j u hj => ⟨w.heap.size, 0, rfl, by omega, ?_⟩⟩
  match j, hj with
  | 0, h => obtain rfl : x = u := by simpa using h
            simp
  | 1, h => obtain rfl : y = u := by simpa using h
            simp
  | 2, h => obtain rfl : z = u := by simpa using h
            simp
  | j + 3, h => simp at h
theorem Ints.lit2 (w : World) (x y : Int) : Ints (w.heap.size + 1) (w.alloc (.cells #[.int .i64 x, .int .i64 y] 3)) (.slice (some ⟨w.heap.size, 0, none⟩) 2 2) [x, y] := by
  refine ⟨_, 2, rfl, Nat.le_refl _, by omega, fun j u hj => ⟨w.heap.size, 0, rfl, by omega, ?_⟩⟩
  match j, hj with
  | 0, h => obtain rfl : x = u := by simpa using h
            simp
  | 1, h => obtain rfl : y = u := by simpa using h
            simp
  | j + 2, h => simp at h
theorem lit_below (w : World) (o : Obj) : Below w.heap.size w (w.alloc o) := (Below.refl _ w).alloc (Nat.le_refl _) _

theorem alive_cover : coverN [2, 0, 1] 5 = 2 ∧ coverB [2, 0, 1] 5 = true := by decide +kernel
theorem alive_cmp : cmpA [1, 0] [1, 2] [2, 1] = 1 := by decide +kernel
theorem alive_turn : turnA [2, 0, 1] [5, 6, 7] = [7, 5, 6] := by decide +kernel
theorem alive_same : sameB [7, 5, 6] [7, 5, 6] = true := by decide +kernel

/-- Three lists, one behind the other. -/
theorem three_lits (w : World) (a b c d e f : Int) : ∃ W, W = ((w.alloc (.cells #[.int .i64 a, .int .i64 b] 3)).alloc (.cells #[.int .i64 c, .int .i64 d] 3)).alloc (.cells #[.int .i64 e, .int .i64 f] 3) ∧
    Below w.heap.size w W ∧ Ints W.heap.size W (.slice (some ⟨w.heap.size, 0, none⟩) 2 2) [a, b] ∧ Ints W.heap.size W (.slice (some ⟨w.heap.size + 1, 0, none⟩) 2 2) [c, d] ∧ Ints W.heap.size W (.slice (some ⟨w.heap.size + 1 + 1, 0, none⟩) 2 2) [e, f] := by
  refine ⟨_, rfl, ?_, ?_, ?_, ?_⟩
  · exact ((lit_below w _).alloc (by simp) _).alloc (by simp; omega) _
  · exact ((Ints.lit2 w a b).below (C := w.heap.size + 1) (((Below.refl _ _).alloc (by simp) _).alloc (by simp) _) (Nat.le_refl _)).mono (by simp)
  · have h := Ints.lit2 (w.alloc (.cells #[.int .i64 a, .int .i64 b] 3)) c d
    rw [show (w.alloc (.cells #[.int .i64 a, .int .i64 b] 3)).heap.size = w.heap.size + 1 by simp] at h
    exact (h.below (C := w.heap.size + 1 + 1) ((Below.refl _ _).alloc (by simp) _) (Nat.le_refl _)).mono (by simp)
  · have h := Ints.lit2 ((w.alloc (.cells #[.int .i64 a, .int .i64 b] 3)).alloc (.cells #[.int .i64 c, .int .i64 d] 3)) e f
    rw [show ((w.alloc (.cells #[.int .i64 a, .int .i64 b] 3)).alloc (.cells #[.int .i64 c, .int .i64 d] 3)).heap.size = w.heap.size + 1 + 1 by simp] at h
    exact h.mono (by simp)
theorem two_lits (w : World) (a b c d e f : Int) : ∃ W, W = (w.alloc (.cells #[.int .i64 a, .int .i64 b, .int .i64 c] 3)).alloc (.cells #[.int .i64 d, .int .i64 e, .int .i64 f] 3) ∧
    Below w.heap.size w W ∧ Ints W.heap.size W (.slice (some ⟨w.heap.size, 0, none⟩) 3 3) [a, b, c] ∧ Ints W.heap.size W (.slice (some ⟨w.heap.size + 1, 0, none⟩) 3 3) [d, e, f] := by
  refine ⟨_, rfl, ?_, ?_, ?_⟩
  · exact (lit_below w _).alloc (by simp) _
  · exact ((Ints.lit3 w a b c).below (C := w.heap.size + 1) ((Below.refl _ _).alloc (by simp) _) (Nat.le_refl _)).mono (by simp)
  · have h := Ints.lit3 (w.alloc (.cells #[.int .i64 a, .int .i64 b, .int .i64 c] 3)) d e f
    rw [show (w.alloc (.cells #[.int .i64 a, .int .i64 b, .int .i64 c] 3)).heap.size = w.heap.size + 1 by simp] at h
    exact h.mono (by simp)

set_option maxRecDepth 100000 in
set_option maxHeartbeats 4000000 in
theorem alive_any (w : World) : Calls Try.prog 20 #[] w fun e w' => e = .returned (.bool true) ∧ Below w.heap.size w w' := by
  go_enter Try.func20, Try.ntmps20
  go_wp2_with fail
  have h1 := Ints.lit3 w 2 0 1
  have b1 := lit_below w (.cells #[.int .i64 2, .int .i64 0, .int .i64 1] 3)
  generalize w.alloc (.cells #[.int .i64 2, .int .i64 0, .int .i64 1] 3) = w1 at h1 b1 ⊢
  refine (cover_any _ w1 _ [2, 0, 1] 5 h1).mono ?_
  rw [alive_cover.1, alive_cover.2]
  rintro e w' ⟨rfl, rfl⟩
  clear h1
  have hs1 := b1.size
  go_wp2_with fail
  obtain ⟨w2, e2, b2, i1, i2, i3⟩ := three_lits w' 1 0 1 2 2 1
  rw [← e2]
  clear e2
  refine (cmp_any w2.heap.size w2 _ _ _ [1, 0] [1, 2] [2, 1] (Nat.le_refl _) i1 i2 i3).mono ?_
  rw [alive_cmp]
  rintro e w3 ⟨rfl, b3⟩
  have c3 : Below w.heap.size w w3 := (b1.trans (b2.mono hs1)).trans (b3.mono (Nat.le_trans hs1 b2.size))
  clear i1 i2 i3 b1 b2 b3 hs1
  go_wp2_with fail
  obtain ⟨w4, e4, b4, i4, i5⟩ := two_lits w3 2 0 1 5 6 7
  rw [← e4]
  clear e4
  refine (turn_any w4.heap.size w4 _ _ [2, 0, 1] [5, 6, 7] (Nat.le_refl _) i4 i5).mono ?_
  rw [alive_turn]
  rintro e w5 ⟨r, rfl, o5, b5⟩
  have c5 : Below w.heap.size w w5 := (c3.trans (b4.mono c3.size)).trans (b5.mono (Nat.le_trans c3.size b4.size))
  clear i4 i5 b4 b5 c3
  go_wp2_with fail
  have i6 := Ints.lit3 w5 7 5 6
  have b6 := lit_below w5 (.cells #[.int .i64 7, .int .i64 5, .int .i64 6] 3)
  have z6 : (w5.alloc (.cells #[.int .i64 7, .int .i64 5, .int .i64 6] 3)).heap.size = w5.heap.size + 1 := by simp
  generalize w5.alloc (.cells #[.int .i64 7, .int .i64 5, .int .i64 6] 3) = w6 at i6 b6 z6 ⊢
  refine (same_any (w5.heap.size + 1) w6 _ _ [7, 5, 6] [7, 5, 6] (by omega) ((o5.ints.below b6 (Nat.le_refl _)).mono (by omega)) i6).mono ?_
  rw [alive_same]
  rintro e w7 ⟨rfl, b7⟩
  have c7 : Below w.heap.size w w7 := (c5.trans (b6.mono c5.size)).trans (b7.mono (by have := c5.size; omega))
  clear i6 b6 b7 z6 c5 o5
  go_wp2_with fail
  go_ret
  exact ⟨rfl, c7⟩
end Go.Proofs.Ytklmhgljhmodlaa
