/- The walk of TupleAll. -/
import Derived.Test.YtklmhgljhmodlaaAlive
namespace Go.Proofs.Ytklmhgljhmodlaa
open Go.RowKit

theorem sameB_self (l : List Int) : sameB l l = true := decide_eq_true rfl
theorem OwnI.later {base : Nat} {w w' : World} {v : Value} {l : List Int} (h : OwnI base w v l) (hb : Below w.heap.size w w') : Ints w.heap.size w' v l := h.ints.below hb (Nat.le_refl _)

set_option maxRecDepth 100000 in
set_option maxHeartbeats 4000000 in
theorem all_walk (W : World) (v0 v1 v2 : Value) (o s t : List Int) (n : Int) (h0 : Ints W.heap.size W v0 o) (h1 : Ints W.heap.size W v1 s) (h2 : Ints W.heap.size W v2 t) :
    Calls Try.prog 3 #[v0, .agg #[v1, v2], .int .i64 n] W fun e w' => e = .returned (.bool true) ∧ Below W.heap.size W w' := by
  have H0 := hide h0
  have H1 := hide h1
  have H2 := hide h2
  clear h0 h1 h2
  go_enter Try.func3, Try.ntmps3
  go_wp2_with fail
  go_quiet (fail)
  have b1 : Below W.heap.size W ((W.alloc (.cells #[v1, v2] 23)).drewN nq) := below_drewN (lit_below W _) nq
  generalize (W.alloc (.cells #[v1, v2] 23)).drewN nq = w1 at b1 ⊢
  go_wp2_with fail
  refine (right_any _ w1 _ o ((unhide H0).below b1 (Nat.le_refl _))).mono ?_
  rintro e w' ⟨rfl, rfl⟩
  go_wp2_with fail
  refine (rright_any _ w' _ o ((unhide H0).below b1 (Nat.le_refl _))).mono ?_
  rintro e w' ⟨rfl, rfl⟩
  generalize right o = r
  have e1 : (r == r) = true := by simp
  go_wp2_with fail
  refine (cmp_any W.heap.size w' _ _ _ o s t b1.size ((unhide H0).below b1 (Nat.le_refl _)) ((unhide H1).below b1 (Nat.le_refl _)) ((unhide H2).below b1 (Nat.le_refl _))).mono ?_
  rintro e w2 ⟨rfl, b2⟩
  have c2 : Below W.heap.size W w2 := b1.trans (b2.mono b1.size)
  clear b1 b2 e1
  go_wp2_with fail
  refine (rcmp_any W.heap.size w2 _ _ _ o s t c2.size ((unhide H0).below c2 (Nat.le_refl _)) ((unhide H1).below c2 (Nat.le_refl _)) ((unhide H2).below c2 (Nat.le_refl _))).mono ?_
  rintro e w3 ⟨rfl, b3⟩
  have c3 : Below W.heap.size W w3 := c2.trans (b3.mono c2.size)
  generalize cmpA o s t = x
  clear c2 b3
  go_wp2_with fail
  refine (head_any W.heap.size w3 _ _ _ o s t n c3.size ((unhide H0).below c3 (Nat.le_refl _)) ((unhide H1).below c3 (Nat.le_refl _)) ((unhide H2).below c3 (Nat.le_refl _))).mono ?_
  rintro e w4 ⟨rfl, b4⟩
  have c4 : Below W.heap.size W w4 := c3.trans (b4.mono c3.size)
  clear c3 b4
  go_wp2_with fail
  refine (rhead_any W.heap.size w4 _ _ _ o s t n c4.size ((unhide H0).below c4 (Nat.le_refl _)) ((unhide H1).below c4 (Nat.le_refl _)) ((unhide H2).below c4 (Nat.le_refl _))).mono ?_
  rintro e w5 ⟨rfl, b5⟩
  have c5 : Below W.heap.size W w5 := c4.trans (b5.mono c4.size)
  generalize headA o n s t = y
  have e2 : (y == y) = true := by simp
  clear c4 b5
  go_wp2_with fail
  refine (turn_any W.heap.size w5 _ _ o s c5.size ((unhide H0).below c5 (Nat.le_refl _)) ((unhide H1).below c5 (Nat.le_refl _))).mono ?_
  rintro e w6 ⟨r6, rfl, o6, b6⟩
  have c6 : Below W.heap.size W w6 := c5.trans (b6.mono c5.size)
  clear c5 b6 e2
  go_wp2_with fail
  refine (rturn_any W.heap.size w6 _ _ o s c6.size ((unhide H0).below c6 (Nat.le_refl _)) ((unhide H1).below c6 (Nat.le_refl _))).mono ?_
  rintro e w7 ⟨r7, rfl, o7, b7⟩
  have c7 : Below W.heap.size W w7 := c6.trans (b7.mono c6.size)
  have i6 := (o6.later b7).mono b7.size
  have i7 := o7.ints
  clear o6 o7 c6 b7
  go_wp2_with fail
  refine (same_any w7.heap.size w7 _ _ _ _ (Nat.le_refl _) i6 i7).mono ?_
  rw [sameB_self]
  rintro e w8 ⟨rfl, b8⟩
  have c8 : Below W.heap.size W w8 := c7.trans (b8.mono c7.size)
  clear c7 b8 i6 i7
  go_wp2_with fail
  refine (back_any W.heap.size w8 _ _ o s c8.size ((unhide H0).below c8 (Nat.le_refl _)) ((unhide H1).below c8 (Nat.le_refl _))).mono ?_
  rintro e w9 ⟨r9, rfl, o9, b9⟩
  have c9 : Below W.heap.size W w9 := c8.trans (b9.mono c8.size)
  clear c8 b9
  go_wp2_with fail
  refine (rback_any W.heap.size w9 _ _ o s c9.size ((unhide H0).below c9 (Nat.le_refl _)) ((unhide H1).below c9 (Nat.le_refl _))).mono ?_
  rintro e wA ⟨rA, rfl, oA, bA⟩
  have cA : Below W.heap.size W wA := c9.trans (bA.mono c9.size)
  have i9 := (o9.later bA).mono bA.size
  have iA := oA.ints
  clear o9 oA c9 bA
  go_wp2_with fail
  refine (same_any wA.heap.size wA _ _ _ _ (Nat.le_refl _) i9 iA).mono ?_
  rw [sameB_self]
  rintro e wB ⟨rfl, bB⟩
  have cB : Below W.heap.size W wB := cA.trans (bB.mono cA.size)
  clear cA bB i9 iA
  go_wp2_with fail
  refine (alive_any wB).mono ?_
  rintro e wC ⟨rfl, bC⟩
  have cC : Below W.heap.size W wC := cB.trans (bC.mono cB.size)
  clear cB bC
  go_wp2_with fail
  go_ret
  exact ⟨rfl, cC⟩
end Go.Proofs.Ytklmhgljhmodlaa
