/- The walk of TupleHeads. -/
import Derived.Test.YtklmhgljhmodlaaAlive
namespace Go.Proofs.Ytklmhgljhmodlaa
open Go.RowKit

/-- Three tuples in a box of their own, somewhat later. -/
structure Box3 (W W' : World) (x y z : Value) : Prop where
  base : Below W.heap.size W W'
  lt : W.heap.size < W'.heap.size
  c0 : W'.cell? ⟨W.heap.size, 0, none⟩ = some x
  c1 : W'.cell? ⟨W.heap.size, 1, none⟩ = some y
  c2 : W'.cell? ⟨W.heap.size, 2, none⟩ = some z
theorem Box3.new (W : World) (x y z : Value) : Box3 W (W.alloc (.cells #[x, y, z] 39)) x y z := ⟨lit_below W _, by simp, by simp, by simp, by simp⟩
theorem Box3.step {W W' W'' : World} {x y z : Value} (h : Box3 W W' x y z) (hb : Below W'.heap.size W' W'') : Box3 W W'' x y z :=
  ⟨h.base.trans (hb.mono h.base.size), Nat.lt_of_lt_of_le h.lt hb.size, (hb.cell (p := ⟨W.heap.size, 0, none⟩) h.lt).trans h.c0, (hb.cell (p := ⟨W.heap.size, 1, none⟩) h.lt).trans h.c1, (hb.cell (p := ⟨W.heap.size, 2, none⟩) h.lt).trans h.c2⟩

theorem len_ne {m n : Nat} (h : ((m : Int) != (n : Int)) = false) : m = n := by simp at h; omega
theorem heads_law {o s t u : List Int} {k : Int} (hr : right o = true) (h1 : s.length = o.length) (h2 : t.length = o.length) (h3 : u.length = o.length)
    (c1 : cmpA o s t ≤ 0) (c2 : cmpA o t u ≤ 0) (hh : headA o k s u = true) : headA o k s t = true := by
  rw [cmpA, if_pos (fitN_mk2 h1 h2 hr)] at c1
  rw [cmpA, if_pos (fitN_mk2 h2 h3 hr)] at c2
  rw [headA, fitN_mk2 h1 h3 hr, Bool.true_and, decide_eq_true_eq] at hh
  rw [headA, fitN_mk2 h1 h2 hr, Bool.true_and, decide_eq_true_eq]
  exact lex_head k.toNat _ _ _ (by simp [turn_length]) (by simp [turn_length]) c1 c2 hh

set_option maxRecDepth 100000 in
set_option maxHeartbeats 4000000 in
theorem heads_walk (W : World) (v0 v1 v2 v3 : Value) (o s t u : List Int) (n : Int) (h0 : Ints W.heap.size W v0 o) (h1 : Ints W.heap.size W v1 s) (h2 : Ints W.heap.size W v2 t) (h3 : Ints W.heap.size W v3 u) :
    Calls Try.prog 7 #[v0, .int .i64 n, .agg #[v1, v2, v3]] W fun e w' => e = .returned (.bool true) ∧ Below W.heap.size W w' := by
  have H0 := hide h0
  have H1 := hide h1
  have H2 := hide h2
  have H3 := hide h3
  obtain ⟨a0, cap0, rfl, _, _, _⟩ := h0
  obtain ⟨a1, cap1, rfl, _, _, _⟩ := h1
  obtain ⟨a2, cap2, rfl, _, _, _⟩ := h2
  obtain ⟨a3, cap3, rfl, _, _, _⟩ := h3
  go_enter Try.func7, Try.ntmps7
  go_wp2_with fail
  have hbx := Box3.new W (.slice a1 s.length cap1) (.slice a2 t.length cap2) (.slice a3 u.length cap3)
  generalize W.alloc (.cells #[.slice a1 s.length cap1, .slice a2 t.length cap2, .slice a3 u.length cap3] 39) = w1 at hbx ⊢
  have BX := hide hbx
  obtain ⟨bb, lt, x0, x1, x2⟩ := hbx
  refine (right_any _ w1 _ o ((unhide H0).below bb (Nat.le_refl _))).mono ?_
  rintro e w' ⟨rfl, rfl⟩
  cases hr : right o with
  | false =>
    clear hr
    go_wp2_with fail
    refine (alive_any w').mono ?_
    rintro e w2 ⟨rfl, b2⟩
    go_wp2_with fail
    go_ret
    exact ⟨rfl, ((unhide BX).step b2).base⟩
  | true =>
    have HR := hide hr
    clear hr
    cases e1 : ((s.length : Int) != (o.length : Int)) with
    | true =>
      go_wp2_with fail
      refine (alive_any w').mono ?_
      rintro e w2 ⟨rfl, b2⟩
      go_wp2_with fail
      go_ret
      exact ⟨rfl, ((unhide BX).step b2).base⟩
    | false =>
      cases e2 : ((t.length : Int) != (o.length : Int)) with
      | true =>
        go_wp2_with fail
        refine (alive_any w').mono ?_
        rintro e w2 ⟨rfl, b2⟩
        go_wp2_with fail
        go_ret
        exact ⟨rfl, ((unhide BX).step b2).base⟩
      | false =>
        cases e3 : ((u.length : Int) != (o.length : Int)) with
        | true =>
          go_wp2_with fail
          refine (alive_any w').mono ?_
          rintro e w2 ⟨rfl, b2⟩
          go_wp2_with fail
          go_ret
          exact ⟨rfl, ((unhide BX).step b2).base⟩
        | false =>
          go_wp2_with fail
          have HE := hide (And.intro (len_ne e1) (And.intro (len_ne e2) (len_ne e3)))
          refine (cmp_any W.heap.size w' _ _ _ o s t (Nat.le_of_lt lt) ((unhide H0).below bb (Nat.le_refl _)) ((unhide H1).below bb (Nat.le_refl _)) ((unhide H2).below bb (Nat.le_refl _))).mono ?_
          rintro e w2 ⟨rfl, b2⟩
          have hb2 := (unhide BX).step b2
          have B2 := hide hb2
          clear bb lt x0 x1 x2 BX b2 e1 e2 e3
          obtain ⟨bb, lt, x0, x1, x2⟩ := hb2
          by_cases g1 : cmpA o s t ≤ 0
          · have G1 := hide g1
            generalize cmpA o s t = p at g1
            go_wp2_with fail
            refine (cmp_any W.heap.size w2 _ _ _ o t u (Nat.le_of_lt lt) ((unhide H0).below bb (Nat.le_refl _)) ((unhide H2).below bb (Nat.le_refl _)) ((unhide H3).below bb (Nat.le_refl _))).mono ?_
            rintro e w3 ⟨rfl, b3⟩
            have hb3 := (unhide B2).step b3
            have B3 := hide hb3
            clear bb lt x0 x1 x2 B2 b3
            obtain ⟨bb, lt, x0, x1, x2⟩ := hb3
            by_cases g2 : cmpA o t u ≤ 0
            · have G2 := hide g2
              generalize cmpA o t u = q at g2
              go_wp2_with fail
              refine (head_any W.heap.size w3 _ _ _ o s u n (Nat.le_of_lt lt) ((unhide H0).below bb (Nat.le_refl _)) ((unhide H1).below bb (Nat.le_refl _)) ((unhide H3).below bb (Nat.le_refl _))).mono ?_
              rintro e w4 ⟨rfl, b4⟩
              have hb4 := (unhide B3).step b4
              have B4 := hide hb4
              clear bb lt x0 x1 x2 B3 b4
              obtain ⟨bb, lt, x0, x1, x2⟩ := hb4
              cases hh : headA o n s u with
              | false =>
                clear hh
                go_wp2_with fail
                refine (alive_any w4).mono ?_
                rintro e w5 ⟨rfl, b5⟩
                go_wp2_with fail
                go_ret
                exact ⟨rfl, ((unhide B4).step b5).base⟩
              | true =>
                have HN := hide (heads_law (k := n) (unhide HR) (unhide HE).1 (unhide HE).2.1 (unhide HE).2.2 (unhide G1) (unhide G2) hh)
                clear hh
                go_wp2_with fail
                refine (head_any W.heap.size w4 _ _ _ o s t n (Nat.le_of_lt lt) ((unhide H0).below bb (Nat.le_refl _)) ((unhide H1).below bb (Nat.le_refl _)) ((unhide H2).below bb (Nat.le_refl _))).mono ?_
                rw [unhide HN]
                rintro e w5 ⟨rfl, b5⟩
                have hb5 := (unhide B4).step b5
                have B5 := hide hb5
                clear bb lt x0 x1 x2 B4 b5 hb5
                go_wp2_with fail
                refine (alive_any w5).mono ?_
                rintro e w6 ⟨rfl, b6⟩
                go_wp2_with fail
                go_ret
                exact ⟨rfl, ((unhide B5).step b6).base⟩
            · generalize cmpA o t u = q at g2
              go_wp2_with fail
              refine (alive_any w3).mono ?_
              rintro e w5 ⟨rfl, b5⟩
              go_wp2_with fail
              go_ret
              exact ⟨rfl, ((unhide B3).step b5).base⟩
          · generalize cmpA o s t = p at g1
            go_wp2_with fail
            refine (alive_any w2).mono ?_
            rintro e w5 ⟨rfl, b5⟩
            go_wp2_with fail
            go_ret
            exact ⟨rfl, ((unhide B2).step b5).base⟩
end Go.Proofs.Ytklmhgljhmodlaa
