/- The walk of TupleSorts. -/
import Derived.Test.YtklmhgljhmodlaaHeadsW
namespace Go.Proofs.Ytklmhgljhmodlaa
open Go.RowKit

/-- A world in which nothing that was there has turned. -/
structure Later (w : World) where
  val : World
  h : Below w.heap.size w val

instance (w : World) : Inhabited (Later w) := ⟨⟨w, Below.refl _ w⟩⟩

/-- A region that leaves its order open, whose operations only read and whose calls turn nothing that was there: one walk in the order of the text. -/
theorem region_later {P : Program} {id : Nat} {Q : Exit → Act → World → Prop} {a : Act} {w : World} {l : List Oper} (hm : P.follows .mixedOrders = true) (hB : Region.lexB .any l.toArray = true)
    (h : wpQuiet P l.toArray (fun w' => ∃ i : Later w, w' = i.val) (fun a' => ∀ w', (∃ i : Later w, w' = i.val) → Q .normal a' w') l a) : (Code.region id l.toArray true).wp P Q a w :=
  wp_region_quiet (C := fun w' => ∃ i : Later w, w' = i.val) hm hB ⟨⟨w.drew, (Below.refl _ w).drew⟩, rfl⟩ (by simpa using h)
theorem Calls.later {P : Program} {f : FuncId} {args : Array Value} {w : World} {i : Later w} {v : Value} (h : Calls P f args i.val fun e w' => e = .returned v ∧ Below i.val.heap.size i.val w') :
    Calls P f args i.val fun e w' => e = .returned v ∧ ∃ j : Later w, w' = j.val :=
  h.mono fun _ w' ⟨he, hb⟩ => ⟨he, ⟨w', i.h.trans (hb.mono i.h.size)⟩, rfl⟩

theorem cmpA_range (o s t : List Int) : -1 ≤ cmpA o s t ∧ cmpA o s t ≤ 1 := by
  unfold cmpA
  split
  · have := lex_range (turn o s) (turn o t); omega
  · omega
theorem sorts_neg {o s t : List Int} (hr : right o = true) (h1 : s.length = o.length) (h2 : t.length = o.length) : cmpA o t s = - cmpA o s t := by
  rw [cmpA, if_pos (fitN_mk2 h2 h1 hr), cmpA, if_pos (fitN_mk2 h1 h2 hr)]
  exact lex_neg _ _
theorem sorts_zero {o s t : List Int} (hr : right o = true) (h1 : s.length = o.length) (h2 : t.length = o.length) : (cmpA o s t == 0) = sameB s t := by
  rw [cmpA, if_pos (fitN_mk2 h1 h2 hr), sameB, Bool.eq_iff_iff, beq_iff_eq, decide_eq_true_eq, lex_zero _ _ (by simp [turn_length])]
  exact ⟨fun h => turn_inj hr h1 h2 h, fun h => by rw [h]⟩
theorem sorts_trans {o s t u : List Int} (hr : right o = true) (h1 : s.length = o.length) (h2 : t.length = o.length) (h3 : u.length = o.length) (c1 : cmpA o s t ≤ 0) (c2 : cmpA o t u ≤ 0) : cmpA o s u ≤ 0 := by
  rw [cmpA, if_pos (fitN_mk2 h1 h2 hr)] at c1
  rw [cmpA, if_pos (fitN_mk2 h2 h3 hr)] at c2
  rw [cmpA, if_pos (fitN_mk2 h1 h3 hr)]
  exact lex_trans _ _ _ (by simp [turn_length]) (by simp [turn_length]) c1 c2

open Go.BigFrame in
set_option maxRecDepth 100000 in
set_option maxHeartbeats 4000000 in
theorem sorts_walk (W : World) (v0 v1 v2 v3 : Value) (o s t u : List Int) (h0 : Ints W.heap.size W v0 o) (h1 : Ints W.heap.size W v1 s) (h2 : Ints W.heap.size W v2 t) (h3 : Ints W.heap.size W v3 u) :
    Calls Try.prog 5 #[v0, .agg #[v1, v2, v3]] W fun e w' => e = .returned (.bool true) ∧ Below W.heap.size W w' := by
  have H0 := hide h0
  have H1 := hide h1
  have H2 := hide h2
  have H3 := hide h3
  obtain ⟨a0, cap0, rfl, _, _, _⟩ := h0
  obtain ⟨a1, cap1, rfl, _, _, _⟩ := h1
  obtain ⟨a2, cap2, rfl, _, _, _⟩ := h2
  obtain ⟨a3, cap3, rfl, _, _, _⟩ := h3
  go_enter Try.func5, Try.ntmps5
  go_wp2_with fail
  have hbx := Box3.new W (.slice a1 s.length cap1) (.slice a2 t.length cap2) (.slice a3 u.length cap3)
  generalize W.alloc (.cells #[.slice a1 s.length cap1, .slice a2 t.length cap2, .slice a3 u.length cap3] 39) = w1 at hbx ⊢
  have BX := hide hbx
  obtain ⟨bb, lt, x0, x1, x2⟩ := hbx
  refine (right_any _ w1 _ o ((unhide H0).below bb (Nat.le_refl _))).mono ?_
  rintro e w' ⟨rfl, rfl⟩
  cases hr : right o with
  | false =>
    clear hr
    go_wp2_with fail
    refine (alive_any w').mono ?_
    rintro e w2 ⟨rfl, b2⟩
    go_wp2_with fail
    go_ret
    exact ⟨rfl, ((unhide BX).step b2).base⟩
  | true =>
    have HR := hide hr
    clear hr
    cases e1 : ((s.length : Int) != (o.length : Int)) with
    | true =>
      go_wp2_with fail
      refine (alive_any w').mono ?_
      rintro e w2 ⟨rfl, b2⟩
      go_wp2_with fail
      go_ret
      exact ⟨rfl, ((unhide BX).step b2).base⟩
    | false =>
      cases e2 : ((t.length : Int) != (o.length : Int)) with
      | true =>
        go_wp2_with fail
        refine (alive_any w').mono ?_
        rintro e w2 ⟨rfl, b2⟩
        go_wp2_with fail
        go_ret
        exact ⟨rfl, ((unhide BX).step b2).base⟩
      | false =>
        cases e3 : ((u.length : Int) != (o.length : Int)) with
        | true =>
          go_wp2_with fail
          refine (alive_any w').mono ?_
          rintro e w2 ⟨rfl, b2⟩
          go_wp2_with fail
          go_ret
          exact ⟨rfl, ((unhide BX).step b2).base⟩
        | false =>
          go_wp2_with fail
          have HE := hide (And.intro (len_ne e1) (And.intro (len_ne e2) (len_ne e3)))
          have hi : ∀ i : Later w', Box3 W i.val (.slice a1 s.length cap1) (.slice a2 t.length cap2) (.slice a3 u.length cap3) := fun i => (unhide BX).step i.h
          have HI := hide hi
          have y0 := fun i : Later w' => (hi i).c0
          have y1 := fun i : Later w' => (hi i).c1
          have y2 := fun i : Later w' => (hi i).c2
          clear hi x0 x1 x2 e1 e2 e3 bb lt
          refine region_later (by kernel_rfl) (by kernel_rfl) ?_
          repeat (go_big_quiet_step (first
            | (go_at_call_of 11 cap1; go_at_call_of 11 cap2; exact Calls.later (cmp_any W.heap.size _ _ _ _ o s t (Nat.le_of_lt (unhide HI _).lt) ((unhide H0).below (unhide HI _).base (Nat.le_refl _)) ((unhide H1).below (unhide HI _).base (Nat.le_refl _)) ((unhide H2).below (unhide HI _).base (Nat.le_refl _))))
            | (go_at_call_of 11 cap2; go_at_call_of 11 cap3; exact Calls.later (cmp_any W.heap.size _ _ _ _ o t u (Nat.le_of_lt (unhide HI _).lt) ((unhide H0).below (unhide HI _).base (Nat.le_refl _)) ((unhide H2).below (unhide HI _).base (Nat.le_refl _)) ((unhide H3).below (unhide HI _).base (Nat.le_refl _))))
            | (go_at_call_of 11 cap1; go_at_call_of 11 cap3; exact Calls.later (cmp_any W.heap.size _ _ _ _ o s u (Nat.le_of_lt (unhide HI _).lt) ((unhide H0).below (unhide HI _).base (Nat.le_refl _)) ((unhide H1).below (unhide HI _).base (Nat.le_refl _)) ((unhide H3).below (unhide HI _).base (Nat.le_refl _))))))
          refine wpQuiet_nil ?_
          intro w2 hw2
          obtain ⟨i, hw3⟩ := hw2
          subst hw3
          have hb2 := unhide HI i
          clear y0 y1 y2 HI BX
          generalize i.val = w2 at hb2 ⊢
          have B2 := hide hb2
          obtain ⟨bb, lt, x0, x1, x2⟩ := hb2
          have hm := cmpA_range o s t
          have HN := hide (sorts_neg (unhide HR) (unhide HE).1 (unhide HE).2.1)
          have HZ := hide (sorts_zero (unhide HR) (unhide HE).1 (unhide HE).2.1)
          have HT := hide (sorts_trans (unhide HR) (unhide HE).1 (unhide HE).2.1 (unhide HE).2.2)
          go_wp2_with fail
          refine (cmp_any W.heap.size w2 _ _ _ o t s (Nat.le_of_lt lt) ((unhide H0).below bb (Nat.le_refl _)) ((unhide H2).below bb (Nat.le_refl _)) ((unhide H1).below bb (Nat.le_refl _))).mono ?_
          rw [unhide HN]
          rintro e w3 ⟨rfl, b3⟩
          have hb3 := (unhide B2).step b3
          have B3 := hide hb3
          clear bb lt x0 x1 x2 B2 b3 HN
          obtain ⟨bb, lt, x0, x1, x2⟩ := hb3
          obtain ⟨hm1, hm2⟩ := hm
          generalize cmpA o s t = m at hm1 hm2 HZ HT ⊢
          generalize cmpA o t u = n at HT ⊢
          generalize cmpA o s u = k at HT ⊢
          go_wp2_with fail
          refine (same_any W.heap.size w3 _ _ s t (Nat.le_of_lt lt) ((unhide H1).below bb (Nat.le_refl _)) ((unhide H2).below bb (Nat.le_refl _))).mono ?_
          rw [← unhide HZ]
          rintro e w4 ⟨rfl, b4⟩
          have hb4 := (unhide B3).step b4
          have B4 := hide hb4
          clear bb lt x0 x1 x2 B3 b4 hb4 HZ
          by_cases g1 : 0 < m
          · go_wp2_with fail
            refine (alive_any w4).mono ?_
            rintro e w5 ⟨rfl, b5⟩
            go_wp2_with fail
            go_ret
            exact ⟨rfl, ((unhide B4).step b5).base⟩
          · by_cases g2 : 0 < n
            · go_wp2_with fail
              refine (alive_any w4).mono ?_
              rintro e w5 ⟨rfl, b5⟩
              go_wp2_with fail
              go_ret
              exact ⟨rfl, ((unhide B4).step b5).base⟩
            · have g3 : k ≤ 0 := unhide HT (by omega) (by omega)
              go_wp2_with fail
              refine (alive_any w4).mono ?_
              rintro e w5 ⟨rfl, b5⟩
              go_wp2_with fail
              go_ret
              exact ⟨rfl, ((unhide B4).step b5).base⟩
end Go.Proofs.Ytklmhgljhmodlaa
