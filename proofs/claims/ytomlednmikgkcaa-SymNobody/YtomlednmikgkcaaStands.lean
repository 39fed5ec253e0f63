/- The walk of the look over a whole table: it answers true where the two tables have the same texts. -/
import Derived.Sort.QuietIn
import Derived.Test.YtomlednmikgkcaaIter
import Derived.Test.YtomlednmikgkcaaRound
namespace Go.Proofs.Ytomlednmikgkcaa
open Go.RowKit Go.Shelf

attribute [local go_sem] Oper.semAt_some Fence.wide

theorem keep_draws (W : World) (n : Nat) : KeepsOthers W (W.drewN n) := ⟨Nat.le_refl _, fun _ _ h _ => h⟩
theorem still_draws {a : Option Addr} {xs : List ByteArray} (W : World) (n : Nat) : Still a xs W (W.drewN n) := fun r => r
/-- A store into a variable's own box leaves the slice as it reads. -/
theorem still_set {a : Option Addr} {xs : List ByteArray} {W : World} {B : Nat} {t : TypeId} {v : Value} (hb : Boxed W B t v) (hv : ∀ s, v ≠ .string s) (u : Value) : Still a xs W (W.setCell ⟨B, 0, none⟩ u) := fun r j x hj => by
  obtain ⟨g, e, hg⟩ := r j x hj
  refine ⟨g, e, (grownBy_setCell' W B u).cell (a := ⟨g, j, none⟩) hg (fun e2 => ?_)⟩
  have e3 : g = B := by simpa using e2
  subst e3
  rw [World.cell?, show W.heap[g]? = _ from hb] at hg
  match j, hg with
  | 0, hg => exact hv x (by simpa using hg)
  | j + 1, hg => simp at hg
theorem bad_item {N : Nat} {xs : List ByteArray} {hs : ∀ j : Nat, (xs[j]?.getD noText).size ≤ N} {pre : List (Item N)} {m : Nat} {t : ByteArray} {ht : t.size ≤ N} (hlt : pre.length < xs.length) (h : m ≠ pre.length ∨ t ≠ xs[pre.length]) :
    ¬ ∃ k, k ≤ xs.length ∧ pre ++ [(⟨(m, t), ht⟩ : Item N)] = upto (item xs hs) k := by
  rintro ⟨k, hk, e⟩
  have hl := congrArg List.length e
  rw [upto_length] at hl
  simp at hl
  subst hl
  rw [upto_succ] at e
  obtain ⟨_, e2⟩ := List.append_inj' e rfl
  have e3 : (⟨(m, t), ht⟩ : Item N) = item xs hs pre.length := by simpa using e2
  have e4 : (m, t) = (pre.length, xs[pre.length]?.getD noText) := congrArg Subtype.val e3
  simp [hlt] at e4
  rcases h with h | h
  · exact h e4.1
  · exact h e4.2
theorem wrap_one {n : Nat} (h : n ≤ 20000) : wrap64 ((n : Int) + 1) = ((n + 1 : Nat) : Int) := by unfold wrap64; omega
theorem box_draws {W : World} {B : Nat} {t : TypeId} {v : Value} (h : Boxed W B t v) (n : Nat) : Boxed (W.drewN n) B t v := h

set_option maxRecDepth 100000 in
set_option maxHeartbeats 2000000 in
theorem stands_any {W : World} {base tb hb mb rb : Nat} {xs : List ByteArray} (N : Nat) (hB : Both W base tb hb mb rb xs xs) (hs : ∀ j : Nat, (xs[j]?.getD noText).size ≤ N) :
    Calls Try.prog 17 #[.pointer (some ⟨tb, 0, none⟩), .pointer (some ⟨rb, 0, none⟩)] W fun e w' => e = .returned (.bool true) ∧ Below W.heap.size W w' := by
  obtain ⟨a, cap, a2, cap2, hT, hR, hap⟩ := hB
  have hB2 : Below W.heap.size W ((W.alloc (.cells #[.pointer (some ⟨rb, 0, none⟩)] 38)).alloc (.cells #[.bool false] 4)) := ((Below.refl _ W).alloc (Nat.le_refl _) _).alloc (by simp) _
  have hlen0 : ∀ m, Calls Try.prog 20 #[.pointer (some ⟨tb, 0, none⟩)] (((W.alloc (.cells #[.pointer (some ⟨rb, 0, none⟩)] 38)).alloc (.cells #[.bool false] 4)).drewN m) _ := fun m => len_any ((hT.later hB2).later (below_draws _ _ m))
  have hbx := ((hR.box.alloc (.cells #[.pointer (some ⟨rb, 0, none⟩)] 38)).alloc (.cells #[.bool false] 4)).cell
  have hmx : Try.prog.follows .mixedOrders = true := by kernel_rfl
  refine (callsIn_wide (n := 6)).1 ?_
  refine callsIn_of_wp_marks Try.func17 rfl trivial ?_ rfl
  simp only [Try.ntmps17, List.size_toArray, List.length_cons, List.length_nil, Nat.reduceAdd, Nat.reduceSub, Array.replicate_succ, Array.replicate_zero, List.push_toArray, List.append_toArray, List.nil_append, List.cons_append]
  gi_wp2
  gi_quiet ((gi_at_call 20; exact CallsIn.quiet_of_same (callsIn_wide.2 (hlen0 _))))
  gi_wp2
  obtain ⟨S, hS⟩ : ∃ S, W.heap.size = S := ⟨_, rfl⟩
  obtain ⟨W0, hW0⟩ : ∃ W0, (((((W.alloc (.cells #[.pointer (some ⟨rb, 0, none⟩)] 38)).alloc (.cells #[.bool false] 4)).drewN nq).alloc (.cells #[.int .i64 0] 3)).alloc (.cells #[.pointer (some ⟨tb, 0, none⟩)] 23)) = W0 := ⟨_, rfl⟩
  rw [hW0]
  have hsz : W0.heap.size = W.heap.size + 4 := by rw [← hW0]; simp [World.drewN]
  have hB0 : Below W.heap.size W W0 := by
    rw [← hW0]
    exact ((hB2.trans (below_draws _ _ nq)).alloc (by simp [World.drewN]; omega) _).alloc (by simp [World.drewN]; omega) _
  have b38 : Boxed W0 W.heap.size 38 (.pointer (some ⟨rb, 0, none⟩)) := by
    rw [← hW0]
    exact Boxed.alloc (Boxed.alloc (box_draws ((Boxed.new W 38 (.pointer (some ⟨rb, 0, none⟩))).alloc (.cells #[.bool false] 4)) nq) _) _
  have b4 : Boxed W0 (W.heap.size + 1) 4 (.bool false) := by
    rw [← hW0]
    refine Boxed.alloc (Boxed.alloc (box_draws ?_ nq) _) _
    have := Boxed.new (W.alloc (.cells #[.pointer (some ⟨rb, 0, none⟩)] 38)) 4 (.bool false)
    rw [World.size_alloc] at this
    exact this
  have b3 : Boxed W0 (W.heap.size + 1 + 1) 3 (.int .i64 0) := by
    rw [← hW0]
    refine Boxed.alloc ?_ _
    have := Boxed.new (((W.alloc (.cells #[.pointer (some ⟨rb, 0, none⟩)] 38)).alloc (.cells #[.bool false] 4)).drewN nq) 3 (.int .i64 0)
    have e : (((W.alloc (.cells #[.pointer (some ⟨rb, 0, none⟩)] 38)).alloc (.cells #[.bool false] 4)).drewN nq).heap.size = W.heap.size + 1 + 1 := by simp [World.drewN]
    rw [e] at this
    exact this
  have b23 : Boxed W0 (W.heap.size + 1 + 1 + 1) 23 (.pointer (some ⟨tb, 0, none⟩)) := by
    rw [← hW0]
    have := Boxed.new ((((W.alloc (.cells #[.pointer (some ⟨rb, 0, none⟩)] 38)).alloc (.cells #[.bool false] 4)).drewN nq).alloc (.cells #[.int .i64 0] 3)) 23 (.pointer (some ⟨tb, 0, none⟩))
    have e : ((((W.alloc (.cells #[.pointer (some ⟨rb, 0, none⟩)] 38)).alloc (.cells #[.bool false] 4)).drewN nq).alloc (.cells #[.int .i64 0] 3)).heap.size = W.heap.size + 1 + 1 + 1 := by simp [World.drewN]
    rw [e] at this
    exact this
  clear hW0 hlen0 hbx hS S hB2
  refine wpIn_rangeFunc_ownG rfl (by omega) (gf := 24) (lb := #[.pointer (some ⟨W.heap.size + 1 + 1 + 1, 0, none⟩)]) rfl trivial (enters_of Try.func24 (by kernel_rfl) rfl)
    (all_stops (N := N) (6 - 1) (by omega) (W.heap.size + 1 + 1 + 1) base tb hb mb a cap xs hs W0 b23 (hT.later hB0)) still_t (fun W1 l o o' _ h hc _ => still_b W1 l o o' h hc) (Below.refl _ _) (fun _ => rfl)
    (fun pre W1 => (Boxed W1 (W.heap.size + 1 + 1) 3 (.int .i64 (pre.length : Int)) ∧ Boxed W1 (W.heap.size + 1) 4 (.bool false) ∧ Boxed W1 W.heap.size 38 (.pointer (some ⟨rb, 0, none⟩))) ∧ Below W.heap.size W W1)
    (fun _ pre W1 => (¬ ∃ k, k ≤ xs.length ∧ pre = upto (item xs hs) k) ∧ Below W.heap.size W W1)
    (OwnFrom.and (OwnFrom.and (Own.from (boxed_own _ 3 _) _) (OwnFrom.and (Own.from (boxed_own _ 4 _) _) (Own.from (boxed_own _ 38 _) _))) (ownFrom_below (Nat.le_refl _) (by omega)))
    (fun c => OwnFrom.and (ownFrom_pure _ _) (ownFrom_below (Nat.le_refl _) (by omega)))
    ⟨⟨b3, b4, b38⟩, hB0⟩
    (fun x => { tmps := #[.pointer (some ⟨tb, 0, none⟩), .pointer (some ⟨rb, 0, none⟩), undef, .pointer (some ⟨W.heap.size, 0, none⟩), .pointer (some ⟨W.heap.size + 1, 0, none⟩), .pointer (some ⟨W.heap.size + 1 + 1, 0, none⟩), .int .i64 (x.1.1 : Int), .string x.1.2,
      .pointer (some ⟨tb, 0, none⟩), .int .i64 (xs.length : Int), .pointer (some ⟨rb, 0, none⟩), .pointer (some ⟨rb, 0, none⟩), .pointer (some ⟨rb, 0, none⟩), .slice a2 xs.length cap2, .int .i64 (xs.length : Int), .bool false, .pointer (some ⟨tb, 0, none⟩),
      .func (.func 24) #[] #[.pointer (some ⟨W.heap.size + 1 + 1 + 1, 0, none⟩)], .int .i64 (x.1.1 : Int), .string x.1.2, undef, undef, undef, undef, undef, undef, undef, undef, undef, undef, undef, undef, undef, undef, undef, undef, undef, undef, undef, undef, undef, undef, undef, undef, undef, undef, undef, undef, undef, undef, undef, undef], defers := [] }) ?assign ?body ?done ?leaves
  case assign =>
    intro l x W1 K hK
    gi_wp2
    exact hK
  case body =>
    rintro l pre ⟨⟨m, t⟩, ht⟩ W1 ⟨⟨c3, c4, c38⟩, hB1⟩ hlt
    have hR1 := hR.stays (S := fun _ => False) (Turn.of_below hB1) (fun _ _ e => e)
    have d3 := c3.cell
    have d38 := c38.cell
    have dr := hR1.box.cell
    obtain ⟨g, rfl, dt⟩ := hR1.row.reads pre.length xs[pre.length] (by simp [hlt])
    have hi : (pre.length : Int) < (xs.length : Int) := by omega
    have hge : decide (xs.length ≤ pre.length) = false := by simp; omega
    have f3 := c3.frozen
    have f4 := c4.frozen
    have d4 := c4.cell
    by_cases e1 : m = pre.length
    · by_cases e2 : t = xs[pre.length]
      · subst e1
        rw [← e2] at dt
        gi_wp2
        refine region_quiet_round rfl (by kernel_rfl) (by kernel_rfl) (by kernel_rfl) ?_
        repeat (gi_big_quiet_step (fail))
        refine wpQuietIn_nil ?_
        intro _ hw'
        obtain ⟨nq, hw2⟩ := hw'
        subst hw2
        gi_wp2
        have hl := hT.len
        refine ⟨((keep_draws W1 nq).trans (KeepsOthers.setCell _ _ _)).from _, still_t (still_draws W1 nq) (still_set (box_draws c3 nq) (fun s e => by cases e) _), ⟨?_, (box_draws c4 nq).other (by omega) _, (box_draws c38 nq).other (by omega) _⟩,
          (hB1.trans (below_draws _ _ nq)).setCell (p := ⟨W.heap.size + 1 + 1, 0, none⟩) (by show W.heap.size ≤ W.heap.size + 1 + 1; omega) _⟩
        have h5 := (box_draws c3 nq).set (.int .i64 (wrap64 ((pre.length : Int) + 1)))
        rw [wrap_one (by omega)] at h5 ⊢
        simpa using h5
      · have hf := same_false e2
        subst e1
        gi_wp2
        refine region_quiet_round rfl (by kernel_rfl) (by kernel_rfl) (by kernel_rfl) ?_
        repeat (gi_big_quiet_step (fail))
        refine wpQuietIn_nil ?_
        intro _ hw'
        obtain ⟨nq, hw2⟩ := hw'
        subst hw2
        gi_wp2
        exact ⟨((keep_draws W1 nq).trans (KeepsOthers.setCell _ _ _)).from _, bad_item hlt (.inr e2), (hB1.trans (below_draws _ _ nq)).setCell (p := ⟨W.heap.size + 1, 0, none⟩) (by show W.heap.size ≤ W.heap.size + 1; omega) _⟩
    · have e3 : ((m : Int) != (pre.length : Int)) = true := by simp; omega
      gi_wp2
      refine region_quiet_round rfl (by kernel_rfl) (by kernel_rfl) (by kernel_rfl) ?_
      repeat (gi_big_quiet_step (fail))
      refine wpQuietIn_nil ?_
      intro _ hw'
      obtain ⟨nq, hw2⟩ := hw'
      subst hw2
      gi_wp2
      exact ⟨((keep_draws W1 nq).trans (KeepsOthers.setCell _ _ _)).from _, bad_item hlt (.inl e1), (hB1.trans (below_draws _ _ nq)).setCell (p := ⟨W.heap.size + 1, 0, none⟩) (by show W.heap.size ≤ W.heap.size + 1; omega) _⟩
  case done =>
    rintro D ys W1 hD rfl ⟨⟨c3, c4, c38⟩, hB1⟩ hK
    rw [upto_length] at c3
    have hR1 := hR.stays (S := fun _ => False) (Turn.of_below hB1) (fun _ _ e => e)
    have d3 := c3.cell
    have d38 := c38.cell
    have dr := hR1.box.cell
    have d4 := c4.cell
    have f4 := c4.frozen
    gi_wp2
    gi_region
    all_goals gi_wp2
    have hK2 : ((W1.setCell ⟨W.heap.size + 1, 0, none⟩ (.bool true)).drew).heap[D]? = some (.deferred (some [])) := (KeepsOthers.setCell W1 ⟨W.heap.size + 1, 0, none⟩ (.bool true)).same D _ hK rfl
    refine ⟨by simp, .inl ⟨_, _, rfl, run_takeDeferred hK2, ?_⟩⟩
    have hc4 : ((W1.setCell ⟨W.heap.size + 1, 0, none⟩ (.bool true)).drew).cell? ⟨W.heap.size + 1, 0, none⟩ = some (.bool true) := (c4.set (.bool true)).cell
    have hc5 := cell_kept hc4 (grownBy_putObj' _ D (.deferred none)) (fun r e => by cases e; exact ⟨_, hK2, rfl⟩)
    refine ⟨.bool true, ?_, rfl, ((hB1.setCell (p := ⟨W.heap.size + 1, 0, none⟩) (by show W.heap.size ≤ W.heap.size + 1; omega) (.bool true)).drew).trans (belowK_b (w := W) (Nat.le_refl _) _ D _ _ (by omega) hK2 rfl rfl)⟩
    simp [results, Try.f17, go_sem, hc5]
  case leaves =>
    rintro D c pre W1 _ hSp h _
    exact absurd hSp h.1
end Go.Proofs.Ytomlednmikgkcaa
