/- Goings over, whatever is held now. -/
import Derived.Test.YtmjlhmhkbfnccabFroms
namespace Go.Proofs.Ytmjlhmhkbfnccab
open Go.RowKit Go.Shelf

attribute [local go_sem] Oper.semAt_some

set_option maxRecDepth 100000 in
set_option maxHeartbeats 4000000 in
theorem range1_gen (S : Nat → Prop) (W : World) (pp : Option Addr) (oa : Option Addr) (oc d : Nat) (p : Option Addr) (bs bk bl : Nat) (o x : List Int) (k : Int) (l : List Item) (xv : Value) (hok : right o = true) (hris : Rises o l) (hov : IntsS S W (.slice oa o.length oc) o) (hT : Tree S W d 15 p l) (hnow0 : Calls Try.prog 23 #[.pointer pp] W.drew fun e w' => e = .returned (.agg #[.slice oa o.length oc, .pointer p, .int .i64 (l.length : Int)]) ∧ Below W.heap.size W w') (hbs : Boxed W bs 23 (.pointer pp)) (hbk : Boxed W bk 3 (.int .i64 k)) (hbl : Boxed W bl 22 xv) (hx : IntsS S W xv x) :
    GoesAtH 27 #[.pointer (some ⟨bs, 0, none⟩), .pointer (some ⟨bk, 0, none⟩), .pointer (some ⟨bl, 0, none⟩)] (likeI o k x l).length (Hands (likeI o k x l)) (fun b => S b ∧ b < W.heap.size) W := by
  intro lp J Jx O hSO hO hJ hJx hY h0
  obtain ⟨xa, xc, rfl, _⟩ := id hx
  have hnow : Calls Try.prog 23 #[.pointer pp] W.drew fun e w' => e = .returned (.agg #[.slice oa o.length oc, .pointer p, .int .i64 (l.length : Int)]) ∧ Below W.heap.size W w' :=
    hnow0
  have NEXT : Hid (∀ W1, Below W.heap.size W W1 → _) := fun W1 hb1 => like_next (xa := xa) (xc := xc) hok hris hov hT hSO hO hJ hJx hY h0 W1 hb1 ((hx.later hb1).mono (fun _ _ h => .inl h))
  have q1 := hbs.cell
  have q2 := hbk.cell
  have q3 := hbl.cell
  have l1 := hbs.lt
  have l2 := hbk.lt
  have l3 := hbl.lt
  have mixed : Try.prog.follows .mixedOrders = true := by kernel_rfl
  clear hov hx hT hSO hO hJ hJx hY h0 hbs hbk hbl
  go_enter Try.func27, Try.ntmps27
  obtain ⟨RR, hRR⟩ : ∃ RR : World → Prop, RR = fun W2 => ((∃ O', J (likeI o k x l).length O' W2 ∧ (∀ b, O' b → (O b ∨ W.heap.size ≤ b) ∧ b < W2.heap.size)) ∨ ∃ j, j ≤ (likeI o k x l).length ∧ Jx j W2) := ⟨_, rfl⟩
  obtain ⟨PP, hPP⟩ : ∃ PP : Act → World → Prop, PP = fun a' w2 => ∃ z4 z5 z6 z7 z8 z9 z10 z11 : Value, a' = { tmps := #[.func (.yield lp) #[] #[], .pointer (some ⟨bs, 0, none⟩), .pointer (some ⟨bk, 0, none⟩), .pointer (some ⟨bl, 0, none⟩), z4, z5, z6, z7, z8, z9, z10, z11], defers := [] } ∧ RR w2 := ⟨_, rfl⟩
  have HPP := hide hPP
  have HRR := hide hRR
  clear hPP hRR
  go_wp2_with fail
  refine wp_mono (Q := fun e a' w2 => match e with | Exit.normal => PP a' w2 | _ => False) ?_ ?_
  · go_region_with (first
      | (go_at_call 23; refine hnow.mono ?_; clear hnow; rintro e W1 ⟨rfl, hb1⟩; have hal := alike_any W1 p oa xa o.length oc x.length xc l.length k; have hcl := unhide NEXT W1 hb1; have g2 := (hb1.cell (p := ⟨bk, 0, none⟩) l2).trans q2; have g3 := (hb1.cell (p := ⟨bl, 0, none⟩) l3).trans q3; clear hb1)
      | (go_at_call 26; refine hal.mono ?_; clear hal; rintro e W3 ⟨rfl, rfl⟩)
      | (refine hcl.mono ?_; clear hcl; rintro e W4 ⟨⟨rv, rfl⟩, h4⟩))
    all_goals
      rw [unhide HPP]
      exact ⟨_, _, _, _, _, _, _, _, rfl, by rw [unhide HRR]; exact h4⟩
  · intro e a' w2 h
    cases e with
    | exit id => exact h.elim
    | goto tt => exact h.elim
    | ret => exact h.elim
    | panic ch => exact h.elim
    | outgrown => exact h.elim
    | normal =>
    rw [unhide HPP] at h
    obtain ⟨z4, z5, z6, z7, z8, z9, z10, z11, rfl, h4⟩ := h
    go_wp2_with fail
    go_end0
    rw [unhide HRR] at h4
    exact ⟨⟨_, rfl⟩, h4⟩

set_option maxRecDepth 100000 in
set_option maxHeartbeats 4000000 in
theorem from1_gen (S : Nat → Prop) (W : World) (pp : Option Addr) (oa : Option Addr) (oc d : Nat) (p : Option Addr) (bs bl : Nat) (o x : List Int) (l : List Item) (xv : Value) (hok : right o = true) (hris : Rises o l) (hov : IntsS S W (.slice oa o.length oc) o) (hT : Tree S W d 15 p l) (hnow0 : Calls Try.prog 23 #[.pointer pp] W.drew fun e w' => e = .returned (.agg #[.slice oa o.length oc, .pointer p, .int .i64 (l.length : Int)]) ∧ Below W.heap.size W w') (hbs : Boxed W bs 23 (.pointer pp)) (hbl : Boxed W bl 22 xv) (hx : IntsS S W xv x) :
    GoesAtH 28 #[.pointer (some ⟨bs, 0, none⟩), .pointer (some ⟨bl, 0, none⟩)] (fromI o x l).length (Hands (fromI o x l)) (fun b => S b ∧ b < W.heap.size) W := by
  intro lp J Jx O hSO hO hJ hJx hY h0
  obtain ⟨xa, xc, rfl, _⟩ := id hx
  have hnow : Calls Try.prog 23 #[.pointer pp] W.drew fun e w' => e = .returned (.agg #[.slice oa o.length oc, .pointer p, .int .i64 (l.length : Int)]) ∧ Below W.heap.size W w' :=
    hnow0
  have NEXT : Hid (∀ W1, Below W.heap.size W W1 → _) := fun W1 hb1 => from_next (xa := xa) (xc := xc) hok hris hov hT hSO hO hJ hJx hY h0 W1 hb1 ((hx.later hb1).mono (fun _ _ h => .inl h))
  have q1 := hbs.cell
  have q3 := hbl.cell
  have l1 := hbs.lt
  have l3 := hbl.lt
  have mixed : Try.prog.follows .mixedOrders = true := by kernel_rfl
  clear hov hx hT hSO hO hJ hJx hY h0 hbs hbl
  go_enter Try.func28, Try.ntmps28
  obtain ⟨RR, hRR⟩ : ∃ RR : World → Prop, RR = fun W2 => ((∃ O', J (fromI o x l).length O' W2 ∧ (∀ b, O' b → (O b ∨ W.heap.size ≤ b) ∧ b < W2.heap.size)) ∨ ∃ j, j ≤ (fromI o x l).length ∧ Jx j W2) := ⟨_, rfl⟩
  obtain ⟨PP, hPP⟩ : ∃ PP : Act → World → Prop, PP = fun a' w2 => ∃ z3 z4 z5 z6 z7 z8 z9 : Value, a' = { tmps := #[.func (.yield lp) #[] #[], .pointer (some ⟨bs, 0, none⟩), .pointer (some ⟨bl, 0, none⟩), z3, z4, z5, z6, z7, z8, z9], defers := [] } ∧ RR w2 := ⟨_, rfl⟩
  have HPP := hide hPP
  have HRR := hide hRR
  clear hPP hRR
  go_wp2_with fail
  refine wp_mono (Q := fun e a' w2 => match e with | Exit.normal => PP a' w2 | _ => False) ?_ ?_
  · go_region_with (first
      | (go_at_call 23; refine hnow.mono ?_; clear hnow; rintro e W1 ⟨rfl, hb1⟩; have hal := hfrom_any W1 p oa xa o.length oc x.length xc l.length; have hcl := unhide NEXT W1 hb1; have g3 := (hb1.cell (p := ⟨bl, 0, none⟩) l3).trans q3; clear hb1)
      | (go_at_call 29; refine hal.mono ?_; clear hal; rintro e W3 ⟨rfl, rfl⟩)
      | (go_at_call 39; refine hcl.mono ?_; clear hcl; rintro e W4 ⟨⟨rv, rfl⟩, h4⟩))
    all_goals
      rw [unhide HPP]
      exact ⟨_, _, _, _, _, _, _, rfl, by rw [unhide HRR]; exact h4⟩
  · intro e a' w2 h
    cases e with
    | exit id => exact h.elim
    | goto tt => exact h.elim
    | ret => exact h.elim
    | panic ch => exact h.elim
    | outgrown => exact h.elim
    | normal =>
    rw [unhide HPP] at h
    obtain ⟨z3, z4, z5, z6, z7, z8, z9, rfl, h4⟩ := h
    go_wp2_with fail
    go_end0
    rw [unhide HRR] at h4
    exact ⟨⟨_, rfl⟩, h4⟩

set_option maxRecDepth 100000 in
set_option maxHeartbeats 1000000 in
theorem all1_gen (S : Nat → Prop) (W : World) (pp : Option Addr) (oa : Option Addr) (oc d : Nat) (p : Option Addr) (bs : Nat) (o : List Int) (l : List Item) (hok : right o = true) (hris : Rises o l) (hov : IntsS S W (.slice oa o.length oc) o) (hT : Tree S W d 15 p l) (hnow0 : Calls Try.prog 23 #[.pointer pp] W fun e w' => e = .returned (.agg #[.slice oa o.length oc, .pointer p, .int .i64 (l.length : Int)]) ∧ Below W.heap.size W w') (hB : BndI l) (hbs : Boxed W bs 23 (.pointer pp)) :
    GoesAtH 25 #[.pointer (some ⟨bs, 0, none⟩)] l.length (Hands l) (fun b => S b ∧ b < W.heap.size) W := by
  have hl := like_all hok hris hB
  intro lp J Jx O hSO hO hJ hJx hY h0
  rw [← hl] at hY
  have hnow : Calls Try.prog 23 #[.pointer pp] W fun e w' => e = .returned (.agg #[.slice oa o.length oc, .pointer p, .int .i64 (l.length : Int)]) ∧ Below W.heap.size W w' :=
    hnow0
  have NEXT : Hid (∀ W1, Below W.heap.size W W1 → ∀ xa xc, IntsS (fun b => S b ∨ W.heap.size ≤ b) W1 (.slice xa (List.replicate o.length (0 : Int)).length xc) (List.replicate o.length 0) → _) := fun W1 hb1 xa xc hx => like_next (xa := xa) (xc := xc) (k := 0) hok hris hov hT hSO hO hJ hJx hY h0 W1 hb1 hx
  rw [List.length_replicate, hl] at NEXT
  have q1 := hbs.cell
  have l1 := hbs.lt
  have h8 := (right_in hok).1
  have mixed : Try.prog.follows .mixedOrders = true := by kernel_rfl
  clear hov hT hSO hO hJ hJx hY h0 hbs hl hB
  go_enter Try.func25, Try.ntmps25
  go_wp2_with fail
  refine hnow.mono ?_
  clear hnow
  rintro e W1 ⟨rfl, hb1⟩
  obtain ⟨W2, hW2⟩ : ∃ W2, W2 = W1.alloc (.cells #[.slice oa o.length oc, .pointer p, .int .i64 (l.length : Int)] 52) := ⟨_, rfl⟩
  have hb2 : Below W.heap.size W W2 := by rw [hW2]; exact hb1.alloc hb1.size _
  have hnw := World.alloc_heap_new W1 (.cells #[.slice oa o.length oc, .pointer p, .int .i64 (l.length : Int)] 52)
  rw [← hW2] at hnw
  obtain ⟨c0, c1, c2, _⟩ := three_cells hnw
  go_wp2_with fail
  rw [← hW2]
  have hlt2 : W1.heap.size < W2.heap.size := by rw [hW2]; simp
  clear hW2 hnw hb1
  obtain ⟨Z, hZ, hmk⟩ := zeros_run o.length h8
  have hb3 : Below W2.heap.size W2 (W2.drew.alloc (.cells Z 3)) := ((Below.refl _ W2).drew).alloc (Nat.le_refl _) _
  have hb03 : Below W.heap.size W (W2.drew.alloc (.cells Z 3)) := hb2.trans (hb3.mono hb2.size)
  have hcl := unhide NEXT (W2.drew.alloc (.cells Z 3)) hb03 (some ⟨W2.heap.size, 0, none⟩) o.length ((zeros_own hZ h8 W2.drew).mono (fun b _ h => .inr (by have := hb2.size; have h2 : W2.heap.size ≤ b := h; omega)))
  have hal := alike_any (W2.drew.alloc (.cells Z 3)) p oa (some ⟨W2.heap.size, 0, none⟩) o.length oc o.length o.length l.length 0
  simp only [drew_alloc, drew_size, World.size_alloc] at hcl
  clear NEXT hb2 hb3 hb03 hZ
  obtain ⟨RR, hRR⟩ : ∃ RR : World → Prop, RR = fun W2 => ((∃ O', J l.length O' W2 ∧ (∀ b, O' b → (O b ∨ W.heap.size ≤ b) ∧ b < W2.heap.size)) ∨ ∃ j, j ≤ l.length ∧ Jx j W2) := ⟨_, rfl⟩
  obtain ⟨PP, hPP⟩ : ∃ PP : Act → World → Prop, PP = fun a' w2 => ∃ z2 z3 z4 z5 z6 z7 z8 z9 z10 z11 z12 z13 : Value, a' = { tmps := #[.func (.yield lp) #[] #[], .pointer (some ⟨bs, 0, none⟩), z2, z3, z4, z5, z6, z7, z8, z9, z10, z11, z12, z13], defers := [] } ∧ RR w2 := ⟨_, rfl⟩
  have HPP := hide hPP
  have HRR := hide hRR
  clear hPP hRR
  refine wp_mono (Q := fun e a' w2 => match e with | Exit.normal => PP a' w2 | _ => False) ?_ ?_
  · go_region_with (first
      | (go_at_call 26; refine hal.mono ?_; clear hal; rintro e W4 ⟨rfl, rfl⟩)
      | (go_at_call 36; refine hcl.mono ?_; clear hcl; rintro e W5 ⟨⟨rv, rfl⟩, h4⟩))
    all_goals
      rw [unhide HPP]
      exact ⟨_, _, _, _, _, _, _, _, _, _, _, _, rfl, by rw [unhide HRR]; exact h4⟩
  · intro e a' w2 h
    cases e with
    | exit id => exact h.elim
    | goto tt => exact h.elim
    | ret => exact h.elim
    | panic ch => exact h.elim
    | outgrown => exact h.elim
    | normal =>
    rw [unhide HPP] at h
    obtain ⟨z2, z3, z4, z5, z6, z7, z8, z9, z10, z11, z12, z13, rfl, h4⟩ := h
    go_wp2_with fail
    go_end0
    rw [unhide HRR] at h4
    exact ⟨⟨_, rfl⟩, h4⟩
end Go.Proofs.Ytmjlhmhkbfnccab
