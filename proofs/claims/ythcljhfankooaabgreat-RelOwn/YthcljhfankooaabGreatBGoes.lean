/- All, Range and From: what they answer goes over the set as it is when that begins. -/
import Derived.Test.YthcljhfankooaabGreatBLikes
namespace Go.Proofs.YthcljhfankooaabGreat
open Go.RowKit Go.Shelf

attribute [local go_sem] Oper.semAt_some



/-- What is called goes on as the one that it calls. -/
theorem GoesAtH.wide {g : Nat} {lb : Array Value} {N : Nat} {Y : Nat → (Nat → Prop) → Value → World → Prop} {S S' : Nat → Prop} {W W' : World} (h : GoesAtH g lb N Y S' W') (hs : Step W.heap.size W W') (hS : ∀ b, S' b → S b ∨ W.heap.size ≤ b)
    (l : Nat) (J : Nat → (Nat → Prop) → World → Prop) (Jx : Nat → World → Prop) (O : Nat → Prop) (hSO : ∀ b, S b → ¬ O b) (hO : ∀ b, O b → b < W.heap.size) (hJ : ∀ k O A B, J k O A → Step W.heap.size A B → J k O B) (hJx : ∀ k A B, Jx k A → Step W.heap.size A B → Jx k B)
    (hY : RoundsH W.heap.size l N Y J Jx) (h0 : J 0 O W) : Calls Tryz.prog g (#[.func (.yield l) #[] #[]] ++ lb) W' fun e W2 => (∃ v, e = .returned v) ∧ ((∃ O', J N O' W2 ∧ (∀ b, O' b → (O b ∨ W.heap.size ≤ b) ∧ b < W2.heap.size)) ∨ ∃ k, k ≤ N ∧ Jx k W2) := by
  have hsz := hs.size
  refine (h l J Jx O (fun b hb e => ?_) (fun b hb => by have := hO b hb; omega) (fun k O A B hj hst => hJ k O A B hj (hst.mono hsz)) (fun k A B hj hst => hJx k A B hj (hst.mono hsz)) ?_ (hJ _ _ _ _ h0 hs)).mono ?_
  · rcases hS b hb with h | h
    · exact hSO b h e
    · have := hO b e; omega
  · intro m k O H v W1 hk hj hH hy
    refine YieldAt_mono (hY m k O H v W1 hk hj (fun b hb => ⟨by have := (hH b hb).1; omega, (hH b hb).2⟩) hy) ?_
    rintro e W2 (h | ⟨h1, h2, h3⟩)
    · exact .inl h
    · exact .inr ⟨h1, h2, h3.mono (fun b hb => hb.imp id (fun hb => hb.imp id (fun hb => by omega)))⟩
  · rintro e W2 ⟨h1, (⟨O', h2, h3⟩ | h2)⟩
    · exact ⟨h1, .inl ⟨O', h2, fun b hb => ⟨(h3 b hb).1.imp id (fun h => by omega), (h3 b hb).2⟩⟩⟩
    · exact ⟨h1, .inr h2⟩

/-- The going over of a head, called by a fellow that began at W. -/
theorem like_next {S : Nat → Prop} {W : World} {o x : List Int} {k : Int} {l : List Item} {oa xa : Option Addr} {oc xc d : Nat} {p : Option Addr} (ho : right o = true) (hR : Rises o l) (hov : IntsS S W (.slice oa o.length oc) o) (hT : Tree S W d 15 p l)
    {lp : Nat} {J : Nat → (Nat → Prop) → World → Prop} {Jx : Nat → World → Prop} {O : Nat → Prop} (hSO : ∀ b, S b ∧ b < W.heap.size → ¬ O b) (hO : ∀ b, O b → b < W.heap.size) (hJ : ∀ k O A B, J k O A → Step W.heap.size A B → J k O B) (hJx : ∀ k A B, Jx k A → Step W.heap.size A B → Jx k B)
    (hY : RoundsH W.heap.size lp (likeI o k x l).length (Hands (likeI o k x l)) J Jx) (h0 : J 0 O W) (W1 : World) (hb1 : Below W.heap.size W W1) (hx : IntsS (fun b => S b ∨ W.heap.size ≤ b) W1 (.slice xa x.length xc) x) :
    Calls Tryz.prog 127 #[.func (.yield lp) #[] #[], .pointer (some ⟨W1.heap.size, 0, none⟩), .pointer (some ⟨W1.heap.size + 1, 0, none⟩), .pointer (some ⟨W1.heap.size + 1 + 1, 0, none⟩)]
      (((W1.alloc (.cells #[.slice oa o.length oc, .pointer p, .int .i64 (l.length : Int)] 102)).alloc (.cells #[.int .i64 k] 3)).alloc (.cells #[.slice xa x.length xc] 32)) fun e W2 => (∃ v, e = .returned v) ∧ ((∃ O', J (likeI o k x l).length O' W2 ∧ (∀ b, O' b → (O b ∨ W.heap.size ≤ b) ∧ b < W2.heap.size)) ∨ ∃ j, j ≤ (likeI o k x l).length ∧ Jx j W2) := by
  obtain ⟨W3, hW3⟩ : ∃ W3, W3 = ((W1.alloc (.cells #[.slice oa o.length oc, .pointer p, .int .i64 (l.length : Int)] 102)).alloc (.cells #[.int .i64 k] 3)).alloc (.cells #[.slice xa x.length xc] 32) := ⟨_, rfl⟩
  rw [← hW3]
  have hs1 := hb1.size
  have hb3 : Below W1.heap.size W1 W3 := by rw [hW3]; exact (((Below.refl _ W1).alloc (Nat.le_refl _) _).alloc (by simp) _).alloc (by simp; omega) _
  have hsz3 : W3.heap.size = W1.heap.size + 3 := by rw [hW3]; simp
  have k1 : W3.heap[W1.heap.size]? = some (.cells #[.slice oa o.length oc, .pointer p, .int .i64 (l.length : Int)] 102 (0, 0)) := by
    rw [hW3, Below.heap_alloc _ _ _ (by simp; omega), Below.heap_alloc _ _ _ (by simp)]; exact World.alloc_heap_new _ _
  have k2 : Boxed W3 (W1.heap.size + 1) 3 (.int .i64 k) := by
    rw [hW3]
    have := (Boxed.new (W1.alloc (.cells #[.slice oa o.length oc, .pointer p, .int .i64 (l.length : Int)] 102)) 3 (.int .i64 k)).alloc (.cells #[.slice xa x.length xc] 32)
    rw [World.size_alloc] at this
    exact this
  have k3 : Boxed W3 (W1.heap.size + 1 + 1) 32 (.slice xa x.length xc) := by
    rw [hW3]
    have := Boxed.new ((W1.alloc (.cells #[.slice oa o.length oc, .pointer p, .int .i64 (l.length : Int)] 102)).alloc (.cells #[.int .i64 k] 3)) 32 (.slice xa x.length xc)
    rw [World.size_alloc, World.size_alloc] at this
    exact this
  have b03 : Below W.heap.size W W3 := hb1.trans (hb3.mono hs1)
  have hmono : ∀ q, q < W.heap.size → S q → (S q ∧ q < W.heap.size) ∨ (W.heap.size ≤ q ∧ q < W3.heap.size) := fun q h1 h2 => .inl ⟨h2, h1⟩
  have st : Stays (fun q => (S q ∧ q < W.heap.size) ∨ (W.heap.size ≤ q ∧ q < W3.heap.size)) W W3 := Stays.of_below b03
  have hx3 : IntsS (fun q => (S q ∧ q < W.heap.size) ∨ (W.heap.size ≤ q ∧ q < W3.heap.size)) W3 (.slice xa x.length xc) x := (hx.mono (fun q h1 h2 => by
    by_cases hq : q < W.heap.size
    · rcases h2 with h2 | h2
      · exact .inl ⟨h2, hq⟩
      · omega
    · exact .inr ⟨by omega, by omega⟩)).stays (Stays.of_below hb3)
  exact (alike1_goes (fun q => (S q ∧ q < W.heap.size) ∨ (W.heap.size ≤ q ∧ q < W3.heap.size)) _ _ o x k l d p l.length W3 _ _ _ ho k1 k2 k3 (fun q hq => by omega) (.inr (by omega)) (.inr (by omega)) (.inr (by omega)) ((hov.mono hmono).stays st) hx3 ((hT.mono hmono).stays st) hR).wide
    (S := fun q => S q ∧ q < W.heap.size) (Step.of_below b03) (fun q hq => hq.imp id (fun h => h.1)) lp J Jx O hSO hO hJ hJx hY h0

theorem GoesAtH.mono {g : Nat} {lb : Array Value} {N : Nat} {Y : Nat → (Nat → Prop) → Value → World → Prop} {S S' : Nat → Prop} {W : World} (h : GoesAtH g lb N Y S W) (hS : ∀ b, S b → S' b) : GoesAtH g lb N Y S' W :=
  fun l J Jx O hSO hO hJ hJx hY h0 => h l J Jx O (fun b hb => hSO b (hS b hb)) hO hJ hJx hY h0

set_option maxRecDepth 100000 in
set_option maxHeartbeats 4000000 in
theorem range1_goes (S : Nat → Prop) (W : World) (sb hb bs bk bl : Nat) (o x : List Int) (k : Int) (l : List Item) (xv : Value) (h : SetAt S W sb hb o l) (hbs : Boxed W bs 64 (.pointer (some ⟨sb, 0, none⟩))) (hbk : Boxed W bk 3 (.int .i64 k)) (hbl : Boxed W bl 32 xv) (hx : IntsS S W xv x) :
    GoesAtH 95 #[.pointer (some ⟨bs, 0, none⟩), .pointer (some ⟨bk, 0, none⟩), .pointer (some ⟨bl, 0, none⟩)] (likeI o k x l).length (Hands (likeI o k x l)) (fun b => S b ∧ b < W.heap.size) W := by
  intro lp J Jx O hSO hO hJ hJx hY h0
  obtain ⟨ov, p, d, hh, hov, hT⟩ := h.held
  obtain ⟨oa, oc, rfl, _⟩ := id hov
  obtain ⟨xa, xc, rfl, _⟩ := id hx
  have hnow : Calls Tryz.prog 89 #[.pointer (some ⟨sb, 0, none⟩)] W.drew fun e w' => e = .returned (.agg #[.slice oa o.length oc, .pointer p, .int .i64 (l.length : Int)]) ∧ Below W.heap.size W w' :=
    (now_any W.drew sb hb _ _ p oa o.length oc l.length rfl rfl h.s0 hh).mono fun e w' ⟨h1, h2⟩ => ⟨h1, ((Below.refl _ W).drew).trans h2⟩
  have NEXT : Hid (∀ W1, Below W.heap.size W W1 → _) := fun W1 hb1 => like_next (xa := xa) (xc := xc) h.ok h.rises hov hT hSO hO hJ hJx hY h0 W1 hb1 ((hx.later hb1).mono (fun _ _ h => .inl h))
  have q1 := hbs.cell
  have q2 := hbk.cell
  have q3 := hbl.cell
  have l1 := hbs.lt
  have l2 := hbk.lt
  have l3 := hbl.lt
  have mixed : Tryz.prog.follows .mixedOrders = true := by kernel_rfl
  clear hov hx hT hh h hSO hO hJ hJx hY h0 hbs hbk hbl
  go_enter Tryz.func95, Tryz.ntmps95
  obtain ⟨RR, hRR⟩ : ∃ RR : World → Prop, RR = fun W2 => ((∃ O', J (likeI o k x l).length O' W2 ∧ (∀ b, O' b → (O b ∨ W.heap.size ≤ b) ∧ b < W2.heap.size)) ∨ ∃ j, j ≤ (likeI o k x l).length ∧ Jx j W2) := ⟨_, rfl⟩
  obtain ⟨PP, hPP⟩ : ∃ PP : Act → World → Prop, PP = fun a' w2 => ∃ z4 z5 z6 z7 z8 z9 z10 z11 : Value, a' = { tmps := #[.func (.yield lp) #[] #[], .pointer (some ⟨bs, 0, none⟩), .pointer (some ⟨bk, 0, none⟩), .pointer (some ⟨bl, 0, none⟩), z4, z5, z6, z7, z8, z9, z10, z11], defers := [] } ∧ RR w2 := ⟨_, rfl⟩
  have HPP := hide hPP
  have HRR := hide hRR
  clear hPP hRR
  go_wp2_with fail
  refine wp_mono (Q := fun e a' w2 => match e with | Exit.normal => PP a' w2 | _ => False) ?_ ?_
  · go_region_with (first
      | (go_at_call 89; refine hnow.mono ?_; clear hnow; rintro e W1 ⟨rfl, hb1⟩; have hal := alike_any W1 p oa xa o.length oc x.length xc l.length k; have hcl := unhide NEXT W1 hb1; have g2 := (hb1.cell (p := ⟨bk, 0, none⟩) l2).trans q2; have g3 := (hb1.cell (p := ⟨bl, 0, none⟩) l3).trans q3; clear hb1)
      | (go_at_call 96; refine hal.mono ?_; clear hal; rintro e W3 ⟨rfl, rfl⟩)
      | (refine hcl.mono ?_; clear hcl; rintro e W4 ⟨⟨rv, rfl⟩, h4⟩))
    all_goals
      rw [unhide HPP]
      exact ⟨_, _, _, _, _, _, _, _, rfl, by rw [unhide HRR]; exact h4⟩
  · intro e a' w2 h
    cases e with
    | exit id => exact h.elim
    | goto tt => exact h.elim
    | ret => exact h.elim
    | panic ch => exact h.elim
    | outgrown => exact h.elim
    | normal =>
    rw [unhide HPP] at h
    obtain ⟨z4, z5, z6, z7, z8, z9, z10, z11, rfl, h4⟩ := h
    go_wp2_with fail
    go_end0
    rw [unhide HRR] at h4
    exact ⟨⟨_, rfl⟩, h4⟩

end Go.Proofs.YthcljhfankooaabGreat
