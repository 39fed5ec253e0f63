/- From: what it answers goes over the tuples that are not below one. -/
import Derived.Test.YtmjlhmhkbfnccaaRangeT
namespace Go.Proofs.Ytmjlhmhkbfnccaa
open Go.RowKit Go.Shelf

attribute [local go_sem] Oper.semAt_some

theorem from_next {S : Nat → Prop} {W : World} {o x : List Int} {l : List Item} {oa xa : Option Addr} {oc xc d : Nat} {p : Option Addr} (ho : right o = true) (hR : Rises o l) (hov : IntsS S W (.slice oa o.length oc) o) (hT : Tree S W d 15 p l)
    {lp : Nat} {J : Nat → (Nat → Prop) → World → Prop} {Jx : Nat → World → Prop} {O : Nat → Prop} (hSO : ∀ b, S b ∧ b < W.heap.size → ¬ O b) (hO : ∀ b, O b → b < W.heap.size) (hJ : ∀ k O A B, J k O A → Step W.heap.size A B → J k O B) (hJx : ∀ k A B, Jx k A → Step W.heap.size A B → Jx k B)
    (hY : RoundsH W.heap.size lp (fromI o x l).length (Hands (fromI o x l)) J Jx) (h0 : J 0 O W) (W1 : World) (hb1 : Below W.heap.size W W1) (hx : IntsS (fun b => S b ∨ W.heap.size ≤ b) W1 (.slice xa x.length xc) x) :
    Calls Try.prog 59 #[.func (.yield lp) #[] #[], .pointer (some ⟨W1.heap.size, 0, none⟩), .pointer (some ⟨W1.heap.size + 1, 0, none⟩)]
      ((W1.alloc (.cells #[.slice oa o.length oc, .pointer p, .int .i64 (l.length : Int)] 80)).alloc (.cells #[.slice xa x.length xc] 22)) fun e W2 => (∃ v, e = .returned v) ∧ ((∃ O', J (fromI o x l).length O' W2 ∧ (∀ b, O' b → (O b ∨ W.heap.size ≤ b) ∧ b < W2.heap.size)) ∨ ∃ j, j ≤ (fromI o x l).length ∧ Jx j W2) := by
  obtain ⟨W3, hW3⟩ : ∃ W3, W3 = (W1.alloc (.cells #[.slice oa o.length oc, .pointer p, .int .i64 (l.length : Int)] 80)).alloc (.cells #[.slice xa x.length xc] 22) := ⟨_, rfl⟩
  rw [← hW3]
  have hs1 := hb1.size
  have hb3 : Below W1.heap.size W1 W3 := by rw [hW3]; exact ((Below.refl _ W1).alloc (Nat.le_refl _) _).alloc (by simp) _
  have hsz3 : W3.heap.size = W1.heap.size + 2 := by rw [hW3]; simp
  have k1 : W3.heap[W1.heap.size]? = some (.cells #[.slice oa o.length oc, .pointer p, .int .i64 (l.length : Int)] 80 (0, 0)) := by
    rw [hW3, Below.heap_alloc _ _ _ (by simp)]; exact World.alloc_heap_new _ _
  have k3 : Boxed W3 (W1.heap.size + 1) 22 (.slice xa x.length xc) := by
    rw [hW3]
    have := Boxed.new (W1.alloc (.cells #[.slice oa o.length oc, .pointer p, .int .i64 (l.length : Int)] 80)) 22 (.slice xa x.length xc)
    rw [World.size_alloc] at this
    exact this
  have b03 : Below W.heap.size W W3 := hb1.trans (hb3.mono hs1)
  have hmono : ∀ q, q < W.heap.size → S q → (S q ∧ q < W.heap.size) ∨ (W.heap.size ≤ q ∧ q < W3.heap.size) := fun q h1 h2 => .inl ⟨h2, h1⟩
  have st : Stays (fun q => (S q ∧ q < W.heap.size) ∨ (W.heap.size ≤ q ∧ q < W3.heap.size)) W W3 := Stays.of_below b03
  have hx3 : IntsS (fun q => (S q ∧ q < W.heap.size) ∨ (W.heap.size ≤ q ∧ q < W3.heap.size)) W3 (.slice xa x.length xc) x := (hx.mono (fun q h1 h2 => by
    by_cases hq : q < W.heap.size
    · rcases h2 with h2 | h2
      · exact .inl ⟨h2, hq⟩
      · omega
    · exact .inr ⟨by omega, by omega⟩)).stays (Stays.of_below hb3)
  exact (hfrom1_goes (fun q => (S q ∧ q < W.heap.size) ∨ (W.heap.size ≤ q ∧ q < W3.heap.size)) _ _ o x l d p l.length W3 _ _ ho k1 k3 (fun q hq => by omega) ((hov.mono hmono).stays st) hx3 ((hT.mono hmono).stays st) hR).wide
    (S := fun q => S q ∧ q < W.heap.size) (Step.of_below b03) (fun q hq => hq.imp id (fun h => h.1)) lp J Jx O hSO hO hJ hJx hY h0

set_option maxRecDepth 100000 in
set_option maxHeartbeats 4000000 in
theorem from1_goes (S : Nat → Prop) (W : World) (sb hb bs bl : Nat) (o x : List Int) (l : List Item) (xv : Value) (h : SetAt S W sb hb o l) (hbs : Boxed W bs 33 (.pointer (some ⟨sb, 0, none⟩))) (hbl : Boxed W bl 22 xv) (hx : IntsS S W xv x) :
    GoesAtH 46 #[.pointer (some ⟨bs, 0, none⟩), .pointer (some ⟨bl, 0, none⟩)] (fromI o x l).length (Hands (fromI o x l)) (fun b => S b ∧ b < W.heap.size) W := by
  intro lp J Jx O hSO hO hJ hJx hY h0
  obtain ⟨ov, p, d, hh, hov, hT⟩ := h.held
  obtain ⟨oa, oc, rfl, _⟩ := id hov
  obtain ⟨xa, xc, rfl, _⟩ := id hx
  have hnow : Calls Try.prog 40 #[.pointer (some ⟨sb, 0, none⟩)] W.drew fun e w' => e = .returned (.agg #[.slice oa o.length oc, .pointer p, .int .i64 (l.length : Int)]) ∧ Below W.heap.size W w' :=
    (now_any W.drew sb hb _ _ p oa o.length oc l.length rfl rfl h.s0 hh).mono fun e w' ⟨h1, h2⟩ => ⟨h1, ((Below.refl _ W).drew).trans h2⟩
  have NEXT : Hid (∀ W1, Below W.heap.size W W1 → _) := fun W1 hb1 => from_next (xa := xa) (xc := xc) h.ok h.rises hov hT hSO hO hJ hJx hY h0 W1 hb1 ((hx.later hb1).mono (fun _ _ h => .inl h))
  have q1 := hbs.cell
  have q3 := hbl.cell
  have l1 := hbs.lt
  have l3 := hbl.lt
  have mixed : Try.prog.follows .mixedOrders = true := by kernel_rfl
  clear hov hx hT hh h hSO hO hJ hJx hY h0 hbs hbl
  go_enter Try.func46, Try.ntmps46
  obtain ⟨RR, hRR⟩ : ∃ RR : World → Prop, RR = fun W2 => ((∃ O', J (fromI o x l).length O' W2 ∧ (∀ b, O' b → (O b ∨ W.heap.size ≤ b) ∧ b < W2.heap.size)) ∨ ∃ j, j ≤ (fromI o x l).length ∧ Jx j W2) := ⟨_, rfl⟩
  obtain ⟨PP, hPP⟩ : ∃ PP : Act → World → Prop, PP = fun a' w2 => ∃ z3 z4 z5 z6 z7 z8 z9 : Value, a' = { tmps := #[.func (.yield lp) #[] #[], .pointer (some ⟨bs, 0, none⟩), .pointer (some ⟨bl, 0, none⟩), z3, z4, z5, z6, z7, z8, z9], defers := [] } ∧ RR w2 := ⟨_, rfl⟩
  have HPP := hide hPP
  have HRR := hide hRR
  clear hPP hRR
  go_wp2_with fail
  refine wp_mono (Q := fun e a' w2 => match e with | Exit.normal => PP a' w2 | _ => False) ?_ ?_
  · go_region_with (first
      | (go_at_call 40; refine hnow.mono ?_; clear hnow; rintro e W1 ⟨rfl, hb1⟩; have hal := hfrom_any W1 p oa xa o.length oc x.length xc l.length; have hcl := unhide NEXT W1 hb1; have g3 := (hb1.cell (p := ⟨bl, 0, none⟩) l3).trans q3; clear hb1)
      | (go_at_call 47; refine hal.mono ?_; clear hal; rintro e W3 ⟨rfl, rfl⟩)
      | (go_at_call 59; refine hcl.mono ?_; clear hcl; rintro e W4 ⟨⟨rv, rfl⟩, h4⟩))
    all_goals
      rw [unhide HPP]
      exact ⟨_, _, _, _, _, _, _, rfl, by rw [unhide HRR]; exact h4⟩
  · intro e a' w2 h
    cases e with
    | exit id => exact h.elim
    | goto tt => exact h.elim
    | ret => exact h.elim
    | panic ch => exact h.elim
    | outgrown => exact h.elim
    | normal =>
    rw [unhide HPP] at h
    obtain ⟨z3, z4, z5, z6, z7, z8, z9, rfl, h4⟩ := h
    go_wp2_with fail
    go_end0
    rw [unhide HRR] at h4
    exact ⟨⟨_, rfl⟩, h4⟩

theorem eg_from : ∀ args w, (callFunc 46 args).run Try.prog w = .ok (.enter 46 args) w := enters_of Try.func46 (by kernel_rfl) rfl
/-- Not below a tuple. -/
def fromL (o x : List Int) (xs : List (List Int)) : List (List Int) := if fitB o x = true then xs.filter (fun y => decide (0 ≤ cmpA o y x)) else []
theorem fromI_map (o x : List Int) (l : List Item) : (fromI o x l).map (·.2) = fromL o x (l.map (·.2)) := by
  unfold fromI fromL
  split
  · rw [List.filter_map]
    rfl
  · rfl
theorem fromI_len (o x : List Int) (l : List Item) : (fromI o x l).length ≤ l.length := by
  unfold fromI
  split
  · exact List.length_filter_le _ _
  · simp

set_option maxRecDepth 100000 in
set_option maxHeartbeats 4000000 in
theorem from_T (S : Nat → Prop) (w : World) (sb hb : Nat) (o x : List Int) (xs : List (List Int)) (xv : Value) (h : SetT S w sb hb o xs) (hx : Ints w.heap.size w xv x) (hn : x.length * 8 ≤ 140737488355328) (hnew : NewIn S w) :
    Calls Try.prog 22 #[.pointer (some ⟨sb, 0, none⟩), xv] w fun e w' => ∃ lb its, e = .returned (.func (.func 46) #[] lb) ∧ GoesH 46 lb its (fun b => S b ∧ b < w'.heap.size) w' ∧ its.map (·.2) = fromL o x xs ∧ its.length ≤ 1024 ∧ Below w.heap.size w w' := by
  obtain ⟨l, h, hB, rfl⟩ := h
  obtain ⟨W, hW⟩ : ∃ W, W = w.alloc (.cells #[.pointer (some ⟨sb, 0, none⟩)] 33) := ⟨_, rfl⟩
  have hb2 : Below w.heap.size w W := by rw [hW]; exact (Below.refl _ w).alloc (Nat.le_refl _) _
  have hsz : W.heap.size = w.heap.size + 1 := by rw [hW]; simp
  have k1 : Boxed W w.heap.size 33 (.pointer (some ⟨sb, 0, none⟩)) := by rw [hW]; exact Boxed.new w _ _
  have hcl := cloneL_any (fun b => b < w.heap.size) W xv x (IntsS.of_ints (hx.below hb2 (Nat.le_refl _)) (fun _ h => h)) hn
  obtain ⟨xa, xc, rfl, _⟩ := id hx
  have HH := hide (And.intro h (And.intro hnew (And.intro hb2 (And.intro hsz k1))))
  clear h hB hnew hb2 hsz k1 hx
  go_enter Try.func22, Try.ntmps22
  go_wp2_with fail
  rw [← hW]
  refine hcl.mono ?_
  clear hcl
  rintro e w3 ⟨r, rfl, hown, hb3⟩
  obtain ⟨ra, rc, rfl, _⟩ := id hown.intsS
  have HO := hide (And.intro hown hb3)
  clear hown hb3 hW
  go_wp2_with fail
  go_ret
  obtain ⟨h, hnew, hb2, hsz, k1⟩ := unhide HH
  obtain ⟨hown, hb3⟩ := unhide HO
  obtain ⟨w4, hw4⟩ : ∃ w4, w4 = w3.alloc (.cells #[.slice ra x.length rc] 22) := ⟨_, rfl⟩
  rw [← hw4]
  have hb4 : Below w3.heap.size w3 w4 := by rw [hw4]; exact (Below.refl _ w3).alloc (Nat.le_refl _) _
  have k3 : Boxed w4 w3.heap.size 22 (.slice ra x.length rc) := by rw [hw4]; exact Boxed.new w3 _ _
  have hs3 := hb3.size
  have hs4 := hb4.size
  have b24 : Below W.heap.size W w4 := hb3.trans (hb4.mono hs3)
  have b04 : Below w.heap.size w w4 := hb2.trans (b24.mono hb2.size)
  have k1' : Boxed w4 w.heap.size 33 (.pointer (some ⟨sb, 0, none⟩)) := (b24.block _ k1.lt).trans k1
  have h4 := h.later b04
  refine ⟨_, fromI o x l, rfl, fun W5 hs5 => ?_, fromI_map o x l, Nat.le_trans (fromI_len o x l) h.len, b04⟩
  have h2 : SetAt (fun b => S b ∧ b < w4.heap.size) w4 sb hb o l := h4.mono (fun b hb hs => ⟨hs, hb⟩) (fun e => h.ns e.1)
  obtain ⟨ov, p, d, hh, _⟩ := h4.held
  have h3 : SetAt (fun b => S b ∧ b < w4.heap.size) W5 sb hb o l := h2.stays hs5.stays ((hs5.same _ _ hh (.inr rfl)).trans hh.symm)
  have hx4 : IntsS (fun b => S b ∧ b < w4.heap.size) W5 (.slice ra x.length rc) x := ((hown.intsS.later hb4).mono (S' := fun b => S b ∧ b < w4.heap.size) (fun b h1 h2 => ⟨hnew b (by omega), h1⟩)).stays hs5.stays
  exact (from1_goes _ W5 sb hb _ _ o x l _ h3 (hs5.box k1') (hs5.box k3) hx4).mono fun b hb => hb.1
end Go.Proofs.Ytmjlhmhkbfnccaa
