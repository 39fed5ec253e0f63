/- Range of a set told by its tuples. -/
import Derived.Test.YtmjlhmhkbfnccaaTups
namespace Go.Proofs.Ytmjlhmhkbfnccaa
open Go.RowKit Go.Shelf

theorem all_T (S : Nat → Prop) (w : World) (sb hb : Nat) (o : List Int) (xs : List (List Int)) (h : SetT S w sb hb o xs) :
    Calls Try.prog 18 #[.pointer (some ⟨sb, 0, none⟩)] w fun e w' => ∃ lb its, e = .returned (.func (.func 41) #[] lb) ∧ GoesH 41 lb its (fun b => S b ∧ b < w'.heap.size) w' ∧ its.map (·.2) = xs ∧ its.length ≤ 1024 ∧ Below w.heap.size w w' := by
  obtain ⟨l, h, hB, rfl⟩ := h
  refine (all_any w _).mono ?_
  rintro e w' ⟨rfl, rfl⟩
  have hb' : Below w.heap.size w (w.alloc (.cells #[.pointer (some ⟨sb, 0, none⟩)] 33)) := (Below.refl _ w).alloc (Nat.le_refl _) _
  exact ⟨_, l, rfl, all_goes (h.later hb') hB (Boxed.new w _ _), rfl, h.len, hb'⟩

/-- What an iterator yields, gathered. -/
theorem list_G (w : World) (g : Nat) (lb : Array Value) (its : List Item) (S : Nat → Prop) (xs : List (List Int)) (hg : GoesH g lb its (fun b => S b ∧ b < w.heap.size) w) (eg : ∀ args w, (callFunc g args).run Try.prog w = .ok (.enter g args) w) (hN : its.length ≤ 1024) (he : its.map (·.2) = xs) :
    Calls Try.prog 17 #[.func (.func g) #[] lb] w fun e w' => ∃ rv, e = .returned rv ∧ ListAt (fun b => w.heap.size ≤ b) w' rv xs ∧ Below w.heap.size w w' := by
  rw [← he]
  exact list_any w g lb its _ hg eg (fun b hb => hb.2) hN
theorem eg_all : ∀ args w, (callFunc 41 args).run Try.prog w = .ok (.enter 41 args) w := enters_of Try.func41 (by kernel_rfl) rfl

theorem eg_range : ∀ args w, (callFunc 45 args).run Try.prog w = .ok (.enter 45 args) w := enters_of Try.func45 (by kernel_rfl) rfl

set_option maxRecDepth 100000 in
set_option maxHeartbeats 4000000 in
theorem range_T (S : Nat → Prop) (w : World) (sb hb : Nat) (o x : List Int) (k : Int) (xs : List (List Int)) (xv : Value) (h : SetT S w sb hb o xs) (hx : Ints w.heap.size w xv x) (hn : x.length * 8 ≤ 140737488355328) (hnew : NewIn S w) :
    Calls Try.prog 21 #[.pointer (some ⟨sb, 0, none⟩), .int .i64 k, xv] w fun e w' => ∃ lb its, e = .returned (.func (.func 45) #[] lb) ∧ GoesH 45 lb its (fun b => S b ∧ b < w'.heap.size) w' ∧ its.map (·.2) = xs.filter (fun y => headA o k y x) ∧ its.length ≤ 1024 ∧ Below w.heap.size w w' := by
  obtain ⟨l, h, hB, rfl⟩ := h
  obtain ⟨W, hW⟩ : ∃ W, W = (w.alloc (.cells #[.pointer (some ⟨sb, 0, none⟩)] 33)).alloc (.cells #[.int .i64 k] 3) := ⟨_, rfl⟩
  have hb2 : Below w.heap.size w W := by rw [hW]; exact ((Below.refl _ w).alloc (Nat.le_refl _) _).alloc (by simp) _
  have hsz : W.heap.size = w.heap.size + 2 := by rw [hW]; simp
  have k1 : Boxed W w.heap.size 33 (.pointer (some ⟨sb, 0, none⟩)) := by rw [hW]; exact (Boxed.new w _ _).alloc _
  have k2 : Boxed W (w.heap.size + 1) 3 (.int .i64 k) := by
    rw [hW]
    have := Boxed.new (w.alloc (.cells #[.pointer (some ⟨sb, 0, none⟩)] 33)) 3 (.int .i64 k)
    rw [World.size_alloc] at this
    exact this
  have hcl := cloneL_any (fun b => b < w.heap.size) W xv x (IntsS.of_ints (hx.below hb2 (Nat.le_refl _)) (fun _ h => h)) hn
  obtain ⟨xa, xc, rfl, _⟩ := id hx
  have HH := hide (And.intro h (And.intro hB (And.intro hnew (And.intro hb2 (And.intro hsz (And.intro k1 k2))))))
  clear h hB hnew hb2 hsz k1 k2 hx
  go_enter Try.func21, Try.ntmps21
  go_wp2_with fail
  rw [← hW]
  refine hcl.mono ?_
  clear hcl
  rintro e w3 ⟨r, rfl, hown, hb3⟩
  obtain ⟨ra, rc, rfl, _⟩ := id hown.intsS
  have HO := hide (And.intro hown hb3)
  clear hown hb3 hW
  go_wp2_with fail
  go_ret
  obtain ⟨h, hB, hnew, hb2, hsz, k1, k2⟩ := unhide HH
  obtain ⟨hown, hb3⟩ := unhide HO
  obtain ⟨w4, hw4⟩ : ∃ w4, w4 = w3.alloc (.cells #[.slice ra x.length rc] 22) := ⟨_, rfl⟩
  rw [← hw4]
  have hb4 : Below w3.heap.size w3 w4 := by rw [hw4]; exact (Below.refl _ w3).alloc (Nat.le_refl _) _
  have k3 : Boxed w4 w3.heap.size 22 (.slice ra x.length rc) := by rw [hw4]; exact Boxed.new w3 _ _
  have hs3 := hb3.size
  have hs4 := hb4.size
  have b24 : Below W.heap.size W w4 := hb3.trans (hb4.mono hs3)
  have b04 : Below w.heap.size w w4 := hb2.trans (b24.mono hb2.size)
  have k1' : Boxed w4 w.heap.size 33 (.pointer (some ⟨sb, 0, none⟩)) := (b24.block _ k1.lt).trans k1
  have k2' : Boxed w4 (w.heap.size + 1) 3 (.int .i64 k) := (b24.block _ k2.lt).trans k2
  have h4 := h.later b04
  refine ⟨_, likeI o k x l, rfl, fun W5 hs5 => ?_, ?_, ?_, b04⟩
  · have h2 : SetAt (fun b => S b ∧ b < w4.heap.size) w4 sb hb o l := h4.mono (fun b hb hs => ⟨hs, hb⟩) (fun e => h.ns e.1)
    obtain ⟨ov, p, d, hh, _⟩ := h4.held
    have h3 : SetAt (fun b => S b ∧ b < w4.heap.size) W5 sb hb o l := h2.stays hs5.stays ((hs5.same _ _ hh (.inr rfl)).trans hh.symm)
    have hx4 : IntsS (fun b => S b ∧ b < w4.heap.size) W5 (.slice ra x.length rc) x := ((hown.intsS.later hb4).mono (S' := fun b => S b ∧ b < w4.heap.size) (fun b h1 h2 => ⟨hnew b (by omega), h1⟩)).stays hs5.stays
    exact (range1_goes _ W5 sb hb _ _ _ o x k l _ h3 (hs5.box k1') (hs5.box k2') (hs5.box k3) hx4).mono fun b hb => hb.1
  · rw [like_filter h.ok h.rises hB, List.filter_map]
    rfl
  · rw [like_filter h.ok h.rises hB]
    exact Nat.le_trans (List.length_filter_le _ _) h.len
end Go.Proofs.Ytmjlhmhkbfnccaa
