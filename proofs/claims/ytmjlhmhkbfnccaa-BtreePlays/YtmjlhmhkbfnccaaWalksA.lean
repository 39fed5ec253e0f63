/- BtreeWalks: what lies where while the set is gone over. -/
import Derived.Test.YtmjlhmhkbfnccaaOneW
import Derived.Test.YtmjlhmhkbfnccaaLawD
namespace Go.Proofs.Ytmjlhmhkbfnccaa
open Go.RowKit Go.Shelf

theorem SetT.ne_box {S : Nat → Prop} {w : World} {sb hb b : Nat} {o : List Int} {xs : List (List Int)} {t : TypeId} {v : Value} (h : SetT S w sb hb o xs) (hb' : Boxed w b t v) : b ≠ hb := fun e => by
  obtain ⟨l, h, _⟩ := h
  obtain ⟨ov, p, d, hh, _⟩ := h.held
  subst e
  have h2 : w.heap[b]? = some (.cells #[v] t (0, 0)) := hb'
  rw [hh] at h2
  simp at h2
/-- The set, and the boxes of what the statement names. -/
structure Wk (W w : World) (b5 b6 b8 b9 b13 bs ib s h : Nat) (lv iv : Int) (mv wv : Value) (o : List Int) (A was : List (List Int)) : Prop where
  t : SetT (fun b => b ≠ h ∧ b ≠ ib) w s h o A
  l : W.heap.size ≤ h
  bel : Below W.heap.size W w
  k5 : Boxed w b5 3 (.int .i64 lv)
  k6 : Boxed w b6 4 (.bool false)
  k8 : Boxed w b8 32 mv
  k9 : Boxed w b9 33 (.pointer (some ⟨s, 0, none⟩))
  k13 : Boxed w b13 32 wv
  ks : Boxed w bs 33 (.pointer (some ⟨s, 0, none⟩))
  ki : Boxed w ib 3 (.int .i64 iv)
  was : ListAt (fun b => b ≠ h ∧ b ≠ ib) w wv was
  lts : b5 < ib ∧ b6 < ib ∧ b8 < ib ∧ b9 < ib ∧ b13 < ib ∧ bs < ib
  wl : W.heap.size ≤ ib
section
variable {W w : World} {b5 b6 b8 b9 b13 bs ib s h : Nat} {lv iv : Int} {mv wv : Value} {o : List Int} {A was : List (List Int)}
theorem Wk.nih (k : Wk W w b5 b6 b8 b9 b13 bs ib s h lv iv mv wv o A was) : ib ≠ h := k.t.ne_box k.ki
theorem Wk.step {w' : World} {base : Nat} (k : Wk W w b5 b6 b8 b9 b13 bs ib s h lv iv mv wv o A was) (hs : Step base w w') (hb : W.heap.size ≤ base) : Wk W w' b5 b6 b8 b9 b13 bs ib s h lv iv mv wv o A was := by
  obtain ⟨l, hl, _⟩ := id k.t
  obtain ⟨ov, p, d, hh, _⟩ := hl.held
  exact ⟨k.t.stays hs.stays ((hs.same _ _ hh (.inr rfl)).trans hh.symm), k.l, k.bel.trans (hs.below hb k.bel.size), hs.box k.k5, hs.box k.k6, hs.box k.k8, hs.box k.k9, hs.box k.k13, hs.box k.ks, hs.box k.ki, k.was.stays hs.stays, k.lts, k.wl⟩
theorem Wk.later {w' : World} (k : Wk W w b5 b6 b8 b9 b13 bs ib s h lv iv mv wv o A was) (hb : Below w.heap.size w w') : Wk W w' b5 b6 b8 b9 b13 bs ib s h lv iv mv wv o A was := k.step (base := w.heap.size) (Step.of_below hb) k.bel.size
theorem Wk.seti (k : Wk W w b5 b6 b8 b9 b13 bs ib s h lv iv mv wv o A was) (iv' : Int) : Wk W (w.setCell ⟨ib, 0, none⟩ (.int .i64 iv')) b5 b6 b8 b9 b13 bs ib s h lv iv' mv wv o A was := by
  have hK : Keeps (fun b => b = ib) w (w.setCell ⟨ib, 0, none⟩ (.int .i64 iv')) := (Keeps.refl (fun b => b = ib) w).setCell ⟨ib, 0, none⟩ rfl _
  obtain ⟨l5, l6, l8, l9, l13, ls⟩ := k.lts
  obtain ⟨l, hl, _⟩ := id k.t
  obtain ⟨ov, p, d, hh, _⟩ := hl.held
  have hn := k.nih
  exact ⟨k.t.stays (hK.stays (fun b _ hs e => hs.2 e)) ((hK.same _ _ hh (fun e => hn e.symm)).trans hh.symm), k.l, k.bel.trans (hK.below k.bel.size (fun b e => by have := k.wl; omega)), hK.box k.k5 (by omega), hK.box k.k6 (by omega), hK.box k.k8 (by omega), hK.box k.k9 (by omega), hK.box k.k13 (by omega), hK.box k.ks (by omega), Boxed.set _ k.ki, k.was.stays (hK.stays (fun b _ hs e => hs.2 e)), k.lts, k.wl⟩
theorem Wk.new (k : Wk W w b5 b6 b8 b9 b13 bs ib s h lv iv mv wv o A was) : NewIn (fun b => b ≠ h ∧ b ≠ ib) w := fun b hb => by
  have h1 := k.t.lt
  have h2 := k.ki.lt
  exact ⟨by omega, by omega⟩
theorem Wk.ins (k : Wk W w b5 b6 b8 b9 b13 bs ib s h lv iv mv wv o A was) {xv : Value} {x : List Int} (hx : Ints w.heap.size w xv x) (hB : Bnd x) :
    Calls Try.prog 14 #[.pointer (some ⟨s, 0, none⟩), xv] w fun e w' => e = .returned (.tuple #[.bool (insBL o x A), .int .i64 (insEL o x A)]) ∧ Wk W w' b5 b6 b8 b9 b13 bs ib s h lv iv mv wv o (insTo o x A) was ∧ Keeps (fun b => b = h) w w' := by
  refine (insert_T _ w s h o x A xv k.t hx hB k.new).mono ?_
  rintro e w' ⟨rfl, h2, hK⟩
  refine ⟨rfl, ⟨h2, k.l, k.bel.trans (hK.below k.bel.size (fun b e => by have := k.l; omega)), hK.box k.k5 (k.t.ne_box k.k5), hK.box k.k6 (k.t.ne_box k.k6), hK.box k.k8 (k.t.ne_box k.k8), hK.box k.k9 (k.t.ne_box k.k9), hK.box k.k13 (k.t.ne_box k.k13), hK.box k.ks (k.t.ne_box k.ks), hK.box k.ki (k.t.ne_box k.ki), k.was.stays (hK.stays (fun b _ hs e => hs.1 e)), k.lts, k.wl⟩, hK⟩
/-- Gone over, whenever. -/
theorem Wk.goes (k : Wk W w b5 b6 b8 b9 b13 bs ib s h lv iv mv wv o A was) : ∃ its, GoesH 41 #[.pointer (some ⟨bs, 0, none⟩)] its (fun b => (b ≠ h ∧ b ≠ ib) ∧ b < w.heap.size) w ∧ its.map (·.2) = A ∧ its.length ≤ 1024 := by
  obtain ⟨l, hl, hB, rfl⟩ := k.t
  exact ⟨l, all_goes hl hB k.ks, rfl, hl.len⟩
end
/-- The set and the boxes while it is filled. -/
structure Wf (W w : World) (b5 b6 b8 b9 s h : Nat) (lv : Int) (mv : Value) (o : List Int) (A : List (List Int)) : Prop where
  t : SetT (fun b => b ≠ h) w s h o A
  l : W.heap.size ≤ h
  bel : Below W.heap.size W w
  k5 : Boxed w b5 3 (.int .i64 lv)
  k6 : Boxed w b6 4 (.bool false)
  k8 : Boxed w b8 32 mv
  k9 : Boxed w b9 33 (.pointer (some ⟨s, 0, none⟩))
section
variable {W w : World} {b5 b6 b8 b9 s h : Nat} {lv : Int} {mv : Value} {o : List Int} {A : List (List Int)}
theorem Wf.later {w' : World} (k : Wf W w b5 b6 b8 b9 s h lv mv o A) (hb : Below w.heap.size w w') : Wf W w' b5 b6 b8 b9 s h lv mv o A :=
  ⟨k.t.later hb, k.l, k.bel.trans (hb.mono k.bel.size), (hb.block _ k.k5.lt).trans k.k5, (hb.block _ k.k6.lt).trans k.k6, (hb.block _ k.k8.lt).trans k.k8, (hb.block _ k.k9.lt).trans k.k9⟩
theorem Wf.new (k : Wf W w b5 b6 b8 b9 s h lv mv o A) : NewIn (fun b => b ≠ h) w := fun b hb => by have := k.t.lt; show b ≠ h; omega
theorem Wf.ins (k : Wf W w b5 b6 b8 b9 s h lv mv o A) {xv : Value} {x : List Int} (hx : Ints w.heap.size w xv x) (hB : Bnd x) :
    Calls Try.prog 14 #[.pointer (some ⟨s, 0, none⟩), xv] w fun e w' => e = .returned (.tuple #[.bool (insBL o x A), .int .i64 (insEL o x A)]) ∧ Wf W w' b5 b6 b8 b9 s h lv mv o (insTo o x A) := by
  refine (insert_T _ w s h o x A xv k.t hx hB k.new).mono ?_
  rintro e w' ⟨rfl, h2, hK⟩
  exact ⟨rfl, ⟨h2, k.l, k.bel.trans (hK.below k.bel.size (fun b e => by have := k.l; omega)), hK.box k.k5 (k.t.ne_box k.k5), hK.box k.k6 (k.t.ne_box k.k6), hK.box k.k8 (k.t.ne_box k.k8), hK.box k.k9 (k.t.ne_box k.k9)⟩⟩
/-- The list that was, the iterator's box and the number are made. -/
theorem Wf.begin {b13 bs ib : Nat} {wv : Value} {was : List (List Int)} (k : Wf W w b5 b6 b8 b9 s h lv mv o A) (hw : ListAt (fun b => b ≠ h ∧ b ≠ ib) w wv was) (k13 : Boxed w b13 32 wv) (ks : Boxed w bs 33 (.pointer (some ⟨s, 0, none⟩))) (ki : Boxed w ib 3 (.int .i64 0))
    (lts : b5 < ib ∧ b6 < ib ∧ b8 < ib ∧ b9 < ib ∧ b13 < ib ∧ bs < ib) (wl : W.heap.size ≤ ib) (hfree : ∃ l : List Item, SetAt (fun b => b ≠ h ∧ b ≠ ib) w s h o l ∧ BndI l ∧ l.map (·.2) = A) : Wk W w b5 b6 b8 b9 b13 bs ib s h lv 0 mv wv o A was :=
  ⟨hfree, k.l, k.bel, k.k5, k.k6, k.k8, k.k9, k13, ks, ki, hw, lts, wl⟩
end
end Go.Proofs.Ytmjlhmhkbfnccaa
