/- list: the tuples that are yielded, gathered. -/
import Derived.Test.YtmjlhmhkbfnccaaHFrom
import Derived.Maps.OwnIn
import Derived.RangeFuncBox
namespace Go.Proofs.Ytmjlhmhkbfnccaa
open Go.RowKit Go.Shelf Go.Maps

attribute [local go_sem] Oper.semAt_some

/-- An iterator that goes over these, whenever it is called. -/
def GoesH (g : Nat) (lb : Array Value) (its : List Item) (S : Nat → Prop) (w : World) : Prop := ∀ W, Step w.heap.size w W → GoesAtH g lb its.length (Hands its) S W
theorem GoesH.step {g : Nat} {lb : Array Value} {its : List Item} {S : Nat → Prop} {w w' : World} (h : GoesH g lb its S w) (hs : Step w.heap.size w w') : GoesH g lb its S w' := fun W hW => h W (hs.trans (hW.mono hs.size))

/-- A slice of tuples. -/
def ListAt (B : Nat → Prop) (w : World) (v : Value) (xs : List (List Int)) : Prop := ∃ f : Nat → Value, Row B w v xs.length f ∧ ∀ j, j < xs.length → IntsS B w (f j) (xs.getD j [])
theorem ListAt.stays {B : Nat → Prop} {w w' : World} {v : Value} {xs : List (List Int)} (h : ListAt B w v xs) (hs : Stays B w w') : ListAt B w' v xs := by
  obtain ⟨f, h1, h2⟩ := h
  exact ⟨f, h1.stays hs, fun j hj => (h2 j hj).stays hs⟩
theorem ListAt.later {B : Nat → Prop} {w w' : World} {v : Value} {xs : List (List Int)} (h : ListAt B w v xs) (hs : Below w.heap.size w w') : ListAt B w' v xs := h.stays (Stays.of_below hs)
theorem ListAt.mono {B B' : Nat → Prop} {w : World} {v : Value} {xs : List (List Int)} (h : ListAt B w v xs) (hs : ∀ b, b < w.heap.size → B b → B' b) : ListAt B' w v xs := by
  obtain ⟨f, h1, h2⟩ := h
  exact ⟨f, h1.mono hs, fun j hj => (h2 j hj).mono hs⟩

theorem ownsRow_step {base b0 : Nat} {e : TypeId} {size k : Nat} {v : Value} {xs : List Value} {A B : World} (h : A.ownsRow base e size v k xs) (hs : Step b0 A B) : B.ownsRow base e size v k xs := by
  refine ⟨h.1, ?_⟩
  rcases h.2 with h | ⟨g, cap, cur, h1, h2, h3, h4⟩
  · exact .inl h
  · exact .inr ⟨g, cap, cur, h1, h2, hs.same _ _ h3 (.inr rfl), h4⟩
theorem keeps_grown {A B : World} {row : Option Nat} {O : Nat → Prop} (h : A.grownBy B row) (hO : ∀ b, some b = row → O b) : Keeps O A B := ⟨h.os, h.tape, h.output, h.size, fun b _ hb hn => (h.block b (lt_heap hb) (fun e => hn (hO b e))).trans hb⟩
theorem range_getD (vs : List Value) : (List.range vs.length).map (fun j => vs.getD j undef) = vs := by
  apply List.ext_getElem
  · simp
  · intro i h1 h2
    simp [List.getD, List.getElem?_eq_getElem h2]

/-- What was gathered. -/
def Gath (w : World) (its : List Item) (k : Nat) (O : Nat → Prop) (W : World) : Prop := Below w.heap.size w W ∧ ∃ v vs, Boxed W w.heap.size 32 v ∧ W.ownsRow w.heap.size 22 1 v k vs ∧ (∀ b, O b ↔ (b = w.heap.size ∨ some b = v.ownBlock)) ∧
  ∀ j, j < k → ∃ u x, vs[j]? = some u ∧ its[j]? = some x ∧ IntsS (fun b => w.heap.size ≤ b ∧ ¬ O b ∧ b < W.heap.size) W u x.2
theorem Gath.step {w : World} {its : List Item} {k : Nat} {O : Nat → Prop} {A B : World} {base : Nat} (h : Gath w its k O A) (hs : Step base A B) (hb : w.heap.size ≤ base) : Gath w its k O B := by
  obtain ⟨h0, v, vs, h1, h2, h3, h4⟩ := h
  have := hs.size
  have := h0.size
  refine ⟨h0.trans (hs.below hb (by omega)), v, vs, hs.box h1, ownsRow_step h2 hs, h3, fun j hj => ?_⟩
  obtain ⟨u, x, e1, e2, e3⟩ := h4 j hj
  exact ⟨u, x, e1, e2, (e3.stays hs.stays).mono (fun b _ hb => ⟨hb.1, hb.2.1, by omega⟩)⟩
theorem Gath.list {w : World} {its : List Item} {O : Nat → Prop} {W : World} (h : Gath w its its.length O W) : ∃ v, Boxed W w.heap.size 32 v ∧ ListAt (fun b => w.heap.size ≤ b) W v (its.map (·.2)) ∧ Below w.heap.size w W := by
  obtain ⟨h0, v, vs, h1, h2, h3, h4⟩ := h
  have hl : vs.length = its.length := by have := h2.1; omega
  refine ⟨v, h1, ⟨fun j => vs.getD j undef, ?_, fun j hj => ?_⟩, h0⟩
  · rw [List.length_map]
    refine Row.of_own (e := 22) ?_
    rw [← hl, range_getD, hl]
    exact h2
  · rw [List.length_map] at hj
    obtain ⟨u, x, e1, e2, e3⟩ := h4 j hj
    have e4 : vs.getD j undef = u := by simp [List.getD, e1]
    have e5 : (its.map (·.2)).getD j [] = x.2 := by simp [List.getD, e2]
    show IntsS _ W (vs.getD j undef) _
    rw [e4, e5]
    exact e3.mono (fun b _ hb => hb.1)

set_option maxRecDepth 100000 in
set_option maxHeartbeats 4000000 in
theorem list_any (w : World) (g : Nat) (lb : Array Value) (its : List Item) (S : Nat → Prop) (hg : GoesH g lb its S w) (eg : ∀ args w, (callFunc g args).run Try.prog w = .ok (.enter g args) w) (hS : ∀ b, S b → b < w.heap.size) (hN : its.length ≤ 1024) :
    Calls Try.prog 17 #[.func (.func g) #[] lb] w fun e w' => ∃ rv, e = .returned rv ∧ ListAt (fun b => w.heap.size ≤ b) w' rv (its.map (·.2)) ∧ Below w.heap.size w w' := by
  obtain ⟨i0, hi0, hz0, hz1, hz2⟩ := infoT
  have ht : Try.prog.underlying 32 = some (.slice 22) := by kernel_rfl
  refine calls_marks Try.func17 rfl ?_
  simp only [Try.ntmps17, List.size_toArray, List.length_cons, List.length_nil, Nat.reduceAdd, Nat.reduceSub, Array.replicate_succ, Array.replicate_zero, List.push_toArray, List.append_toArray, List.nil_append, List.cons_append]
  go_wp2_with fail
  obtain ⟨w1, hw1⟩ : ∃ w1, w1 = w.alloc (.cells #[.slice none 0 0] 32) := ⟨_, rfl⟩
  rw [← hw1]
  have hb1 : Below w.heap.size w w1 := by rw [hw1]; exact (Below.refl _ w).alloc (Nat.le_refl _) _
  have hs1 : w1.heap.size = w.heap.size + 1 := by rw [hw1]; simp
  have bx : Boxed w1 w.heap.size 32 (.slice none 0 0) := by rw [hw1]; exact Boxed.new w _ _
  have h0 : Gath w its 0 (fun b => b = w.heap.size) w1 := ⟨hb1, _, [], bx, World.ownsRow_nil _ _ _ _, fun b => by simp [Value.ownBlock], fun j hj => by omega⟩
  have hseq : GoesH g lb its S w1 := hg.step (Step.of_below hb1)
  clear hw1 bx hg
  refine (wpIn_wide (n := 6)).1 (wp_rangeH (gf := g) (lb := lb) rfl eg hseq (fun _ _ _ _ _ h h2 => h.step h2) (fun b => b = w.heap.size) (fun b hb => by omega) (fun b hb e => by have := hS b hb; omega)
    (fun k O W => Gath w its k O W) (fun _ _ _ => False) (fun k O A B h h2 => h.step h2 (by omega)) (fun _ _ _ _ h _ => h) h0 ?a1 ?assign ?body ?done ?stop)
  case assign =>
    intro l m v Wx KK hK
    gi_wp2
    exact hK
  case body =>
    intro ll m k' O2 H v Wx hsz hO2 hH hlt hi hy
    obtain ⟨hbel, v0, vs, hv, hrow, hOO, hits⟩ := hi
    obtain ⟨x, hx, hxi, _⟩ := hy
    obtain ⟨va, vc, ev, _⟩ := id hxi
    have hxi2 : IntsS (fun b => w.heap.size ≤ b ∧ ¬ O2 b ∧ b < Wx.heap.size) Wx v x.2 := hxi.mono (fun b _ hb => ⟨by have := (hH b hb).1; omega, (hH b hb).2.1, (hH b hb).2.2⟩)
    obtain ⟨a0, c0, e0⟩ : ∃ a0 c0, v0 = .slice a0 k' c0 := by
      rcases hrow.2 with ⟨e, e2⟩ | ⟨g, cap, cur, e, _⟩
      · exact ⟨none, 0, by rw [e, e2]⟩
      · exact ⟨_, _, e⟩
    subst e0
    have hc := hv.cell
    have hk2 : ¬ ((2048 : Int) < (k' : Int)) := by omega
    have HXI := hide hxi2
    have HIT := hide (And.intro hits hOO)
    have hbs := hbel.size
    have hlen := hrow.1
    subst ev
    clear hits hOO hxi hxi2 hO2 hH
    gi_wp2_with (gi_at_builtin; refine wpListIn_append_own_at _ rfl _ _ 32 rfl w.heap.size 22 i0 (.slice none 0 0) 1 24 ht hi0 hz0 hz1 hz2 rfl (by decide) _ _ _ rfl (hrow.alloc _) ⟨Wx.heap.size, 0, none⟩ 1 1 [.slice va x.2.length vc] rfl rfl (cell_one_new _ _ _) (by simp [Value.oneCell']) (by unfold maxLen; omega) (by omega) (by simp; omega) ?_; intro v' w2 hown' hgrow _ hat; obtain ⟨g', cap', rfl⟩ := ownsRow_succ hown'; obtain ⟨hv1, hv2, hr2, hk2, hb2⟩ := hv.appended (by decide) hrow hbel.size (Nat.le_refl _) hown' hgrow; have hc1 := hv1.cell; have hf1 := hv1.frozen; have HR := hide (And.intro hgrow (And.intro hat (And.intro hv2 (And.intro hr2 hb2)))); clear hgrow hat hv2 hr2 hk2 hb2 hown')
    obtain ⟨hgrow, hat, hv2, hr2, hb2⟩ := unhide HR
    obtain ⟨hits, hOO⟩ := unhide HIT
    obtain ⟨W2, hW2⟩ : ∃ W2, W2 = w2.setCell ⟨w.heap.size, 0, none⟩ (.slice (some ⟨g', 0, none⟩) (k' + 1) cap') := ⟨_, rfl⟩
    rw [← hW2] at hv2 hr2 hb2 ⊢
    have hK : Keeps O2 Wx W2 := by
      rw [hW2]
      refine Keeps.setCell ?_ _ ((hOO _).2 (.inl rfl)) _
      refine ((Keeps.refl O2 Wx).alloc _).trans (keeps_grown (O := O2) hgrow (fun b hb => (hOO b).2 (.inr hb))) (fun _ _ e => e)
    have hks := hK.size
    have hg' : some g' = (Value.slice a0 k' c0).ownBlock ∨ Wx.heap.size ≤ g' := by
      rcases hat with h | h
      · exact .inl h
      · right
        simp only [Value.ownBlock, Option.some.injEq, World.size_alloc] at h
        omega
    have hgl : g' < W2.heap.size := by
      rcases hr2.2 with ⟨h, _⟩ | ⟨g3, cap3, cur, h, _, h3, _⟩
      · simp at h
      · simp only [Value.slice.injEq, Option.some.injEq, Addr.mk.injEq] at h
        rw [h.1.1]
        exact lt_heap h3
    have hn : ∀ b, b < Wx.heap.size → ¬ O2 b → ¬ (b = w.heap.size ∨ some b = (Value.slice (some ⟨g', 0, none⟩) (k' + 1) cap').ownBlock) := fun b hb hnb e => by
      rcases e with e | e
      · exact hnb ((hOO b).2 (.inl e))
      · simp only [Value.ownBlock, Option.some.injEq] at e
        rcases hg' with h | h
        · exact hnb ((hOO b).2 (.inr (by rw [e]; exact h)))
        · omega
    have hmono : ∀ u y, IntsS (fun b => w.heap.size ≤ b ∧ ¬ O2 b ∧ b < Wx.heap.size) Wx u y → IntsS (fun b => w.heap.size ≤ b ∧ ¬ (b = w.heap.size ∨ some b = (Value.slice (some ⟨g', 0, none⟩) (k' + 1) cap').ownBlock) ∧ b < W2.heap.size) W2 u y := fun u y h =>
      (h.stays (hK.stays (fun b _ hb => hb.2.1))).mono (fun b _ hb => ⟨hb.1, hn b hb.2.2 hb.2.1, by have := hb.2.2; omega⟩)
    refine ⟨⟨fun b => b = w.heap.size ∨ some b = (Value.slice (some ⟨g', 0, none⟩) (k' + 1) cap').ownBlock, ⟨hbel.trans hb2, _, vs ++ [.slice va x.2.length vc], hv2, hr2, fun b => Iff.rfl, fun j hj => ?_⟩, fun b hb => ?_⟩, hK.mono (fun b h => .inl h)⟩
    · by_cases hjk : j < k'
      · obtain ⟨u, y, e1, e2, e3⟩ := hits j hjk
        exact ⟨u, y, by rw [List.getElem?_append_left (by have := (List.getElem?_eq_some_iff.1 e1).1; omega)]; exact e1, e2, hmono _ _ e3⟩
      · have e : j = k' := by omega
        subst e
        exact ⟨_, x, by rw [List.getElem?_append_right (by omega), show j - vs.length = 0 by omega]; rfl, hx, hmono _ _ (unhide HXI)⟩
    · rcases hb with e | e
      · exact ⟨.inl ((hOO b).2 (.inl e)), by have := hv.lt; omega⟩
      · simp only [Value.ownBlock, Option.some.injEq] at e
        rcases hg' with h | h
        · exact ⟨.inl ((hOO b).2 (.inr (by rw [e]; exact h))), by omega⟩
        · exact ⟨.inr (by omega), by omega⟩
  case done =>
    rintro D O2 Wx hD hO2 hi hDx
    obtain ⟨rv, hv, hl, hbel⟩ := hi.list
    obtain ⟨f, ⟨ra, rc, e, _⟩, _⟩ := id hl
    rw [List.length_map] at e
    have hc := hv.cell
    have HL := hide (And.intro hl hbel)
    subst e
    have HD := hide hD
    clear hD hl hbel hv hi
    go_wp2_with fail
    have hD := unhide HD
    refine leaves_marks (base := w1.heap.size) (v := .slice ra its.length rc) [D] _ (by simp) (fun E hE => ?_) (fun w' hs => ⟨by simp [results, Try.f17, go_sem], _, rfl, (unhide HL).1.stays hs.stays, (unhide HL).2.trans (hs.below (by omega) (unhide HL).2.size)⟩)
    have e : E = D := by simpa using hE
    rw [e]
    exact ⟨by omega, hDx⟩
  case stop =>
    rintro D cc k' Wx hD hk' h hDx
    exact h.elim
end Go.Proofs.Ytmjlhmhkbfnccaa
