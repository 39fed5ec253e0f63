/- BtreeOwn: the walk. -/
import Derived.Test.YtmjlhmhkbfnccaaRangesW
import Derived.Test.YtmjlhmhkbfnccaaRefs3
namespace Go.Proofs.Ytmjlhmhkbfnccaa
open Go.RowKit Go.Shelf Go.Maps

set_option maxRecDepth 100000 in
set_option maxHeartbeats 4000000 in
theorem rnew_no (w : World) (ov : Value) (o : List Int) (ho : Ints w.heap.size w ov o) (hr : right o = false) :
    Calls Try.prog 25 #[ov] w fun e w' => e = .returned (.tuple #[.agg #[.slice none 0 0, .slice none 0 0], .int .i64 1]) ∧ Below w.heap.size w w' := by
  obtain ⟨w1, hw1⟩ : ∃ w1, w1 = w.alloc (.cells #[.slice none 0 0, .slice none 0 0] 56) := ⟨_, rfl⟩
  have b1 : Below w.heap.size w w1 := by rw [hw1]; exact (Below.refl _ w).alloc (Nat.le_refl _) _
  have hnw : w1.heap[w.heap.size]? = some (.cells #[.slice none 0 0, .slice none 0 0] 56 (0, 0)) := by rw [hw1]; exact World.alloc_heap_new _ _
  have hc := rright_any w1.heap.size w1 ov o ((ho.below b1 (Nat.le_refl _)).mono b1.size)
  rw [hr] at hc
  obtain ⟨oa, oc, rfl, _⟩ := id ho
  obtain ⟨c0, c1, q0, q1⟩ := two_cells hnw
  have HB := hide (And.intro b1 hnw)
  clear ho hr b1 hnw
  go_enter Try.func25, Try.ntmps25
  go_wp2_with fail
  rw [← hw1]
  refine hc.mono ?_
  clear hc
  rintro e w' ⟨rfl, hw'⟩
  subst hw'
  clear hw1
  go_wp2_with fail
  have hW := set_heap (set_heap (unhide HB).2 0 (.slice none 0 0)) 1 (.slice none 0 0)
  obtain ⟨d0, d1, _⟩ := two_cells (x := .slice none 0 0) (y := .slice none 0 0) (t := 56) hW
  refine bodyPost_ret (v := .tuple #[.agg #[.slice none 0 0, .slice none 0 0], .int .i64 1]) (by simp [results, Try.f25, go_sem, d0, d1]) rfl ?_
  exact ⟨rfl, ((unhide HB).1.setCell (p := ⟨w.heap.size, 0, none⟩) (Nat.le_refl _) _).setCell (p := ⟨w.heap.size, 1, none⟩) (Nat.le_refl _) _⟩

theorem RSetAt.mono {S S' : Nat → Prop} {w : World} {rb : Nat} {o : List Int} {xs : List (List Int)} (h : RSetAt S w rb o xs) (hs : ∀ b, b < w.heap.size → S b → S' b) (hn : ¬ S' rb) : RSetAt S' w rb o xs := by
  obtain ⟨ov, tv, h1, h2, h3, h4⟩ := h.cells
  exact ⟨⟨ov, tv, h1, h2.mono hs, h3.mono hs, h4⟩, hn⟩
theorem RSetAt.keeps {S O : Nat → Prop} {w w' : World} {rb : Nat} {o : List Int} {xs : List (List Int)} (h : RSetAt S w rb o xs) (hk : Keeps O w w') (hn : ¬ O rb) (hO : ∀ b, b < w.heap.size → S b → ¬ O b) : RSetAt S w' rb o xs := by
  obtain ⟨ov, tv, h1, _⟩ := h.cells
  exact h.stays (hk.stays hO) ((hk.same _ _ h1 hn).trans h1.symm)
theorem SetT.keepsO {S O : Nat → Prop} {w w' : World} {sb hb : Nat} {o : List Int} {xs : List (List Int)} (h : SetT S w sb hb o xs) (hk : Keeps O w w') (hn : ¬ O hb) (hO : ∀ b, b < w.heap.size → S b → ¬ O b) : SetT S w' sb hb o xs :=
  h.stays (hk.stays hO) (by
    have hl := h.lt
    rw [hk.same hb _ (Array.getElem?_eq_getElem hl) hn]
    exact (Array.getElem?_eq_getElem hl).symm)
theorem OwnI.keeps {base : Nat} {O : Nat → Prop} {A B : World} {v : Value} {l : List Int} (h : OwnI base A v l) (hk : Keeps O A B) (hn : ∀ b, some b = v.ownBlock → ¬ O b) : OwnI base B v l := by
  refine ⟨h.1, ?_⟩
  rcases h.2 with h | ⟨g, cap, cur, h1, h2, h3, h4⟩
  · exact .inl h
  · exact .inr ⟨g, cap, cur, h1, h2, hk.same _ _ h3 (hn g (by rw [h1]; rfl)), h4⟩
theorem OwnI.block {base : Nat} {A : World} {v : Value} {l : List Int} (h : OwnI base A v l) : ∀ b, some b = v.ownBlock → base ≤ b ∧ b < A.heap.size := fun b hb => by
  rcases h.2 with ⟨rfl, _⟩ | ⟨g, cap, cur, rfl, h2, h3, _⟩
  · simp [Value.ownBlock] at hb
  · simp only [Value.ownBlock, Option.some.injEq] at hb
    rw [hb]
    exact ⟨h2, lt_heap h3⟩

/-- The set and the document's, side by side. -/
structure Both (S : Nat → Prop) (W w : World) (s h rb : Nat) (o : List Int) (A : List (List Int)) : Prop where
  t : SetT S w s h o A
  r : RSetAt S w rb o A
  ne : h ≠ rb
  l1 : W.heap.size ≤ h
  l2 : W.heap.size ≤ rb
  bel : Below W.heap.size W w
theorem Both.later {S : Nat → Prop} {W w w' : World} {s h rb : Nat} {o : List Int} {A : List (List Int)} (hb : Both S W w s h rb o A) (hs : Below w.heap.size w w') : Both S W w' s h rb o A := ⟨hb.t.later hs, hb.r.later hs, hb.ne, hb.l1, hb.l2, hb.bel.trans (hs.mono hb.bel.size)⟩
theorem Both.mono {S S' : Nat → Prop} {W w : World} {s h rb : Nat} {o : List Int} {A : List (List Int)} (hb : Both S W w s h rb o A) (hs : ∀ b, b < w.heap.size → S b → S' b) (h1 : ¬ S' h) (h2 : ¬ S' rb) : Both S' W w s h rb o A := ⟨hb.t.mono hs h1, hb.r.mono hs h2, hb.ne, hb.l1, hb.l2, hb.bel⟩
theorem Both.keeps {S O : Nat → Prop} {W w w' : World} {s h rb : Nat} {o : List Int} {A : List (List Int)} (hb : Both S W w s h rb o A) (hk : Keeps O w w') (h1 : ¬ O h) (h2 : ¬ O rb) (hO : ∀ b, b < w.heap.size → S b → ¬ O b) (hW : ∀ b, O b → W.heap.size ≤ b) : Both S W w' s h rb o A :=
  ⟨hb.t.keepsO hk h1 hO, hb.r.keeps hk h2 hO, hb.ne, hb.l1, hb.l2, hb.bel.trans (hk.below hb.bel.size hW)⟩
/-- A tuple's copy is put into the one, the tuple into the other. -/
theorem Both.put {W w : World} {s h rb : Nat} {o : List Int} {A : List (List Int)} {rv : Value} {x : List Int} {base : Nat} (hb : Both (fun b => b ≠ h ∧ b ≠ rb ∧ ¬ (some b = rv.ownBlock)) W w s h rb o A) (hown : OwnI base w rv x) (hB : Bnd x) (hbase : h < base ∧ rb < base) :
    Calls Try.prog 14 #[.pointer (some ⟨s, 0, none⟩), rv] w fun e w' => (∃ b er, e = .returned (.tuple #[.bool b, .int .i64 er])) ∧ SetT (fun b => b ≠ h ∧ b ≠ rb ∧ ¬ (some b = rv.ownBlock)) w' s h o (insTo o x A) ∧ RSetAt (fun b => b ≠ h ∧ b ≠ rb ∧ ¬ (some b = rv.ownBlock)) w' rb o A ∧ OwnI base w' rv x ∧ Below W.heap.size W w' ∧ w.heap.size ≤ w'.heap.size := by
  refine (insert_T _ w s h o x A rv hb.t hown.intsS.ints hB (fun b hs => ⟨by have := hb.t.lt; omega, by have := hb.r.lt; omega, fun e => by have := (hown.block b e).2; omega⟩)).mono ?_
  rintro e w' ⟨rfl, h2, h3⟩
  exact ⟨⟨_, _, rfl⟩, h2, hb.r.keeps h3 (fun e => hb.ne e.symm) (fun b _ hs e => hs.1 e), hown.keeps h3 (fun b e h => by have := (hown.block b e).1; omega), hb.bel.trans (h3.below hb.bel.size (fun b hb' => by have := hb.l1; omega)), h3.size⟩
theorem Both.rput {W w : World} {s h rb : Nat} {o : List Int} {A : List (List Int)} {rv tv : Value} {x : List Int} {base : Nat} (ht : SetT (fun b => b ≠ h ∧ b ≠ rb ∧ ¬ (some b = rv.ownBlock)) w s h o (insTo o x A)) (hr : RSetAt (fun b => b ≠ h ∧ b ≠ rb ∧ ¬ (some b = rv.ownBlock)) w rb o A) (hU : Up o A) (hown : OwnI base w rv x) (hbase : h < base ∧ rb < base) (hne : h ≠ rb) (l1 : W.heap.size ≤ h) (l2 : W.heap.size ≤ rb) (bel : Below W.heap.size W w) (hx : Ints w.heap.size w tv x) :
    Calls Try.prog 26 #[.pointer (some ⟨rb, 0, none⟩), tv] w fun e w' => (∃ b er, e = .returned (.tuple #[.bool b, .int .i64 er])) ∧ Both (fun b => b ≠ h ∧ b ≠ rb ∧ ¬ (some b = rv.ownBlock)) W w' s h rb o (insTo o x A) ∧ OwnI base w' rv x := by
  refine (rinsert_any _ w rb o x A tv hr ht.ok hU hx (fun b hs => ⟨by have := ht.lt; omega, by have := hr.lt; omega, fun e => by have := (hown.block b e).2; omega⟩)).mono ?_
  rintro e w' ⟨rfl, h2, h3⟩
  exact ⟨⟨_, _, rfl⟩, ⟨ht.keepsO h3 hne (fun b _ hs e => hs.2.1 e), h2, hne, l1, l2, bel.trans (h3.below bel.size (fun b hb' => by omega))⟩, hown.keeps h3 (fun b e h => by have := (hown.block b e).1; omega)⟩
end Go.Proofs.Ytmjlhmhkbfnccaa
