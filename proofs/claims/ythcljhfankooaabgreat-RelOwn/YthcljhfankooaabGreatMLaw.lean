/- Going over within a round: as in Law3, where a round is told of its loop's record; and a loop within a round that is left at once. A loop over a function that is left behind, or gone through, to one end; regions that leave their order open, inside a round. A region that leaves its order open and holds calls: what only reads may be run first. One step of the one order. -/
import Derived.Test.YthcljhfankooaabGreatBLaw3
import Derived.Sort.QuietIn
import Derived.StillTail
namespace Go.Proofs.YthcljhfankooaabGreat
open Go.RowKit Go.Shelf

/-- A range over a function that yields one value, in a function's own frame, whose rounds are told of the loop's own record. -/
theorem wp_rangeL {n : Nat} {g : Operand} {t : Tmp} {assign body : Code} {Q : Exit → Act → World → Prop} {a : Act} {w : World} {gf : Nat} {lb : Array Value}
    (hg : a.eval g = .func (.func gf) #[] lb) (eg : ∀ args w, (callFunc gf args).run Tryz.prog w = .ok (.enter gf args) w)
    {N : Nat} {Y : Nat → (Nat → Prop) → Value → World → Prop} {S : Nat → Prop} (hseq : ∀ W, Step w.heap.size w W → GoesAtH gf lb N Y S W) (hY : ∀ k H v A B, Y k H v A → Step 0 A B → Y k H v B)
    (O : Nat → Prop) (hO : ∀ b, O b → b < w.heap.size) (hSO : ∀ b, S b → ¬ O b)
    (I : Nat → (Nat → Prop) → World → Prop) (Ix : Code → Nat → World → Prop) (hI : ∀ k O A B, I k O A → Step w.heap.size A B → I k O B) (hIx : ∀ c k A B, Ix c k A → Step w.heap.size A B → Ix c k B) (h0 : I 0 O w)
    (a₁ : Value → Act)
    (hassign : ∀ (l m : Nat) (v : Value) (W : World) (K : Act → World → Prop), K (a₁ v) W → assign.wpIn (Fence.wide.inRound l) m Tryz.prog (Exit.then K (fun _ _ _ => False)) { tmps := a.tmps.setIfInBounds t v, defers := [] } W)
    (hbody : ∀ (l m k : Nat) (O' H : Nat → Prop) (v : Value) (W : World), w.heap.size ≤ W.heap.size → (∀ b, O' b → (O b ∨ w.heap.size + 2 ≤ b) ∧ b < W.heap.size) → (∀ b, H b → w.heap.size + 2 ≤ b ∧ ¬ O' b ∧ b < W.heap.size) → k < N → I k O' W → Y k H v W → (w.heap.size ≤ l ∧ l < w.heap.size + 2 ∧ ∃ r, W.heap[l]? = some (.loop r)) → body.wpIn (Fence.wide.inRound l) m Tryz.prog (roundEndH w.heap.size I Ix k O' H W) (a₁ v) W)
    (hdone : ∀ (D : Nat) (O' : Nat → Prop) (W : World), D = w.heap.size → (∀ b, O' b → (O b ∨ w.heap.size + 2 ≤ b) ∧ b < W.heap.size) → I N O' W → W.heap[D]? = some (.deferred (some [])) → Q .normal { a with defers := { target := .collected D, args := #[] } :: a.defers } W)
    (hstop : ∀ (D : Nat) (c : Code) (k : Nat) (W : World), D = w.heap.size → k ≤ N → Ix c k W → W.heap[D]? = some (.deferred (some [])) → c.wpIn Fence.wide n Tryz.prog Q { a with defers := { target := .collected D, args := #[] } :: a.defers } W) :
    (Code.rangeFunc g #[t] assign body).wpIn Fence.wide n Tryz.prog Q a w := by
  refine wpIn_rangeFunc ?_
  intro fn hfn
  have hro : Fence.wide.round = none := rfl
  rw [hro]
  obtain ⟨rec, hrec⟩ : ∃ rec : LoopState → Option Code → Loop, rec = fun st pe => { state := st, pending := pe, fn, tmps := a.tmps, params := #[t], assign, body, defers := w.heap.size } := ⟨_, rfl⟩
  obtain ⟨W1, hW1⟩ : ∃ W1, (w.alloc (.deferred (some []))).alloc (.loop (rec .ready none)) = W1 := ⟨_, rfl⟩
  have hs1 : W1.heap.size = w.heap.size + 2 := by rw [← hW1]; simp
  have hL1 : W1.heap[w.heap.size + 1]? = some (.loop (rec .ready none)) := by
    rw [← hW1]; have := World.alloc_heap_new (w.alloc (.deferred (some []))) (.loop (rec .ready none)); rwa [World.size_alloc] at this
  have hD1 : W1.heap[w.heap.size]? = some (.deferred (some [])) := by
    rw [← hW1]; exact (Below.heap_alloc _ _ _ (by simp)).trans (World.alloc_heap_new w _)
  have hst : Step w.heap.size w W1 := by rw [← hW1]; exact (Step.alloc _ _ _).trans (Step.alloc _ _ _)
  refine ⟨w.heap.size + 1, [{ target := .collected w.heap.size, args := #[] }], W1, { target := .fn (.func gf) lb, args := #[.func (.yield (w.heap.size + 1)) #[] #[]] }, W1, gf,
    #[.func (.yield (w.heap.size + 1)) #[] #[]] ++ lb, W1, ?_, ?_, ?_, ?_, fun h => (by cases h), ?_⟩
  · rw [← hW1, hrec]; exact run_enterLoop_outer _ _ _ _ _
  · simp only [resolve, hg]
    simp [go_sem]
  · intro f' _; trivial
  · simp [invoke, go_sem, eg]
  refine callsIn_wide.2 ((hseq W1 hst (w.heap.size + 1)
    (fun k O' W => I k O' W ∧ (∀ b, O' b → (O b ∨ w.heap.size + 2 ≤ b) ∧ b < W.heap.size) ∧ W.heap[w.heap.size + 1]? = some (.loop (rec .ready none)) ∧ W.heap[w.heap.size]? = some (.deferred (some [])))
    (fun k W => ∃ c, Ix c k W ∧ W.heap[w.heap.size + 1]? = some (.loop (rec .done (some c))) ∧ W.heap[w.heap.size]? = some (.deferred (some []))) O hSO (fun b hb => by have := hO b hb; omega)
    ?_ ?_ ?_ ⟨hI _ _ _ _ h0 hst, fun b hb => ⟨.inl hb, by have := hO b hb; omega⟩, hL1, hD1⟩).mono ?_)
  · rintro k O' A B ⟨h1, h2, h3, h4⟩ hs
    rw [hs1] at hs
    exact ⟨hI _ _ _ _ h1 (hs.mono (by omega)), fun b hb => ⟨(h2 b hb).1, Nat.lt_of_lt_of_le (h2 b hb).2 hs.size⟩, hs.same _ _ h3 (.inl (by omega)), hs.same _ _ h4 (.inl (by omega))⟩
  · rintro k A B ⟨c, h1, h3, h4⟩ hs
    rw [hs1] at hs
    exact ⟨c, hIx _ _ _ _ h1 (hs.mono (by omega)), hs.same _ _ h3 (.inl (by omega)), hs.same _ _ h4 (.inl (by omega))⟩
  · rintro m k O' H v W hk ⟨hi, hO', hl, hd⟩ hH hy
    rw [hs1] at hH
    have nl : ¬ (O' (w.heap.size + 1) ∨ H (w.heap.size + 1)) := fun e => by
      rcases e with e | e
      · rcases (hO' _ e).1 with e | e; (have := hO _ e; omega); omega
      · have := (hH _ e).1; omega
    have nd : ¬ (O' w.heap.size ∨ H w.heap.size) := fun e => by
      rcases e with e | e
      · rcases (hO' _ e).1 with e | e; (have := hO _ e; omega); omega
      · have := (hH _ e).1; omega
    have hlt := lt_heap hl
    have hyr := run_yield (P := Tryz.prog) (args := #[v]) hl (by rw [hrec]; rfl)
    rw [hrec] at hyr
    refine ⟨fn, a.tmps.setIfInBounds t v, assign, body, (by simpa using hyr), roundIn_of_wpIn hfn ?_⟩
    refine hassign _ _ v W _ ?_
    refine ⟨_, run_beginRound hl (by rw [hrec]), ?_⟩
    clear hyr
    obtain ⟨W2, hW2⟩ : ∃ W2, W.putObj (w.heap.size + 1) (.loop { rec .ready none with state := .busy }) = W2 := ⟨_, rfl⟩
    rw [hW2]
    have hs2 : Step w.heap.size W W2 := by rw [← hW2]; exact Step.putObj hl rfl (by omega) _
    have hs0 : Step 0 W W2 := hs2.mono (Nat.zero_le _)
    have hsz2 : W2.heap.size = W.heap.size := by rw [← hW2]; simp
    have hl2 : W2.heap[w.heap.size + 1]? = some (.loop { rec .ready none with state := .busy }) := by rw [← hW2]; exact World.putObj_heap_same hlt
    have hd2 : W2.heap[w.heap.size]? = some (.deferred (some [])) := by rw [← hW2]; exact (World.putObj_heap_other (by omega)).trans hd
    refine wpIn_mono (hbody (w.heap.size + 1) m k O' H v W2 (by omega) (fun b hb => ⟨(hO' b hb).1, by have := (hO' b hb).2; omega⟩) (fun b hb => ⟨(hH b hb).1, (hH b hb).2.1, by have := (hH b hb).2.2; omega⟩) hk (hI _ _ _ _ hi hs2) (hY _ _ _ _ _ hy hs0) ⟨by omega, by omega, _, hl2⟩) ?_
    have fin : ∀ (jump : Option Code) (W3 : World), Keeps (fun b => O' b ∨ H b ∨ b < w.heap.size) W2 W3 →
        (Instr.endRound (w.heap.size + 1) jump).run Tryz.prog W3 = .ok (.bool jump.isNone) (W3.putObj (w.heap.size + 1) (.loop (rec (if jump.isNone then .ready else .done) jump))) ∧
        Step w.heap.size W3 (W3.putObj (w.heap.size + 1) (.loop (rec (if jump.isNone then .ready else .done) jump))) ∧
        (W3.putObj (w.heap.size + 1) (.loop (rec (if jump.isNone then .ready else .done) jump))).heap[w.heap.size + 1]? = some (.loop (rec (if jump.isNone then .ready else .done) jump)) ∧
        (W3.putObj (w.heap.size + 1) (.loop (rec (if jump.isNone then .ready else .done) jump))).heap[w.heap.size]? = some (.deferred (some [])) := fun jump W3 h3 => by
      have hl3 := h3.same _ _ hl2 (fun e => by rcases e with e | e | e; exact nl (.inl e); exact nl (.inr e); omega)
      have hd3 := h3.same _ _ hd2 (fun e => by rcases e with e | e | e; exact nd (.inl e); exact nd (.inr e); omega)
      have hr := run_endRound (P := Tryz.prog) jump hl3
      refine ⟨?_, Step.putObj hl3 rfl (by omega) _, World.putObj_heap_same (lt_heap hl3), (World.putObj_heap_other (by omega)).trans hd3⟩
      rw [hrec] at hr ⊢
      exact hr
    have keep : ∀ (W3 : World) (o : Obj), Keeps (fun b => O' b ∨ H b) W2 W3 → o = .loop (rec .ready none) → Keeps (fun b => O' b ∨ H b) W (W3.putObj (w.heap.size + 1) o) := fun W3 o h3 ho =>
      ⟨h3.os.trans hs2.os, h3.tape.trans hs2.tape, h3.output.trans hs2.output, by have := h3.size; simp; omega, fun b o1 hb hn => by
        by_cases e : b = w.heap.size + 1
        · subst e
          rw [hl] at hb
          cases hb
          rw [ho]
          exact World.putObj_heap_same (lt_heap (h3.same _ _ hl2 nl))
        · refine (World.putObj_heap_other e).trans (h3.same b o1 ?_ hn)
          rw [← hW2]
          exact (World.putObj_heap_other e).trans hb⟩
    have keepx : ∀ (W3 : World) (o : Obj), Keeps (fun b => O' b ∨ H b ∨ b < w.heap.size) W2 W3 → Keeps (fun b => O' b ∨ H b ∨ b < W1.heap.size) W (W3.putObj (w.heap.size + 1) o) := fun W3 o h3 =>
      ⟨h3.os.trans hs2.os, h3.tape.trans hs2.tape, h3.output.trans hs2.output, by have := h3.size; simp; omega, fun b o1 hb hn => by
        have e : b ≠ w.heap.size + 1 := fun e => hn (.inr (.inr (by omega)))
        refine (World.putObj_heap_other e).trans (h3.same b o1 ?_ (fun e => hn (e.imp id (fun e => e.imp id (fun e => by omega)))))
        rw [← hW2]
        exact (World.putObj_heap_other e).trans hb⟩
    rintro e a3 W3 hp
    cases e with
    | normal =>
      obtain ⟨⟨O3, hi3, hsub⟩, hk3⟩ := hp
      obtain ⟨hr, h1, h2, h4⟩ := fin none W3 (hk3.mono fun b h => h.imp id .inl)
      refine ⟨_, _, hr, .inl ⟨rfl, ⟨O3, ⟨hI _ _ _ _ hi3 h1, fun b hb => ?_, h2, h4⟩, fun b hb => ?_⟩, keep W3 _ hk3 rfl⟩⟩
      · refine ⟨?_, by have := (hsub b hb).2; simp; omega⟩
        rcases (hsub b hb).1 with e | e
        · exact (hO' b e).1
        · right; omega
      · refine ⟨?_, by have := (hsub b hb).2; simp; omega⟩
        rcases (hsub b hb).1 with e | e
        · exact .inl e
        · right; omega
    | ret =>
      obtain ⟨hi3, hk3⟩ := hp
      obtain ⟨hr, h1, h2, h4⟩ := fin (some .ret) W3 hk3
      exact ⟨_, _, hr, .inr ⟨rfl, ⟨.ret, hIx _ _ _ _ hi3 h1, h2, h4⟩, keepx W3 _ hk3⟩⟩
    | exit id =>
      obtain ⟨hi3, hk3⟩ := hp
      obtain ⟨hr, h1, h2, h4⟩ := fin (some (.exit id)) W3 hk3
      exact ⟨_, _, hr, .inr ⟨rfl, ⟨.exit id, hIx _ _ _ _ hi3 h1, h2, h4⟩, keepx W3 _ hk3⟩⟩
    | goto t => exact hp.elim
    | panic ch => exact hp.elim
    | outgrown => exact hp.elim
  · rintro e W2 ⟨⟨v, rfl⟩, (⟨O2, ⟨hi, hO2, hl, hd⟩, _⟩ | ⟨k, hk, c, hi, hl, hd⟩)⟩
    · refine ⟨none, _, (by have := run_endLoop (P := Tryz.prog) hl (by rw [hrec]; simp); rw [hrec] at this; exact this), ?_⟩
      exact hdone _ O2 _ rfl (fun b hb => ⟨(hO2 b hb).1, by have := (hO2 b hb).2; simp; omega⟩) (hI _ _ _ _ hi (Step.putObj hl rfl (by omega) _)) ((World.putObj_heap_other (by omega)).trans hd)
    · refine ⟨some c, _, (by have := run_endLoop (P := Tryz.prog) hl (by rw [hrec]; simp); rw [hrec] at this; exact this), ?_⟩
      exact hstop _ c k _ rfl hk (hIx _ _ _ _ hi (Step.putObj hl rfl (by omega) _)) ((World.putObj_heap_other (by omega)).trans hd)

/-- A loop within a round, left in its first one. -/
theorem wp_range_brk {n l0 : Nat} {r0 : Loop} {g : Operand} {t : Tmp} {assign body : Code} {Q : Exit → Act → World → Prop} {a : Act} {w : World} {gf : Nat} {lb : Array Value}
    (hl0 : w.heap[l0]? = some (.loop r0)) (hg : a.eval g = .func (.func gf) #[] lb) (eg : ∀ args w, (callFunc gf args).run Tryz.prog w = .ok (.enter gf args) w)
    {N : Nat} {Y : Nat → (Nat → Prop) → Value → World → Prop} {S : Nat → Prop} (hseq : ∀ W, Step w.heap.size w W → GoesAtH gf lb N Y S W) (id : Nat) (a₁ : Value → Act)
    (hassign : ∀ (l m : Nat) (v : Value) (W : World) (K : Act → World → Prop), K (a₁ v) W → assign.wpIn (Fence.wide.inRound l) m Tryz.prog (Exit.then K (fun _ _ _ => False)) { tmps := a.tmps.setIfInBounds t v, defers := [] } W)
    (hbody : ∀ (l m : Nat) (v : Value) (W : World), body.wpIn (Fence.wide.inRound l) m Tryz.prog (fun e _ W' => e = .exit id ∧ W' = W) (a₁ v) W)
    (hdone : ∀ W, Step w.heap.size w W → Q .normal a W) (hstop : ∀ W, Step w.heap.size w W → (Code.exit id).wpIn (Fence.wide.inRound l0) n Tryz.prog Q a W) :
    (Code.rangeFunc g #[t] assign body).wpIn (Fence.wide.inRound l0) n Tryz.prog Q a w := by
  refine wpIn_rangeFunc ?_
  intro fn hfn
  have hro : (Fence.wide.inRound l0).round = some l0 := rfl
  rw [hro]
  obtain ⟨rec, hrec⟩ : ∃ rec : LoopState → Option Code → Loop, rec = fun st pe => { state := st, pending := pe, fn, tmps := a.tmps, params := #[t], assign, body, defers := r0.defers } := ⟨_, rfl⟩
  obtain ⟨W1, hW1⟩ : ∃ W1, w.alloc (.loop (rec .ready none)) = W1 := ⟨_, rfl⟩
  have hs1 : W1.heap.size = w.heap.size + 1 := by rw [← hW1]; simp
  have hL1 : W1.heap[w.heap.size]? = some (.loop (rec .ready none)) := by rw [← hW1]; exact World.alloc_heap_new w _
  have hst : Step w.heap.size w W1 := by rw [← hW1]; exact Step.alloc _ _ _
  refine ⟨w.heap.size, [], W1, { target := .fn (.func gf) lb, args := #[.func (.yield w.heap.size) #[] #[]] }, W1, gf,
    #[.func (.yield w.heap.size) #[] #[]] ++ lb, W1, ?_, ?_, ?_, ?_, fun h => (by cases h), ?_⟩
  · rw [← hW1, hrec]; exact run_enterLoop_inner hl0 _ _ _ _ _
  · simp only [resolve, hg]
    simp [go_sem]
  · intro f' _; trivial
  · simp [invoke, go_sem, eg]
  refine callsIn_wide.2 ((hseq W1 hst w.heap.size
    (fun _ _ W => Step w.heap.size w W ∧ W.heap[w.heap.size]? = some (.loop (rec .ready none)))
    (fun _ W => Step w.heap.size w W ∧ W.heap[w.heap.size]? = some (.loop (rec .done (some (.exit id))))) (fun _ => False) (fun _ _ h => h) (fun _ h => h.elim)
    ?_ ?_ ?_ ⟨hst, hL1⟩).mono ?_)
  · rintro k O' A B ⟨h1, h3⟩ hs
    rw [hs1] at hs
    exact ⟨h1.trans (hs.mono (by omega)), hs.same _ _ h3 (.inl (by omega))⟩
  · rintro k A B ⟨h1, h3⟩ hs
    rw [hs1] at hs
    exact ⟨h1.trans (hs.mono (by omega)), hs.same _ _ h3 (.inl (by omega))⟩
  · rintro m k O' H v W hk ⟨hi, hl⟩ hH hy
    have hlt := lt_heap hl
    have hyr := run_yield (P := Tryz.prog) (args := #[v]) hl (by rw [hrec]; rfl)
    rw [hrec] at hyr
    refine ⟨fn, a.tmps.setIfInBounds t v, assign, body, (by simpa using hyr), roundIn_of_wpIn hfn ?_⟩
    refine hassign _ _ v W _ ?_
    refine ⟨_, run_beginRound hl (by rw [hrec]), ?_⟩
    clear hyr
    obtain ⟨W2, hW2⟩ : ∃ W2, W.putObj w.heap.size (.loop { rec .ready none with state := .busy }) = W2 := ⟨_, rfl⟩
    rw [hW2]
    have hs2 : Step w.heap.size W W2 := by rw [← hW2]; exact Step.putObj hl rfl (Nat.le_refl _) _
    have hl2 : W2.heap[w.heap.size]? = some (.loop { rec .ready none with state := .busy }) := by rw [← hW2]; exact World.putObj_heap_same hlt
    refine wpIn_mono (hbody w.heap.size m v W2) ?_
    rintro e a3 W3 ⟨rfl, rfl⟩
    have hr := run_endRound (P := Tryz.prog) (some (.exit id)) hl2
    rw [hrec] at hr
    refine ⟨_, _, hr, .inr ⟨rfl, ⟨?_, ?_⟩, ?_⟩⟩
    · refine (hi.trans hs2).trans ?_
      exact Step.putObj hl2 rfl (Nat.le_refl _) _
    · rw [hrec]
      exact World.putObj_heap_same (lt_heap hl2)
    · refine ⟨hs2.os, hs2.tape, hs2.output, by have := hs2.size; simp; omega, fun b o1 hb hn => ?_⟩
      have e : b ≠ w.heap.size := fun e => hn (.inr (.inr (by omega)))
      refine (World.putObj_heap_other e).trans ?_
      rw [← hW2]
      exact (World.putObj_heap_other e).trans hb
  · rintro e W2 ⟨⟨v, rfl⟩, (⟨O2, ⟨hi, hl⟩, _⟩ | ⟨k, hk, hi, hl⟩)⟩
    · refine ⟨none, _, (by have := run_endLoop (P := Tryz.prog) hl (by rw [hrec]; simp); rw [hrec] at this; exact this), ?_⟩
      exact hdone _ (hi.trans (Step.putObj hl rfl (Nat.le_refl _) _))
    · refine ⟨some (.exit id), _, (by have := run_endLoop (P := Tryz.prog) hl (by rw [hrec]; simp); rw [hrec] at this; exact this), ?_⟩
      exact hstop _ (hi.trans (Step.putObj hl rfl (Nat.le_refl _) _))
end Go.Proofs.YthcljhfankooaabGreat

namespace Go.Proofs.YthcljhfankooaabGreat
open Go.RowKit Go.Shelf

/-- A range over a function which its rounds leave by one jump alone. -/
theorem wp_range_fin {n : Nat} {g : Operand} {t : Tmp} {assign body : Code} {Q : Exit → Act → World → Prop} {a : Act} {w : World} {gf : Nat} {lb : Array Value} (id : Nat)
    (hg : a.eval g = .func (.func gf) #[] lb) (eg : ∀ args w, (callFunc gf args).run Tryz.prog w = .ok (.enter gf args) w)
    {N : Nat} {Y : Nat → (Nat → Prop) → Value → World → Prop} {S : Nat → Prop} (hseq : ∀ W, Step w.heap.size w W → GoesAtH gf lb N Y S W) (hY : ∀ k H v A B, Y k H v A → Step 0 A B → Y k H v B)
    (O : Nat → Prop) (hO : ∀ b, O b → b < w.heap.size) (hSO : ∀ b, S b → ¬ O b)
    (I : Nat → (Nat → Prop) → World → Prop) (Fin : World → Prop) (hI : ∀ k O A B, I k O A → Step w.heap.size A B → I k O B) (hF : ∀ A B, Fin A → Step w.heap.size A B → Fin B) (h0 : I 0 O w)
    (a₁ : Value → Act)
    (hassign : ∀ (l m : Nat) (v : Value) (W : World) (K : Act → World → Prop), K (a₁ v) W → assign.wpIn (Fence.wide.inRound l) m Tryz.prog (Exit.then K (fun _ _ _ => False)) { tmps := a.tmps.setIfInBounds t v, defers := [] } W)
    (hbody : ∀ (l m k : Nat) (O' H : Nat → Prop) (v : Value) (W : World), w.heap.size ≤ W.heap.size → (∀ b, O' b → (O b ∨ w.heap.size + 2 ≤ b) ∧ b < W.heap.size) → (∀ b, H b → w.heap.size + 2 ≤ b ∧ ¬ O' b ∧ b < W.heap.size) → k < N → I k O' W → Y k H v W → (w.heap.size ≤ l ∧ l < w.heap.size + 2 ∧ ∃ r, W.heap[l]? = some (.loop r)) → body.wpIn (Fence.wide.inRound l) m Tryz.prog (roundEndH w.heap.size I (fun c _ W => c = .exit id ∧ Fin W) k O' H W) (a₁ v) W)
    (hend : ∀ O' W, I N O' W → Fin W)
    (hdone : ∀ (D : Nat) (W : World), D = w.heap.size → Fin W → W.heap[D]? = some (.deferred (some [])) → Q .normal { a with defers := { target := .collected D, args := #[] } :: a.defers } W) :
    (Code.rangeFunc g #[t] assign body).wpIn Fence.wide n Tryz.prog (Exit.inBlock id Q) a w := by
  refine wp_rangeL hg eg hseq hY O hO hSO I (fun c _ W => c = .exit id ∧ Fin W) hI (fun c _ A B h hs => ⟨h.1, hF A B h.2 hs⟩) h0 a₁ hassign hbody ?_ ?_
  · intro D O' W hD _ hi hd
    simpa [Exit.inBlock] using hdone D W hD (hend O' W hi) hd
  · rintro D c k W hD _ ⟨rfl, hf⟩ hd
    refine wpIn_exit ?_
    simpa [Exit.inBlock] using hdone D W hD hf hd

/-- A loop within a round, left at once or not gone through at all, to one end. -/
theorem wp_range_brk2 {n l0 : Nat} {r0 : Loop} {g : Operand} {t : Tmp} {assign body : Code} {Q : Exit → Act → World → Prop} {a : Act} {w : World} {gf : Nat} {lb : Array Value} (id : Nat)
    (hl0 : w.heap[l0]? = some (.loop r0)) (hg : a.eval g = .func (.func gf) #[] lb) (eg : ∀ args w, (callFunc gf args).run Tryz.prog w = .ok (.enter gf args) w)
    {N : Nat} {Y : Nat → (Nat → Prop) → Value → World → Prop} {S : Nat → Prop} (hseq : ∀ W, Step w.heap.size w W → GoesAtH gf lb N Y S W) (a₁ : Value → Act)
    (hassign : ∀ (l m : Nat) (v : Value) (W : World) (K : Act → World → Prop), K (a₁ v) W → assign.wpIn (Fence.wide.inRound l) m Tryz.prog (Exit.then K (fun _ _ _ => False)) { tmps := a.tmps.setIfInBounds t v, defers := [] } W)
    (hbody : ∀ (l m : Nat) (v : Value) (W : World), body.wpIn (Fence.wide.inRound l) m Tryz.prog (fun e _ W' => e = .exit id ∧ W' = W) (a₁ v) W)
    (hafter : ∀ W, Step w.heap.size w W → Q .normal a W) : (Code.rangeFunc g #[t] assign body).wpIn (Fence.wide.inRound l0) n Tryz.prog (Exit.inBlock id Q) a w := by
  refine wp_range_brk hl0 hg eg hseq id a₁ hassign hbody ?_ ?_
  · intro W hs
    simpa [Exit.inBlock] using hafter W hs
  · intro W hs
    refine wpIn_exit ?_
    simpa [Exit.inBlock] using hafter W hs

def noDefer (o : Oper) : Bool := match o.op with | .defer _ => false | _ => true
theorem noDefer_op {o : Oper} (h : noDefer o = true) : ∀ c, o.op ≠ .defer c := fun c e => by simp [noDefer, e] at h

section
variable {F : Fence} {n : Nat} {P : Program} {ops : Array Oper} {Q : Exit → Act → World → Prop}
theorem oper_round {lp : Nat} {o : Oper} {a : Act} {w : World} {K : Act → World → Prop} (hd : ∀ c, o.op ≠ .defer c) (hro : F.round = none) (h : o.wpIn F n P a w K Q) : o.wpIn (F.inRound lp) n P a w K Q := by
  unfold Oper.wpIn at h ⊢
  rw [hro, Oper.semAt_none] at h
  rw [Fence.inRound_round, Oper.semAt_some lp _ _ hd]
  exact h
theorem op_round {lp : Nat} {i : Nat} {a : Act} {w : World} {K K' : Act → World → Prop} (hd : ∀ o ∈ ops.toList, noDefer o = true) (hro : F.round = none) (hK : ∀ a w, K a w → K' a w) (h : wpOpIn F n P ops Q i K a w) : wpOpIn (F.inRound lp) n P ops Q i K' a w := by
  unfold wpOpIn at h ⊢
  split
  · rename_i ho
    simp only [ho] at h
    exact hK _ _ h
  · rename_i o ho
    simp only [ho] at h
    split
    · rename_i hw
      simp only [hw, if_true] at h
      exact oper_round (noDefer_op (hd o (by simpa using Array.mem_of_getElem? ho))) hro (Oper.wpIn_mono hK h)
    · rename_i hw
      simp only [hw] at h
      exact ⟨h.1, hK _ _ h.2⟩
theorem any_round {lp : Nat} {md : Region.Mode} (hd : ∀ o ∈ ops.toList, noDefer o = true) (hro : F.round = none) : ∀ (fuel : Nat) (listed : Array Bool) (a : Act) (w : World), wpAnyIn F n P md ops Q fuel listed a w → wpAnyIn (F.inRound lp) n P md ops Q fuel listed a w
  | 0, _, _, _, h => h
  | fuel + 1, _, _, _, h => ⟨h.1, fun i hi => op_round hd hro (fun a w => any_round hd hro fuel _ a w) (h.2 i hi)⟩

theorem region_quiet_round {lp id : Nat} {a : Act} {w : World} {l : List Oper} (hro : F.round = none) (hm : P.follows .mixedOrders = true) (hB : Region.lexB .any l.toArray = true) (hd : l.all noDefer = true)
    (h : wpQuietIn F n P l.toArray (fun w' => ∃ n, w' = w.drewN n) (fun a' => ∀ w', (∃ n, w' = w.drewN n) → Q .normal a' w') l a) : (Code.region id l.toArray true).wpIn (F.inRound lp) n P Q a w := by
  simp only [Region.lexB, Bool.and_eq_true] at hB
  refine wpIn_region_any hm (any_round (by simpa using List.all_eq_true.1 hd) hro _ _ _ _ (wpAnyIn_of_quiet (C := fun w' => ∃ n, w' = w.drewN n) (Q := fun a' => ∀ w', (∃ n, w' = w.drewN n) → Q .normal a' w') hro (fun _ w' hw' h => h w' hw') _ _ _ _ ⟨1, rfl⟩ ?_))
  have := wpAnyQIn_lex (F := F) (n := n) (C := fun w' => ∃ n, w' = w.drewN n) (md := .any) hB.1 l.toArray.toList 0 (Array.replicate l.toArray.size false) a (by simp) (by simpa using hB.2) (by simpa using h)
  simpa using this
end

section
variable {n : Nat} {P : Program} {ops : Array Oper} {Q : Exit → Act → World → Prop}
theorem oper_in {lp : Nat} {o : Oper} {a : Act} {w : World} {K K' : Act → World → Prop} (hd : ∀ c, o.op ≠ .defer c) (hK : ∀ a w, K a w → K' a w) (h : o.wp P a w K Q) : o.wpIn (Fence.wide.inRound lp) n P a w K' Q := by
  unfold Oper.wpIn
  rw [Fence.inRound_round, Oper.semAt_some lp _ _ hd]
  refine ⟨fun _ _ => trivial, ?_⟩
  unfold Oper.wp at h
  revert h
  cases (execOp a.eval o).run P w with
  | ok r w' =>
    cases r with
    | value v => exact fun h => hK _ _ h
    | skip => exact fun h => hK _ _ h
    | defer d => exact fun h => hK _ _ h
    | enter f args =>
      intro h
      refine ⟨fun h => (by cases h), ((CallsIn.inRound lp (callsIn_wide.2 h))).mono ?_⟩
      intro e w2 h2
      cases e with
      | returned v => exact hK _ _ h2
      | panicked c => exact h2
      | outgrown => exact h2
    | row r args =>
      intro h
      refine ⟨fun h => (by cases h), fun c cs _ => ?_⟩
      obtain ⟨v, w2, r2, s2⟩ := h c cs
      exact ⟨v, w2, hK _ _ r2, stepsIn_wide.2 s2⟩
    | _ => exact fun h => h.elim
  | halt x w' =>
    cases x with
    | panic v => exact fun h => h
    | _ => exact fun h => h.elim
theorem op_in {lp : Nat} {i : Nat} {a : Act} {w : World} {K K' : Act → World → Prop} (hd : ∀ o ∈ ops.toList, noDefer o = true) (hL : ¬ LetsOut Q) (hK : ∀ a w, K a w → K' a w) (h : wpOp P ops Q i K a w) : wpOpIn (Fence.wide.inRound lp) n P ops Q i K' a w := by
  unfold wpOp at h
  unfold wpOpIn
  split
  · rename_i ho
    simp only [ho] at h
    exact hK _ _ h
  · rename_i o ho
    simp only [ho] at h
    split
    · rename_i hw
      simp only [hw, if_true] at h
      exact oper_in (noDefer_op (hd o (by simpa using Array.mem_of_getElem? ho))) hK (h.resolve_right fun g => hL g.2)
    · rename_i hw
      simp only [hw] at h
      exact ⟨fun _ _ => trivial, hK _ _ h⟩
theorem any_in {lp : Nat} {md : Region.Mode} (hd : ∀ o ∈ ops.toList, noDefer o = true) (hL : ¬ LetsOut Q) : ∀ (fuel : Nat) (listed : Array Bool) (a : Act) (w : World), wpAny P md ops Q fuel listed a w → wpAnyIn (Fence.wide.inRound lp) n P md ops Q fuel listed a w
  | 0, _, _, _, h => h
  | fuel + 1, _, _, _, h => ⟨h.1, fun i hi => op_in hd hL (fun a w => any_in hd hL fuel _ a w) (h.2 i hi)⟩
/-- A region that leaves its order open inside a round: its head reads alone, its tail goes in the order of the text. -/
theorem region_tail_round {lp id : Nat} {a : Act} {w : World} {l : List Oper} (k : Nat) (hm : P.follows .mixedOrders = true) (hB : Region.lexTailB .any l.toArray k = true) (hd : l.all noDefer = true) (hL : ¬ LetsOut Q)
    (h : wpStill P l.toArray { w with drawn := w.drawn + 1 } (fun a' => wpList P l.toArray Q (l.drop k) a' { w with drawn := w.drawn + 1 }) (l.take k) a) : (Code.region id l.toArray true).wpIn (Fence.wide.inRound lp) n P Q a w := by
  simp only [Region.lexTailB, Bool.and_eq_true, decide_eq_true_eq] at hB
  obtain ⟨⟨⟨⟨hsel, hn⟩, hs⟩, hc⟩, hlex⟩ := hB
  have hn' : k < l.length := by simpa using hn
  have htl : (l.take k).length = k := by simp; omega
  have hdl : (l.drop k).length = l.toArray.size - k := by simp
  have inv0 : HeadInv .any l.toArray k (Array.replicate l.toArray.size false) :=
    ⟨by simp, fun j oj _ hl => (by rw [getD_replicate_false] at hl; cases hl), fun t _ ht => getD_in (by simpa using ht) (getD_replicate_false _ _)⟩
  have H := wpAnyL_lex (md := .any) (g := l.toArray.size - k) hsel hs hc hn (l.take k) 0 _ a (fun j hj => by
    have hj' : j < k := by rw [htl] at hj; exact hj
    simp [hj']) (by simpa using htl) inv0 (by rw [htl]; exact hlex) h
  refine wpIn_region_any hm (any_in (by simpa using List.all_eq_true.1 hd) hL _ _ _ _ ?_)
  have := wpAny_of_head (Q' := Q) (g := l.toArray.size - k) (fun listed a' hL => by
    have := wpAny_of_seq (md := .any) (Q' := Q) (l.drop k) k listed a' { w with drawn := w.drawn + 1 } (fun j => by simp [List.getElem?_drop]) (by rw [hdl]; exact hL.1) hL.2
    rwa [hdl] at this) _ _ _ H
  rw [htl, show k + (l.toArray.size - k) = l.toArray.size by omega] at this
  exact this
end
end Go.Proofs.YthcljhfankooaabGreat

namespace Go.Proofs.YthcljhfankooaabGreat
open Go.RowKit Go.Shelf

section
variable {P : Program} {ops : Array Oper} {md : Region.Mode} {Q : Exit → Act → World → Prop} {C : World → Prop}

/-- Every order, with C of each world on the way. -/
def wpAnyC (P : Program) (md : Region.Mode) (ops : Array Oper) (C : World → Prop) (Q : Exit → Act → World → Prop) : Nat → Array Bool → Act → World → Prop
  | 0, listed, a, w => C w ∧ Region.ready md ops listed = [] ∧ Q .normal a w
  | fuel + 1, listed, a, w => C w ∧ (Region.ready md ops listed = [] → Q .normal a w) ∧ ∀ i ∈ Region.ready md ops listed, wpOp P ops Q i (wpAnyC P md ops C Q fuel (listed.setIfInBounds i true)) a w
theorem wpAnyC.c {f : Nat} {listed : Array Bool} {a : Act} {w : World} (h : wpAnyC P md ops C Q f listed a w) : C w := by
  cases f with
  | zero => exact h.1
  | succ f => exact h.1
theorem wpAny_of_c : ∀ (f : Nat) (listed : Array Bool) (a : Act) (w : World), wpAnyC P md ops C Q f listed a w → wpAny P md ops Q f listed a w
  | 0, _, _, _, h => h.2
  | f + 1, _, _, _, h => ⟨h.2.1, fun i hi => wpOp_mono (fun a w => wpAny_of_c f _ a w) (h.2.2 i hi)⟩

/-- Whatever else runs ahead of it, it yields the same. -/
theorem wpOp_put {j : Nat} {oi oj : Oper} {v : Value} (hj : ops[j]? = some oj) (hap : oi.apart ops oj = true) (hsi : ∀ cs b, oi.op ≠ .select cs b) (hsj : ∀ cs b, oj.op ≠ .select cs b) (hL : ¬ LetsOut Q) (hQ : ∀ e a w, e ≠ .normal → ¬ Q e a w)
    {K : Act → World → Prop} {a : Act} {w : World} (hy : ∀ w, C w → YieldsAt P ops w oi v a) (h : wpOp P ops Q j K (a.put oi.dst v) w) :
    wpOp P ops Q j (fun a' w' => (∀ w, C w → YieldsAt P ops w oi v a') ∧ K (a'.put oi.dst v) w') a w := by
  obtain ⟨h1, h2, h3⟩ := Oper.apart_spec hap
  have keep : ∀ u, ∀ w, C w → YieldsAt P ops w oi v (a.put oj.dst u) := fun u w hw => (hy w hw).of_same (execOp_put oi hsi a oj.dst u h3) (wanted_put oi a oj.dst u h3)
  unfold wpOp at *
  simp only [hj] at *
  rw [wanted_put oj a oi.dst v h1] at h
  split
  · rename_i hw
    simp only [hw, if_true] at h
    refine .inl ?_
    have h := h.resolve_right fun g => hL g.2
    unfold Oper.wp at *
    rw [execOp_put oj hsj a oi.dst v h1] at h
    generalize (execOp a.eval oj).run P w = r at *
    cases r with
    | ok n w' =>
      cases n with
      | value u => exact ⟨keep u, by rw [← Act.put_comm a v u h2]; exact h⟩
      | skip => exact ⟨keep _, by rw [← Act.put_comm a v undef h2]; exact h⟩
      | defer d => exact ⟨fun w hw => (hy w hw).of_same (execOp_put oi hsi { a with defers := d :: a.defers } oj.dst undef h3) (wanted_put oi { a with defers := d :: a.defers } oj.dst undef h3), by
        rw [← Act.put_comm { a with defers := d :: a.defers } v undef h2, show ({ a with defers := d :: a.defers } : Act).put oi.dst v = { a.put oi.dst v with defers := d :: (a.put oi.dst v).defers } by cases oi.dst <;> rfl]
        exact h⟩
      | enter f args =>
        refine Calls.mono (P := P) h ?_
        intro e w2 hh
        cases e with
        | returned u => exact ⟨keep u, by rw [← Act.put_comm a v u h2]; exact hh⟩
        | panicked c => exact (hQ _ _ _ (fun e => by cases e) hh).elim
        | outgrown => first | exact hh | exact (hL hh).elim | exact hh.elim
      | row r args =>
        intro c cs
        obtain ⟨u, w2, r2, s2⟩ := h c cs
        exact ⟨u, w2, ⟨keep u, by rw [← Act.put_comm a v u h2]; exact r2⟩, s2⟩
      | _ => exact h.elim
    | halt x w' =>
      cases x with
      | panic u => exact (hQ _ _ _ (fun e => by cases e) h).elim
      | _ => exact h.elim
  · rename_i hw
    simp only [hw] at h
    exact ⟨keep _, by rw [← Act.put_comm a v undef h2]; exact h⟩

/-- What yields the same in every world may be run first. -/
theorem wpAnyC_first {i : Nat} {oi : Oper} {v : Value} (hi : ops[i]? = some oi) (hsel : ∀ (j : Nat) (o : Oper) cs b, ops[j]? = some o → o.op ≠ .select cs b) (hL : ¬ LetsOut Q) (hQ : ∀ e a w, e ≠ .normal → ¬ Q e a w) :
    ∀ (f : Nat) (listed : Array Bool) (a : Act) (w : World),
      (∀ j oj, ops[j]? = some oj → j ≠ i → listed.getD j true = false → (∀ e ∈ oj.after, Region.binds md e = true → e.on ≠ i) → oi.apart ops oj = true) →
      i ∈ Region.ready md ops listed → (∀ w, C w → YieldsAt P ops w oi v a) →
      wpAnyC P md ops C Q f (listed.setIfInBounds i true) (a.put oi.dst v) w → wpAnyC P md ops C Q (f + 1) listed a w := by
  intro f
  induction f with
  | zero =>
    intro listed a w _ hr hy H
    refine ⟨H.c, fun h => (by rw [h] at hr; cases hr), fun j hj => ?_⟩
    by_cases hji : j = i
    · subst hji; exact wpOp_of_stOp (K := fun a' => a' = a.put oi.dst v) (fun a' e => e ▸ H) ((hy w H.c).stOp hi rfl)
    · have := ready_mono hj hji
      rw [H.2.1] at this
      cases this
  | succ f ih =>
    intro listed a w hfree hr hy H
    have hun := (mem_ready.1 hr).1
    refine ⟨H.c, fun h => (by rw [h] at hr; cases hr), fun j hj => ?_⟩
    by_cases hji : j = i
    · subst hji; exact wpOp_of_stOp (K := fun a' => a' = a.put oi.dst v) (fun a' e => e ▸ H) ((hy w H.c).stOp hi rfl)
    · have h1 := H.2.2 j (ready_mono hj hji)
      obtain ⟨hjun, oj, hoj, hall⟩ := mem_ready.1 hj
      have hnot : ∀ e ∈ oj.after, Region.binds md e = true → e.on ≠ i := fun e he hb heq => by
        have h1 := hall e he hb
        rw [heq, getD_both hun] at h1
        cases h1
      have h2 := wpOp_put hoj (hfree j oj hoj hji hjun hnot) (fun cs b => hsel i oi cs b hi) (fun cs b => hsel j oj cs b hoj) hL hQ hy h1
      have hfree' : ∀ k ok, ops[k]? = some ok → k ≠ i → (listed.setIfInBounds j true).getD k true = false →
          (∀ e ∈ ok.after, Region.binds md e = true → e.on ≠ i) → oi.apart ops ok = true := fun k ok hk hki hun hno => by
        refine hfree k ok hk hki ?_ hno
        by_cases hjk : j = k
        · subst hjk; exact hjun
        · rw [getD_set_ne true hjk] at hun; exact hun
      refine wpOp_mono (fun a' w' h3 => ih (listed.setIfInBounds j true) a' w' hfree' (ready_mono hr (Ne.symm hji)) h3.1 ?_) h2
      rw [Array.setIfInBounds_comm _ _ hji]
      exact h3.2
/-- An order: what is still (true) as soon as it is ready, what is not (false) where nothing else is ready. -/
def orderB (md : Region.Mode) (ops : Array Oper) : List (Nat × Bool) → Array Bool → Bool
  | [], listed => (Region.ready md ops listed).isEmpty
  | (k, true) :: r, listed => (Region.ready md ops listed).contains k && Region.free md ops listed k && orderB md ops r (listed.setIfInBounds k true)
  | (k, false) :: r, listed => decide (Region.ready md ops listed = [k]) && orderB md ops r (listed.setIfInBounds k true)
def wpMix (P : Program) (ops : Array Oper) (C : World → Prop) (Q : Exit → Act → World → Prop) : List (Nat × Bool) → Act → World → Prop
  | [], a, w => C w ∧ Q .normal a w
  | (k, true) :: r, a, w => ∃ o v, ops[k]? = some o ∧ (∀ w, C w → YieldsAt P ops w o v a) ∧ wpMix P ops C Q r (a.put o.dst v) w
  | (k, false) :: r, a, w => C w ∧ wpOp P ops Q k (fun a' w' => wpMix P ops C Q r a' w') a w
theorem wpAnyC_mix (hsel : Region.noSelect ops = true) (hL : ¬ LetsOut Q) (hQ : ∀ e a w, e ≠ .normal → ¬ Q e a w) : ∀ (l : List (Nat × Bool)) (listed : Array Bool) (a : Act) (w : World), orderB md ops l listed = true → wpMix P ops C Q l a w → wpAnyC P md ops C Q l.length listed a w
  | [], listed, a, w, hB, h => ⟨h.1, by simpa [orderB] using hB, h.2⟩
  | (k, true) :: r, listed, a, w, hB, h => by
    simp only [orderB, Bool.and_eq_true] at hB
    obtain ⟨⟨hr, hf⟩, hB'⟩ := hB
    obtain ⟨o, v, ho, hy, h'⟩ := h
    exact wpAnyC_first ho (Region.noSelect_spec hsel) hL hQ r.length listed a w (Region.free_spec ho hf) (by simpa using hr) hy (wpAnyC_mix hsel hL hQ r _ _ _ hB' h')
  | (k, false) :: r, listed, a, w, hB, h => by
    simp only [orderB, Bool.and_eq_true, decide_eq_true_eq] at hB
    refine ⟨h.1, fun e => (by rw [hB.1] at e; cases e), fun i hi => ?_⟩
    rw [hB.1] at hi
    have e : i = k := by simpa using hi
    subst e
    exact wpOp_mono (fun a' w' h' => wpAnyC_mix hsel hL hQ r _ a' w' hB.2 h') h.2
/-- One order serves all. -/
theorem region_mix {id : Nat} {a : Act} {w : World} (l : List (Nat × Bool)) (hm : P.follows .mixedOrders = true) (hsel : Region.noSelect ops = true) (hL : ¬ LetsOut Q) (hQ : ∀ e a w, e ≠ .normal → ¬ Q e a w) (hlen : l.length = ops.size) (hB : orderB .any ops l (Array.replicate ops.size false) = true)
    (h : wpMix P ops C Q l a { w with drawn := w.drawn + 1 }) : (Code.region id ops true).wp P Q a w := by
  refine wp_region_any hm ?_
  have := wpAny_of_c _ _ _ _ (wpAnyC_mix (md := .any) hsel hL hQ l _ a _ hB h)
  rw [hlen] at this
  exact this
end
end Go.Proofs.YthcljhfankooaabGreat

namespace Go.Proofs.YthcljhfankooaabGreat
open Go.RowKit Go.Shelf

section
variable {P : Program} {ops : Array Oper} {Q : Exit → Act → World → Prop} {C : World → Prop} {r : List (Nat × Bool)} {a : Act} {w : World} {k : Nat} {o : Oper}
theorem wpMix_take {v : Value} (ho : ops[k]? = some o) (hw : Region.wanted o (yielded ops a.tmps) = true) (hy : ∀ w', C w' → (execOp a.eval o).run P w' = .ok (.value v) w')
    (h : wpMix P ops C Q r (a.put o.dst v) w) : wpMix P ops C Q ((k, true) :: r) a w := ⟨o, v, ho, fun w' hc => .inl ⟨hw, .inl (hy w' hc)⟩, h⟩
theorem wpMix_pass (ho : ops[k]? = some o) (hw : Region.wanted o (yielded ops a.tmps) = false) (h : wpMix P ops C Q r (a.put o.dst undef) w) : wpMix P ops C Q ((k, true) :: r) a w := ⟨o, undef, ho, fun _ _ => .inr ⟨hw, rfl⟩, h⟩
theorem wpMix_force (ho : ops[k]? = some o) (hC : C w) (h : ∀ K' : Act → World → Prop, (∀ a w, wpMix P ops C Q r a w → K' a w) → if Region.wanted o (yielded ops a.tmps) = true then Oper.wp P o a w K' Q else K' (a.put o.dst undef) w) : wpMix P ops C Q ((k, false) :: r) a w := ⟨hC, wpOp_step ho h⟩
theorem wpMix_nil (hC : C w) (h : Q .normal a w) : wpMix P ops C Q [] a w := ⟨hC, h⟩
/-- What stands behind the region alone. -/
def onlyN (PP : Act → World → Prop) : Exit → Act → World → Prop
  | .normal, a, w => PP a w
  | _, _, _ => False
theorem region_mixN {id : Nat} {md : List (Nat × Bool)} (C : World → Prop) (hm : P.follows .mixedOrders = true) (hsel : Region.noSelect ops = true) (hlen : md.length = ops.size) (hB : orderB .any ops md (Array.replicate ops.size false) = true)
    (h : ∀ PP : Act → World → Prop, (∀ a' w', Q .normal a' w' → PP a' w') → wpMix P ops C (onlyN PP) md a w.drew) : (Code.region id ops true).wp P Q a w := by
  refine wp_mono (region_mix (C := C) md hm hsel ?_ ?_ hlen hB (h (Q .normal) (fun _ _ h => h))) ?_
  · rintro ⟨_, _, h⟩; exact h
  · intro e a w he h
    cases e
    case normal => exact he rfl
    all_goals exact h
  · intro e a w h
    cases e
    case normal => exact h
    all_goals exact h.elim
/-- The frame, written out. -/
theorem wpMix_at {l : List (Nat × Bool)} {b : Act} (e : a = b) (h : wpMix P ops C Q l b w) : wpMix P ops C Q l a w := e ▸ h
end
end Go.Proofs.YthcljhfankooaabGreat
