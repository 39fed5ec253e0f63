/- Going over: as in Law2, where what is handed may be written by the one who is handed it. -/
import Derived.Test.YthcljhfankooaabGreatBLaw2
namespace Go.Proofs.YthcljhfankooaabGreat
open Go.RowKit Go.Shelf

/-- The rounds of a loop: each is told where it stands, what it is handed, and in which blocks that lies (which are its own then). -/
def RoundsH (base l N : Nat) (Y : Nat → (Nat → Prop) → Value → World → Prop) (J : Nat → (Nat → Prop) → World → Prop) (Jx : Nat → World → Prop) : Prop :=
  ∀ (m k : Nat) (O H : Nat → Prop) (v : Value) (W : World), k < N → J k O W → (∀ b, H b → base ≤ b ∧ ¬ O b ∧ b < W.heap.size) → Y k H v W → YieldAt Fence.wide m Tryz.prog l #[v] W fun e W' =>
    (e = .returned (.bool true) ∧ (∃ O', J (k + 1) O' W' ∧ (∀ b, O' b → (O b ∨ W.heap.size ≤ b) ∧ b < W'.heap.size)) ∧ Keeps (fun b => O b ∨ H b) W W') ∨ (e = .returned (.bool false) ∧ Jx (k + 1) W' ∧ Keeps (fun b => O b ∨ H b ∨ b < base) W W')

/-- What an iterator owes: N rounds, or fewer where one of them says so. -/
def GoesAtH (g : Nat) (lb : Array Value) (N : Nat) (Y : Nat → (Nat → Prop) → Value → World → Prop) (S : Nat → Prop) (W : World) : Prop :=
  ∀ (l : Nat) (J : Nat → (Nat → Prop) → World → Prop) (Jx : Nat → World → Prop) (O : Nat → Prop), (∀ b, S b → ¬ O b) → (∀ b, O b → b < W.heap.size) →
    (∀ k O A B, J k O A → Step W.heap.size A B → J k O B) → (∀ k A B, Jx k A → Step W.heap.size A B → Jx k B) → RoundsH W.heap.size l N Y J Jx → J 0 O W →
    Calls Tryz.prog g (#[.func (.yield l) #[] #[]] ++ lb) W fun e W' => (∃ v, e = .returned v) ∧ ((∃ O', J N O' W' ∧ (∀ b, O' b → (O b ∨ W.heap.size ≤ b) ∧ b < W'.heap.size)) ∨ ∃ k, k ≤ N ∧ Jx k W')

/-- How the body of a round is left. -/
def roundEndH (base : Nat) (I : Nat → (Nat → Prop) → World → Prop) (Ix : Code → Nat → World → Prop) (k : Nat) (O H : Nat → Prop) (W : World) : Exit → Act → World → Prop
  | .normal, _, W' => (∃ O', I (k + 1) O' W' ∧ (∀ b, O' b → (O b ∨ W.heap.size ≤ b) ∧ b < W'.heap.size)) ∧ Keeps (fun b => O b ∨ H b) W W'
  | .ret, _, W' => Ix .ret (k + 1) W' ∧ Keeps (fun b => O b ∨ H b ∨ b < base) W W'
  | .exit id, _, W' => Ix (.exit id) (k + 1) W' ∧ Keeps (fun b => O b ∨ H b ∨ b < base) W W'
  | _, _, _ => False

/-- A range over a function that yields one value, in a function's own frame. -/
theorem wp_rangeH {n : Nat} {g : Operand} {t : Tmp} {assign body : Code} {Q : Exit → Act → World → Prop} {a : Act} {w : World} {gf : Nat} {lb : Array Value}
    (hg : a.eval g = .func (.func gf) #[] lb) (eg : ∀ args w, (callFunc gf args).run Tryz.prog w = .ok (.enter gf args) w)
    {N : Nat} {Y : Nat → (Nat → Prop) → Value → World → Prop} {S : Nat → Prop} (hseq : ∀ W, Step w.heap.size w W → GoesAtH gf lb N Y S W) (hY : ∀ k H v A B, Y k H v A → Step 0 A B → Y k H v B)
    (O : Nat → Prop) (hO : ∀ b, O b → b < w.heap.size) (hSO : ∀ b, S b → ¬ O b)
    (I : Nat → (Nat → Prop) → World → Prop) (Ix : Code → Nat → World → Prop) (hI : ∀ k O A B, I k O A → Step w.heap.size A B → I k O B) (hIx : ∀ c k A B, Ix c k A → Step w.heap.size A B → Ix c k B) (h0 : I 0 O w)
    (a₁ : Value → Act)
    (hassign : ∀ (l m : Nat) (v : Value) (W : World) (K : Act → World → Prop), K (a₁ v) W → assign.wpIn (Fence.wide.inRound l) m Tryz.prog (Exit.then K (fun _ _ _ => False)) { tmps := a.tmps.setIfInBounds t v, defers := [] } W)
    (hbody : ∀ (l m k : Nat) (O' H : Nat → Prop) (v : Value) (W : World), w.heap.size ≤ W.heap.size → (∀ b, O' b → (O b ∨ w.heap.size + 2 ≤ b) ∧ b < W.heap.size) → (∀ b, H b → w.heap.size + 2 ≤ b ∧ ¬ O' b ∧ b < W.heap.size) → k < N → I k O' W → Y k H v W → body.wpIn (Fence.wide.inRound l) m Tryz.prog (roundEndH w.heap.size I Ix k O' H W) (a₁ v) W)
    (hdone : ∀ (D : Nat) (O' : Nat → Prop) (W : World), D = w.heap.size → (∀ b, O' b → (O b ∨ w.heap.size + 2 ≤ b) ∧ b < W.heap.size) → I N O' W → W.heap[D]? = some (.deferred (some [])) → Q .normal { a with defers := { target := .collected D, args := #[] } :: a.defers } W)
    (hstop : ∀ (D : Nat) (c : Code) (k : Nat) (W : World), D = w.heap.size → k ≤ N → Ix c k W → W.heap[D]? = some (.deferred (some [])) → c.wpIn Fence.wide n Tryz.prog Q { a with defers := { target := .collected D, args := #[] } :: a.defers } W) :
    (Code.rangeFunc g #[t] assign body).wpIn Fence.wide n Tryz.prog Q a w := by
  refine wpIn_rangeFunc ?_
  intro fn hfn
  have hro : Fence.wide.round = none := rfl
  rw [hro]
  obtain ⟨rec, hrec⟩ : ∃ rec : LoopState → Option Code → Loop, rec = fun st pe => { state := st, pending := pe, fn, tmps := a.tmps, params := #[t], assign, body, defers := w.heap.size } := ⟨_, rfl⟩
  obtain ⟨W1, hW1⟩ : ∃ W1, (w.alloc (.deferred (some []))).alloc (.loop (rec .ready none)) = W1 := ⟨_, rfl⟩
  have hs1 : W1.heap.size = w.heap.size + 2 := by rw [← hW1]; simp
  have hL1 : W1.heap[w.heap.size + 1]? = some (.loop (rec .ready none)) := by
    rw [← hW1]; have := World.alloc_heap_new (w.alloc (.deferred (some []))) (.loop (rec .ready none)); rwa [World.size_alloc] at this
  have hD1 : W1.heap[w.heap.size]? = some (.deferred (some [])) := by
    rw [← hW1]; exact (Below.heap_alloc _ _ _ (by simp)).trans (World.alloc_heap_new w _)
  have hst : Step w.heap.size w W1 := by rw [← hW1]; exact (Step.alloc _ _ _).trans (Step.alloc _ _ _)
  refine ⟨w.heap.size + 1, [{ target := .collected w.heap.size, args := #[] }], W1, { target := .fn (.func gf) lb, args := #[.func (.yield (w.heap.size + 1)) #[] #[]] }, W1, gf,
    #[.func (.yield (w.heap.size + 1)) #[] #[]] ++ lb, W1, ?_, ?_, ?_, ?_, fun h => (by cases h), ?_⟩
  · rw [← hW1, hrec]; exact run_enterLoop_outer _ _ _ _ _
  · simp only [resolve, hg]
    simp [go_sem]
  · intro f' _; trivial
  · simp [invoke, go_sem, eg]
  refine callsIn_wide.2 ((hseq W1 hst (w.heap.size + 1)
    (fun k O' W => I k O' W ∧ (∀ b, O' b → (O b ∨ w.heap.size + 2 ≤ b) ∧ b < W.heap.size) ∧ W.heap[w.heap.size + 1]? = some (.loop (rec .ready none)) ∧ W.heap[w.heap.size]? = some (.deferred (some [])))
    (fun k W => ∃ c, Ix c k W ∧ W.heap[w.heap.size + 1]? = some (.loop (rec .done (some c))) ∧ W.heap[w.heap.size]? = some (.deferred (some []))) O hSO (fun b hb => by have := hO b hb; omega)
    ?_ ?_ ?_ ⟨hI _ _ _ _ h0 hst, fun b hb => ⟨.inl hb, by have := hO b hb; omega⟩, hL1, hD1⟩).mono ?_)
  · rintro k O' A B ⟨h1, h2, h3, h4⟩ hs
    rw [hs1] at hs
    exact ⟨hI _ _ _ _ h1 (hs.mono (by omega)), fun b hb => ⟨(h2 b hb).1, Nat.lt_of_lt_of_le (h2 b hb).2 hs.size⟩, hs.same _ _ h3 (.inl (by omega)), hs.same _ _ h4 (.inl (by omega))⟩
  · rintro k A B ⟨c, h1, h3, h4⟩ hs
    rw [hs1] at hs
    exact ⟨c, hIx _ _ _ _ h1 (hs.mono (by omega)), hs.same _ _ h3 (.inl (by omega)), hs.same _ _ h4 (.inl (by omega))⟩
  · rintro m k O' H v W hk ⟨hi, hO', hl, hd⟩ hH hy
    rw [hs1] at hH
    have nl : ¬ (O' (w.heap.size + 1) ∨ H (w.heap.size + 1)) := fun e => by
      rcases e with e | e
      · rcases (hO' _ e).1 with e | e; (have := hO _ e; omega); omega
      · have := (hH _ e).1; omega
    have nd : ¬ (O' w.heap.size ∨ H w.heap.size) := fun e => by
      rcases e with e | e
      · rcases (hO' _ e).1 with e | e; (have := hO _ e; omega); omega
      · have := (hH _ e).1; omega
    have hlt := lt_heap hl
    have hyr := run_yield (P := Tryz.prog) (args := #[v]) hl (by rw [hrec]; rfl)
    rw [hrec] at hyr
    refine ⟨fn, a.tmps.setIfInBounds t v, assign, body, (by simpa using hyr), roundIn_of_wpIn hfn ?_⟩
    refine hassign _ _ v W _ ?_
    refine ⟨_, run_beginRound hl (by rw [hrec]), ?_⟩
    clear hyr
    obtain ⟨W2, hW2⟩ : ∃ W2, W.putObj (w.heap.size + 1) (.loop { rec .ready none with state := .busy }) = W2 := ⟨_, rfl⟩
    rw [hW2]
    have hs2 : Step w.heap.size W W2 := by rw [← hW2]; exact Step.putObj hl rfl (by omega) _
    have hs0 : Step 0 W W2 := hs2.mono (Nat.zero_le _)
    have hsz2 : W2.heap.size = W.heap.size := by rw [← hW2]; simp
    have hl2 : W2.heap[w.heap.size + 1]? = some (.loop { rec .ready none with state := .busy }) := by rw [← hW2]; exact World.putObj_heap_same hlt
    have hd2 : W2.heap[w.heap.size]? = some (.deferred (some [])) := by rw [← hW2]; exact (World.putObj_heap_other (by omega)).trans hd
    refine wpIn_mono (hbody (w.heap.size + 1) m k O' H v W2 (by omega) (fun b hb => ⟨(hO' b hb).1, by have := (hO' b hb).2; omega⟩) (fun b hb => ⟨(hH b hb).1, (hH b hb).2.1, by have := (hH b hb).2.2; omega⟩) hk (hI _ _ _ _ hi hs2) (hY _ _ _ _ _ hy hs0)) ?_
    have fin : ∀ (jump : Option Code) (W3 : World), Keeps (fun b => O' b ∨ H b ∨ b < w.heap.size) W2 W3 →
        (Instr.endRound (w.heap.size + 1) jump).run Tryz.prog W3 = .ok (.bool jump.isNone) (W3.putObj (w.heap.size + 1) (.loop (rec (if jump.isNone then .ready else .done) jump))) ∧
        Step w.heap.size W3 (W3.putObj (w.heap.size + 1) (.loop (rec (if jump.isNone then .ready else .done) jump))) ∧
        (W3.putObj (w.heap.size + 1) (.loop (rec (if jump.isNone then .ready else .done) jump))).heap[w.heap.size + 1]? = some (.loop (rec (if jump.isNone then .ready else .done) jump)) ∧
        (W3.putObj (w.heap.size + 1) (.loop (rec (if jump.isNone then .ready else .done) jump))).heap[w.heap.size]? = some (.deferred (some [])) := fun jump W3 h3 => by
      have hl3 := h3.same _ _ hl2 (fun e => by rcases e with e | e | e; exact nl (.inl e); exact nl (.inr e); omega)
      have hd3 := h3.same _ _ hd2 (fun e => by rcases e with e | e | e; exact nd (.inl e); exact nd (.inr e); omega)
      have hr := run_endRound (P := Tryz.prog) jump hl3
      refine ⟨?_, Step.putObj hl3 rfl (by omega) _, World.putObj_heap_same (lt_heap hl3), (World.putObj_heap_other (by omega)).trans hd3⟩
      rw [hrec] at hr ⊢
      exact hr
    have keep : ∀ (W3 : World) (o : Obj), Keeps (fun b => O' b ∨ H b) W2 W3 → o = .loop (rec .ready none) → Keeps (fun b => O' b ∨ H b) W (W3.putObj (w.heap.size + 1) o) := fun W3 o h3 ho =>
      ⟨h3.os.trans hs2.os, h3.tape.trans hs2.tape, h3.output.trans hs2.output, by have := h3.size; simp; omega, fun b o1 hb hn => by
        by_cases e : b = w.heap.size + 1
        · subst e
          rw [hl] at hb
          cases hb
          rw [ho]
          exact World.putObj_heap_same (lt_heap (h3.same _ _ hl2 nl))
        · refine (World.putObj_heap_other e).trans (h3.same b o1 ?_ hn)
          rw [← hW2]
          exact (World.putObj_heap_other e).trans hb⟩
    have keepx : ∀ (W3 : World) (o : Obj), Keeps (fun b => O' b ∨ H b ∨ b < w.heap.size) W2 W3 → Keeps (fun b => O' b ∨ H b ∨ b < W1.heap.size) W (W3.putObj (w.heap.size + 1) o) := fun W3 o h3 =>
      ⟨h3.os.trans hs2.os, h3.tape.trans hs2.tape, h3.output.trans hs2.output, by have := h3.size; simp; omega, fun b o1 hb hn => by
        have e : b ≠ w.heap.size + 1 := fun e => hn (.inr (.inr (by omega)))
        refine (World.putObj_heap_other e).trans (h3.same b o1 ?_ (fun e => hn (e.imp id (fun e => e.imp id (fun e => by omega)))))
        rw [← hW2]
        exact (World.putObj_heap_other e).trans hb⟩
    rintro e a3 W3 hp
    cases e with
    | normal =>
      obtain ⟨⟨O3, hi3, hsub⟩, hk3⟩ := hp
      obtain ⟨hr, h1, h2, h4⟩ := fin none W3 (hk3.mono fun b h => h.imp id .inl)
      refine ⟨_, _, hr, .inl ⟨rfl, ⟨O3, ⟨hI _ _ _ _ hi3 h1, fun b hb => ?_, h2, h4⟩, fun b hb => ?_⟩, keep W3 _ hk3 rfl⟩⟩
      · refine ⟨?_, by have := (hsub b hb).2; simp; omega⟩
        rcases (hsub b hb).1 with e | e
        · exact (hO' b e).1
        · right; omega
      · refine ⟨?_, by have := (hsub b hb).2; simp; omega⟩
        rcases (hsub b hb).1 with e | e
        · exact .inl e
        · right; omega
    | ret =>
      obtain ⟨hi3, hk3⟩ := hp
      obtain ⟨hr, h1, h2, h4⟩ := fin (some .ret) W3 hk3
      exact ⟨_, _, hr, .inr ⟨rfl, ⟨.ret, hIx _ _ _ _ hi3 h1, h2, h4⟩, keepx W3 _ hk3⟩⟩
    | exit id =>
      obtain ⟨hi3, hk3⟩ := hp
      obtain ⟨hr, h1, h2, h4⟩ := fin (some (.exit id)) W3 hk3
      exact ⟨_, _, hr, .inr ⟨rfl, ⟨.exit id, hIx _ _ _ _ hi3 h1, h2, h4⟩, keepx W3 _ hk3⟩⟩
    | goto t => exact hp.elim
    | panic ch => exact hp.elim
    | outgrown => exact hp.elim
  · rintro e W2 ⟨⟨v, rfl⟩, (⟨O2, ⟨hi, hO2, hl, hd⟩, _⟩ | ⟨k, hk, c, hi, hl, hd⟩)⟩
    · refine ⟨none, _, (by have := run_endLoop (P := Tryz.prog) hl (by rw [hrec]; simp); rw [hrec] at this; exact this), ?_⟩
      exact hdone _ O2 _ rfl (fun b hb => ⟨(hO2 b hb).1, by have := (hO2 b hb).2; simp; omega⟩) (hI _ _ _ _ hi (Step.putObj hl rfl (by omega) _)) ((World.putObj_heap_other (by omega)).trans hd)
    · refine ⟨some c, _, (by have := run_endLoop (P := Tryz.prog) hl (by rw [hrec]; simp); rw [hrec] at this; exact this), ?_⟩
      exact hstop _ c k _ rfl hk (hIx _ _ _ _ hi (Step.putObj hl rfl (by omega) _)) ((World.putObj_heap_other (by omega)).trans hd)
end Go.Proofs.YthcljhfankooaabGreat
