/- Going over pairs: as in Law3, where two values are handed. Find. Find's iterator. -/
import Derived.Test.YthcljhfankooaabGreatMFound
namespace Go.Proofs.YthcljhfankooaabGreat
open Go.RowKit Go.Shelf

/-- No block. -/
def NoB (_ : Nat) : Prop := False
/-- The rounds of a loop: each is told where it stands, what it is handed, and in which blocks that lies (which are its own then). -/
def RoundsP (base l N : Nat) (Y : Nat → (Nat → Prop) → Value × Value → World → Prop) (J : Nat → (Nat → Prop) → World → Prop) (Jx : Nat → World → Prop) : Prop :=
  ∀ (m k : Nat) (O H : Nat → Prop) (v : Value × Value) (W : World), k < N → J k O W → (∀ b, H b → base ≤ b ∧ ¬ O b ∧ b < W.heap.size) → Y k H v W → YieldAt Fence.wide m Tryz.prog l #[v.1, v.2] W fun e W' =>
    (e = .returned (.bool true) ∧ (∃ O', J (k + 1) O' W' ∧ (∀ b, O' b → (O b ∨ W.heap.size ≤ b) ∧ b < W'.heap.size)) ∧ Keeps (fun b => O b ∨ NoB b) W W') ∨ (e = .returned (.bool false) ∧ Jx (k + 1) W' ∧ Keeps (fun b => O b ∨ NoB b ∨ b < base) W W')

/-- What an iterator owes: N rounds, or fewer where one of them says so. -/
def GoesAtP (g : Nat) (lb : Array Value) (N : Nat) (Y : Nat → (Nat → Prop) → Value × Value → World → Prop) (S : Nat → Prop) (W : World) : Prop :=
  ∀ (l : Nat) (J : Nat → (Nat → Prop) → World → Prop) (Jx : Nat → World → Prop) (O : Nat → Prop), (∀ b, S b → ¬ O b) → (∀ b, O b → b < W.heap.size) →
    (∀ k O A B, J k O A → Step W.heap.size A B → J k O B) → (∀ k A B, Jx k A → Step W.heap.size A B → Jx k B) → RoundsP W.heap.size l N Y J Jx → J 0 O W →
    Calls Tryz.prog g (#[.func (.yield l) #[] #[]] ++ lb) W fun e W' => (∃ v, e = .returned v) ∧ ((∃ O', J N O' W' ∧ (∀ b, O' b → (O b ∨ W.heap.size ≤ b) ∧ b < W'.heap.size)) ∨ ∃ k, k ≤ N ∧ Jx k W')

/-- How the body of a round is left. -/
def roundEndP (base : Nat) (I : Nat → (Nat → Prop) → World → Prop) (Ix : Code → Nat → World → Prop) (k : Nat) (O _H : Nat → Prop) (W : World) : Exit → Act → World → Prop
  | .normal, _, W' => (∃ O', I (k + 1) O' W' ∧ (∀ b, O' b → (O b ∨ W.heap.size ≤ b) ∧ b < W'.heap.size)) ∧ Keeps (fun b => O b ∨ NoB b) W W'
  | .ret, _, W' => Ix .ret (k + 1) W' ∧ Keeps (fun b => O b ∨ NoB b ∨ b < base) W W'
  | .exit id, _, W' => Ix (.exit id) (k + 1) W' ∧ Keeps (fun b => O b ∨ NoB b ∨ b < base) W W'
  | _, _, _ => False

/-- A range over a function that yields two values, in a function's own frame. -/
theorem wp_rangeP {n : Nat} {g : Operand} {t t2 : Tmp} {assign body : Code} {Q : Exit → Act → World → Prop} {a : Act} {w : World} {gf : Nat} {lb : Array Value}
    (hg : a.eval g = .func (.func gf) #[] lb) (eg : ∀ args w, (callFunc gf args).run Tryz.prog w = .ok (.enter gf args) w)
    {N : Nat} {Y : Nat → (Nat → Prop) → Value × Value → World → Prop} {S : Nat → Prop} (hseq : ∀ W, Step w.heap.size w W → GoesAtP gf lb N Y S W) (hY : ∀ k H v A B, Y k H v A → Step 0 A B → Y k H v B)
    (O : Nat → Prop) (hO : ∀ b, O b → b < w.heap.size) (hSO : ∀ b, S b → ¬ O b)
    (I : Nat → (Nat → Prop) → World → Prop) (Ix : Code → Nat → World → Prop) (hI : ∀ k O A B, I k O A → Step w.heap.size A B → I k O B) (hIx : ∀ c k A B, Ix c k A → Step w.heap.size A B → Ix c k B) (h0 : I 0 O w)
    (a₁ : Value × Value → Act)
    (hassign : ∀ (l m : Nat) (v : Value × Value) (W : World) (K : Act → World → Prop), K (a₁ v) W → assign.wpIn (Fence.wide.inRound l) m Tryz.prog (Exit.then K (fun _ _ _ => False)) { tmps := (a.tmps.setIfInBounds t v.1).setIfInBounds t2 v.2, defers := [] } W)
    (hbody : ∀ (l m k : Nat) (O' H : Nat → Prop) (v : Value × Value) (W : World), w.heap.size ≤ W.heap.size → (∀ b, O' b → (O b ∨ w.heap.size + 2 ≤ b) ∧ b < W.heap.size) → (∀ b, H b → w.heap.size + 2 ≤ b ∧ ¬ O' b ∧ b < W.heap.size) → k < N → I k O' W → Y k H v W → body.wpIn (Fence.wide.inRound l) m Tryz.prog (roundEndP w.heap.size I Ix k O' H W) (a₁ v) W)
    (hdone : ∀ (D : Nat) (O' : Nat → Prop) (W : World), D = w.heap.size → (∀ b, O' b → (O b ∨ w.heap.size + 2 ≤ b) ∧ b < W.heap.size) → I N O' W → W.heap[D]? = some (.deferred (some [])) → Q .normal { a with defers := { target := .collected D, args := #[] } :: a.defers } W)
    (hstop : ∀ (D : Nat) (c : Code) (k : Nat) (W : World), D = w.heap.size → k ≤ N → Ix c k W → W.heap[D]? = some (.deferred (some [])) → c.wpIn Fence.wide n Tryz.prog Q { a with defers := { target := .collected D, args := #[] } :: a.defers } W) :
    (Code.rangeFunc g #[t, t2] assign body).wpIn Fence.wide n Tryz.prog Q a w := by
  refine wpIn_rangeFunc ?_
  intro fn hfn
  have hro : Fence.wide.round = none := rfl
  rw [hro]
  obtain ⟨rec, hrec⟩ : ∃ rec : LoopState → Option Code → Loop, rec = fun st pe => { state := st, pending := pe, fn, tmps := a.tmps, params := #[t, t2], assign, body, defers := w.heap.size } := ⟨_, rfl⟩
  obtain ⟨W1, hW1⟩ : ∃ W1, (w.alloc (.deferred (some []))).alloc (.loop (rec .ready none)) = W1 := ⟨_, rfl⟩
  have hs1 : W1.heap.size = w.heap.size + 2 := by rw [← hW1]; simp
  have hL1 : W1.heap[w.heap.size + 1]? = some (.loop (rec .ready none)) := by
    rw [← hW1]; have := World.alloc_heap_new (w.alloc (.deferred (some []))) (.loop (rec .ready none)); rwa [World.size_alloc] at this
  have hD1 : W1.heap[w.heap.size]? = some (.deferred (some [])) := by
    rw [← hW1]; exact (Below.heap_alloc _ _ _ (by simp)).trans (World.alloc_heap_new w _)
  have hst : Step w.heap.size w W1 := by rw [← hW1]; exact (Step.alloc _ _ _).trans (Step.alloc _ _ _)
  refine ⟨w.heap.size + 1, [{ target := .collected w.heap.size, args := #[] }], W1, { target := .fn (.func gf) lb, args := #[.func (.yield (w.heap.size + 1)) #[] #[]] }, W1, gf,
    #[.func (.yield (w.heap.size + 1)) #[] #[]] ++ lb, W1, ?_, ?_, ?_, ?_, fun h => (by cases h), ?_⟩
  · rw [← hW1, hrec]; exact run_enterLoop_outer _ _ _ _ _
  · simp only [resolve, hg]
    simp [go_sem]
  · intro f' _; trivial
  · simp [invoke, go_sem, eg]
  refine callsIn_wide.2 ((hseq W1 hst (w.heap.size + 1)
    (fun k O' W => I k O' W ∧ (∀ b, O' b → (O b ∨ w.heap.size + 2 ≤ b) ∧ b < W.heap.size) ∧ W.heap[w.heap.size + 1]? = some (.loop (rec .ready none)) ∧ W.heap[w.heap.size]? = some (.deferred (some [])))
    (fun k W => ∃ c, Ix c k W ∧ W.heap[w.heap.size + 1]? = some (.loop (rec .done (some c))) ∧ W.heap[w.heap.size]? = some (.deferred (some []))) O hSO (fun b hb => by have := hO b hb; omega)
    ?_ ?_ ?_ ⟨hI _ _ _ _ h0 hst, fun b hb => ⟨.inl hb, by have := hO b hb; omega⟩, hL1, hD1⟩).mono ?_)
  · rintro k O' A B ⟨h1, h2, h3, h4⟩ hs
    rw [hs1] at hs
    exact ⟨hI _ _ _ _ h1 (hs.mono (by omega)), fun b hb => ⟨(h2 b hb).1, Nat.lt_of_lt_of_le (h2 b hb).2 hs.size⟩, hs.same _ _ h3 (.inl (by omega)), hs.same _ _ h4 (.inl (by omega))⟩
  · rintro k A B ⟨c, h1, h3, h4⟩ hs
    rw [hs1] at hs
    exact ⟨c, hIx _ _ _ _ h1 (hs.mono (by omega)), hs.same _ _ h3 (.inl (by omega)), hs.same _ _ h4 (.inl (by omega))⟩
  · rintro m k O' H v W hk ⟨hi, hO', hl, hd⟩ hH hy
    rw [hs1] at hH
    have nl : ¬ (O' (w.heap.size + 1) ∨ NoB (w.heap.size + 1)) := fun e => by
      rcases e with e | e
      · rcases (hO' _ e).1 with e | e; (have := hO _ e; omega); omega
      · exact e.elim
    have nd : ¬ (O' w.heap.size ∨ NoB w.heap.size) := fun e => by
      rcases e with e | e
      · rcases (hO' _ e).1 with e | e; (have := hO _ e; omega); omega
      · exact e.elim
    have hlt := lt_heap hl
    have hyr := run_yield (P := Tryz.prog) (args := #[v.1, v.2]) hl (by rw [hrec]; rfl)
    rw [hrec] at hyr
    refine ⟨fn, (a.tmps.setIfInBounds t v.1).setIfInBounds t2 v.2, assign, body, (by simpa using hyr), roundIn_of_wpIn hfn ?_⟩
    refine hassign _ _ v W _ ?_
    refine ⟨_, run_beginRound hl (by rw [hrec]), ?_⟩
    clear hyr
    obtain ⟨W2, hW2⟩ : ∃ W2, W.putObj (w.heap.size + 1) (.loop { rec .ready none with state := .busy }) = W2 := ⟨_, rfl⟩
    rw [hW2]
    have hs2 : Step w.heap.size W W2 := by rw [← hW2]; exact Step.putObj hl rfl (by omega) _
    have hs0 : Step 0 W W2 := hs2.mono (Nat.zero_le _)
    have hsz2 : W2.heap.size = W.heap.size := by rw [← hW2]; simp
    have hl2 : W2.heap[w.heap.size + 1]? = some (.loop { rec .ready none with state := .busy }) := by rw [← hW2]; exact World.putObj_heap_same hlt
    have hd2 : W2.heap[w.heap.size]? = some (.deferred (some [])) := by rw [← hW2]; exact (World.putObj_heap_other (by omega)).trans hd
    refine wpIn_mono (hbody (w.heap.size + 1) m k O' H v W2 (by omega) (fun b hb => ⟨(hO' b hb).1, by have := (hO' b hb).2; omega⟩) (fun b hb => ⟨(hH b hb).1, (hH b hb).2.1, by have := (hH b hb).2.2; omega⟩) hk (hI _ _ _ _ hi hs2) (hY _ _ _ _ _ hy hs0)) ?_
    have fin : ∀ (jump : Option Code) (W3 : World), Keeps (fun b => O' b ∨ NoB b ∨ b < w.heap.size) W2 W3 →
        (Instr.endRound (w.heap.size + 1) jump).run Tryz.prog W3 = .ok (.bool jump.isNone) (W3.putObj (w.heap.size + 1) (.loop (rec (if jump.isNone then .ready else .done) jump))) ∧
        Step w.heap.size W3 (W3.putObj (w.heap.size + 1) (.loop (rec (if jump.isNone then .ready else .done) jump))) ∧
        (W3.putObj (w.heap.size + 1) (.loop (rec (if jump.isNone then .ready else .done) jump))).heap[w.heap.size + 1]? = some (.loop (rec (if jump.isNone then .ready else .done) jump)) ∧
        (W3.putObj (w.heap.size + 1) (.loop (rec (if jump.isNone then .ready else .done) jump))).heap[w.heap.size]? = some (.deferred (some [])) := fun jump W3 h3 => by
      have hl3 := h3.same _ _ hl2 (fun e => by rcases e with e | e | e; exact nl (.inl e); exact nl (.inr e); omega)
      have hd3 := h3.same _ _ hd2 (fun e => by rcases e with e | e | e; exact nd (.inl e); exact nd (.inr e); omega)
      have hr := run_endRound (P := Tryz.prog) jump hl3
      refine ⟨?_, Step.putObj hl3 rfl (by omega) _, World.putObj_heap_same (lt_heap hl3), (World.putObj_heap_other (by omega)).trans hd3⟩
      rw [hrec] at hr ⊢
      exact hr
    have keep : ∀ (W3 : World) (o : Obj), Keeps (fun b => O' b ∨ NoB b) W2 W3 → o = .loop (rec .ready none) → Keeps (fun b => O' b ∨ NoB b) W (W3.putObj (w.heap.size + 1) o) := fun W3 o h3 ho =>
      ⟨h3.os.trans hs2.os, h3.tape.trans hs2.tape, h3.output.trans hs2.output, by have := h3.size; simp; omega, fun b o1 hb hn => by
        by_cases e : b = w.heap.size + 1
        · subst e
          rw [hl] at hb
          cases hb
          rw [ho]
          exact World.putObj_heap_same (lt_heap (h3.same _ _ hl2 nl))
        · refine (World.putObj_heap_other e).trans (h3.same b o1 ?_ hn)
          rw [← hW2]
          exact (World.putObj_heap_other e).trans hb⟩
    have keepx : ∀ (W3 : World) (o : Obj), Keeps (fun b => O' b ∨ NoB b ∨ b < w.heap.size) W2 W3 → Keeps (fun b => O' b ∨ NoB b ∨ b < W1.heap.size) W (W3.putObj (w.heap.size + 1) o) := fun W3 o h3 =>
      ⟨h3.os.trans hs2.os, h3.tape.trans hs2.tape, h3.output.trans hs2.output, by have := h3.size; simp; omega, fun b o1 hb hn => by
        have e : b ≠ w.heap.size + 1 := fun e => hn (.inr (.inr (by omega)))
        refine (World.putObj_heap_other e).trans (h3.same b o1 ?_ (fun e => hn (e.imp id (fun e => e.imp id (fun e => by omega)))))
        rw [← hW2]
        exact (World.putObj_heap_other e).trans hb⟩
    rintro e a3 W3 hp
    cases e with
    | normal =>
      obtain ⟨⟨O3, hi3, hsub⟩, hk3⟩ := hp
      obtain ⟨hr, h1, h2, h4⟩ := fin none W3 (hk3.mono fun b h => h.imp id .inl)
      refine ⟨_, _, hr, .inl ⟨rfl, ⟨O3, ⟨hI _ _ _ _ hi3 h1, fun b hb => ?_, h2, h4⟩, fun b hb => ?_⟩, keep W3 _ hk3 rfl⟩⟩
      · refine ⟨?_, by have := (hsub b hb).2; simp; omega⟩
        rcases (hsub b hb).1 with e | e
        · exact (hO' b e).1
        · right; omega
      · refine ⟨?_, by have := (hsub b hb).2; simp; omega⟩
        rcases (hsub b hb).1 with e | e
        · exact .inl e
        · right; omega
    | ret =>
      obtain ⟨hi3, hk3⟩ := hp
      obtain ⟨hr, h1, h2, h4⟩ := fin (some .ret) W3 hk3
      exact ⟨_, _, hr, .inr ⟨rfl, ⟨.ret, hIx _ _ _ _ hi3 h1, h2, h4⟩, keepx W3 _ hk3⟩⟩
    | exit id =>
      obtain ⟨hi3, hk3⟩ := hp
      obtain ⟨hr, h1, h2, h4⟩ := fin (some (.exit id)) W3 hk3
      exact ⟨_, _, hr, .inr ⟨rfl, ⟨.exit id, hIx _ _ _ _ hi3 h1, h2, h4⟩, keepx W3 _ hk3⟩⟩
    | goto t => exact hp.elim
    | panic ch => exact hp.elim
    | outgrown => exact hp.elim
  · rintro e W2 ⟨⟨v, rfl⟩, (⟨O2, ⟨hi, hO2, hl, hd⟩, _⟩ | ⟨k, hk, c, hi, hl, hd⟩)⟩
    · refine ⟨none, _, (by have := run_endLoop (P := Tryz.prog) hl (by rw [hrec]; simp); rw [hrec] at this; exact this), ?_⟩
      exact hdone _ O2 _ rfl (fun b hb => ⟨(hO2 b hb).1, by have := (hO2 b hb).2; simp; omega⟩) (hI _ _ _ _ hi (Step.putObj hl rfl (by omega) _)) ((World.putObj_heap_other (by omega)).trans hd)
    · refine ⟨some c, _, (by have := run_endLoop (P := Tryz.prog) hl (by rw [hrec]; simp); rw [hrec] at this; exact this), ?_⟩
      exact hstop _ c k _ rfl hk (hIx _ _ _ _ hi (Step.putObj hl rfl (by omega) _)) ((World.putObj_heap_other (by omega)).trans hd)
end Go.Proofs.YthcljhfankooaabGreat

namespace Go.Proofs.YthcljhfankooaabGreat
open Go.RowKit Go.Shelf
attribute [local go_sem] Oper.semAt_some

/-- What Find's iterator holds. -/
def FindAt (W : World) (b3 b4 b7 rb : Nat) (cols : Int) (t : List Int) : Prop := Boxed W b3 23 (.pointer (some ⟨rb, 0, none⟩)) ∧ Boxed W b4 3 (.int .i64 cols) ∧ ∃ xa xc, Boxed W b7 32 (.slice xa t.length xc) ∧ IntsS (fun b => b < W.heap.size) W (.slice xa t.length xc) t
theorem FindAt.step {W W' : World} {b3 b4 b7 rb base : Nat} {cols : Int} {t : List Int} (h : FindAt W b3 b4 b7 rb cols t) (hs : Step base W W') : FindAt W' b3 b4 b7 rb cols t := by
  obtain ⟨h1, h2, xa, xc, h3, h4⟩ := h
  exact ⟨hs.box h1, hs.box h2, xa, xc, hs.box h3, (h4.stays hs.stays).mono (fun b _ hb => by have := hs.size; omega)⟩
def FindOk (w : World) (rb : Nat) (cols : Int) (t : List Int) (e : Ending) (w' : World) : Prop := ∃ b3 b4 b7, e = .returned (.func (.func 37) #[] #[.pointer (some ⟨b3, 0, none⟩), .pointer (some ⟨b4, 0, none⟩), .pointer (some ⟨b7, 0, none⟩)]) ∧ FindAt w' b3 b4 b7 rb cols t ∧ Below w.heap.size w w'
set_option maxRecDepth 100000 in
set_option maxHeartbeats 4000000 in
theorem rfind_any (w : World) (rb : Nat) (cols : Int) (t : List Int) (tv : Value) (ht : Ints w.heap.size w tv t) (hn : t.length * 8 ≤ 140737488355328) :
    Calls Tryz.prog 20 #[.pointer (some ⟨rb, 0, none⟩), .int .i64 cols, tv] w fun e w' => FindOk w rb cols t e w' := by
  obtain ⟨W, hW⟩ : ∃ W, W = (w.alloc (.cells #[.pointer (some ⟨rb, 0, none⟩)] 23)).alloc (.cells #[.int .i64 cols] 3) := ⟨_, rfl⟩
  have hb2 : Below w.heap.size w W := by rw [hW]; exact ((Below.refl _ w).alloc (Nat.le_refl _) _).alloc (by simp) _
  have k1 : Boxed W w.heap.size 23 (.pointer (some ⟨rb, 0, none⟩)) := by rw [hW]; exact (Boxed.new w _ _).alloc _
  have k2 : Boxed W (w.heap.size + 1) 3 (.int .i64 cols) := by
    have := Boxed.new (w.alloc (.cells #[.pointer (some ⟨rb, 0, none⟩)] 23)) 3 (.int .i64 cols)
    rw [World.size_alloc] at this
    rw [hW]; exact this
  have hcl := cloneL_any (fun b => b < w.heap.size) W tv t (IntsS.of_ints (ht.below hb2 (Nat.le_refl _)) (fun _ h => h)) hn
  obtain ⟨xa, xc, rfl, _⟩ := id ht
  have HH := hide (And.intro hb2 (And.intro k1 k2))
  have HW := hide hW
  clear hb2 k1 k2 ht hW
  go_enter Tryz.func20, Tryz.ntmps20
  go_wp2_with fail
  rw [← unhide HW]
  refine hcl.mono ?_
  clear hcl
  rintro e w3 ⟨r, rfl, hown, hb3⟩
  obtain ⟨ra, rc, rfl, _⟩ := id hown.intsS
  have HO := hide (And.intro hown hb3)
  clear hown hb3
  go_wp2_with fail
  go_ret
  obtain ⟨hb2, k1, k2⟩ := unhide HH
  obtain ⟨hown, hb3⟩ := unhide HO
  obtain ⟨w4, hw4⟩ : ∃ w4, w4 = w3.alloc (.cells #[.slice ra t.length rc] 32) := ⟨_, rfl⟩
  rw [← hw4]
  have hb4 : Below w3.heap.size w3 w4 := by rw [hw4]; exact (Below.refl _ w3).alloc (Nat.le_refl _) _
  have k3 : Boxed w4 w3.heap.size 32 (.slice ra t.length rc) := by rw [hw4]; exact Boxed.new w3 _ _
  have b24 : Below W.heap.size W w4 := hb3.trans (hb4.mono hb3.size)
  exact ⟨w.heap.size, w.heap.size + 1, w3.heap.size, rfl, ⟨(b24.block _ k1.lt).trans k1, (b24.block _ k2.lt).trans k2, ra, rc, k3, (hown.intsS.later hb4).mono (fun b hb _ => hb)⟩, hb2.trans (b24.mono hb2.size)⟩
end Go.Proofs.YthcljhfankooaabGreat

namespace Go.Proofs.YthcljhfankooaabGreat
open Go.RowKit Go.Shelf
attribute [local go_sem] Oper.semAt_some

theorem store_cplx {P : Program} {w : World} {a : Addr} {m : Mode} (k : FloatKind) (x y : Nat) : (store a (.complex k x y) m).run P w = stored P w a (.complex k x y) m := run_store P w a _ m rfl
attribute [local go_sem] store_cplx

/-- What is handed: a row's tuple and its note. -/
def HandsP (R : List Nrow) (k : Nat) (H : Nat → Prop) (v : Value × Value) (W : World) : Prop := ∃ p, R[k]? = some p ∧ IntsS H W v.1 p.1 ∧ v.2 = noteV p.2.1 p.2.2
theorem HandsP.step {R : List Nrow} {k : Nat} {H : Nat → Prop} {v : Value × Value} {A B : World} (h : HandsP R k H v A) (hs : Step 0 A B) : HandsP R k H v B := by
  obtain ⟨p, h1, h2, h3⟩ := h
  exact ⟨p, h1, h2.stays hs.stays, h3⟩
theorem found_one {cols : Int} {t : List Int} {ns R R' : List Nrow} (h : IsFound cols t ns R) (h' : IsFound cols t ns R') : R = R' := by
  have hn : ∀ {R : List Nrow}, R.Pairwise (fun p q => lexC p.1 q.1 < 0) → R.Nodup := fun {R} h => h.imp (fun {p q} hl e => by rw [e, lexC_self] at hl; omega)
  have hp : R.Perm R' := (List.perm_ext_iff_of_nodup (hn h.1) (hn h'.1)).2 (fun p => by rw [h.2, h'.2])
  exact hp.eq_of_pairwise (fun p q _ _ h1 h2 => by have := lexC_swap p.1 q.1; omega) h.1 h'.1
theorem RowsAt.stays {B : Nat → Prop} {w w' : World} {v : Value} {R : List Nrow} (h : RowsAt B w v R) (hs : Stays B w w') : RowsAt B w' v R := by
  obtain ⟨a, cap, h1, h2, h3, h4⟩ := h
  refine ⟨a, cap, h1, h2, h3, fun j hj => ?_⟩
  obtain ⟨b, u, p, e1, e2, e3, e4, e5, e6⟩ := h4 j hj
  exact ⟨b, u, p, e1, e2, e3, hs.cell e4 e2, hs.cell e5 e2, e6.stays hs⟩
theorem RowsAt.mono {B B' : Nat → Prop} {w : World} {v : Value} {R : List Nrow} (h : RowsAt B w v R) (hs : ∀ b, b < w.heap.size → B b → B' b) : RowsAt B' w v R := by
  obtain ⟨a, cap, h1, h2, h3, h4⟩ := h
  refine ⟨a, cap, h1, h2, h3, fun j hj => ?_⟩
  obtain ⟨b, u, p, e1, e2, e3, e4, e5, e6⟩ := h4 j hj
  obtain ⟨_, hz, _⟩ := cells_of_cell e4
  exact ⟨b, u, p, e1, hs b (lt_heap hz) e2, e3, e4, e5, e6.mono hs⟩
/-- On the way. -/
def FgR (W : World) (R : List Nrow) (rv : Value) (O : Nat → Prop) (J : Nat → (Nat → Prop) → World → Prop) (i : Value) (wr : World) : Prop := ∃ (k : Nat) (O' : Nat → Prop), k ≤ R.length ∧ i = .int .i64 (k : Int) ∧ J k O' wr ∧ (∀ b, O' b → (O b ∨ W.heap.size ≤ b) ∧ b < wr.heap.size) ∧ RowsAt (fun b => W.heap.size ≤ b ∧ ¬ O' b ∧ b < wr.heap.size) wr rv R ∧ W.heap.size ≤ wr.heap.size

set_option maxRecDepth 100000 in
set_option maxHeartbeats 4000000 in
theorem find1_goes [Xt] (W : World) (rb hb mb wd : Nat) (sh : List (Nat × Nat)) (os : List (List Int)) (ns : List Nrow) (h : RelAt W rb hb mb sh wd os ns) (t : List Int) (hl : t.length = wd) (cols : Nat) (hcols : cols < 2 ^ wd) (b3 b4 b7 : Nat) (hF : FindAt W b3 b4 b7 rb cols t) (R : List Nrow) (hR : IsFound cols t ns R) :
    GoesAtP 37 #[.pointer (some ⟨b3, 0, none⟩), .pointer (some ⟨b4, 0, none⟩), .pointer (some ⟨b7, 0, none⟩)] R.length (HandsP R) (fun _ => False) W := by
  intro lp J Jx O hSO hO hJ hJx hY h0
  obtain ⟨k3, k4, xa, xc, k7, hx⟩ := hF
  have hfd := found_any W rb hb mb wd sh os ns h t _ hx.ints hl cols hcols
  have c3 := k3.cell
  have c4 := k4.cell
  have c7 := k7.cell
  have HY := hide (And.intro hY (And.intro hJ (And.intro hJx (And.intro h0 (And.intro hO hR)))))
  clear h hl hcols k3 k4 k7 hx hSO hO hJ hJx hY h0 hR
  obtain ⟨PO, hPO⟩ : ∃ PO : Ending → World → Prop, PO = fun e W' => (∃ v, e = .returned v) ∧ ((∃ O', J R.length O' W' ∧ (∀ b, O' b → (O b ∨ W.heap.size ≤ b) ∧ b < W'.heap.size)) ∨ ∃ k, k ≤ R.length ∧ Jx k W') := ⟨_, rfl⟩
  rw [← hPO]
  have HPO := hide hPO
  clear hPO
  go_enter Tryz.func37, Tryz.ntmps37
  go_wp2_with fail
  refine hfd.mono ?_
  clear hfd
  rintro e w1 ⟨rv, R', T, rfl, hrowsF, hF', b1⟩
  have hrows := hrowsF.rows
  clear hrowsF
  obtain rfl := found_one hF' (unhide HY).2.2.2.2.2
  obtain ⟨ra, rc, rfl, _⟩ := id hrows
  have hw1 := b1.size
  have HR := hide (And.intro hrows b1)
  clear hrows hF' b1 c3 c4 c7
  go_wp2_with fail
  go_loopw [12] (fun i wr => FgR W R' (.slice ra R'.length rc) O J i wr) (fun i _ => R'.length - (intOf i).toNat)
  case atStart =>
    obtain ⟨hrows, b1⟩ := unhide HR
    obtain ⟨hY, hJ, hJx, h0, hO, _⟩ := unhide HY
    exact ⟨0, O, Nat.zero_le _, rfl, hJ _ _ _ _ h0 (Step.of_below b1), fun b hb => ⟨.inl hb, by have := hO b hb; omega⟩, hrows.mono (fun b hb1 hb2 => ⟨hb2, fun e => by have := hO b e; omega, hb1⟩), hw1⟩
  case round =>
    obtain ⟨k, O', hk, rfl, hJk, hO', hrw, hsz⟩ := hrel
    by_cases hlt : k < R'.length
    · obtain ⟨a, cap, e1, e2, e3, e4⟩ := id hrw
      obtain ⟨b, u, p, f1, f2, f3, f4, f5, f6⟩ := e4 k hlt
      simp only [Value.slice.injEq] at e1
      have f1' : ra = some ⟨b, 0, none⟩ := e1.1.trans f1
      subst f1'
      obtain ⟨na, nb, hnv⟩ : ∃ na nb, noteV p.2.1 p.2.2 = .complex .f64 na nb := ⟨_, _, rfl⟩
      rw [hnv] at f5
      obtain ⟨ua, uc, eu, _⟩ := id f6
      obtain ⟨hY, hJ, hJx, h0, hO, hRf⟩ := unhide HY
      obtain ⟨wv, hwv⟩ : ∃ wv, wv = wr.alloc (.cells #[u, .complex .f64 na nb] 91) := ⟨_, rfl⟩
      have bv : Below wr.heap.size wr wv := by rw [hwv]; exact (Below.refl _ wr).alloc (Nat.le_refl _) _
      have gv : wv.heap[wr.heap.size]? = some (.cells #[u, .complex .f64 na nb] 91 (0, 0)) := by rw [hwv]; exact World.alloc_heap_new wr _
      have sv : wv.heap.size = wr.heap.size + 1 := by rw [hwv]; simp
      have hrnd := hY (6 - 1) k O' (fun b => W.heap.size ≤ b ∧ ¬ O' b ∧ b < wr.heap.size) (u, .complex .f64 na nb) wv hlt (hJ _ _ _ _ hJk (Step.of_below bv)) (fun b hb => ⟨hb.1, hb.2.1, by omega⟩) ⟨p, f3, f6.later bv, hnv.symm⟩
      obtain ⟨fn, tmps, assign, body, hyr, hRd⟩ := hrnd
      have g1 : wv.cell? ⟨wr.heap.size, 0, none⟩ = some u := by rw [cell_at gv]; rfl
      have g2 : wv.cell? ⟨wr.heap.size, 1, none⟩ = some (.complex .f64 na nb) := by rw [cell_at gv]; rfl
      have HI := hide (And.intro hO' (And.intro hrw (And.intro bv sv)))
      subst eu
      have HW := hide hwv
      clear e1 e2 e3 e4 f1 hJk hO' hrw f2 f3 f6 hnv hY hJ hJx h0 hO hRf bv gv sv hwv
      refine (wpIn_wide (n := 6)).1 ?_
      gi_wp2
      rw [← unhide HW, hyr]
      first
        | (refine hRd.mono ?_)
        | (refine ⟨fun h => (by cases h), hRd.mono ?_⟩)
      clear hRd hyr
      rintro e W4 (⟨rfl, ⟨O3, hJ3, hsub⟩, hk4⟩ | ⟨rfl, hJx4, hk4⟩)
      · have H4 := hide (And.intro hJ3 (And.intro hsub hk4))
        clear hJ3 hsub hk4
        gi_wp2
        obtain ⟨hJ3, hsub, hk4⟩ := unhide H4
        obtain ⟨hO', hrw, bv, sv⟩ := unhide HI
        have s4 := hk4.size
        refine ⟨⟨k + 1, O3, hlt, by rw [Int.natCast_add]; rfl, hJ3, fun b hb => ⟨?_, (hsub b hb).2⟩, ?_, by omega⟩, by simp [intOf]; omega⟩
        · rcases (hsub b hb).1 with e | e
          · exact (hO' b e).1
          · exact .inr (by omega)
        · have r1 : RowsAt (fun b => W.heap.size ≤ b ∧ ¬ O' b ∧ b < wr.heap.size) wv (.slice (some ⟨b, 0, none⟩) R'.length rc) R' := hrw.stays (Stays.of_below bv)
          have r2 := r1.stays (hk4.stays (fun q _ hq e => e.elim (fun e => hq.2.1 e) (fun e => e)))
          refine r2.mono (fun q _ hq => ⟨hq.1, fun e => ?_, by omega⟩)
          rcases (hsub q e).1 with e | e
          · exact hq.2.1 e
          · omega
      · have H4 := hide (And.intro hJx4 hk4)
        clear hJx4 hk4
        gi_wp2
        refine bodyPost_ret (results_none rfl _ _ _) rfl ?_
        rw [unhide HPO]
        exact ⟨⟨_, rfl⟩, .inr ⟨k + 1, hlt, (unhide H4).1⟩⟩
    · have hkR : k = R'.length := by omega
      have hg : ¬ ((k : Int) < (R'.length : Int)) := by omega
      have HI := hide (And.intro hJk hO')
      clear hJk hO' hrw
      go_wp2_with fail
      go_end0
      rw [unhide HPO]
      obtain ⟨hJk, hO'⟩ := unhide HI
      rw [hkR] at hJk
      exact ⟨⟨_, rfl⟩, .inl ⟨O', hJk, hO'⟩⟩
end Go.Proofs.YthcljhfankooaabGreat
