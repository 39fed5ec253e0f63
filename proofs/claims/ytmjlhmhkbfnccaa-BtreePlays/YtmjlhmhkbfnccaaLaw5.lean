/- A loop over a function that is left behind, or gone through, to one end; regions that leave their order open, inside a round. -/
import Derived.Sort.QuietIn
import Derived.StillTail
import Derived.Test.YtmjlhmhkbfnccaaLaw4
namespace Go.Proofs.Ytmjlhmhkbfnccaa
open Go.RowKit Go.Shelf

/-- A range over a function which its rounds leave by one jump alone. -/
theorem wp_range_fin {n : Nat} {g : Operand} {t : Tmp} {assign body : Code} {Q : Exit → Act → World → Prop} {a : Act} {w : World} {gf : Nat} {lb : Array Value} (id : Nat)
    (hg : a.eval g = .func (.func gf) #[] lb) (eg : ∀ args w, (callFunc gf args).run Try.prog w = .ok (.enter gf args) w)
    {N : Nat} {Y : Nat → (Nat → Prop) → Value → World → Prop} {S : Nat → Prop} (hseq : ∀ W, Step w.heap.size w W → GoesAtH gf lb N Y S W) (hY : ∀ k H v A B, Y k H v A → Step 0 A B → Y k H v B)
    (O : Nat → Prop) (hO : ∀ b, O b → b < w.heap.size) (hSO : ∀ b, S b → ¬ O b)
    (I : Nat → (Nat → Prop) → World → Prop) (Fin : World → Prop) (hI : ∀ k O A B, I k O A → Step w.heap.size A B → I k O B) (hF : ∀ A B, Fin A → Step w.heap.size A B → Fin B) (h0 : I 0 O w)
    (a₁ : Value → Act)
    (hassign : ∀ (l m : Nat) (v : Value) (W : World) (K : Act → World → Prop), K (a₁ v) W → assign.wpIn (Fence.wide.inRound l) m Try.prog (Exit.then K (fun _ _ _ => False)) { tmps := a.tmps.setIfInBounds t v, defers := [] } W)
    (hbody : ∀ (l m k : Nat) (O' H : Nat → Prop) (v : Value) (W : World), w.heap.size ≤ W.heap.size → (∀ b, O' b → (O b ∨ w.heap.size + 2 ≤ b) ∧ b < W.heap.size) → (∀ b, H b → w.heap.size + 2 ≤ b ∧ ¬ O' b ∧ b < W.heap.size) → k < N → I k O' W → Y k H v W → (w.heap.size ≤ l ∧ l < w.heap.size + 2 ∧ ∃ r, W.heap[l]? = some (.loop r)) → body.wpIn (Fence.wide.inRound l) m Try.prog (roundEndH w.heap.size I (fun c _ W => c = .exit id ∧ Fin W) k O' H W) (a₁ v) W)
    (hend : ∀ O' W, I N O' W → Fin W)
    (hdone : ∀ (D : Nat) (W : World), D = w.heap.size → Fin W → W.heap[D]? = some (.deferred (some [])) → Q .normal { a with defers := { target := .collected D, args := #[] } :: a.defers } W) :
    (Code.rangeFunc g #[t] assign body).wpIn Fence.wide n Try.prog (Exit.inBlock id Q) a w := by
  refine wp_rangeL hg eg hseq hY O hO hSO I (fun c _ W => c = .exit id ∧ Fin W) hI (fun c _ A B h hs => ⟨h.1, hF A B h.2 hs⟩) h0 a₁ hassign hbody ?_ ?_
  · intro D O' W hD _ hi hd
    simpa [Exit.inBlock] using hdone D W hD (hend O' W hi) hd
  · rintro D c k W hD _ ⟨rfl, hf⟩ hd
    refine wpIn_exit ?_
    simpa [Exit.inBlock] using hdone D W hD hf hd

/-- A loop within a round, left at once or not gone through at all, to one end. -/
theorem wp_range_brk2 {n l0 : Nat} {r0 : Loop} {g : Operand} {t : Tmp} {assign body : Code} {Q : Exit → Act → World → Prop} {a : Act} {w : World} {gf : Nat} {lb : Array Value} (id : Nat)
    (hl0 : w.heap[l0]? = some (.loop r0)) (hg : a.eval g = .func (.func gf) #[] lb) (eg : ∀ args w, (callFunc gf args).run Try.prog w = .ok (.enter gf args) w)
    {N : Nat} {Y : Nat → (Nat → Prop) → Value → World → Prop} {S : Nat → Prop} (hseq : ∀ W, Step w.heap.size w W → GoesAtH gf lb N Y S W) (a₁ : Value → Act)
    (hassign : ∀ (l m : Nat) (v : Value) (W : World) (K : Act → World → Prop), K (a₁ v) W → assign.wpIn (Fence.wide.inRound l) m Try.prog (Exit.then K (fun _ _ _ => False)) { tmps := a.tmps.setIfInBounds t v, defers := [] } W)
    (hbody : ∀ (l m : Nat) (v : Value) (W : World), body.wpIn (Fence.wide.inRound l) m Try.prog (fun e _ W' => e = .exit id ∧ W' = W) (a₁ v) W)
    (hafter : ∀ W, Step w.heap.size w W → Q .normal a W) : (Code.rangeFunc g #[t] assign body).wpIn (Fence.wide.inRound l0) n Try.prog (Exit.inBlock id Q) a w := by
  refine wp_range_brk hl0 hg eg hseq id a₁ hassign hbody ?_ ?_
  · intro W hs
    simpa [Exit.inBlock] using hafter W hs
  · intro W hs
    refine wpIn_exit ?_
    simpa [Exit.inBlock] using hafter W hs

def noDefer (o : Oper) : Bool := match o.op with | .defer _ => false | _ => true
theorem noDefer_op {o : Oper} (h : noDefer o = true) : ∀ c, o.op ≠ .defer c := fun c e => by simp [noDefer, e] at h

section
variable {F : Fence} {n : Nat} {P : Program} {ops : Array Oper} {Q : Exit → Act → World → Prop}
theorem oper_round {lp : Nat} {o : Oper} {a : Act} {w : World} {K : Act → World → Prop} (hd : ∀ c, o.op ≠ .defer c) (hro : F.round = none) (h : o.wpIn F n P a w K Q) : o.wpIn (F.inRound lp) n P a w K Q := by
  unfold Oper.wpIn at h ⊢
  rw [hro, Oper.semAt_none] at h
  rw [Fence.inRound_round, Oper.semAt_some lp _ _ hd]
  exact h
theorem op_round {lp : Nat} {i : Nat} {a : Act} {w : World} {K K' : Act → World → Prop} (hd : ∀ o ∈ ops.toList, noDefer o = true) (hro : F.round = none) (hK : ∀ a w, K a w → K' a w) (h : wpOpIn F n P ops Q i K a w) : wpOpIn (F.inRound lp) n P ops Q i K' a w := by
  unfold wpOpIn at h ⊢
  split
  · rename_i ho
    simp only [ho] at h
    exact hK _ _ h
  · rename_i o ho
    simp only [ho] at h
    split
    · rename_i hw
      simp only [hw, if_true] at h
      exact oper_round (noDefer_op (hd o (by simpa using Array.mem_of_getElem? ho))) hro (Oper.wpIn_mono hK h)
    · rename_i hw
      simp only [hw] at h
      exact ⟨h.1, hK _ _ h.2⟩
theorem any_round {lp : Nat} {md : Region.Mode} (hd : ∀ o ∈ ops.toList, noDefer o = true) (hro : F.round = none) : ∀ (fuel : Nat) (listed : Array Bool) (a : Act) (w : World), wpAnyIn F n P md ops Q fuel listed a w → wpAnyIn (F.inRound lp) n P md ops Q fuel listed a w
  | 0, _, _, _, h => h
  | fuel + 1, _, _, _, h => ⟨h.1, fun i hi => op_round hd hro (fun a w => any_round hd hro fuel _ a w) (h.2 i hi)⟩

theorem region_quiet_round {lp id : Nat} {a : Act} {w : World} {l : List Oper} (hro : F.round = none) (hm : P.follows .mixedOrders = true) (hB : Region.lexB .any l.toArray = true) (hd : l.all noDefer = true)
    (h : wpQuietIn F n P l.toArray (fun w' => ∃ n, w' = w.drewN n) (fun a' => ∀ w', (∃ n, w' = w.drewN n) → Q .normal a' w') l a) : (Code.region id l.toArray true).wpIn (F.inRound lp) n P Q a w := by
  simp only [Region.lexB, Bool.and_eq_true] at hB
  refine wpIn_region_any hm (any_round (by simpa using List.all_eq_true.1 hd) hro _ _ _ _ (wpAnyIn_of_quiet (C := fun w' => ∃ n, w' = w.drewN n) (Q := fun a' => ∀ w', (∃ n, w' = w.drewN n) → Q .normal a' w') hro (fun _ w' hw' h => h w' hw') _ _ _ _ ⟨1, rfl⟩ ?_))
  have := wpAnyQIn_lex (F := F) (n := n) (C := fun w' => ∃ n, w' = w.drewN n) (md := .any) hB.1 l.toArray.toList 0 (Array.replicate l.toArray.size false) a (by simp) (by simpa using hB.2) (by simpa using h)
  simpa using this
end

section
variable {n : Nat} {P : Program} {ops : Array Oper} {Q : Exit → Act → World → Prop}
theorem oper_in {lp : Nat} {o : Oper} {a : Act} {w : World} {K K' : Act → World → Prop} (hd : ∀ c, o.op ≠ .defer c) (hK : ∀ a w, K a w → K' a w) (h : o.wp P a w K Q) : o.wpIn (Fence.wide.inRound lp) n P a w K' Q := by
  unfold Oper.wpIn
  rw [Fence.inRound_round, Oper.semAt_some lp _ _ hd]
  refine ⟨fun _ _ => trivial, ?_⟩
  unfold Oper.wp at h
  revert h
  cases (execOp a.eval o).run P w with
  | ok r w' =>
    cases r with
    | value v => exact fun h => hK _ _ h
    | skip => exact fun h => hK _ _ h
    | defer d => exact fun h => hK _ _ h
    | enter f args =>
      intro h
      refine ⟨fun h => (by cases h), ((CallsIn.inRound lp (callsIn_wide.2 h))).mono ?_⟩
      intro e w2 h2
      cases e with
      | returned v => exact hK _ _ h2
      | panicked c => exact h2
      | outgrown => exact h2
    | row r args =>
      intro h
      refine ⟨fun h => (by cases h), fun c cs _ => ?_⟩
      obtain ⟨v, w2, r2, s2⟩ := h c cs
      exact ⟨v, w2, hK _ _ r2, stepsIn_wide.2 s2⟩
    | _ => exact fun h => h.elim
  | halt x w' =>
    cases x with
    | panic v => exact fun h => h
    | _ => exact fun h => h.elim
theorem op_in {lp : Nat} {i : Nat} {a : Act} {w : World} {K K' : Act → World → Prop} (hd : ∀ o ∈ ops.toList, noDefer o = true) (hL : ¬ LetsOut Q) (hK : ∀ a w, K a w → K' a w) (h : wpOp P ops Q i K a w) : wpOpIn (Fence.wide.inRound lp) n P ops Q i K' a w := by
  unfold wpOp at h
  unfold wpOpIn
  split
  · rename_i ho
    simp only [ho] at h
    exact hK _ _ h
  · rename_i o ho
    simp only [ho] at h
    split
    · rename_i hw
      simp only [hw, if_true] at h
      exact oper_in (noDefer_op (hd o (by simpa using Array.mem_of_getElem? ho))) hK (h.resolve_right fun g => hL g.2)
    · rename_i hw
      simp only [hw] at h
      exact ⟨fun _ _ => trivial, hK _ _ h⟩
theorem any_in {lp : Nat} {md : Region.Mode} (hd : ∀ o ∈ ops.toList, noDefer o = true) (hL : ¬ LetsOut Q) : ∀ (fuel : Nat) (listed : Array Bool) (a : Act) (w : World), wpAny P md ops Q fuel listed a w → wpAnyIn (Fence.wide.inRound lp) n P md ops Q fuel listed a w
  | 0, _, _, _, h => h
  | fuel + 1, _, _, _, h => ⟨h.1, fun i hi => op_in hd hL (fun a w => any_in hd hL fuel _ a w) (h.2 i hi)⟩
/-- A region that leaves its order open inside a round: its head reads alone, its tail goes in the order of the text. -/
theorem region_tail_round {lp id : Nat} {a : Act} {w : World} {l : List Oper} (k : Nat) (hm : P.follows .mixedOrders = true) (hB : Region.lexTailB .any l.toArray k = true) (hd : l.all noDefer = true) (hL : ¬ LetsOut Q)
    (h : wpStill P l.toArray { w with drawn := w.drawn + 1 } (fun a' => wpList P l.toArray Q (l.drop k) a' { w with drawn := w.drawn + 1 }) (l.take k) a) : (Code.region id l.toArray true).wpIn (Fence.wide.inRound lp) n P Q a w := by
  simp only [Region.lexTailB, Bool.and_eq_true, decide_eq_true_eq] at hB
  obtain ⟨⟨⟨⟨hsel, hn⟩, hs⟩, hc⟩, hlex⟩ := hB
  have hn' : k < l.length := by simpa using hn
  have htl : (l.take k).length = k := by simp; omega
  have hdl : (l.drop k).length = l.toArray.size - k := by simp
  have inv0 : HeadInv .any l.toArray k (Array.replicate l.toArray.size false) :=
    ⟨by simp, fun j oj _ hl => (by rw [getD_replicate_false] at hl; cases hl), fun t _ ht => getD_in (by simpa using ht) (getD_replicate_false _ _)⟩
  have H := wpAnyL_lex (md := .any) (g := l.toArray.size - k) hsel hs hc hn (l.take k) 0 _ a (fun j hj => by
    have hj' : j < k := by rw [htl] at hj; exact hj
    simp [hj']) (by simpa using htl) inv0 (by rw [htl]; exact hlex) h
  refine wpIn_region_any hm (any_in (by simpa using List.all_eq_true.1 hd) hL _ _ _ _ ?_)
  have := wpAny_of_head (Q' := Q) (g := l.toArray.size - k) (fun listed a' hL => by
    have := wpAny_of_seq (md := .any) (Q' := Q) (l.drop k) k listed a' { w with drawn := w.drawn + 1 } (fun j => by simp [List.getElem?_drop]) (by rw [hdl]; exact hL.1) hL.2
    rwa [hdl] at this) _ _ _ H
  rw [htl, show k + (l.toArray.size - k) = l.toArray.size by omega] at this
  exact this
end
end Go.Proofs.Ytmjlhmhkbfnccaa
