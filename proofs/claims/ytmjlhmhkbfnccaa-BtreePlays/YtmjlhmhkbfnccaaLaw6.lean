/- A region that leaves its order open and holds calls: what only reads may be run first. -/
import Derived.Test.YtmjlhmhkbfnccaaLaw5
import Derived.StillTail
namespace Go.Proofs.Ytmjlhmhkbfnccaa
open Go.RowKit Go.Shelf

section
variable {P : Program} {ops : Array Oper} {md : Region.Mode} {Q : Exit → Act → World → Prop} {C : World → Prop}

/-- Every order, with C of each world on the way. -/
def wpAnyC (P : Program) (md : Region.Mode) (ops : Array Oper) (C : World → Prop) (Q : Exit → Act → World → Prop) : Nat → Array Bool → Act → World → Prop
  | 0, listed, a, w => C w ∧ Region.ready md ops listed = [] ∧ Q .normal a w
  | fuel + 1, listed, a, w => C w ∧ (Region.ready md ops listed = [] → Q .normal a w) ∧ ∀ i ∈ Region.ready md ops listed, wpOp P ops Q i (wpAnyC P md ops C Q fuel (listed.setIfInBounds i true)) a w
theorem wpAnyC.c {f : Nat} {listed : Array Bool} {a : Act} {w : World} (h : wpAnyC P md ops C Q f listed a w) : C w := by
  cases f with
  | zero => exact h.1
  | succ f => exact h.1
theorem wpAny_of_c : ∀ (f : Nat) (listed : Array Bool) (a : Act) (w : World), wpAnyC P md ops C Q f listed a w → wpAny P md ops Q f listed a w
  | 0, _, _, _, h => h.2
  | f + 1, _, _, _, h => ⟨h.2.1, fun i hi => wpOp_mono (fun a w => wpAny_of_c f _ a w) (h.2.2 i hi)⟩

/-- Whatever else runs ahead of it, it yields the same. -/
theorem wpOp_put {j : Nat} {oi oj : Oper} {v : Value} (hj : ops[j]? = some oj) (hap : oi.apart ops oj = true) (hsi : ∀ cs b, oi.op ≠ .select cs b) (hsj : ∀ cs b, oj.op ≠ .select cs b) (hL : ¬ LetsOut Q) (hQ : ∀ e a w, e ≠ .normal → ¬ Q e a w)
    {K : Act → World → Prop} {a : Act} {w : World} (hy : ∀ w, C w → YieldsAt P ops w oi v a) (h : wpOp P ops Q j K (a.put oi.dst v) w) :
    wpOp P ops Q j (fun a' w' => (∀ w, C w → YieldsAt P ops w oi v a') ∧ K (a'.put oi.dst v) w') a w := by
  obtain ⟨h1, h2, h3⟩ := Oper.apart_spec hap
  have keep : ∀ u, ∀ w, C w → YieldsAt P ops w oi v (a.put oj.dst u) := fun u w hw => (hy w hw).of_same (execOp_put oi hsi a oj.dst u h3) (wanted_put oi a oj.dst u h3)
  unfold wpOp at *
  simp only [hj] at *
  rw [wanted_put oj a oi.dst v h1] at h
  split
  · rename_i hw
    simp only [hw, if_true] at h
    refine .inl ?_
    have h := h.resolve_right fun g => hL g.2
    unfold Oper.wp at *
    rw [execOp_put oj hsj a oi.dst v h1] at h
    generalize (execOp a.eval oj).run P w = r at *
    cases r with
    | ok n w' =>
      cases n with
      | value u => exact ⟨keep u, by rw [← Act.put_comm a v u h2]; exact h⟩
      | skip => exact ⟨keep _, by rw [← Act.put_comm a v undef h2]; exact h⟩
      | defer d => exact ⟨fun w hw => (hy w hw).of_same (execOp_put oi hsi { a with defers := d :: a.defers } oj.dst undef h3) (wanted_put oi { a with defers := d :: a.defers } oj.dst undef h3), by
        rw [← Act.put_comm { a with defers := d :: a.defers } v undef h2, show ({ a with defers := d :: a.defers } : Act).put oi.dst v = { a.put oi.dst v with defers := d :: (a.put oi.dst v).defers } by cases oi.dst <;> rfl]
        exact h⟩
      | enter f args =>
        refine Calls.mono (P := P) h ?_
        intro e w2 hh
        cases e with
        | returned u => exact ⟨keep u, by rw [← Act.put_comm a v u h2]; exact hh⟩
        | panicked c => exact (hQ _ _ _ (fun e => by cases e) hh).elim
        | outgrown => first | exact hh | exact (hL hh).elim | exact hh.elim
      | row r args =>
        intro c cs
        obtain ⟨u, w2, r2, s2⟩ := h c cs
        exact ⟨u, w2, ⟨keep u, by rw [← Act.put_comm a v u h2]; exact r2⟩, s2⟩
      | _ => exact h.elim
    | halt x w' =>
      cases x with
      | panic u => exact (hQ _ _ _ (fun e => by cases e) h).elim
      | _ => exact h.elim
  · rename_i hw
    simp only [hw] at h
    exact ⟨keep _, by rw [← Act.put_comm a v undef h2]; exact h⟩

/-- What yields the same in every world may be run first. -/
theorem wpAnyC_first {i : Nat} {oi : Oper} {v : Value} (hi : ops[i]? = some oi) (hsel : ∀ (j : Nat) (o : Oper) cs b, ops[j]? = some o → o.op ≠ .select cs b) (hL : ¬ LetsOut Q) (hQ : ∀ e a w, e ≠ .normal → ¬ Q e a w) :
    ∀ (f : Nat) (listed : Array Bool) (a : Act) (w : World),
      (∀ j oj, ops[j]? = some oj → j ≠ i → listed.getD j true = false → (∀ e ∈ oj.after, Region.binds md e = true → e.on ≠ i) → oi.apart ops oj = true) →
      i ∈ Region.ready md ops listed → (∀ w, C w → YieldsAt P ops w oi v a) →
      wpAnyC P md ops C Q f (listed.setIfInBounds i true) (a.put oi.dst v) w → wpAnyC P md ops C Q (f + 1) listed a w := by
  intro f
  induction f with
  | zero =>
    intro listed a w _ hr hy H
    refine ⟨H.c, fun h => (by rw [h] at hr; cases hr), fun j hj => ?_⟩
    by_cases hji : j = i
    · subst hji; exact wpOp_of_stOp (K := fun a' => a' = a.put oi.dst v) (fun a' e => e ▸ H) ((hy w H.c).stOp hi rfl)
    · have := ready_mono hj hji
      rw [H.2.1] at this
      cases this
  | succ f ih =>
    intro listed a w hfree hr hy H
    have hun := (mem_ready.1 hr).1
    refine ⟨H.c, fun h => (by rw [h] at hr; cases hr), fun j hj => ?_⟩
    by_cases hji : j = i
    · subst hji; exact wpOp_of_stOp (K := fun a' => a' = a.put oi.dst v) (fun a' e => e ▸ H) ((hy w H.c).stOp hi rfl)
    · have h1 := H.2.2 j (ready_mono hj hji)
      obtain ⟨hjun, oj, hoj, hall⟩ := mem_ready.1 hj
      have hnot : ∀ e ∈ oj.after, Region.binds md e = true → e.on ≠ i := fun e he hb heq => by
        have h1 := hall e he hb
        rw [heq, getD_both hun] at h1
        cases h1
      have h2 := wpOp_put hoj (hfree j oj hoj hji hjun hnot) (fun cs b => hsel i oi cs b hi) (fun cs b => hsel j oj cs b hoj) hL hQ hy h1
      have hfree' : ∀ k ok, ops[k]? = some ok → k ≠ i → (listed.setIfInBounds j true).getD k true = false →
          (∀ e ∈ ok.after, Region.binds md e = true → e.on ≠ i) → oi.apart ops ok = true := fun k ok hk hki hun hno => by
        refine hfree k ok hk hki ?_ hno
        by_cases hjk : j = k
        · subst hjk; exact hjun
        · rw [getD_set_ne true hjk] at hun; exact hun
      refine wpOp_mono (fun a' w' h3 => ih (listed.setIfInBounds j true) a' w' hfree' (ready_mono hr (Ne.symm hji)) h3.1 ?_) h2
      rw [Array.setIfInBounds_comm _ _ hji]
      exact h3.2
/-- An order: what is still (true) as soon as it is ready, what is not (false) where nothing else is ready. -/
def orderB (md : Region.Mode) (ops : Array Oper) : List (Nat × Bool) → Array Bool → Bool
  | [], listed => (Region.ready md ops listed).isEmpty
  | (k, true) :: r, listed => (Region.ready md ops listed).contains k && Region.free md ops listed k && orderB md ops r (listed.setIfInBounds k true)
  | (k, false) :: r, listed => decide (Region.ready md ops listed = [k]) && orderB md ops r (listed.setIfInBounds k true)
def wpMix (P : Program) (ops : Array Oper) (C : World → Prop) (Q : Exit → Act → World → Prop) : List (Nat × Bool) → Act → World → Prop
  | [], a, w => C w ∧ Q .normal a w
  | (k, true) :: r, a, w => ∃ o v, ops[k]? = some o ∧ (∀ w, C w → YieldsAt P ops w o v a) ∧ wpMix P ops C Q r (a.put o.dst v) w
  | (k, false) :: r, a, w => C w ∧ wpOp P ops Q k (fun a' w' => wpMix P ops C Q r a' w') a w
theorem wpAnyC_mix (hsel : Region.noSelect ops = true) (hL : ¬ LetsOut Q) (hQ : ∀ e a w, e ≠ .normal → ¬ Q e a w) : ∀ (l : List (Nat × Bool)) (listed : Array Bool) (a : Act) (w : World), orderB md ops l listed = true → wpMix P ops C Q l a w → wpAnyC P md ops C Q l.length listed a w
  | [], listed, a, w, hB, h => ⟨h.1, by simpa [orderB] using hB, h.2⟩
  | (k, true) :: r, listed, a, w, hB, h => by
    simp only [orderB, Bool.and_eq_true] at hB
    obtain ⟨⟨hr, hf⟩, hB'⟩ := hB
    obtain ⟨o, v, ho, hy, h'⟩ := h
    exact wpAnyC_first ho (Region.noSelect_spec hsel) hL hQ r.length listed a w (Region.free_spec ho hf) (by simpa using hr) hy (wpAnyC_mix hsel hL hQ r _ _ _ hB' h')
  | (k, false) :: r, listed, a, w, hB, h => by
    simp only [orderB, Bool.and_eq_true, decide_eq_true_eq] at hB
    refine ⟨h.1, fun e => (by rw [hB.1] at e; cases e), fun i hi => ?_⟩
    rw [hB.1] at hi
    have e : i = k := by simpa using hi
    subst e
    exact wpOp_mono (fun a' w' h' => wpAnyC_mix hsel hL hQ r _ a' w' hB.2 h') h.2
/-- One order serves all. -/
theorem region_mix {id : Nat} {a : Act} {w : World} (l : List (Nat × Bool)) (hm : P.follows .mixedOrders = true) (hsel : Region.noSelect ops = true) (hL : ¬ LetsOut Q) (hQ : ∀ e a w, e ≠ .normal → ¬ Q e a w) (hlen : l.length = ops.size) (hB : orderB .any ops l (Array.replicate ops.size false) = true)
    (h : wpMix P ops C Q l a { w with drawn := w.drawn + 1 }) : (Code.region id ops true).wp P Q a w := by
  refine wp_region_any hm ?_
  have := wpAny_of_c _ _ _ _ (wpAnyC_mix (md := .any) hsel hL hQ l _ a _ hB h)
  rw [hlen] at this
  exact this
end
end Go.Proofs.Ytmjlhmhkbfnccaa
