/- One order for a region inside a round. One order for a region that holds calls and, late in it, a write: what only reads may be run first, some of it but ahead of a certain operation. -/
import Derived.Test.YthcljhfankooaabGreatMLaw
namespace Go.Proofs.YthcljhfankooaabGreat
open Go.RowKit Go.Shelf

theorem region_mixR {P : Program} {Q : Exit → Act → World → Prop} {n lp id : Nat} {a : Act} {w : World} {l : List Oper} {md : List (Nat × Bool)} (C : World → Prop) (hm : P.follows .mixedOrders = true) (hsel : Region.noSelect l.toArray = true) (hd : l.all noDefer = true) (hlen : md.length = l.toArray.size) (hB : orderB .any l.toArray md (Array.replicate l.toArray.size false) = true)
    (h : ∀ PP : Act → World → Prop, (∀ a' w', Q .normal a' w' → PP a' w') → wpMix P l.toArray C (onlyN PP) md a w.drew) : (Code.region id l.toArray true).wpIn (Fence.wide.inRound lp) n P Q a w := by
  have hL : ¬ LetsOut (onlyN (Q .normal)) := by rintro ⟨_, _, h⟩; exact h
  have hQ : ∀ e a w, e ≠ Exit.normal → ¬ onlyN (Q .normal) e a w := by
    intro e a w he h
    cases e
    case normal => exact he rfl
    all_goals exact h
  have h1 := wpAny_of_c _ _ _ _ (wpAnyC_mix (md := .any) hsel hL hQ md _ a _ hB (h (Q .normal) (fun _ _ h => h)))
  rw [hlen] at h1
  refine wpIn_mono (Q := onlyN (Q .normal)) (wpIn_region_any hm (any_in (by simpa using List.all_eq_true.1 hd) hL _ _ _ _ h1)) ?_
  intro e a w h
  cases e
  case normal => exact h
  all_goals exact h.elim
end Go.Proofs.YthcljhfankooaabGreat

namespace Go.Proofs.YthcljhfankooaabGreat
open Go.RowKit Go.Shelf

section
variable {P : Program} {ops : Array Oper} {md : Region.Mode} {Q : Exit → Act → World → Prop} {C : Bool → World → Prop} {m : Nat}

/-- Every order, with C of each world on the way; C is told whether m is done. -/
def wpAnyF (P : Program) (md : Region.Mode) (ops : Array Oper) (m : Nat) (C : Bool → World → Prop) (Q : Exit → Act → World → Prop) : Nat → Array Bool → Act → World → Prop
  | 0, listed, a, w => C (listed.getD m true) w ∧ Region.ready md ops listed = [] ∧ Q .normal a w
  | fuel + 1, listed, a, w => C (listed.getD m true) w ∧ (Region.ready md ops listed = [] → Q .normal a w) ∧ ∀ i ∈ Region.ready md ops listed, wpOp P ops Q i (wpAnyF P md ops m C Q fuel (listed.setIfInBounds i true)) a w
theorem wpAnyF.c {f : Nat} {listed : Array Bool} {a : Act} {w : World} (h : wpAnyF P md ops m C Q f listed a w) : C (listed.getD m true) w := by
  cases f with
  | zero => exact h.1
  | succ f => exact h.1
theorem wpAny_of_f : ∀ (f : Nat) (listed : Array Bool) (a : Act) (w : World), wpAnyF P md ops m C Q f listed a w → wpAny P md ops Q f listed a w
  | 0, _, _, _, h => h.2
  | f + 1, _, _, _, h => ⟨h.2.1, fun i hi => wpOp_mono (fun a w => wpAny_of_f f _ a w) (h.2.2 i hi)⟩

/-- What yields the same in every world of D may be run first. -/
theorem wpAnyF_first {D : World → Prop} {G : Array Bool → Prop} {i : Nat} {oi : Oper} {v : Value} (hi : ops[i]? = some oi) (him : m ≠ i) (hsel : ∀ (j : Nat) (o : Oper) cs b, ops[j]? = some o → o.op ≠ .select cs b) (hL : ¬ LetsOut Q) (hQ : ∀ e a w, e ≠ .normal → ¬ Q e a w)
    (hCD : ∀ listed w, G listed → C (listed.getD m true) w → D w) (hG : ∀ listed j, G listed → listed.getD i true = false → j ≠ i → j ∈ Region.ready md ops listed → G (listed.setIfInBounds j true)) :
    ∀ (f : Nat) (listed : Array Bool) (a : Act) (w : World), G listed →
      (∀ j oj, ops[j]? = some oj → j ≠ i → listed.getD j true = false → (∀ e ∈ oj.after, Region.binds md e = true → e.on ≠ i) → oi.apart ops oj = true) →
      i ∈ Region.ready md ops listed → (∀ w, D w → YieldsAt P ops w oi v a) →
      wpAnyF P md ops m C Q f (listed.setIfInBounds i true) (a.put oi.dst v) w → wpAnyF P md ops m C Q (f + 1) listed a w := by
  have hflag : ∀ listed : Array Bool, (listed.setIfInBounds i true).getD m true = listed.getD m true := fun listed => getD_set_ne true (Ne.symm him)
  intro f
  induction f with
  | zero =>
    intro listed a w hg _ hr hy H
    have hc : C (listed.getD m true) w := hflag listed ▸ H.c
    refine ⟨hc, fun h => (by rw [h] at hr; cases hr), fun j hj => ?_⟩
    by_cases hji : j = i
    · subst hji; exact wpOp_of_stOp (K := fun a' => a' = a.put oi.dst v) (fun a' e => e ▸ H) ((hy w (hCD _ _ hg hc)).stOp hi rfl)
    · have := ready_mono hj hji
      rw [H.2.1] at this
      cases this
  | succ f ih =>
    intro listed a w hg hfree hr hy H
    have hc : C (listed.getD m true) w := hflag listed ▸ H.c
    have hun := (mem_ready.1 hr).1
    refine ⟨hc, fun h => (by rw [h] at hr; cases hr), fun j hj => ?_⟩
    by_cases hji : j = i
    · subst hji; exact wpOp_of_stOp (K := fun a' => a' = a.put oi.dst v) (fun a' e => e ▸ H) ((hy w (hCD _ _ hg hc)).stOp hi rfl)
    · have h1 := H.2.2 j (ready_mono hj hji)
      obtain ⟨hjun, oj, hoj, hall⟩ := mem_ready.1 hj
      have hnot : ∀ e ∈ oj.after, Region.binds md e = true → e.on ≠ i := fun e he hb heq => by
        have h1 := hall e he hb
        rw [heq, getD_both hun] at h1
        cases h1
      have h2 := wpOp_put (C := D) hoj (hfree j oj hoj hji hjun hnot) (fun cs b => hsel i oi cs b hi) (fun cs b => hsel j oj cs b hoj) hL hQ hy h1
      have hfree' : ∀ k ok, ops[k]? = some ok → k ≠ i → (listed.setIfInBounds j true).getD k true = false →
          (∀ e ∈ ok.after, Region.binds md e = true → e.on ≠ i) → oi.apart ops ok = true := fun k ok hk hki hun hno => by
        refine hfree k ok hk hki ?_ hno
        by_cases hjk : j = k
        · subst hjk; exact hjun
        · rw [getD_set_ne true hjk] at hun; exact hun
      refine wpOp_mono (fun a' w' h3 => ih (listed.setIfInBounds j true) a' w' (hG listed j hg hun hji hj) hfree' (ready_mono hr (Ne.symm hji)) h3.1 ?_) h2
      rw [Array.setIfInBounds_comm _ _ hji]
      exact h3.2

def depB (md : Region.Mode) (ops : Array Oper) (m k : Nat) : Bool := match ops[m]? with
  | some o => o.after.any fun e => Region.binds md e && e.on == k
  | none => false
/-- An order: 0 what is not still, where nothing else is ready; 1 what is still throughout; 2 what is still till m is done. -/
def orderF (md : Region.Mode) (ops : Array Oper) (m : Nat) : List (Nat × Nat) → Array Bool → Bool
  | [], listed => (Region.ready md ops listed).isEmpty && listed.getD m true
  | (k, 0) :: r, listed => decide (Region.ready md ops listed = [k]) && orderF md ops m r (listed.setIfInBounds k true)
  | (k, 1) :: r, listed => ((Region.ready md ops listed).contains k && Region.free md ops listed k && decide (m ≠ k)) && orderF md ops m r (listed.setIfInBounds k true)
  | (k, _) :: r, listed => ((Region.ready md ops listed).contains k && Region.free md ops listed k && decide (m ≠ k) && !(listed.getD m true) && depB md ops m k) && orderF md ops m r (listed.setIfInBounds k true)
def wpMixF (P : Program) (ops : Array Oper) (m : Nat) (C : Bool → World → Prop) (Q : Exit → Act → World → Prop) : Bool → List (Nat × Nat) → Act → World → Prop
  | _, [], a, w => C true w ∧ Q .normal a w
  | f, (k, 0) :: r, a, w => C f w ∧ wpOp P ops Q k (fun a' w' => wpMixF P ops m C Q (f || k == m) r a' w') a w
  | f, (k, 1) :: r, a, w => ∃ o v, ops[k]? = some o ∧ (∀ f w, C f w → YieldsAt P ops w o v a) ∧ wpMixF P ops m C Q f r (a.put o.dst v) w
  | f, (k, _) :: r, a, w => ∃ o v, ops[k]? = some o ∧ (∀ w, C false w → YieldsAt P ops w o v a) ∧ wpMixF P ops m C Q f r (a.put o.dst v) w
theorem flag_set {listed : Array Bool} {k : Nat} (hk : k < listed.size) : (listed.setIfInBounds k true).getD m true = (listed.getD m true || k == m) := by
  by_cases h : k = m
  · subst h
    simp [hk]
  · rw [getD_set_ne true h]
    simp [h]
theorem ready_lt {listed : Array Bool} {k : Nat} (h : k ∈ Region.ready md ops listed) : k < listed.size := by
  have := (mem_ready.1 h).1
  rcases Nat.lt_or_ge k listed.size with h' | h'
  · exact h'
  · simp [Array.getElem?_eq_none h'] at this
theorem wpAnyF_mix (hsel : Region.noSelect ops = true) (hL : ¬ LetsOut Q) (hQ : ∀ e a w, e ≠ .normal → ¬ Q e a w) : ∀ (l : List (Nat × Nat)) (f : Bool) (listed : Array Bool) (a : Act) (w : World), listed.getD m true = f → orderF md ops m l listed = true → wpMixF P ops m C Q f l a w → wpAnyF P md ops m C Q l.length listed a w
  | [], f, listed, a, w, hf, hB, h => by
    simp only [orderF, Bool.and_eq_true] at hB
    exact ⟨by rw [hB.2]; exact h.1, by simpa using hB.1, h.2⟩
  | (k, 0) :: r, f, listed, a, w, hf, hB, h => by
    simp only [orderF, Bool.and_eq_true, decide_eq_true_eq] at hB
    refine ⟨by rw [hf]; exact h.1, fun e => (by rw [hB.1] at e; cases e), fun i hi => ?_⟩
    have hi' := hi
    rw [hB.1] at hi
    have e : i = k := by simpa using hi
    subst e
    exact wpOp_mono (fun a' w' h' => wpAnyF_mix hsel hL hQ r _ _ a' w' (by rw [flag_set (ready_lt hi'), hf]) hB.2 h') h.2
  | (k, 1) :: r, f, listed, a, w, hf, hB, h => by
    simp only [orderF, Bool.and_eq_true, decide_eq_true_eq] at hB
    obtain ⟨⟨⟨hr, hfr⟩, hne⟩, hB'⟩ := hB
    obtain ⟨o, v, ho, hy, h'⟩ := h
    have hr' : k ∈ Region.ready md ops listed := by simpa using hr
    refine wpAnyF_first (D := fun w => ∃ f, C f w) (G := fun _ => True) ho hne (Region.noSelect_spec hsel) hL hQ (fun _ _ _ h => ⟨_, h⟩) (fun _ _ _ _ _ _ => trivial) r.length listed a w trivial (Region.free_spec ho hfr) hr' (fun w ⟨f, hc⟩ => hy f w hc) (wpAnyF_mix hsel hL hQ r f _ _ _ ?_ hB' h')
    rw [flag_set (ready_lt hr'), hf]
    simp [Ne.symm hne]
  | (k, n + 2) :: r, f, listed, a, w, hf, hB, h => by
    simp only [orderF, Bool.and_eq_true, decide_eq_true_eq, Bool.not_eq_true'] at hB
    obtain ⟨⟨⟨⟨⟨hr, hfr⟩, hne⟩, hun⟩, hdep⟩, hB'⟩ := hB
    obtain ⟨o, v, ho, hy, h'⟩ := h
    have hr' : k ∈ Region.ready md ops listed := by simpa using hr
    refine wpAnyF_first (D := C false) (G := fun l => l.getD m true = false) ho hne (Region.noSelect_spec hsel) hL hQ (fun l w hg h => hg ▸ h) (fun l j hg hk hjk hj => ?_) r.length listed a w hun (Region.free_spec ho hfr) hr' hy (wpAnyF_mix hsel hL hQ r f _ _ _ ?_ hB' h')
    · have hjm : j ≠ m := fun e => by
        subst e
        obtain ⟨_, oj, hoj, hall⟩ := mem_ready.1 hj
        unfold depB at hdep
        rw [hoj] at hdep
        obtain ⟨e, he, hb⟩ := Array.any_eq_true'.1 hdep
        simp only [Bool.and_eq_true, beq_iff_eq] at hb
        have := hall e he hb.1
        rw [hb.2, getD_both hk] at this
        cases this
      rw [getD_set_ne true hjm]
      exact hg
    · rw [flag_set (ready_lt hr'), hf]
      simp [Ne.symm hne]
theorem wpMixF_take {f : Bool} {k : Nat} {o : Oper} {v : Value} {r : List (Nat × Nat)} {a : Act} {w : World} (ho : ops[k]? = some o) (hw : Region.wanted o (yielded ops a.tmps) = true) (hy : ∀ f w', C f w' → (execOp a.eval o).run P w' = .ok (.value v) w')
    (h : wpMixF P ops m C Q f r (a.put o.dst v) w) : wpMixF P ops m C Q f ((k, 1) :: r) a w := ⟨o, v, ho, fun f w' hc => .inl ⟨hw, .inl (hy f w' hc)⟩, h⟩
theorem wpMixF_till {f : Bool} {k : Nat} {o : Oper} {v : Value} {r : List (Nat × Nat)} {a : Act} {w : World} (ho : ops[k]? = some o) (hw : Region.wanted o (yielded ops a.tmps) = true) (hy : ∀ w', C false w' → (execOp a.eval o).run P w' = .ok (.value v) w')
    (h : wpMixF P ops m C Q f r (a.put o.dst v) w) : wpMixF P ops m C Q f ((k, 2) :: r) a w := ⟨o, v, ho, fun w' hc => .inl ⟨hw, .inl (hy w' hc)⟩, h⟩
theorem wpMixF_force {f : Bool} {k : Nat} {o : Oper} {r : List (Nat × Nat)} {a : Act} {w : World} (ho : ops[k]? = some o) (hC : C f w) (h : ∀ K' : Act → World → Prop, (∀ a w, wpMixF P ops m C Q (f || k == m) r a w → K' a w) → if Region.wanted o (yielded ops a.tmps) = true then Oper.wp P o a w K' Q else K' (a.put o.dst undef) w) : wpMixF P ops m C Q f ((k, 0) :: r) a w := ⟨hC, wpOp_step ho h⟩
theorem wpMixF_nil {f : Bool} {a : Act} {w : World} (hC : C true w) (h : Q .normal a w) : wpMixF P ops m C Q f [] a w := ⟨hC, h⟩
end

theorem region_mixF {P : Program} {Q : Exit → Act → World → Prop} {n lp id m : Nat} {a : Act} {w : World} {l : List Oper} {ml : List (Nat × Nat)} (C : Bool → World → Prop) (hm : P.follows .mixedOrders = true) (hsel : Region.noSelect l.toArray = true) (hd : l.all noDefer = true) (hlen : ml.length = l.toArray.size) (hm2 : (Array.replicate l.toArray.size false).getD m true = false) (hB : orderF .any l.toArray m ml (Array.replicate l.toArray.size false) = true)
    (h : ∀ PP : Act → World → Prop, (∀ a' w', Q .normal a' w' → PP a' w') → wpMixF P l.toArray m C (onlyN PP) false ml a w.drew) : (Code.region id l.toArray true).wpIn (Fence.wide.inRound lp) n P Q a w := by
  have hL : ¬ LetsOut (onlyN (Q .normal)) := by rintro ⟨_, _, h⟩; exact h
  have hQ : ∀ e a w, e ≠ Exit.normal → ¬ onlyN (Q .normal) e a w := by
    intro e a w he h
    cases e
    case normal => exact he rfl
    all_goals exact h
  have h1 := wpAny_of_f _ _ _ _ (wpAnyF_mix (md := .any) hsel hL hQ ml false _ a _ hm2 hB (h (Q .normal) (fun _ _ h => h)))
  rw [hlen] at h1
  refine wpIn_mono (Q := onlyN (Q .normal)) (wpIn_region_any hm (any_in (by simpa using List.all_eq_true.1 hd) hL _ _ _ _ h1)) ?_
  intro e a w h
  cases e
  case normal => exact h
  all_goals exact h.elim
end Go.Proofs.YthcljhfankooaabGreat
