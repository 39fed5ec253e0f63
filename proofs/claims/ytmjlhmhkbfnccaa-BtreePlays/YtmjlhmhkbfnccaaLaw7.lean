/- One step of the one order. -/
import Derived.Test.YtmjlhmhkbfnccaaLaw6
namespace Go.Proofs.Ytmjlhmhkbfnccaa
open Go.RowKit Go.Shelf

section
variable {P : Program} {ops : Array Oper} {Q : Exit → Act → World → Prop} {C : World → Prop} {r : List (Nat × Bool)} {a : Act} {w : World} {k : Nat} {o : Oper}
theorem wpMix_take {v : Value} (ho : ops[k]? = some o) (hw : Region.wanted o (yielded ops a.tmps) = true) (hy : ∀ w', C w' → (execOp a.eval o).run P w' = .ok (.value v) w')
    (h : wpMix P ops C Q r (a.put o.dst v) w) : wpMix P ops C Q ((k, true) :: r) a w := ⟨o, v, ho, fun w' hc => .inl ⟨hw, .inl (hy w' hc)⟩, h⟩
theorem wpMix_pass (ho : ops[k]? = some o) (hw : Region.wanted o (yielded ops a.tmps) = false) (h : wpMix P ops C Q r (a.put o.dst undef) w) : wpMix P ops C Q ((k, true) :: r) a w := ⟨o, undef, ho, fun _ _ => .inr ⟨hw, rfl⟩, h⟩
theorem wpMix_force (ho : ops[k]? = some o) (hC : C w) (h : ∀ K' : Act → World → Prop, (∀ a w, wpMix P ops C Q r a w → K' a w) → if Region.wanted o (yielded ops a.tmps) = true then Oper.wp P o a w K' Q else K' (a.put o.dst undef) w) : wpMix P ops C Q ((k, false) :: r) a w := ⟨hC, wpOp_step ho h⟩
theorem wpMix_nil (hC : C w) (h : Q .normal a w) : wpMix P ops C Q [] a w := ⟨hC, h⟩
/-- What stands behind the region alone. -/
def onlyN (PP : Act → World → Prop) : Exit → Act → World → Prop
  | .normal, a, w => PP a w
  | _, _, _ => False
theorem region_mixN {id : Nat} {md : List (Nat × Bool)} (C : World → Prop) (hm : P.follows .mixedOrders = true) (hsel : Region.noSelect ops = true) (hlen : md.length = ops.size) (hB : orderB .any ops md (Array.replicate ops.size false) = true)
    (h : ∀ PP : Act → World → Prop, (∀ a' w', Q .normal a' w' → PP a' w') → wpMix P ops C (onlyN PP) md a w.drew) : (Code.region id ops true).wp P Q a w := by
  refine wp_mono (region_mix (C := C) md hm hsel ?_ ?_ hlen hB (h (Q .normal) (fun _ _ h => h))) ?_
  · rintro ⟨_, _, h⟩; exact h
  · intro e a w he h
    cases e
    case normal => exact he rfl
    all_goals exact h
  · intro e a w h
    cases e
    case normal => exact h
    all_goals exact h.elim
/-- The frame, written out. -/
theorem wpMix_at {l : List (Nat × Bool)} {b : Act} (e : a = b) (h : wpMix P ops C Q l b w) : wpMix P ops C Q l a w := e ▸ h
end
end Go.Proofs.Ytmjlhmhkbfnccaa
