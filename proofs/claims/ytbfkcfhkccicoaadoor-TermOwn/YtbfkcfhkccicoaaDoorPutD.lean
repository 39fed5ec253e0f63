/- Putting a value into a store, as a plain function. -/
import Derived.Test.YtbfkcfhkccicoaaDoorStoF
namespace Go.Proofs.YtbfkcfhkccicoaaDoor
open Go.RowKit Go.Maps

/-- The number of the node with that word: what is answered, and what the store knows then. -/
def putNodeV (S : SS) (word : ByteArray) (n : Nd) : (Int × Int) × SS :=
  if (findV S word n).2 = true then (((findV S word n).1, 0), S)
  else if 16384 ≤ S.ns.length then ((0, 18), S)
  else (((S.ns.length : Int), 0), ⟨S.xs, Sym.put S.ws word, S.ns ++ [(n.at0 (Sym.ansN S.ws word)).list]⟩)

/-- The node of a value whose first k Args are set: their kinds and numbers. -/
def nodeAt (v : V) (nums : Nat → Int) (k : Nat) : Nd := fun j =>
  if j = 0 then 0 else if j = 1 then (v.len : Int) else if j < 10 then (if j - 2 < k then (v.kid (j - 2)).kind else 0) else (if j - 10 < k then nums (j - 10) else 0)

/-- Args one behind another: 'none' as soon as one is refused. The state, the numbers so far, the error. -/
structure PS where
  S : SS
  nums : Nat → Int
  err : Int
def argsTo (f : Nat → SS → (Int × Int) × SS) : Nat → SS → PS
  | 0, S => ⟨S, fun _ => 0, 0⟩
  | k + 1, S =>
    let r := argsTo f k S
    if r.err = 0 then
      let q := f k r.S
      ⟨q.2, fun j => if j = k then q.1.1 else r.nums j, q.1.2⟩
    else r

namespace V
def putV : V → SS → (Int × Int) × SS
  | none, S => ((0, 0), S)
  | mk k n s a l c f, S =>
    if k = 1 then ((n, 0), S)
    else if k = 2 then (((Sym.ansN S.xs s : Int), Sym.ansE S.xs s), ⟨Sym.put S.xs s, S.ws, S.ns⟩)
    else
      let r := argsTo (fun i S => (f i).putV S) l S
      if r.err = 0 then putNodeV r.S s (nodeAt (mk k n s a l c f) r.nums l) else ((0, r.err), r.S)
theorem putV_num {v : V} (h : v.kind = 1) (S : SS) : v.putV S = ((v.num, 0), S) := by
  cases v with
  | none => cases h
  | mk k n s a l c f => exact if_pos h
theorem putV_sym {v : V} (h : v.kind = 2) (S : SS) : v.putV S = (((Sym.ansN S.xs v.str : Int), Sym.ansE S.xs v.str), ⟨Sym.put S.xs v.str, S.ws, S.ns⟩) := by
  cases v with
  | none => cases h
  | mk k n s a l c f =>
    have h2 : k = 2 := h
    show (if k = 1 then _ else if k = 2 then _ else _) = _
    rw [if_neg (by omega), if_pos h2]; rfl
theorem putV_con {v : V} (h : v.kind = 3) (S : SS) : v.putV S = (if (argsTo (fun i S => (v.kid i).putV S) v.len S).err = 0 then
    putNodeV (argsTo (fun i S => (v.kid i).putV S) v.len S).S v.str (nodeAt v (argsTo (fun i S => (v.kid i).putV S) v.len S).nums v.len) else ((0, (argsTo (fun i S => (v.kid i).putV S) v.len S).err), (argsTo (fun i S => (v.kid i).putV S) v.len S).S)) := by
  cases v with
  | none => cases h
  | mk k n s a l c f =>
    have h2 : k = 3 := h
    show (if k = 1 then _ else if k = 2 then _ else _) = _
    rw [if_neg (by omega), if_neg (by omega)]; rfl
/-- The blocks that a value's Args lie in. -/
def uses : V → Nat → Prop
  | none, _ => False
  | mk _ _ _ a l _ f, k => (0 < l ∧ a.map Addr.block = some k) ∨ ∃ i, i < l ∧ (f i).uses k
theorem uses_eq (v : V) (k : Nat) : v.uses k ↔ (0 < v.len ∧ v.addr.map Addr.block = some k) ∨ ∃ i, i < v.len ∧ (v.kid i).uses k := by
  cases v with
  | none => simp [uses, len]
  | mk => exact Iff.rfl
end V

theorem V.At.turn' {Q : Nat → Prop} {B : Nat} {w w' : World} (t : Turn Q w w') : ∀ v : V, v.At B w → (∀ k, v.uses k → ¬ Q k) → v.At B w' := by
  refine V.ind fun v ih h hu => ?_
  have hf := h.flat
  refine V.At.of ⟨hf.k0, hf.k1, hf.n0, hf.n1, hf.s, hf.l, fun i hi => ?_⟩ (fun i hi => ih i hi (h.kid i hi) (fun k e => hu k ((V.uses_eq v k).2 (.inr ⟨i, hi, e⟩))))
  obtain ⟨b, o, e, hb, hcell⟩ := hf.at_ i hi
  have hnb : ¬ Q b := hu b ((V.uses_eq v b).2 (.inl ⟨by omega, by rw [e]; rfl⟩))
  refine ⟨b, o, e, hb, hcell.stays fun p u hp hu2 => ?_⟩
  have hlt := World.block_lt_of_cell? w p hu2
  have : w'.cell? p = w.cell? p := by
    simp only [World.cell?]
    rw [t.block _ hlt (by rw [hp]; exact hnb)]
  exact this.trans hu2
theorem V.uses_lt {B : Nat} {w : World} : ∀ v : V, v.At B w → ∀ k, v.uses k → k < B := by
  refine V.ind fun v ih h k hk => ?_
  rcases (V.uses_eq v k).1 hk with ⟨h1, h2⟩ | ⟨i, hi, h2⟩
  · obtain ⟨b, o, e, hb, _⟩ := h.flat.at_ 0 h1
    rw [e] at h2
    simp at h2
    omega
  · exact ih i hi (h.kid i hi) k h2

theorem argsTo_succ (f : Nat → SS → (Int × Int) × SS) (k : Nat) (S : SS) : argsTo f (k + 1) S = if (argsTo f k S).err = 0 then
    ⟨(f k (argsTo f k S).S).2, fun j => if j = k then (f k (argsTo f k S).S).1.1 else (argsTo f k S).nums j, (f k (argsTo f k S).S).1.2⟩ else argsTo f k S := rfl
theorem argsTo_stop {f : Nat → SS → (Int × Int) × SS} {k : Nat} {S : SS} (h : ¬ (argsTo f k S).err = 0) : ∀ m, k ≤ m → argsTo f m S = argsTo f k S := fun m hm => by
  induction m with
  | zero => obtain rfl : k = 0 := by omega
            rfl
  | succ m ih =>
    by_cases e : k = m + 1
    · subst e; rfl
    · have := ih (by omega)
      rw [argsTo_succ, this, if_neg h]
end Go.Proofs.YtbfkcfhkccicoaaDoor
