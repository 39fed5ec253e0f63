/- Plain facts on a list of texts with numbers, no program in them: where a text stands, what comes when it is put, and that a map read key by key follows. -/
import Derived.Maps.OwnSet
namespace Go.Proofs.YtbfkcfhkccicoaaDoor.Sym
open Go.Maps

/-- Where a text stands in a list, counted from k on. -/
def place : List ByteArray → ByteArray → Nat → Option Nat
  | [], _, _ => none
  | x :: r, s, k => if x = s then some k else place r s (k + 1)

/-- Is it there; its number, 0 if it is not there. -/
def there (xs : List ByteArray) (s : ByteArray) : Bool := (place xs s 0).isSome
def num (xs : List ByteArray) (s : ByteArray) : Nat := (place xs s 0).getD 0

/-- The list behind a put, the number and the error that it answers. -/
def put (xs : List ByteArray) (s : ByteArray) : List ByteArray := if there xs s = true then xs else if 16384 ≤ xs.length then xs else xs ++ [s]
def ansN (xs : List ByteArray) (s : ByteArray) : Nat := if there xs s = true then num xs s else if 16384 ≤ xs.length then 0 else xs.length
def ansE (xs : List ByteArray) (s : ByteArray) : Int := if there xs s = true then 0 else if 16384 ≤ xs.length then 18 else 0

theorem place_bounds : ∀ (xs : List ByteArray) (s : ByteArray) (k j : Nat), place xs s k = some j → k ≤ j ∧ j < k + xs.length ∧ xs[j - k]? = some s
  | [], _, _, _, h => by simp [place] at h
  | x :: r, s, k, j, h => by
    unfold place at h
    split at h
    · rename_i e
      have e2 : k = j := by simpa using h
      subst e2
      simp [e]
    · obtain ⟨h1, h2, h3⟩ := place_bounds r s (k + 1) j h
      refine ⟨by omega, by simp; omega, ?_⟩
      have e : j - k = (j - (k + 1)) + 1 := by omega
      rw [e, List.getElem?_cons_succ]
      exact h3

theorem place_none : ∀ (xs : List ByteArray) (s : ByteArray) (k : Nat), place xs s k = none → s ∉ xs
  | [], _, _, _ => by simp
  | x :: r, s, k, h => by
    unfold place at h
    split at h
    · cases h
    · rename_i e
      have := place_none r s (k + 1) h
      simp only [List.mem_cons, not_or]
      exact ⟨fun e2 => e e2.symm, this⟩

theorem place_snoc : ∀ (xs : List ByteArray) (t s : ByteArray) (k : Nat), place (xs ++ [t]) s k = match place xs s k with | some j => some j | none => if t = s then some (k + xs.length) else none
  | [], t, s, k => by simp [place]
  | x :: r, t, s, k => by
    simp only [List.cons_append, place]
    by_cases e : x = s
    · simp [e]
    · simp only [e, if_false]
      rw [place_snoc r t s (k + 1)]
      cases place r s (k + 1) with
      | some j => rfl
      | none => simp only [List.length_cons]; rw [show k + 1 + r.length = k + (r.length + 1) by omega]

/-- The first k are unlike s, the one behind is s. -/
theorem place_at (xs : List ByteArray) (s : ByteArray) : ∀ (k b : Nat), (∀ j, j < k → xs[j]? ≠ some s) → xs[k]? = some s → place xs s b = some (b + k) := by
  induction xs with
  | nil => intro k b _ h; simp at h
  | cons x r ih =>
    intro k b hb hk
    unfold place
    cases k with
    | zero =>
      have : x = s := by simpa using hk
      simp [this]
    | succ k =>
      have h0 : x ≠ s := fun e => hb 0 (by omega) (by simp [e])
      simp only [h0, if_false]
      rw [ih k (b + 1) (fun j hj => by have := hb (j + 1) (by omega); simpa using this) (by simpa using hk)]
      congr 1; omega

theorem place_out (xs : List ByteArray) (s : ByteArray) (b : Nat) (h : ∀ j, j < xs.length → xs[j]? ≠ some s) : place xs s b = none := by
  cases e : place xs s b with
  | none => rfl
  | some j =>
    obtain ⟨h1, h2, h3⟩ := place_bounds xs s b j e
    exact absurd h3 (h (j - b) (by omega))

theorem there_at {xs : List ByteArray} {s : ByteArray} {k : Nat} (hb : ∀ j, j < k → xs[j]? ≠ some s) (hk : xs[k]? = some s) : there xs s = true ∧ num xs s = k := by
  have := place_at xs s k 0 hb hk
  simp [there, num, this]
theorem there_out {xs : List ByteArray} {s : ByteArray} (h : ∀ j, j < xs.length → xs[j]? ≠ some s) : there xs s = false ∧ num xs s = 0 := by
  have := place_out xs s 0 h
  simp [there, num, this]
theorem num_of_not {xs : List ByteArray} {s : ByteArray} (h : there xs s = false) : num xs s = 0 := by
  unfold there at h
  unfold num
  cases e : place xs s 0 with
  | none => rfl
  | some j => rw [e] at h; cases h
theorem num_at {xs : List ByteArray} {s : ByteArray} (h : there xs s = true) : xs[num xs s]? = some s ∧ num xs s < xs.length := by
  unfold there at h
  unfold num
  cases e : place xs s 0 with
  | none => rw [e] at h; cases h
  | some j =>
    obtain ⟨_, h2, h3⟩ := place_bounds xs s 0 j e
    simp at h3 h2
    exact ⟨by simpa using h3, by simpa using h2⟩
theorem num_le (xs : List ByteArray) (s : ByteArray) : num xs s ≤ xs.length := by
  cases e : there xs s with
  | true => exact Nat.le_of_lt (num_at e).2
  | false => rw [num_of_not e]; exact Nat.zero_le _

theorem there_snoc (xs : List ByteArray) (t s : ByteArray) : there (xs ++ [t]) s = (there xs s || decide (t = s)) := by
  unfold there
  rw [place_snoc]
  cases place xs s 0 with
  | some j => simp
  | none => by_cases e : t = s <;> simp [e]
theorem num_snoc_old {xs : List ByteArray} {t s : ByteArray} (h : there xs s = true) : num (xs ++ [t]) s = num xs s := by
  unfold there at h
  unfold num
  rw [place_snoc]
  cases e : place xs s 0 with
  | none => rw [e] at h; cases h
  | some j => rfl
theorem num_snoc_new {xs : List ByteArray} {s : ByteArray} (h : there xs s = false) : num (xs ++ [s]) s = xs.length := by
  unfold there at h
  unfold num
  rw [place_snoc]
  cases e : place xs s 0 with
  | none => simp
  | some j => rw [e] at h; cases h
theorem num_snoc_other {xs : List ByteArray} {t s : ByteArray} (h : t ≠ s) : num (xs ++ [t]) s = num xs s := by
  unfold num
  rw [place_snoc]
  cases e : place xs s 0 with
  | none => simp [h]
  | some j => rfl

theorem put_prefix (xs : List ByteArray) (s : ByteArray) : xs <+: put xs s := by
  unfold put
  split
  · exact List.prefix_refl _
  · split
    · exact List.prefix_refl _
    · exact List.prefix_append _ _
theorem put_length_le (xs : List ByteArray) (s : ByteArray) : (put xs s).length ≤ xs.length + 1 := by
  unfold put
  split
  · omega
  · split
    · omega
    · simp
theorem put_length_max (xs : List ByteArray) (s : ByteArray) (h : xs.length ≤ 16384) : (put xs s).length ≤ 16384 := by
  unfold put
  split
  · omega
  · split
    · omega
    · simp; omega
theorem put_mem {xs : List ByteArray} {s x : ByteArray} (h : x ∈ put xs s) : x ∈ xs ∨ x = s := by
  unfold put at h
  split at h
  · exact .inl h
  · split at h
    · exact .inl h
    · simpa using h
theorem ansN_le (xs : List ByteArray) (s : ByteArray) : ansN xs s ≤ xs.length := by
  unfold ansN
  split
  · exact num_le _ _
  · split <;> omega
theorem put_room {xs : List ByteArray} {s : ByteArray} (h : xs.length < 16384) : ansE xs s = 0 ∧ (put xs s)[ansN xs s]? = some s ∧ there (put xs s) s = true ∧ num (put xs s) s = ansN xs s := by
  unfold ansE put ansN
  cases e : there xs s with
  | true =>
    simp only [if_true]
    exact ⟨trivial, (num_at e).1, e, trivial⟩
  | false =>
    have h2 : ¬ 16384 ≤ xs.length := by omega
    simp only [h2, if_false, Bool.false_eq_true]
    refine ⟨trivial, by simp, by rw [there_snoc]; simp, num_snoc_new e⟩
theorem put_keeps {xs : List ByteArray} {s t : ByteArray} (h : there xs t = true) : there (put xs s) t = true ∧ num (put xs s) t = num xs t := by
  unfold put
  split
  · exact ⟨h, rfl⟩
  · split
    · exact ⟨h, rfl⟩
    · exact ⟨by rw [there_snoc, h]; rfl, num_snoc_old h⟩

/-- What a text reads as, as a key of a map. -/
def keyL (s : ByteArray) : Lit := .string s.data.toList
theorem keyL_key (s : ByteArray) : WideAt.IsKeyLit (keyL s) := trivial
theorem keyL_inj {s t : ByteArray} (h : keyL s = keyL t) : s = t := by
  have h1 : s.data.toList = t.data.toList := by simpa [keyL] using h
  exact ByteArray.ext (Array.toList_inj.1 h1)

/-- A map as read holds just the list's texts, each with its number. -/
def Ties (D : DataW Unit) (xs : List ByteArray) : Prop :=
  IsMap D ∧ ∀ s, Maps.has D (keyL s) = there xs s ∧ D.atKey (keyL s) (.lit (.int .i64 0)) = .lit (.int .i64 (num xs s))

theorem ties_empty : Ties (.map []) [] := ⟨isMap_empty, fun _ => ⟨rfl, rfl⟩⟩
theorem Ties.snoc {D : DataW Unit} {xs : List ByteArray} {s : ByteArray} (h : Ties D xs) (hs : there xs s = false) : Ties (D.put (keyL s) (.lit (.int .i64 (xs.length : Int)))) (xs ++ [s]) := by
  refine ⟨h.1.put _ _, fun t => ?_⟩
  by_cases e : s = t
  · subst e
    rw [has_put_same h.1 (keyL_key s), atKey_put_same h.1 (keyL_key s), there_snoc, num_snoc_new hs]
    simp
  · have hk : keyL t ≠ keyL s := fun e2 => e (keyL_inj e2).symm
    rw [has_put_other hk, atKey_put_other hk, (h.2 t).1, (h.2 t).2, there_snoc, num_snoc_other e]
    simp [e]
end Go.Proofs.YtbfkcfhkccicoaaDoor.Sym
