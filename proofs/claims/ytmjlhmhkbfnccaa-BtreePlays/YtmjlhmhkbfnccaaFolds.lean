/- Tuples put in one behind the other. -/
import Derived.Test.YtmjlhmhkbfnccaaTups
namespace Go.Proofs.Ytmjlhmhkbfnccaa
open Go.RowKit

def insAll (o : List Int) (s l : List (List Int)) : List (List Int) := l.foldl (fun s x => insTo o x s) s
theorem insAll_snoc (o : List Int) (s l : List (List Int)) (x : List Int) : insAll o s (l ++ [x]) = insTo o x (insAll o s l) := by simp [insAll, List.foldl_append]
theorem insX_mem {o x y : List Int} {xs : List (List Int)} : y ∈ insX o x xs ↔ y = x ∨ y ∈ xs := by
  unfold insX
  have h := List.takeWhile_append_dropWhile (p := fun y => decide (cmpA o y x < 0)) (l := xs)
  generalize xs.takeWhile (fun y => decide (cmpA o y x < 0)) = A at h ⊢
  generalize xs.dropWhile (fun y => decide (cmpA o y x < 0)) = B at h ⊢
  rw [← h]
  simp only [List.mem_append, List.mem_cons]
  constructor
  · rintro (h | h | h)
    · exact .inr (.inl h)
    · exact .inl h
    · exact .inr (.inr h)
  · rintro (h | h | h)
    · exact .inr (.inl h)
    · exact .inl h
    · exact .inr (.inr h)
theorem insX_length {o x : List Int} {xs : List (List Int)} : (insX o x xs).length = xs.length + 1 := by
  unfold insX
  have h := congrArg List.length (List.takeWhile_append_dropWhile (p := fun y => decide (cmpA o y x < 0)) (l := xs))
  rw [List.length_append] at h
  rw [List.length_append, List.length_cons]
  omega
theorem insTo_mem {o x y : List Int} {xs : List (List Int)} (h : xs.length < 1024) : y ∈ insTo o x xs ↔ (y ∈ xs ∨ (y = x ∧ y.length = o.length)) := by
  unfold insTo insBL
  by_cases hf : fitB o x = true
  · have hf2 := fitB_true.1 hf
    by_cases hc : x ∈ xs
    · rw [if_neg (by simp [hf, hc])]
      constructor
      · exact .inl
      · rintro (h | ⟨rfl, _⟩)
        · exact h
        · exact hc
    · rw [if_pos (by simp [hf, h, hc]), insX_mem]
      constructor
      · rintro (rfl | h)
        · exact .inr ⟨rfl, hf2⟩
        · exact .inl h
      · rintro (h | ⟨h, _⟩)
        · exact .inr h
        · exact .inl h
  · rw [if_neg (by simp [hf])]
    constructor
    · exact .inl
    · rintro (h | ⟨rfl, h2⟩)
      · exact h
      · exact absurd (fitB_true.2 h2) hf
theorem insTo_length {o x : List Int} {xs : List (List Int)} : (insTo o x xs).length ≤ xs.length + 1 := by
  unfold insTo
  split
  · rw [insX_length]; omega
  · omega
theorem insAll_mem (o : List Int) : ∀ (l s : List (List Int)) (y : List Int), s.length + l.length ≤ 1024 → (y ∈ insAll o s l ↔ (y ∈ s ∨ (y ∈ l ∧ y.length = o.length)))
  | [], s, y, _ => by simp [insAll]
  | x :: r, s, y, h => by
    rw [List.length_cons] at h
    have h1 : insAll o s (x :: r) = insAll o (insTo o x s) r := rfl
    have h2 := insTo_length (o := o) (x := x) (xs := s)
    rw [h1, insAll_mem o r (insTo o x s) y (by omega), insTo_mem (by omega), List.mem_cons]
    constructor
    · rintro ((h | ⟨h, h3⟩) | ⟨h, h3⟩)
      · exact .inl h
      · exact .inr ⟨.inl h, h3⟩
      · exact .inr ⟨.inr h, h3⟩
    · rintro (h | ⟨h | h, h3⟩)
      · exact .inl (.inl h)
      · exact .inl (.inr ⟨h, h3⟩)
      · exact .inr ⟨h, h3⟩
theorem up_same {o : List Int} {xs ys : List (List Int)} (ho : right o = true) (hx : Up o xs) (hy : Up o ys) (h : ∀ y, y ∈ xs ↔ y ∈ ys) : xs = ys := by
  have mk : ∀ zs : List (List Int), Up o zs → Rises o (zs.map fun z => (undef, z)) := fun zs hz => by
    refine ⟨?_, fun a ha => ?_⟩
    · rw [List.pairwise_map]; exact hz.1
    · obtain ⟨z, hz2, rfl⟩ := List.mem_map.1 ha
      exact hz.2.1 z hz2
  have hm : ∀ zs : List (List Int), (zs.map fun z => ((undef, z) : Item)).map (·.2) = zs := fun zs => by
    induction zs with
    | nil => rfl
    | cons z r ih => rw [List.map_cons, List.map_cons, ih]
  have := rises_same ho _ _ (mk xs hx) (mk ys hy) (fun x => by
    rw [hasI_map, hasI_map, hm, hm, Bool.eq_iff_iff, List.contains_iff_mem, List.contains_iff_mem]
    exact h x)
  rw [hm, hm] at this
  exact this

/-- The list from behind, begun elsewhere. -/
def backBy (xs : List (List Int)) (b : Nat) (k : Nat) : List (List Int) := (List.range k).map fun j => xs.getD (xs.length - 1 - (j + b) % xs.length) []
theorem backBy_succ (xs : List (List Int)) (b k : Nat) : backBy xs b (k + 1) = backBy xs b k ++ [xs.getD (xs.length - 1 - (k + b) % xs.length) []] := by simp [backBy, List.range_succ]
theorem backBy_mem {xs : List (List Int)} {b : Nat} (hb : b < xs.length) (y : List Int) : y ∈ backBy xs b xs.length ↔ y ∈ xs := by
  have get : ∀ i, i < xs.length → xs.getD i [] ∈ xs := fun i hi => by
    rw [List.getD, List.getElem?_eq_getElem hi]
    exact List.getElem_mem hi
  constructor
  · intro h
    obtain ⟨j, hj, rfl⟩ := List.mem_map.1 h
    exact get _ (by omega)
  · intro h
    obtain ⟨i, hi, rfl⟩ := List.getElem_of_mem h
    refine List.mem_map.2 ?_
    have key : ∃ j, j < xs.length ∧ (j + b) % xs.length = xs.length - 1 - i := by
      by_cases ht : b ≤ xs.length - 1 - i
      · exact ⟨xs.length - 1 - i - b, by omega, by rw [Nat.sub_add_cancel ht, Nat.mod_eq_of_lt (by omega)]⟩
      · refine ⟨xs.length - 1 - i + xs.length - b, by omega, ?_⟩
        rw [Nat.sub_add_cancel (by omega), Nat.add_mod_right, Nat.mod_eq_of_lt (by omega)]
    obtain ⟨j, hj, e⟩ := key
    refine ⟨j, List.mem_range.2 hj, ?_⟩
    rw [e, show xs.length - 1 - (xs.length - 1 - i) = i by omega, List.getD, List.getElem?_eq_getElem hi]
    rfl
theorem insAll_back {o : List Int} {xs : List (List Int)} {b : Nat} (ho : right o = true) (hb : b < xs.length) (hl : xs.length ≤ 1024) (h1 : Up o (insAll o [] xs)) (h2 : Up o (insAll o [] (backBy xs b xs.length))) : insAll o [] xs = insAll o [] (backBy xs b xs.length) :=
  up_same ho h1 h2 (fun y => by
    rw [insAll_mem o _ _ _ (by simpa using hl), insAll_mem o _ _ _ (by simpa [backBy] using hl), backBy_mem hb])
end Go.Proofs.Ytmjlhmhkbfnccaa
