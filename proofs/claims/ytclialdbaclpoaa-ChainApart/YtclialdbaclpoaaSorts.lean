/- A row that is sorted and in which each number stands once. -/
import Derived.Test.YtclialdbaclpoaaLibs
import Derived.Test.YtclialdbaclpoaaNones
import Derived.Test.YtclialdbaclpoaaServe
import Derived.Sort.OwnSortedInts
import Derived.Lib.RowBridge
namespace Go.Proofs.Ytclialdbaclpoaa
open Go.RowKit Go.Shelf Go.Maps Go.Sort

/-- Each once, rising. -/
def uniq (l : List Int) : List Int := Lib.compact (l.mergeSort fun x y => decide (x ≤ y))
theorem sorted_le (l : List Int) : (l.mergeSort fun x y => decide (x ≤ y)).Pairwise fun x y => x ≤ y := by
  have := List.pairwise_mergeSort (le := fun x y : Int => decide (x ≤ y)) (fun a b c h1 h2 => by simp at *; omega) (fun a b => by simp; omega) l
  exact this.imp (fun h => by simpa using h)
theorem compact_up (d : Array Int) (hd : ∀ i j, i < j → j < d.size → d[i]! ≤ d[j]!) : ∀ m, m ≤ d.size → (Lib.compactUpTo d m).Pairwise (fun x y => x < y) ∧ (∀ x, x ∈ Lib.compactUpTo d m ↔ ∃ j, j < m ∧ d[j]! = x)
  | 0, _ => ⟨by simp [Lib.compactUpTo], fun x => by simp [Lib.compactUpTo]⟩
  | m + 1, hm => by
    obtain ⟨h1, h2⟩ := compact_up d hd m (by omega)
    rw [Lib.compactUpTo_succ]
    cases hk : Lib.keeps d m with
    | true =>
      simp only [if_true]
      refine ⟨?_, fun x => ?_⟩
      · rw [List.pairwise_append]
        refine ⟨h1, List.pairwise_singleton _ _, fun a ha b hb => ?_⟩
        obtain rfl : b = d[m]! := by simpa using hb
        obtain ⟨j, hj, rfl⟩ := (h2 a).1 ha
        have hle := hd j m hj (by omega)
        have hm1 := hd (m - 1) m (by omega) (by omega)
        have hjm : d[j]! ≤ d[m - 1]! := by
          by_cases e : j = m - 1
          · rw [e]; exact Int.le_refl _
          · exact hd j (m - 1) (by omega) (by omega)
        have hne : d[m - 1]! ≠ d[m]! := by
          unfold Lib.keeps at hk
          simp at hk
          intro e
          rcases hk with g | g
          · omega
          · exact g e.symm
        omega
      · rw [List.mem_append, h2]
        constructor
        · rintro (⟨j, hj, e⟩ | e)
          · exact ⟨j, by omega, e⟩
          · exact ⟨m, by omega, (List.mem_singleton.1 e).symm⟩
        · rintro ⟨j, hj, e⟩
          by_cases g : j = m
          · subst g; exact .inr (by simp [e])
          · exact .inl ⟨j, by omega, e⟩
    | false =>
      simp only [Bool.false_eq_true, if_false, List.append_nil]
      refine ⟨h1, fun x => ?_⟩
      rw [h2]
      constructor
      · rintro ⟨j, hj, e⟩
        exact ⟨j, by omega, e⟩
      · rintro ⟨j, hj, e⟩
        by_cases g : j = m
        · subst g
          unfold Lib.keeps at hk
          simp at hk
          exact ⟨j - 1, by omega, by rw [← e]; exact hk.2.symm⟩
        · exact ⟨j, by omega, e⟩
theorem uniq_up (l : List Int) : (uniq l).Pairwise (fun x y => x < y) ∧ ∀ x, x ∈ uniq l ↔ x ∈ l := by
  obtain ⟨zs, hz⟩ : ∃ zs, zs = l.mergeSort fun x y => decide (x ≤ y) := ⟨_, rfl⟩
  have hs : zs.Pairwise fun x y => x ≤ y := by rw [hz]; exact sorted_le l
  have hm : ∀ x, x ∈ zs ↔ x ∈ l := fun x => by rw [hz]; exact (List.mergeSort_perm l _).mem_iff
  have h := compact_up zs.toArray (fun i j hij hj => by
    rw [List.size_toArray] at hj
    rw [getElem!_pos _ i (by rw [List.size_toArray]; omega), getElem!_pos _ j (by rw [List.size_toArray]; omega)]
    simp only [List.getElem_toArray]
    exact (List.pairwise_iff_getElem.1 hs) i j (by omega) hj hij) zs.length (by simp)
  unfold uniq
  rw [← hz]
  refine ⟨h.1, fun x => ?_⟩
  show x ∈ Lib.compactUpTo zs.toArray zs.length ↔ _
  rw [h.2, ← hm, List.mem_iff_getElem]
  constructor
  · rintro ⟨j, hj, e⟩
    rw [getElem!_pos _ j (by rw [List.size_toArray]; exact hj)] at e
    exact ⟨j, hj, by simpa using e⟩
  · rintro ⟨j, hj, e⟩
    refine ⟨j, hj, ?_⟩
    rw [getElem!_pos _ j (by rw [List.size_toArray]; exact hj)]
    simpa using e
theorem uniq_len (l : List Int) : (uniq l).length ≤ l.length := by
  have := Lib.compact_length_le (l.mergeSort fun x y => decide (x ≤ y))
  rw [List.length_mergeSort] at this
  exact this

theorem sort_own {base : Nat} (w : World) (v : Value) (l : List Int) (h : OwnI base w v l) (hl : l ≠ []) (hn : l.length ≤ 2000) :
    Calls Try.prog 28 #[v] w fun e w' => e = .returned (.tuple #[]) ∧ OwnI base w' v (l.mergeSort fun x y => decide (x ≤ y)) ∧ Keeps (fun b => some b = v.ownBlock) w w' := by
  rcases h.2 with ⟨_, h0⟩ | ⟨g, cap, cur, rfl, h2, h3, h4, h5, h6, h7⟩
  · exact absurd (List.eq_nil_of_length_eq_zero h0) hl
  · refine (Try.slices_Sort_int g 0 cap l w (holds_of_blockI h3 (by rw [← h7, Nat.mul_one])) (lt_heap h3) (by omega)).mono ?_
    rintro e w' ⟨rfl, n, os, rfl⟩
    refine ⟨rfl, ?_, keeps_grown (grownBy_sortedI _) (fun b hb => hb)⟩
    unfold OwnI
    rw [List.length_mergeSort]
    exact ownsRow_sortedI (List.length_mergeSort _) h2 h3 h4 h5 h6
theorem compact_own {base : Nat} (w : World) (v : Value) (l : List Int) (h : OwnI base w v l) (hl : l ≠ []) (hn : l.length ≤ 2000) :
    Calls Try.prog 29 #[v] w fun e w' => ∃ g c, e = .returned (.slice (some ⟨g, 0, none⟩) (Lib.compact l).length c) ∧ some g = v.ownBlock ∧ base ≤ g ∧ Arr w' g (Lib.compact l).length (fun j => (Lib.compact l).getD j 0) ∧ Keeps (fun b => some b = v.ownBlock) w w' := by
  rcases h.2 with ⟨_, h0⟩ | ⟨g, cap, cur, rfl, h2, h3, h4, h5, h6, h7⟩
  · exact absurd (List.eq_nil_of_length_eq_zero h0) hl
  · refine (Try.slices_Compact_int g 0 cap l w (holds_of_blockI h3 (by rw [← h7, Nat.mul_one])) (by omega) h4).mono ?_
    rintro e w' ⟨rfl, q, rfl⟩
    have hle := Lib.compact_length_le l
    obtain ⟨ts, hts⟩ : ∃ ts, ts = Lib.compact l ++ List.replicate (l.length - (Lib.compact l).length) 0 := ⟨_, rfl⟩
    have htl : ts.length = l.length := by rw [hts]; simp; omega
    rw [← hts]
    refine ⟨g, cap, rfl, rfl, h2, ?_, ?_⟩
    · have hh := heap_sortedI (n := q) (os := #[]) ts.toArray h3
      rw [grow_empty] at hh
      refine ⟨_, hh, fun j hj => ?_⟩
      have ht := take_putCellsI cur ts (by omega)
      have h8 : (List.take ts.length (putCells (Value.int .i64) 0 ts.toArray cur).toList)[j]? = (ts.map (Value.int .i64))[j]? := by rw [ht]
      rw [List.getElem?_take_of_lt (by omega), Array.getElem?_toList] at h8
      rw [h8, List.getElem?_map, hts, List.getElem?_append_left hj, List.getElem?_eq_getElem hj]
      simp [List.getD, List.getElem?_eq_getElem hj]
    · have := grownBy_sortedI (w := w) (g := g) (n := q) (os := #[]) ts.toArray
      rw [grow_empty] at this
      exact keeps_grown this (fun b hb => hb)
end Go.Proofs.Ytclialdbaclpoaa
