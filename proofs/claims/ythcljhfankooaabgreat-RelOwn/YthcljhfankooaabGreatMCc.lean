/- Rows of searches that grow, and the orders that serve them. A row that is sorted and in which each number stands once. The walk of paired. Walks of firsts and from. -/
import Derived.Test.YthcljhfankooaabGreatMCs
import Derived.Test.YthcljhfankooaabGreatBMath
import Derived.Test.YthcljhfankooaabGreatCLibs
import Derived.Test.YthcljhfankooaabGreatMCb
import Derived.Sort.OwnSortedInts
import Derived.Lib.RowBridge
namespace Go.Proofs.YthcljhfankooaabGreat.C

/-- Part of a row, and what comes next. -/
structure RowTo (N : Nat) (w : Nat → Int) (ab : Nat → Int) (s : Nat) (r : List Nat) (p : Int) : Prop where
  mem : ∀ i ∈ r, i < N
  first : s ∈ r ∨ (r = [] ∧ p = s)
  next : ∀ i ∈ r, ab i = p ∨ ∃ k : Nat, ab i = k ∧ k ∈ r
  grow : r.Pairwise fun i k => sub (w i) (w k) = true
  link : p = -1 ∨ ∃ k : Nat, k < N ∧ p = k ∧ ∀ i ∈ r, sub (w i) (w k) = true ∧ i < k
/-- Rising searches. -/
def Up_ (N : Nat) (w : Nat → Int) : Prop := ∀ i j, i < j → j < N → w i < w j
theorem Up_.inj {N : Nat} {w : Nat → Int} (h : Up_ N w) : ∀ i j, i < N → j < N → w i = w j → i = j := fun i j hi hj e => by
  rcases Nat.lt_trichotomy i j with g | g | g
  · have := h i j g hj; omega
  · exact g
  · have := h j i g hi; omega
theorem Up_.lt {N : Nat} {w : Nat → Int} (h : Up_ N w) (h0 : ∀ j, j < N → 0 ≤ w j) {i k : Nat} (hi : i < N) (hk : k < N) (e : In w i k) : i < k := by
  have h1 := sub_le e.2 (h0 i hi) (h0 k hk)
  rcases Nat.lt_trichotomy i k with g | g | g
  · exact g
  · exact absurd g e.1
  · have := h k i g hi; omega
theorem RowTo.start {N : Nat} {w ab : Nat → Int} {s : Nat} (hs : s < N) : RowTo N w ab s [] s :=
  ⟨fun _ h => (by cases h), .inr ⟨rfl, rfl⟩, fun _ h => (by cases h), .nil, .inr ⟨s, hs, rfl, fun _ h => (by cases h)⟩⟩
theorem RowTo.step {N : Nat} {w ab be : Nat → Int} {s : Nat} {r : List Nat} {k : Nat} (h : RowTo N w ab s r k) (hp : PM N (In w) ab be) (hu : Up_ N w) (h0 : ∀ j, j < N → 0 ≤ w j) : RowTo N w ab s (r ++ [k]) (ab k) ∧ k < N ∧ (ab k = -1 ∨ (k : Int) < ab k) := by
  obtain ⟨k2, hk, e, hl⟩ := h.link.resolve_left (by omega)
  have : k2 = k := by omega
  subst this
  have hup := hp.up k2 hk
  refine ⟨⟨fun i hi => ?_, .inl ?_, fun i hi => ?_, ?_, ?_⟩, hk, ?_⟩
  · rcases List.mem_append.1 hi with g | g
    · exact h.mem i g
    · obtain rfl : i = k2 := by simpa using g
      exact hk
  · rcases h.first with g | ⟨g, e⟩
    · exact List.mem_append_left _ g
    · have : s = k2 := by omega
      simp [this]
  · rcases List.mem_append.1 hi with g | g
    · rcases h.next i g with e2 | ⟨k3, e2, e3⟩
      · exact .inr ⟨k2, e2, by simp⟩
      · exact .inr ⟨k3, e2, List.mem_append_left _ e3⟩
    · obtain rfl : i = k2 := by simpa using g
      exact .inl rfl
  · rw [List.pairwise_append]
    refine ⟨h.grow, List.pairwise_singleton _ _, fun a ha b hb => ?_⟩
    obtain rfl : b = k2 := by simpa using hb
    exact (hl a ha).1
  · refine hup.imp id fun ⟨j, j1, j2, _, j4⟩ => ⟨j, j1, j2, fun i hi => ?_⟩
    have hlt := hu.lt h0 hk j1 j4
    rcases List.mem_append.1 hi with g | g
    · exact ⟨sub_trans (hl i g).1 j4.2, by have := (hl i g).2; omega⟩
    · obtain rfl : i = k2 := by simpa using g
      exact ⟨j4.2, hlt⟩
  · refine hup.imp id fun ⟨j, j1, j2, _, j4⟩ => ?_
    have hlt := hu.lt h0 hk j1 j4
    omega
/-- Every search is in a row. -/
theorem rows_all {N : Nat} {w ab be : Nat → Int} (hp : PM N (In w) ab be) (hu : Up_ N w) (h0 : ∀ j, j < N → 0 ≤ w j) (R : Nat → List Nat) (hR : ∀ s, s < N → be s = -1 → RowTo N w ab s (R s) (-1)) : ∀ j, j < N → ∃ s, s < N ∧ be s = -1 ∧ j ∈ R s := by
  intro j
  induction j using Nat.strongRecOn with
  | ind j ih =>
    intro hj
    rcases hp.dn j hj with e | ⟨i, hi, e1, e2⟩
    · exact ⟨j, hj, e, (hR j hj e).first.resolve_right fun g => by omega⟩
    · obtain ⟨k, k1, k2, k3, k4⟩ := (hp.up i hi).resolve_left (by omega)
      have : k = j := by omega
      subst this
      obtain ⟨s, s1, s2, s3⟩ := ih i (hu.lt h0 hi hj k4) hi
      refine ⟨s, s1, s2, ?_⟩
      rcases (hR s s1 s2).next i s3 with e | ⟨k5, e5, e6⟩
      · omega
      · have : k5 = k := by omega
        exact this ▸ e6

/-- Columns that were placed: an order so far. -/
structure Ord (width : Nat) (o : List Int) (m : Nat) : Prop where
  one : o.Nodup
  lt : ∀ x ∈ o, 0 ≤ x ∧ x < width
  set : mask o = m
theorem Ord.nil (width : Nat) : Ord width [] 0 := ⟨List.nodup_nil, fun _ h => (by cases h), rfl⟩
theorem Ord.len {width : Nat} {o : List Int} {m : Nat} (h : Ord width o m) : o.length ≤ width := by
  have := nodup_le o ((List.range width).map Int.ofNat) h.one fun x hx => by
    have := h.lt x hx
    exact List.mem_map.2 ⟨x.toNat, List.mem_range.2 (by omega), by show ((x.toNat : Nat) : Int) = x; omega⟩
  simpa using this
/-- All columns: an order. -/
theorem Ord.whole {width : Nat} {o : List Int} (h : Ord width o (2 ^ width - 1)) (hw : width ≤ 8) : right o = true ∧ o.length = width := by
  have hall : ∀ i, i < width → ((i : Nat) : Int) ∈ o := fun i hi => by
    have h1 := mask_bit o i
    rw [h.set, Nat.testBit_two_pow_sub_one, decide_eq_true hi] at h1
    obtain ⟨x, hx, e⟩ := List.any_eq_true.1 h1.symm
    have h2 := h.lt x hx
    simp only [beq_iff_eq] at e
    have : x = i := by omega
    rw [← this]; exact hx
  have hl : o.length = width := Nat.le_antisymm h.len (hole width o hall)
  refine ⟨?_, hl⟩
  rw [right_iff, rright, hl, decide_eq_true hall, decide_eq_true hw]
  rfl
/-- While the columns of a search are placed: behind the first c. -/
structure Plc (width : Nat) (o : List Int) (m s c : Nat) (o' : List Int) : Prop where
  ext : ∃ e, o' = o ++ e
  one : o'.Nodup
  lt : ∀ x ∈ o', 0 ≤ x ∧ x < width
  set : ∀ i, (mask o').testBit i = (m.testBit i || (decide (i < c) && s.testBit i))
theorem Plc.start {width : Nat} {o : List Int} {m s : Nat} (h : Ord width o m) : Plc width o m s 0 o :=
  ⟨⟨[], by simp⟩, h.one, h.lt, fun i => by rw [h.set]; simp⟩
theorem Plc.len {width : Nat} {o : List Int} {m s c : Nat} {o' : List Int} (h : Plc width o m s c o') : o'.length ≤ width := Ord.len ⟨h.one, h.lt, rfl⟩
theorem Plc.yes {width : Nat} {o : List Int} {m s c : Nat} {o' : List Int} (h : Plc width o m s c o') (hc : c < width) (h1 : s.testBit c = true) (h2 : m.testBit c = false) : Plc width o m s (c + 1) (o' ++ [(c : Int)]) := by
  have hb := h.set c
  rw [h2] at hb
  simp at hb
  refine ⟨?_, ?_, fun x hx => ?_, fun i => ?_⟩
  · obtain ⟨e, he⟩ := h.ext
    exact ⟨e ++ [(c : Int)], by rw [he, List.append_assoc]⟩
  · rw [List.nodup_append]
    refine ⟨h.one, by simp, fun a ha b hb2 e => ?_⟩
    obtain rfl : b = (c : Int) := by simpa using hb2
    rw [mask_bit] at hb
    have := List.any_eq_false.1 hb a ha
    rw [e] at this
    simp at this
  · rcases List.mem_append.1 hx with g | g
    · exact h.lt x g
    · obtain rfl : x = (c : Int) := by simpa using g
      omega
  · rw [mask_snoc, Nat.testBit_or, h.set i, Int.toNat_natCast, Nat.testBit_two_pow]
    by_cases e : i = c
    · subst e; simp [h1]
    · have e2 : c ≠ i := fun g => e g.symm
      have : (decide (i < c + 1)) = decide (i < c) := decide_eq_decide.2 (by omega)
      rw [this]
      simp [e2]
theorem Plc.no {width : Nat} {o : List Int} {m s c : Nat} {o' : List Int} (h : Plc width o m s c o') (h1 : (s.testBit c && !m.testBit c) = false) : Plc width o m s (c + 1) o' := by
  refine ⟨h.ext, h.one, h.lt, fun i => ?_⟩
  rw [h.set i]
  by_cases e : i = c
  · subst e
    cases hs : s.testBit i with
    | false => simp
    | true =>
      rw [hs] at h1
      have : m.testBit i = true := by simpa using h1
      simp [this]
  · have : (decide (i < c + 1)) = decide (i < c) := decide_eq_decide.2 (by omega)
    rw [this]
theorem Plc.done {width : Nat} {o : List Int} {m s : Nat} {o' : List Int} (h : Plc width o m s width o') (hs : s < 2 ^ width) : Ord width o' (m ||| s) := by
  refine ⟨h.one, h.lt, Nat.eq_of_testBit_eq fun i => ?_⟩
  rw [h.set i, Nat.testBit_or]
  by_cases e : i < width
  · simp [e]
  · have : s.testBit i = false := Nat.testBit_lt_two_pow (Nat.lt_of_lt_of_le hs (Nat.pow_le_pow_right (by omega) (by omega)))
    simp [this]
/-- An order so far, and the searches of the row that it serves. -/
structure Srv (width : Nat) (ys : List Int) (t : Nat) (o : List Int) (m : Nat) : Prop where
  ord : Ord width o m
  now : m = if t = 0 then 0 else (ys.getD (t - 1) 0).toNat
  all : ∀ j, j < t → ∃ n, n ≤ o.length ∧ mask (o.take n) = (ys.getD j 0).toNat
theorem Srv.start (width : Nat) (ys : List Int) : Srv width ys 0 [] 0 := ⟨Ord.nil width, rfl, fun j h => by omega⟩
theorem Srv.step {width : Nat} {ys : List Int} {t : Nat} {o : List Int} {m : Nat} {o' : List Int} {s : Nat} (h : Srv width ys t o m) (hp : Plc width o m s width o') (hs : s < 2 ^ width) (hy : (ys.getD t 0).toNat = s) (hg : ∀ j, j < t → sub (ys.getD j 0) (ys.getD t 0) = true) : Srv width ys (t + 1) o' (m ||| s) := by
  have hd := hp.done hs
  have hms : m ||| s = s := by
    refine Nat.eq_of_testBit_eq fun i => ?_
    rw [Nat.testBit_or]
    cases hm : m.testBit i with
    | false => simp
    | true =>
      have hnow := h.now
      by_cases ht : t = 0
      · rw [if_pos ht] at hnow
        rw [hnow, Nat.zero_testBit] at hm
        cases hm
      · rw [if_neg ht] at hnow
        have := sub_iff.1 (hg (t - 1) (by omega)) i (by rw [← hnow]; exact hm)
        rw [hy] at this
        simp [this]
  refine ⟨hd, ?_, fun j hj => ?_⟩
  · rw [if_neg (by omega), show t + 1 - 1 = t by omega, hy, hms]
  · by_cases e : j < t
    · obtain ⟨n, n1, n2⟩ := h.all j e
      obtain ⟨x, hx⟩ := hp.ext
      refine ⟨n, by rw [hx, List.length_append]; omega, ?_⟩
      rw [hx, List.take_append_of_le_length n1]
      exact n2
    · have : j = t := by omega
      subst this
      exact ⟨o'.length, Nat.le_refl _, by rw [List.take_length, hd.set, hms, hy]⟩
end Go.Proofs.YthcljhfankooaabGreat.C

namespace Go.Proofs.YthcljhfankooaabGreat.C
open Go.RowKit Go.Shelf Go.Maps Go.Sort

/-- Each once, rising. -/
def uniq (l : List Int) : List Int := Lib.compact (l.mergeSort fun x y => decide (x ≤ y))
theorem sorted_le (l : List Int) : (l.mergeSort fun x y => decide (x ≤ y)).Pairwise fun x y => x ≤ y := by
  have := List.pairwise_mergeSort (le := fun x y : Int => decide (x ≤ y)) (fun a b c h1 h2 => by simp at *; omega) (fun a b => by simp; omega) l
  exact this.imp (fun h => by simpa using h)
theorem compact_up (d : Array Int) (hd : ∀ i j, i < j → j < d.size → d[i]! ≤ d[j]!) : ∀ m, m ≤ d.size → (Lib.compactUpTo d m).Pairwise (fun x y => x < y) ∧ (∀ x, x ∈ Lib.compactUpTo d m ↔ ∃ j, j < m ∧ d[j]! = x)
  | 0, _ => ⟨by simp [Lib.compactUpTo], fun x => by simp [Lib.compactUpTo]⟩
  | m + 1, hm => by
    obtain ⟨h1, h2⟩ := compact_up d hd m (by omega)
    rw [Lib.compactUpTo_succ]
    cases hk : Lib.keeps d m with
    | true =>
      simp only [if_true]
      refine ⟨?_, fun x => ?_⟩
      · rw [List.pairwise_append]
        refine ⟨h1, List.pairwise_singleton _ _, fun a ha b hb => ?_⟩
        obtain rfl : b = d[m]! := by simpa using hb
        obtain ⟨j, hj, rfl⟩ := (h2 a).1 ha
        have hle := hd j m hj (by omega)
        have hm1 := hd (m - 1) m (by omega) (by omega)
        have hjm : d[j]! ≤ d[m - 1]! := by
          by_cases e : j = m - 1
          · rw [e]; exact Int.le_refl _
          · exact hd j (m - 1) (by omega) (by omega)
        have hne : d[m - 1]! ≠ d[m]! := by
          unfold Lib.keeps at hk
          simp at hk
          intro e
          rcases hk with g | g
          · omega
          · exact g e.symm
        omega
      · rw [List.mem_append, h2]
        constructor
        · rintro (⟨j, hj, e⟩ | e)
          · exact ⟨j, by omega, e⟩
          · exact ⟨m, by omega, (List.mem_singleton.1 e).symm⟩
        · rintro ⟨j, hj, e⟩
          by_cases g : j = m
          · subst g; exact .inr (by simp [e])
          · exact .inl ⟨j, by omega, e⟩
    | false =>
      simp only [Bool.false_eq_true, if_false, List.append_nil]
      refine ⟨h1, fun x => ?_⟩
      rw [h2]
      constructor
      · rintro ⟨j, hj, e⟩
        exact ⟨j, by omega, e⟩
      · rintro ⟨j, hj, e⟩
        by_cases g : j = m
        · subst g
          unfold Lib.keeps at hk
          simp at hk
          exact ⟨j - 1, by omega, by rw [← e]; exact hk.2.symm⟩
        · exact ⟨j, by omega, e⟩
theorem uniq_up (l : List Int) : (uniq l).Pairwise (fun x y => x < y) ∧ ∀ x, x ∈ uniq l ↔ x ∈ l := by
  obtain ⟨zs, hz⟩ : ∃ zs, zs = l.mergeSort fun x y => decide (x ≤ y) := ⟨_, rfl⟩
  have hs : zs.Pairwise fun x y => x ≤ y := by rw [hz]; exact sorted_le l
  have hm : ∀ x, x ∈ zs ↔ x ∈ l := fun x => by rw [hz]; exact (List.mergeSort_perm l _).mem_iff
  have h := compact_up zs.toArray (fun i j hij hj => by
    rw [List.size_toArray] at hj
    rw [getElem!_pos _ i (by rw [List.size_toArray]; omega), getElem!_pos _ j (by rw [List.size_toArray]; omega)]
    simp only [List.getElem_toArray]
    exact (List.pairwise_iff_getElem.1 hs) i j (by omega) hj hij) zs.length (by simp)
  unfold uniq
  rw [← hz]
  refine ⟨h.1, fun x => ?_⟩
  show x ∈ Lib.compactUpTo zs.toArray zs.length ↔ _
  rw [h.2, ← hm, List.mem_iff_getElem]
  constructor
  · rintro ⟨j, hj, e⟩
    rw [getElem!_pos _ j (by rw [List.size_toArray]; exact hj)] at e
    exact ⟨j, hj, by simpa using e⟩
  · rintro ⟨j, hj, e⟩
    refine ⟨j, hj, ?_⟩
    rw [getElem!_pos _ j (by rw [List.size_toArray]; exact hj)]
    simpa using e
theorem uniq_len (l : List Int) : (uniq l).length ≤ l.length := by
  have := Lib.compact_length_le (l.mergeSort fun x y => decide (x ≤ y))
  rw [List.length_mergeSort] at this
  exact this

theorem sort_own {base : Nat} (w : World) (v : Value) (l : List Int) (h : OwnI base w v l) (hl : l ≠ []) (hn : l.length ≤ 2000) :
    Calls Tryz.prog 60 #[v] w fun e w' => e = .returned (.tuple #[]) ∧ OwnI base w' v (l.mergeSort fun x y => decide (x ≤ y)) ∧ Keeps (fun b => some b = v.ownBlock) w w' := by
  rcases h.2 with ⟨_, h0⟩ | ⟨g, cap, cur, rfl, h2, h3, h4, h5, h6, h7⟩
  · exact absurd (List.eq_nil_of_length_eq_zero h0) hl
  · refine (Tryz.slices_Sort_int g 0 cap l w (holds_of_blockI h3 (by rw [← h7, Nat.mul_one])) (lt_heap h3) (by omega)).mono ?_
    rintro e w' ⟨rfl, n, os, rfl⟩
    refine ⟨rfl, ?_, keeps_grown (grownBy_sortedI _) (fun b hb => hb)⟩
    unfold OwnI
    rw [List.length_mergeSort]
    exact ownsRow_sortedI (List.length_mergeSort _) h2 h3 h4 h5 h6
theorem compact_own {base : Nat} (w : World) (v : Value) (l : List Int) (h : OwnI base w v l) (hl : l ≠ []) (hn : l.length ≤ 2000) :
    Calls Tryz.prog 61 #[v] w fun e w' => ∃ g c, e = .returned (.slice (some ⟨g, 0, none⟩) (Lib.compact l).length c) ∧ some g = v.ownBlock ∧ base ≤ g ∧ Arr w' g (Lib.compact l).length (fun j => (Lib.compact l).getD j 0) ∧ Keeps (fun b => some b = v.ownBlock) w w' := by
  rcases h.2 with ⟨_, h0⟩ | ⟨g, cap, cur, rfl, h2, h3, h4, h5, h6, h7⟩
  · exact absurd (List.eq_nil_of_length_eq_zero h0) hl
  · refine (Tryz.slices_Compact_int g 0 cap l w (holds_of_blockI h3 (by rw [← h7, Nat.mul_one])) (by omega) h4).mono ?_
    rintro e w' ⟨rfl, q, rfl⟩
    have hle := Lib.compact_length_le l
    obtain ⟨ts, hts⟩ : ∃ ts, ts = Lib.compact l ++ List.replicate (l.length - (Lib.compact l).length) 0 := ⟨_, rfl⟩
    have htl : ts.length = l.length := by rw [hts]; simp; omega
    rw [← hts]
    refine ⟨g, cap, rfl, rfl, h2, ?_, ?_⟩
    · have hh := heap_sortedI (n := q) (os := #[]) ts.toArray h3
      rw [grow_empty] at hh
      refine ⟨_, hh, fun j hj => ?_⟩
      have ht := take_putCellsI cur ts (by omega)
      have h8 : (List.take ts.length (putCells (Value.int .i64) 0 ts.toArray cur).toList)[j]? = (ts.map (Value.int .i64))[j]? := by rw [ht]
      rw [List.getElem?_take_of_lt (by omega), Array.getElem?_toList] at h8
      rw [h8, List.getElem?_map, hts, List.getElem?_append_left hj, List.getElem?_eq_getElem hj]
      simp [List.getD, List.getElem?_eq_getElem hj]
    · have := grownBy_sortedI (w := w) (g := g) (n := q) (os := #[]) ts.toArray
      rw [grow_empty] at this
      exact keeps_grown this (fun b hb => hb)
end Go.Proofs.YthcljhfankooaabGreat.C

namespace Go.Proofs.YthcljhfankooaabGreat.C
open Go.RowKit Go.Shelf Go.Maps

/-- Numbers behind an own row. -/
theorem appR_run {base : Nat} (w : World) (v xv : Value) (l x : List Int) (h : OwnI base w v l) (hl : l ≠ []) (hx : Ints w.heap.size w xv x) (hn : l.length + x.length ≤ 2000) (hb : base ≤ w.heap.size) :
    ∃ r w', (Builtin.append_ #[32, 32] 32 #[v, xv]).run Tryz.prog w = .ok r w' ∧ OwnI base w' r (l ++ x) ∧ Keeps (fun b => some b = v.ownBlock) w w' := by
  obtain ⟨a, cap, rfl, hc1, hc2, hcell⟩ := hx
  obtain ⟨i, h1, h2, h3, h4⟩ := infoI
  have ht : Tryz.prog.underlying 32 = some (.slice 3) := by kernel_rfl
  cases a with
  | none =>
    have hx0 : x = [] := by
      cases x with
      | nil => rfl
      | cons y r =>
        obtain ⟨b, off, e, _⟩ := hcell 0 y rfl
        cases e
    subst hx0
    obtain ⟨g, c, rfl, _, _, h5, _⟩ := h.shape hl
    refine ⟨_, w, ?_, by rw [List.append_nil]; exact h, Keeps.refl _ _⟩
    simp [Builtin.append_, run_underlying ht, sizeOf, typeInfo, h1, Builtin.lenOf, Builtin.firstCells, storeCells, h5]
  | some ad =>
    obtain ⟨r, w', hr, ho, hg, _⟩ := run_append_own_at (P := Tryz.prog) w base 32 32 3 i (.int .i64 0) 1 8 ht h1 h2 h3 h4 rfl (by decide) v l.length (l.map (Value.int .i64)) h ad x.length cap (x.map (Value.int .i64)) (by simp) (fun j u hj => by
      rw [List.getElem?_map, Option.map_eq_some_iff] at hj
      obtain ⟨y, hy, rfl⟩ := hj
      obtain ⟨b, off, e, _, hc⟩ := hcell j y hy
      cases e
      rw [Addr.add_lit]
      exact hc) (fun u hu => by obtain ⟨y, _, rfl⟩ := List.mem_map.1 hu; rfl) (by unfold maxLen; omega) (by omega) hb
    refine ⟨r, w', hr, ?_, keeps_grown hg (fun b hb => hb)⟩
    unfold OwnI
    simpa using ho

/-- Pairs in memory. -/
structure Prs (w : World) (v : Value) (l : List Int) (N : Nat) (f ab be : Nat → Int) : Prop where
  mem : ∃ sb sc a ac b bc, v = .agg #[.slice (some ⟨sb, 0, none⟩) N sc, .slice (some ⟨a, 0, none⟩) N ac, .slice (some ⟨b, 0, none⟩) N bc] ∧ Arr w sb N f ∧ Arr w a N ab ∧ Arr w b N be
  n1 : 1 ≤ N
  n2 : N ≤ 257
  up : Up_ N f
  small : Small N f
  all : ∀ x, x ∈ vals N f ↔ x = 0 ∨ x ∈ l
  done : Done N (In f) ab be N

/-- The pairs behind k. -/
def LowR (N : Nat) (f : Nat → Int) (a b : Nat) (w9 : World) (i : Value) (wr : World) : Prop := ∃ (k : Nat) (ab be : Nat → Int), k ≤ N ∧ i = .int .i64 (k : Int) ∧ Arr wr a N ab ∧ Arr wr b N be ∧ Done N (In f) ab be k ∧ Keeps (fun x => x = a ∨ x = b) w9 wr

theorem uniq_vals (l : List Int) : vals (uniq l).length (fun j => (uniq l).getD j 0) = uniq l := by
  unfold vals
  apply List.ext_getElem
  · simp
  · intro i h1 h2
    simp [List.getD, List.getElem?_eq_getElem h2]
theorem uniq_Up (l : List Int) : Up_ (uniq l).length (fun j => (uniq l).getD j 0) := by
  intro i j hij hj
  have := (List.pairwise_iff_getElem.1 (uniq_up l).1) i j (by omega) hj hij
  simpa [List.getD, List.getElem?_eq_getElem hj, List.getElem?_eq_getElem (show i < (uniq l).length by omega)] using this
theorem uniq_small (l : List Int) (h : ∀ x ∈ l, 0 ≤ x ∧ x < 256) : Small (uniq l).length (fun j => (uniq l).getD j 0) := by
  intro j hj
  have : (uniq l).getD j 0 ∈ uniq l := by
    rw [List.getD, List.getElem?_eq_getElem hj]
    exact List.getElem_mem hj
  exact h _ (((uniq_up l).2 _).1 this)

set_option maxRecDepth 100000 in
set_option maxHeartbeats 8000000 in
theorem paired_any (w : World) (v : Value) (l : List Int) (h : Ints w.heap.size w v l) (hn : l.length ≤ 256) (hl : ∀ x ∈ l, 0 ≤ x ∧ x < 256) :
    Calls Tryz.prog 40 #[v] w fun e w' => ∃ r N f ab be, e = .returned r ∧ Prs w' r l N f ab be ∧ Below w.heap.size w w' := by
  -- the result's box and the row with nought
  obtain ⟨b1, hnw, hs1⟩ := box3 w (.slice none 0 0) (.slice none 0 0) (.slice none 0 0) 94
  obtain ⟨w1, hw1⟩ : ∃ w1, w1 = w.alloc (.cells #[.slice none 0 0, .slice none 0 0, .slice none 0 0] 94) := ⟨_, rfl⟩
  rw [← hw1] at b1 hnw hs1
  obtain ⟨w2, hw2⟩ : ∃ w2, w2 = w1.alloc (.cells #[.int .i64 0] 3) := ⟨_, rfl⟩
  have b2 : Below w1.heap.size w1 w2 := by rw [hw2]; exact (Below.refl _ w1).alloc (Nat.le_refl _) _
  have hs2 : w2.heap.size = w1.heap.size + 1 := by rw [hw2]; simp
  have hown2 : OwnI w1.heap.size w2 (.slice (some ⟨w1.heap.size, 0, none⟩) 1 1) [0] := by
    refine ⟨rfl, .inr ⟨w1.heap.size, 1, #[.int .i64 0], rfl, Nat.le_refl _, ?_, Nat.le_refl _, by unfold maxLen; omega, rfl, rfl⟩⟩
    rw [hw2]
    exact World.alloc_heap_new _ _
  have b12 := b1.trans (b2.mono b1.size)
  obtain ⟨r3, w3, hrun, hown3, hK3⟩ := appR_run w2 _ v [0] l hown2 (by simp) ((h.below b12 (Nat.le_refl _)).mono b12.size) (by simp; omega) (by omega)
  have b03 : Below w.heap.size w w3 := b12.trans (hK3.below b12.size (fun b e => by simp only [Value.ownBlock, Option.some.injEq] at e; omega))
  have hnw3 := hK3.same _ _ ((b2.block _ (by omega)).trans hnw) (fun e => by simp only [Value.ownBlock, Option.some.injEq] at e; omega)
  rw [List.singleton_append] at hown3
  have hso := sort_own w3 r3 (0 :: l) hown3 (by simp) (by simp; omega)
  obtain ⟨va, vc, rfl, _⟩ := id h
  obtain ⟨ra, rc, rfl⟩ : ∃ ra rc, r3 = .slice ra (l.length + 1) rc := by
    obtain ⟨g, c, e, _⟩ := hown3.shape (by simp)
    exact ⟨_, _, e⟩
  rw [hs1] at hrun
  have HE := hide (And.intro b03 (And.intro hnw3 (And.intro hown3 hl)))
  have hs3 := b03.size
  clear b1 hnw b2 hown2 b12 hown3 hK3 b03 hnw3 h hl hs1 hs2
  subst hw2
  subst hw1
  have HRUN := hide hrun
  clear hrun
  go_enter Tryz.func40, Tryz.ntmps40
  go_wp2_with (at_builtin; refine wpList_append_run _ rfl _ _ 32 rfl _ _ rfl rfl _ _ (unhide HRUN) ?_)
  refine hso.mono ?_
  clear hso
  rintro e w4 ⟨rfl, hown4, hK4⟩
  obtain ⟨b03, hnw3, hown3, hl⟩ := unhide HE
  have hob := hown3.block
  have b04 : Below w.heap.size w w4 := b03.trans (hK4.below hs3 (fun b e => by have := (hob b e).1; simp at this; omega))
  have hnw4 := hK4.same _ _ hnw3 (fun e => by have := (hob _ e).1; simp at this; omega)
  have hco := compact_own w4 _ _ hown4 (fun e => by have := congrArg List.length e; simp at this) (by simp; omega)
  have hob4 := hown4.block
  obtain ⟨N, hN⟩ : ∃ N, N = (uniq (0 :: l)).length := ⟨_, rfl⟩
  obtain ⟨f, hf⟩ : ∃ f : Nat → Int, f = fun j => (uniq (0 :: l)).getD j 0 := ⟨_, rfl⟩
  have hf1 : Up_ N f := by rw [hN, hf]; exact uniq_Up _
  have hf2 : Small N f := by
    rw [hN, hf]
    refine uniq_small _ fun x hx => ?_
    rcases List.mem_cons.1 hx with e | e
    · omega
    · exact hl x e
  have hf3 : ∀ x, x ∈ vals N f ↔ x = 0 ∨ x ∈ l := fun x => by
    rw [hN, hf, uniq_vals, (uniq_up _).2, List.mem_cons]
  have hN1 : 1 ≤ N := by
    have := (hf3 0).2 (.inl rfl)
    rw [← vals_length N f]
    exact List.length_pos_of_mem this
  have hN2 : N ≤ 257 := by
    have := uniq_len (0 :: l)
    rw [← hN] at this
    simp at this
    omega
  change Calls Tryz.prog 61 _ w4 (fun e w' => ∃ g c, e = .returned (.slice (some ⟨g, 0, none⟩) (uniq (0 :: l)).length c) ∧ some g = _ ∧ _ ≤ g ∧ Arr w' g (uniq (0 :: l)).length (fun j => (uniq (0 :: l)).getD j 0) ∧ Keeps _ w4 w') at hco
  rw [← hN, ← hf] at hco
  have HE4 := hide (And.intro b04 (And.intro hnw4 (And.intro hob4 (And.intro hf1 (And.intro hf2 hf3)))))
  have hs4 := b04.size
  clear hN hf hown4 hK4 b03 hnw3 hown3 hl hob b04 hnw4 hob4 hf1 hf2 hf3 HE
  go_wp2_with fail
  refine hco.mono ?_
  clear hco
  rintro e w5 ⟨g, c, rfl, hg1, hg2, hA5, hK5⟩
  obtain ⟨b04, hnw4, hob4, hf1, hf2, hf3⟩ := unhide HE4
  have b05 : Below w.heap.size w w5 := b04.trans (hK5.below hs4 (fun b e => by have := (hob4 b e).1; simp at this; omega))
  have hnw5 := hK5.same _ _ hnw4 (fun e => by have := (hob4 _ e).1; simp at this; omega)
  have hn1 := nones_any w5 N hN1 (by omega)
  have hs5 := b05.size
  have hg5 := hA5.lt
  have hg0 : w.heap.size < g := by simp at hg2; omega
  have HE5 := hide (And.intro b05 (And.intro hnw5 hA5))
  clear b04 hnw4 hob4 hf1 hf2 hf3 b05 hnw5 hA5 hK5 hg1 hg2
  go_wp2_with fail
  refine hn1.mono ?_
  clear hn1
  rintro e w6 ⟨a, ac, rfl, ha1, ha2, b6⟩
  have hn2 := nones_any w6 N hN1 (by omega)
  have hs6 := b6.size
  have la := ha2.lt
  have HE6 := hide (And.intro ha2 b6)
  clear ha2 b6
  go_wp2_with fail
  refine hn2.mono ?_
  clear hn2
  rintro e w7 ⟨b, bc, rfl, hb1, hb2, b7⟩
  have hs7 := b7.size
  have lb := hb2.lt
  have HE7 := hide (And.intro hb2 b7)
  clear hb2 b7
  go_wp2_with fail
  obtain ⟨b8, hnw8, hs8⟩ := box3 w7 (.slice (some ⟨g, 0, none⟩) N c) (.slice (some ⟨a, 0, none⟩) N ac) (.slice (some ⟨b, 0, none⟩) N bc) 94
  obtain ⟨w8, hw8⟩ : ∃ w8, w8 = w7.alloc (.cells #[.slice (some ⟨g, 0, none⟩) N c, .slice (some ⟨a, 0, none⟩) N ac, .slice (some ⟨b, 0, none⟩) N bc] 94) := ⟨_, rfl⟩
  rw [← hw8] at b8 hnw8 hs8 ⊢
  clear hw8
  obtain ⟨b05, hnw5, hA5⟩ := unhide HE5
  obtain ⟨hA6, b6⟩ := unhide HE6
  obtain ⟨hA7, b7⟩ := unhide HE7
  have b58 : Below w5.heap.size w5 w8 := (b6.trans (b7.mono hs6)).trans (b8.mono (by omega))
  have hnwr := (b58.block _ (by omega)).trans hnw5
  have HE8 := hide (And.intro (b05.trans (b58.mono hs5)) (And.intro hnwr (And.intro hnw8 (hA5.later b58))))
  have HS : Hid (LowR N f a b w8 (.int .i64 0) w8) := ⟨0, fun _ => -1, fun _ => -1, Nat.zero_le _, rfl, (hA6.later b7).later b8, hA7.later b8, Done.start N (In f), Keeps.refl _ _⟩
  clear b05 hnw5 hA5 hA6 b6 hA7 b7 b58 hnwr hnw8 b8
  obtain ⟨P8, hP8⟩ : ∃ P8, P8 = w7.heap.size := ⟨_, rfl⟩
  rw [← hP8] at HE8 hs8 lb hs7 ⊢
  have HP8 := hide hP8
  clear hP8
  go_loopw [23] (fun i wr => LowR N f a b w8 i wr) (fun i _ => N - (intOf i).toNat)
  case atStart => exact unhide HS
  case round =>
    obtain ⟨k, ab, be, hk, rfl, hab, hbe, hd, hK⟩ := hrel
    obtain ⟨b08, hnwr, hnw8, hA8⟩ := unhide HE8
    have hpx := hK.same _ _ hnw8 (fun e => by omega)
    obtain ⟨c0, c1, c2, _⟩ := three_cells hpx
    by_cases hkN : k < N
    · have hpa := pair_any (hide nones_any) wr g a b N c ac bc f ab be k (hA8.keeps hK (fun e => by omega)) (unhide HE4).2.2.2.2.1 hab hbe (by omega) (by omega) hkN hd
      have HK := hide hK
      clear b08 hnwr hnw8 hA8 hpx hab hbe hd hK
      go_wp2_with fail
      refine hpa.mono ?_
      clear hpa
      rintro e w9 ⟨rfl, hK9, ab9, be9, h1, h2, h3⟩
      have HE9 := hide (And.intro hK9 (And.intro h1 (And.intro h2 h3)))
      clear hK9 h1 h2 h3
      go_wp2_with fail
      go_roundw
      case rel =>
        obtain ⟨hK9, h1, h2, h3⟩ := unhide HE9
        exact ⟨k + 1, ab9, be9, by omega, by go_num, h1, h2, h3, (unhide HK).trans hK9 (fun _ _ e => e)⟩
      case measure => simp [intOf]; omega
    · have hkN2 : k = N := by omega
      subst hkN2
      have hrx := hK.same _ _ hnwr (fun e => by omega)
      obtain ⟨x0, x1, x2, y0, y1, y2⟩ := three_cells hrx
      have hnpr : P8 ≠ w.heap.size := by omega
      have HE9 := hide (And.intro (b08.trans (hK.below (by omega) (fun x e => by omega))) (And.intro hrx (And.intro (hA8.keeps hK (fun e => by omega)) (And.intro hab (And.intro hbe hd)))))
      clear b08 hnwr hnw8 hA8 hpx hab hbe hd hK hrx
      go_wp2_with fail
      obtain ⟨b09, hrx, hA9, hab, hbe, hd⟩ := unhide HE9
      have hW := set_heap (set_heap (set_heap hrx 0 (.slice (some ⟨g, 0, none⟩) k c)) 1 (.slice (some ⟨a, 0, none⟩) k ac)) 2 (.slice (some ⟨b, 0, none⟩) k bc)
      obtain ⟨d0, d1, d2, _⟩ := three_cells (x := .slice (some ⟨g, 0, none⟩) k c) (y := .slice (some ⟨a, 0, none⟩) k ac) (z := .slice (some ⟨b, 0, none⟩) k bc) (t := 94) hW
      have hKr : Keeps (fun x => x = w.heap.size) wr (((wr.setCell ⟨w.heap.size, 0, none⟩ (.slice (some ⟨g, 0, none⟩) k c)).setCell ⟨w.heap.size, 1, none⟩ (.slice (some ⟨a, 0, none⟩) k ac)).setCell ⟨w.heap.size, 2, none⟩ (.slice (some ⟨b, 0, none⟩) k bc)) :=
        (((Keeps.refl (fun x => x = w.heap.size) wr).setCell ⟨w.heap.size, 0, none⟩ rfl _).setCell ⟨w.heap.size, 1, none⟩ rfl _).setCell ⟨w.heap.size, 2, none⟩ rfl _
      refine bodyPost_ret (v := .agg #[.slice (some ⟨g, 0, none⟩) k c, .slice (some ⟨a, 0, none⟩) k ac, .slice (some ⟨b, 0, none⟩) k bc]) (by simp [results, Tryz.f40, go_sem, d0, d1, d2]) rfl ?_
      obtain ⟨_, _, _, hf1, hf2, hf3⟩ := unhide HE4
      exact ⟨_, k, f, ab, be, rfl, ⟨⟨g, c, a, ac, b, bc, rfl, hA9.keeps hKr (fun e => by omega), hab.keeps hKr (fun e => by omega), hbe.keeps hKr (fun e => by omega)⟩, hN1, hN2, hf1, hf2, hf3, hd⟩, b09.trans (hKr.below b09.size (fun x e => by omega))⟩
end Go.Proofs.YthcljhfankooaabGreat.C

namespace Go.Proofs.YthcljhfankooaabGreat.C
open Go.RowKit Go.Shelf Go.Maps

/-- The places that have none below them. -/
def firstsL (N : Nat) (be : Nat → Int) : List Nat := (List.range N).filter fun k => be k == -1
theorem firstsL_len (N : Nat) (be : Nat → Int) : (firstsL N be).length + (hads N be).length = N := by
  have := filter_two (fun k => be k == -1) (List.range N)
  rw [List.length_range] at this
  exact this.symm
theorem firstsL_succ (be : Nat → Int) (k : Nat) : firstsL (k + 1) be = firstsL k be ++ (if be k = -1 then [k] else []) := by
  unfold firstsL
  rw [List.range_succ, List.filter_append]
  by_cases h : be k = -1
  · simp [h]
  · simp [h]
theorem mem_firstsL {N : Nat} {be : Nat → Int} {k : Nat} : k ∈ firstsL N be ↔ k < N ∧ be k = -1 := by
  rw [firstsL, List.mem_filter, List.mem_range, beq_iff_eq]
theorem firstsL_le (k : Nat) (be : Nat → Int) : (firstsL k be).length ≤ k := by have := firstsL_len k be; omega
theorem OwnI.base {base base' : Nat} {w : World} {v : Value} {l : List Int} (h : OwnI base w v l) (hb : base' ≤ base) : OwnI base' w v l := by
  refine ⟨h.1, ?_⟩
  rcases h.2 with h | ⟨g, cap, cur, h1, h2, h3⟩
  · exact .inl h
  · exact .inr ⟨g, cap, cur, h1, by omega, h3⟩
theorem OwnI.nil (base : Nat) (w : World) : OwnI base w (.slice none 0 0) [] := World.ownsRow_nil _ _ _ _

def FsR (be : Nat → Int) (N B : Nat) (w1 : World) (v i : Value) (wr : World) : Prop := ∃ k : Nat, k ≤ N ∧ i = .int .i64 (k : Int) ∧ OwnI B wr v (toI (firstsL k be)) ∧ Below B w1 wr

set_option maxRecDepth 100000 in
set_option maxHeartbeats 4000000 in
theorem firsts_any (w : World) (pv : Value) (l : List Int) (N : Nat) (f ab be : Nat → Int) (h : Prs w pv l N f ab be) :
    Calls Tryz.prog 41 #[pv] w fun e w' => ∃ r, e = .returned r ∧ OwnI w.heap.size w' r (toI (firstsL N be)) ∧ Below w.heap.size w w' := by
  obtain ⟨sb, sc, a, ac, b, bc, rfl, hs, ha, hb⟩ := h.mem
  have hN := h.n2
  obtain ⟨b1, hnw, hs1⟩ := box3 w (.slice (some ⟨sb, 0, none⟩) N sc) (.slice (some ⟨a, 0, none⟩) N ac) (.slice (some ⟨b, 0, none⟩) N bc) 94
  obtain ⟨w1, hw1⟩ : ∃ w1, w1 = w.alloc (.cells #[.slice (some ⟨sb, 0, none⟩) N sc, .slice (some ⟨a, 0, none⟩) N ac, .slice (some ⟨b, 0, none⟩) N bc] 94) := ⟨_, rfl⟩
  rw [← hw1] at b1 hnw hs1
  obtain ⟨c0, c1, c2, _⟩ := three_cells hnw
  have lb := hb.lt
  have HB := hide (And.intro b1 (hb.later b1))
  have HS : Hid (FsR be N w1.heap.size w1 (.slice none 0 0) (.int .i64 0) w1) := ⟨0, Nat.zero_le _, rfl, OwnI.nil _ _, Below.refl _ _⟩
  clear h hs ha hb b1 hnw
  go_enter Tryz.func41, Tryz.ntmps41
  go_wp2_with fail
  rw [← hw1]
  clear hw1
  go_wp2_with fail
  go_loopw [3, 9] (fun v i wr => FsR be N w1.heap.size w1 v i wr) (fun _ i _ => N - (intOf i).toNat)
  case atStart => exact unhide HS
  case round =>
    obtain ⟨k, hk, rfl, hown, hbl⟩ := hrel
    by_cases hkN : k < N
    · obtain ⟨x0, _⟩ := ((unhide HB).2.later hbl).cell hkN
      have hle := firstsL_le k be
      obtain ⟨r, w7, hrun, hown7, hK7, hr7⟩ := app1_run wr _ _ (k : Int) hown hbl.size (by rw [toI_len]; omega)
      have hob := hown.block
      have b7 : Below w1.heap.size w1 w7 := hbl.trans (hK7.below hbl.size (fun b e => (hob b e).1))
      by_cases hz : be k = -1
      · have HN : Hid (FsR be N w1.heap.size w1 r (.int .i64 ((k + 1 : Nat) : Int)) w7) := ⟨k + 1, by omega, rfl, by rw [firstsL_succ, if_pos hz, toI_snoc]; exact hown7, b7⟩
        rw [hz] at x0
        obtain ⟨va, vn, vc, rfl⟩ : ∃ va vn vc, u3 = .slice va vn vc := by
          rcases hown.2 with ⟨e, _⟩ | ⟨g, cap, cur, e, _⟩
          · exact ⟨_, _, _, e⟩
          · exact ⟨_, _, _, e⟩
        have HRUN := hide hrun
        clear hown hbl hrun hown7 hK7 hr7 hob b7 hz
        go_wp2_with (at_builtin; refine wpList_append_run _ rfl _ _ 32 rfl _ _ rfl rfl _ _ (unhide HRUN) ?_)
        go_roundw
        case rel =>
          have := unhide HN
          rw [Int.natCast_add] at this
          exact this
        case measure => simp [intOf]; omega
      · have HN : Hid (FsR be N w1.heap.size w1 u3 (.int .i64 ((k + 1 : Nat) : Int)) wr) := ⟨k + 1, by omega, rfl, by rw [firstsL_succ, if_neg hz, List.append_nil]; exact hown, hbl⟩
        have hz1 : (be k == -1) = false := by simpa using hz
        generalize be k = bk at x0 hz1
        clear hown hbl hrun hown7 hK7 hr7 hob b7 hz
        go_wp2_with fail
        go_roundw
        case rel =>
          have := unhide HN
          rw [Int.natCast_add] at this
          exact this
        case measure => simp [intOf]; omega
    · have hkN2 : k = N := by omega
      subst hkN2
      have HE := hide (And.intro hown hbl)
      clear hown hbl
      go_wp2_with fail
      go_ret
      obtain ⟨hown, hbl⟩ := unhide HE
      exact ⟨_, rfl, hown.base (by omega), (unhide HB).1.trans (hbl.mono (by omega))⟩

def FmR (N : Nat) (f ab : Nat → Int) (s B : Nat) (w1 : World) (pl v : Value) (wr : World) : Prop := ∃ (r : List Nat) (p : Int), pl = .int .i64 p ∧ OwnI B wr v (r.map f) ∧ RowTo N f ab s r p ∧ ((p = -1 ∨ (r.length : Int) ≤ p) ∧ r.length ≤ N) ∧ Below B w1 wr
def fMeas (N : Nat) (v : Value) : Nat := if intOf v = -1 then 0 else N - (intOf v).toNat

set_option maxRecDepth 100000 in
set_option maxHeartbeats 4000000 in
theorem from_any (w : World) (pv : Value) (l : List Int) (N : Nat) (f ab be : Nat → Int) (h : Prs w pv l N f ab be) (s : Nat) (hs : s < N) :
    Calls Tryz.prog 43 #[pv, .int .i64 (s : Int)] w fun e w' => ∃ r rl, e = .returned r ∧ OwnI w.heap.size w' r (rl.map f) ∧ RowTo N f ab s rl (-1) ∧ rl.length ≤ N ∧ Below w.heap.size w w' := by
  obtain ⟨sb, sc, a, ac, b, bc, rfl, hsA, ha, hb⟩ := h.mem
  have hN := h.n2
  obtain ⟨b1, hnw, hs1⟩ := box3 w (.slice (some ⟨sb, 0, none⟩) N sc) (.slice (some ⟨a, 0, none⟩) N ac) (.slice (some ⟨b, 0, none⟩) N bc) 94
  obtain ⟨w1, hw1⟩ : ∃ w1, w1 = w.alloc (.cells #[.slice (some ⟨sb, 0, none⟩) N sc, .slice (some ⟨a, 0, none⟩) N ac, .slice (some ⟨b, 0, none⟩) N bc] 94) := ⟨_, rfl⟩
  rw [← hw1] at b1 hnw hs1
  have HB := hide (And.intro b1 (And.intro (hsA.later b1) (And.intro (ha.later b1) (And.intro h.done.1 (And.intro h.up h.small)))))
  have HS : Hid (FmR N f ab s w1.heap.size w1 (.int .i64 (s : Int)) (.slice none 0 0) w1) := ⟨[], s, rfl, OwnI.nil _ _, RowTo.start hs, ⟨.inr (by simp), by simp⟩, Below.refl _ _⟩
  clear h hsA ha hb b1
  go_enter Tryz.func43, Tryz.ntmps43
  go_wp2_with fail
  rw [← hw1]
  clear hw1
  go_wp2_with fail
  go_loopw [1, 5] (fun pl v wr => FmR N f ab s w1.heap.size w1 pl v wr) (fun pl _ _ => fMeas N pl)
  case atStart => exact unhide HS
  case round =>
    obtain ⟨r, p, rfl, hown, hrow, hlen, hbl⟩ := hrel
    by_cases hp : p = -1
    · subst hp
      have HE := hide (And.intro hown (And.intro hrow (And.intro hlen.2 hbl)))
      obtain ⟨va, vn, vc, rfl⟩ : ∃ va vn vc, u5 = .slice va vn vc := by
        rcases hown.2 with ⟨e, _⟩ | ⟨g, cap, cur, e, _⟩
        · exact ⟨_, _, _, e⟩
        · exact ⟨_, _, _, e⟩
      clear hown hrow hlen hbl
      go_wp2_with fail
      go_ret
      obtain ⟨hown, hrow, hln, hbl⟩ := unhide HE
      exact ⟨_, r, rfl, hown.base (by omega), hrow, hln, (unhide HB).1.trans (hbl.mono (by omega))⟩
    · obtain ⟨b0, hsA, ha, hpm, hup, hsm⟩ := unhide HB
      obtain ⟨k, hk, rfl, _⟩ := hrow.link.resolve_left hp
      obtain ⟨c0, c1, c2, _⟩ := three_cells ((hbl.block _ (by omega)).trans hnw)
      obtain ⟨x0, _⟩ := (hsA.later hbl).cell hk
      obtain ⟨y0, _⟩ := (ha.later hbl).cell hk
      have hlen2 := hlen.1.resolve_left hp
      obtain ⟨hrow2, _, hnx⟩ := hrow.step hpm hup (fun j hj => (hsm j hj).1)
      obtain ⟨r7, w7, hrun, hown7, hK7, hr7⟩ := app1_run wr _ _ (f k) hown hbl.size (by rw [List.length_map]; omega)
      have hob := hown.block
      have b7 : Below w1.heap.size w1 w7 := hbl.trans (hK7.below hbl.size (fun b e => (hob b e).1))
      have z1 := (hK7.cell c1 (fun e => by have := (hob _ e).1; simp only at this; omega))
      have z0 := (hK7.cell y0 (fun e => by have := (hob _ e).1; have := ha.lt; simp only at *; omega))
      have HN : Hid (FmR N f ab s w1.heap.size w1 (.int .i64 (ab k)) r7 w7) := ⟨r ++ [k], ab k, rfl, by rw [List.map_append]; exact hown7, hrow2, ⟨by simp only [List.length_append, List.length_cons, List.length_nil]; omega, by simp only [List.length_append, List.length_cons, List.length_nil]; omega⟩, b7⟩
      have HM : Hid (fMeas N (.int .i64 (ab k)) < fMeas N (.int .i64 (k : Int))) := by
        show fMeas N (.int .i64 (ab k)) < fMeas N (.int .i64 (k : Int))
        have e2 : fMeas N (.int .i64 (k : Int)) = N - k := if_neg (by show ¬ ((k : Int) = -1); omega)
        rcases hnx with e | e
        · have : fMeas N (.int .i64 (ab k)) = 0 := if_pos e
          omega
        · have : fMeas N (.int .i64 (ab k)) = N - (ab k).toNat := if_neg (by show ¬ (ab k = -1); omega)
          omega
      obtain ⟨va, vn, vc, rfl⟩ : ∃ va vn vc, u5 = .slice va vn vc := by
        rcases hown.2 with ⟨e, _⟩ | ⟨g, cap, cur, e, _⟩
        · exact ⟨_, _, _, e⟩
        · exact ⟨_, _, _, e⟩
      have HRUN := hide hrun
      have hk1 : ((k : Int) != -1) = true := by simp
      generalize f k = fk at x0 HRUN
      generalize ab k = ak at y0 z0 HN HM
      clear hown hbl hrun hown7 hK7 hr7 hob b7 hrow hrow2 hlen hlen2 hnx b0 hsA ha hpm hup hsm hp
      go_wp2_with (at_builtin; refine wpList_append_run _ rfl _ _ 32 rfl _ _ rfl rfl _ _ (unhide HRUN) ?_)
      go_roundw
      case rel => exact unhide HN
      case measure => exact unhide HM
end Go.Proofs.YthcljhfankooaabGreat.C
