/- Rows of searches that grow, and the orders that serve them. -/
import Derived.Test.YtclialdbaclpoaaSearch
import Derived.Test.YtclialdbaclpoaaMath
namespace Go.Proofs.Ytclialdbaclpoaa

/-- Part of a row, and what comes next. -/
structure RowTo (N : Nat) (w : Nat → Int) (ab : Nat → Int) (s : Nat) (r : List Nat) (p : Int) : Prop where
  mem : ∀ i ∈ r, i < N
  first : s ∈ r ∨ (r = [] ∧ p = s)
  next : ∀ i ∈ r, ab i = p ∨ ∃ k : Nat, ab i = k ∧ k ∈ r
  grow : r.Pairwise fun i k => sub (w i) (w k) = true
  link : p = -1 ∨ ∃ k : Nat, k < N ∧ p = k ∧ ∀ i ∈ r, sub (w i) (w k) = true ∧ i < k
/-- Rising searches. -/
def Up_ (N : Nat) (w : Nat → Int) : Prop := ∀ i j, i < j → j < N → w i < w j
theorem Up_.inj {N : Nat} {w : Nat → Int} (h : Up_ N w) : ∀ i j, i < N → j < N → w i = w j → i = j := fun i j hi hj e => by
  rcases Nat.lt_trichotomy i j with g | g | g
  · have := h i j g hj; omega
  · exact g
  · have := h j i g hi; omega
theorem Up_.lt {N : Nat} {w : Nat → Int} (h : Up_ N w) (h0 : ∀ j, j < N → 0 ≤ w j) {i k : Nat} (hi : i < N) (hk : k < N) (e : In w i k) : i < k := by
  have h1 := sub_le e.2 (h0 i hi) (h0 k hk)
  rcases Nat.lt_trichotomy i k with g | g | g
  · exact g
  · exact absurd g e.1
  · have := h k i g hi; omega
theorem RowTo.start {N : Nat} {w ab : Nat → Int} {s : Nat} (hs : s < N) : RowTo N w ab s [] s :=
  ⟨fun _ h => (by cases h), .inr ⟨rfl, rfl⟩, fun _ h => (by cases h), .nil, .inr ⟨s, hs, rfl, fun _ h => (by cases h)⟩⟩
theorem RowTo.step {N : Nat} {w ab be : Nat → Int} {s : Nat} {r : List Nat} {k : Nat} (h : RowTo N w ab s r k) (hp : PM N (In w) ab be) (hu : Up_ N w) (h0 : ∀ j, j < N → 0 ≤ w j) : RowTo N w ab s (r ++ [k]) (ab k) ∧ k < N ∧ (ab k = -1 ∨ (k : Int) < ab k) := by
  obtain ⟨k2, hk, e, hl⟩ := h.link.resolve_left (by omega)
  have : k2 = k := by omega
  subst this
  have hup := hp.up k2 hk
  refine ⟨⟨fun i hi => ?_, .inl ?_, fun i hi => ?_, ?_, ?_⟩, hk, ?_⟩
  · rcases List.mem_append.1 hi with g | g
    · exact h.mem i g
    · obtain rfl : i = k2 := by simpa using g
      exact hk
  · rcases h.first with g | ⟨g, e⟩
    · exact List.mem_append_left _ g
    · have : s = k2 := by omega
      simp [this]
  · rcases List.mem_append.1 hi with g | g
    · rcases h.next i g with e2 | ⟨k3, e2, e3⟩
      · exact .inr ⟨k2, e2, by simp⟩
      · exact .inr ⟨k3, e2, List.mem_append_left _ e3⟩
    · obtain rfl : i = k2 := by simpa using g
      exact .inl rfl
  · rw [List.pairwise_append]
    refine ⟨h.grow, List.pairwise_singleton _ _, fun a ha b hb => ?_⟩
    obtain rfl : b = k2 := by simpa using hb
    exact (hl a ha).1
  · refine hup.imp id fun ⟨j, j1, j2, _, j4⟩ => ⟨j, j1, j2, fun i hi => ?_⟩
    have hlt := hu.lt h0 hk j1 j4
    rcases List.mem_append.1 hi with g | g
    · exact ⟨sub_trans (hl i g).1 j4.2, by have := (hl i g).2; omega⟩
    · obtain rfl : i = k2 := by simpa using g
      exact ⟨j4.2, hlt⟩
  · refine hup.imp id fun ⟨j, j1, j2, _, j4⟩ => ?_
    have hlt := hu.lt h0 hk j1 j4
    omega
/-- Every search is in a row. -/
theorem rows_all {N : Nat} {w ab be : Nat → Int} (hp : PM N (In w) ab be) (hu : Up_ N w) (h0 : ∀ j, j < N → 0 ≤ w j) (R : Nat → List Nat) (hR : ∀ s, s < N → be s = -1 → RowTo N w ab s (R s) (-1)) : ∀ j, j < N → ∃ s, s < N ∧ be s = -1 ∧ j ∈ R s := by
  intro j
  induction j using Nat.strongRecOn with
  | ind j ih =>
    intro hj
    rcases hp.dn j hj with e | ⟨i, hi, e1, e2⟩
    · exact ⟨j, hj, e, (hR j hj e).first.resolve_right fun g => by omega⟩
    · obtain ⟨k, k1, k2, k3, k4⟩ := (hp.up i hi).resolve_left (by omega)
      have : k = j := by omega
      subst this
      obtain ⟨s, s1, s2, s3⟩ := ih i (hu.lt h0 hi hj k4) hi
      refine ⟨s, s1, s2, ?_⟩
      rcases (hR s s1 s2).next i s3 with e | ⟨k5, e5, e6⟩
      · omega
      · have : k5 = k := by omega
        exact this ▸ e6

/-- Columns that were placed: an order so far. -/
structure Ord (width : Nat) (o : List Int) (m : Nat) : Prop where
  one : o.Nodup
  lt : ∀ x ∈ o, 0 ≤ x ∧ x < width
  set : mask o = m
theorem Ord.nil (width : Nat) : Ord width [] 0 := ⟨List.nodup_nil, fun _ h => (by cases h), rfl⟩
theorem Ord.len {width : Nat} {o : List Int} {m : Nat} (h : Ord width o m) : o.length ≤ width := by
  have := nodup_le o ((List.range width).map Int.ofNat) h.one fun x hx => by
    have := h.lt x hx
    exact List.mem_map.2 ⟨x.toNat, List.mem_range.2 (by omega), by show ((x.toNat : Nat) : Int) = x; omega⟩
  simpa using this
/-- All columns: an order. -/
theorem Ord.whole {width : Nat} {o : List Int} (h : Ord width o (2 ^ width - 1)) (hw : width ≤ 8) : right o = true ∧ o.length = width := by
  have hall : ∀ i, i < width → ((i : Nat) : Int) ∈ o := fun i hi => by
    have h1 := mask_bit o i
    rw [h.set, Nat.testBit_two_pow_sub_one, decide_eq_true hi] at h1
    obtain ⟨x, hx, e⟩ := List.any_eq_true.1 h1.symm
    have h2 := h.lt x hx
    simp only [beq_iff_eq] at e
    have : x = i := by omega
    rw [← this]; exact hx
  have hl : o.length = width := Nat.le_antisymm h.len (hole width o hall)
  refine ⟨?_, hl⟩
  rw [right_iff, rright, hl, decide_eq_true hall, decide_eq_true hw]
  rfl
/-- While the columns of a search are placed: behind the first c. -/
structure Plc (width : Nat) (o : List Int) (m s c : Nat) (o' : List Int) : Prop where
  ext : ∃ e, o' = o ++ e
  one : o'.Nodup
  lt : ∀ x ∈ o', 0 ≤ x ∧ x < width
  set : ∀ i, (mask o').testBit i = (m.testBit i || (decide (i < c) && s.testBit i))
theorem Plc.start {width : Nat} {o : List Int} {m s : Nat} (h : Ord width o m) : Plc width o m s 0 o :=
  ⟨⟨[], by simp⟩, h.one, h.lt, fun i => by rw [h.set]; simp⟩
theorem Plc.len {width : Nat} {o : List Int} {m s c : Nat} {o' : List Int} (h : Plc width o m s c o') : o'.length ≤ width := Ord.len ⟨h.one, h.lt, rfl⟩
theorem Plc.yes {width : Nat} {o : List Int} {m s c : Nat} {o' : List Int} (h : Plc width o m s c o') (hc : c < width) (h1 : s.testBit c = true) (h2 : m.testBit c = false) : Plc width o m s (c + 1) (o' ++ [(c : Int)]) := by
  have hb := h.set c
  rw [h2] at hb
  simp at hb
  refine ⟨?_, ?_, fun x hx => ?_, fun i => ?_⟩
  · obtain ⟨e, he⟩ := h.ext
    exact ⟨e ++ [(c : Int)], by rw [he, List.append_assoc]⟩
  · rw [List.nodup_append]
    refine ⟨h.one, by simp, fun a ha b hb2 e => ?_⟩
    obtain rfl : b = (c : Int) := by simpa using hb2
    rw [mask_bit] at hb
    have := List.any_eq_false.1 hb a ha
    rw [e] at this
    simp at this
  · rcases List.mem_append.1 hx with g | g
    · exact h.lt x g
    · obtain rfl : x = (c : Int) := by simpa using g
      omega
  · rw [mask_snoc, Nat.testBit_or, h.set i, Int.toNat_natCast, Nat.testBit_two_pow]
    by_cases e : i = c
    · subst e; simp [h1]
    · have e2 : c ≠ i := fun g => e g.symm
      have : (decide (i < c + 1)) = decide (i < c) := decide_eq_decide.2 (by omega)
      rw [this]
      simp [e2]
theorem Plc.no {width : Nat} {o : List Int} {m s c : Nat} {o' : List Int} (h : Plc width o m s c o') (h1 : (s.testBit c && !m.testBit c) = false) : Plc width o m s (c + 1) o' := by
  refine ⟨h.ext, h.one, h.lt, fun i => ?_⟩
  rw [h.set i]
  by_cases e : i = c
  · subst e
    cases hs : s.testBit i with
    | false => simp
    | true =>
      rw [hs] at h1
      have : m.testBit i = true := by simpa using h1
      simp [this]
  · have : (decide (i < c + 1)) = decide (i < c) := decide_eq_decide.2 (by omega)
    rw [this]
theorem Plc.done {width : Nat} {o : List Int} {m s : Nat} {o' : List Int} (h : Plc width o m s width o') (hs : s < 2 ^ width) : Ord width o' (m ||| s) := by
  refine ⟨h.one, h.lt, Nat.eq_of_testBit_eq fun i => ?_⟩
  rw [h.set i, Nat.testBit_or]
  by_cases e : i < width
  · simp [e]
  · have : s.testBit i = false := Nat.testBit_lt_two_pow (Nat.lt_of_lt_of_le hs (Nat.pow_le_pow_right (by omega) (by omega)))
    simp [this]
/-- An order so far, and the searches of the row that it serves. -/
structure Srv (width : Nat) (ys : List Int) (t : Nat) (o : List Int) (m : Nat) : Prop where
  ord : Ord width o m
  now : m = if t = 0 then 0 else (ys.getD (t - 1) 0).toNat
  all : ∀ j, j < t → ∃ n, n ≤ o.length ∧ mask (o.take n) = (ys.getD j 0).toNat
theorem Srv.start (width : Nat) (ys : List Int) : Srv width ys 0 [] 0 := ⟨Ord.nil width, rfl, fun j h => by omega⟩
theorem Srv.step {width : Nat} {ys : List Int} {t : Nat} {o : List Int} {m : Nat} {o' : List Int} {s : Nat} (h : Srv width ys t o m) (hp : Plc width o m s width o') (hs : s < 2 ^ width) (hy : (ys.getD t 0).toNat = s) (hg : ∀ j, j < t → sub (ys.getD j 0) (ys.getD t 0) = true) : Srv width ys (t + 1) o' (m ||| s) := by
  have hd := hp.done hs
  have hms : m ||| s = s := by
    refine Nat.eq_of_testBit_eq fun i => ?_
    rw [Nat.testBit_or]
    cases hm : m.testBit i with
    | false => simp
    | true =>
      have hnow := h.now
      by_cases ht : t = 0
      · rw [if_pos ht] at hnow
        rw [hnow, Nat.zero_testBit] at hm
        cases hm
      · rw [if_neg ht] at hnow
        have := sub_iff.1 (hg (t - 1) (by omega)) i (by rw [← hnow]; exact hm)
        rw [hy] at this
        simp [this]
  refine ⟨hd, ?_, fun j hj => ?_⟩
  · rw [if_neg (by omega), show t + 1 - 1 = t by omega, hy, hms]
  · by_cases e : j < t
    · obtain ⟨n, n1, n2⟩ := h.all j e
      obtain ⟨x, hx⟩ := hp.ext
      refine ⟨n, by rw [hx, List.length_append]; omega, ?_⟩
      rw [hx, List.take_append_of_le_length n1]
      exact n2
    · have : j = t := by omega
      subst this
      exact ⟨o'.length, Nat.le_refl _, by rw [List.take_length, hd.set, hms, hy]⟩
end Go.Proofs.Ytclialdbaclpoaa
