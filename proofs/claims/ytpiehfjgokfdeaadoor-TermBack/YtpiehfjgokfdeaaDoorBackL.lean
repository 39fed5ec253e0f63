/- Values that are put one behind the other: plain facts. -/
import Derived.Test.YtpiehfjgokfdeaaDoorBackN
import Derived.Test.YtpiehfjgokfdeaaDoorSortsM
namespace Go.Proofs.YtpiehfjgokfdeaaDoor
open Go.RowKit

/-- All nodes are as long as a node is. -/
def SS.Long (S : SS) : Prop := ∀ l ∈ S.ns, l.length = 18
theorem putNode_long {S : SS} {word : ByteArray} {n : Nd} (h : S.Long) : (putNodeV S word n).2.Long := by
  unfold putNodeV
  split
  · exact h
  · split
    · exact h
    · intro l hl
      rcases List.mem_append.1 hl with hl | hl
      · exact h l hl
      · rw [List.mem_singleton.1 hl]; exact Nd.len _
theorem putV_long : ∀ (v : V) (d : Nat) (S : SS), v.may d = true → S.Long → (v.putV S).2.Long := by
  refine V.ind fun v ih d S hm h => ?_
  rcases kinds_of hm with hk | hk | hk
  · rw [V.putV_num hk]; exact h
  · rw [V.putV_sym hk]; exact h
  · have hargs : ∀ k, k ≤ v.len → (argsTo (fun i S => (v.kid i).putV S) k S).S.Long := by
      intro k
      induction k with
      | zero => intro _; exact h
      | succ k ihk =>
        intro hkl
        have hmk := may_kids hm hk k (by omega)
        simp only [argsTo]
        split
        · exact ih k (by omega) (d - 1) _ hmk (ihk (by omega))
        · exact ihk (by omega)
    rw [V.putV_con hk]
    split
    · exact putNode_long (hargs v.len (Nat.le_refl _))
    · exact hargs v.len (Nat.le_refl _)

theorem putNode_err (S : SS) (word : ByteArray) (n : Nd) : (putNodeV S word n).1.2 = 0 ∨ (putNodeV S word n).1.2 = 18 := by
  unfold putNodeV
  split
  · exact .inl rfl
  · split
    · exact .inr rfl
    · exact .inl rfl
theorem ansE_or (xs : List ByteArray) (s : ByteArray) : Sym.ansE xs s = 0 ∨ Sym.ansE xs s = 18 := by
  unfold Sym.ansE
  split
  · exact .inl rfl
  · split
    · exact .inr rfl
    · exact .inl rfl
theorem putV_err : ∀ (v : V) (d : Nat) (S : SS), v.may d = true → (v.putV S).1.2 = 0 ∨ (v.putV S).1.2 = 18 := by
  refine V.ind fun v ih d S hm => ?_
  rcases kinds_of hm with hk | hk | hk
  · rw [V.putV_num hk]; exact .inl rfl
  · rw [V.putV_sym hk]; exact ansE_or _ _
  · have hargs : ∀ k, k ≤ v.len → (argsTo (fun i S => (v.kid i).putV S) k S).err = 0 ∨ (argsTo (fun i S => (v.kid i).putV S) k S).err = 18 := by
      intro k
      induction k with
      | zero => intro _; exact .inl rfl
      | succ k ihk =>
        intro hkl
        have hmk := may_kids hm hk k (by omega)
        simp only [argsTo]
        split
        · exact ih k (by omega) (d - 1) _ hmk
        · exact ihk (by omega)
    rw [V.putV_con hk]
    split
    · exact putNode_err _ _ _
    · exact hargs v.len (Nat.le_refl _)
theorem putAll_err (v : V) (S : SS) : (putAll v S).1.2 = 0 ∨ ((putAll v S).1.2 = 1 ∧ v.right = false) ∨ (putAll v S).1.2 = 18 := by
  unfold putAll
  cases h : v.right with
  | true => simp only [if_true]; exact (putV_err v 32 S (right_may h)).elim .inl (fun e => .inr (.inr e))
  | false => exact .inr (.inl ⟨rfl, rfl⟩)
theorem putAll_right {v : V} {S : SS} (h : (putAll v S).1.2 = 0) : v.right = true ∧ putAll v S = v.putV S := by
  unfold putAll at h ⊢
  cases hr : v.right with
  | true => exact ⟨rfl, if_pos rfl⟩
  | false => rw [hr] at h; simp at h

/-- What stands behind k Puts. -/
def putsTo (kid : Nat → V) : Nat → SS
  | 0 => S0
  | k + 1 => (putAll (kid k) (putsTo kid k)).2
def numAt (kid : Nat → V) (k : Nat) : Int := (putAll (kid k) (putsTo kid k)).1.1
def errAt (kid : Nat → V) (k : Nat) : Int := (putAll (kid k) (putsTo kid k)).1.2

structure PutsOk (kid : Nat → V) (k : Nat) : Prop where
  ok : (putsTo kid k).Ok
  dis : (putsTo kid k).Dis
  long : (putsTo kid k).Long
  right : ∀ i, i < k → (kid i).right = true
  isIn : ∀ i, i < k → (kid i).IsIn (putsTo kid k) (numAt kid i)
theorem putsOk_zero (kid : Nat → V) : PutsOk kid 0 :=
  ⟨⟨Nat.le_refl _, fun l hl => (by cases hl)⟩, ⟨List.nodup_nil, List.nodup_nil, List.nodup_nil⟩, fun l hl => (by cases hl), fun i hi => absurd hi (Nat.not_lt_zero i), fun i hi => absurd hi (Nat.not_lt_zero i)⟩
theorem PutsOk.next {kid : Nat → V} {k : Nat} (h : PutsOk kid k) (he : errAt kid k = 0) : PutsOk kid (k + 1) := by
  obtain ⟨hr, e⟩ := putAll_right he
  have hm := right_may hr
  have hin := putV_in (kid k) 32 (putsTo kid k) hm h.ok (by rw [← e]; exact he)
  have hle := putV_le (kid k) 32 (putsTo kid k) hm
  refine ⟨putAll_ok h.ok, ?_, ?_, fun i hi => ?_, fun i hi => ?_⟩
  · show ((putAll _ _).2).Dis
    rw [e]; exact putV_dis _ 32 _ hm h.ok h.dis
  · show ((putAll _ _).2).Long
    rw [e]; exact putV_long _ 32 _ hm h.long
  · rcases Nat.lt_or_eq_of_le (Nat.lt_succ_iff.1 hi) with g | rfl
    · exact h.right i g
    · exact hr
  · show (kid i).IsIn ((putAll _ _).2) _
    rcases Nat.lt_or_eq_of_le (Nat.lt_succ_iff.1 hi) with g | rfl
    · rw [e]
      exact IsIn.more hle _ 32 _ (right_may (h.right i g)) (h.isIn i g)
    · unfold numAt
      rw [e]
      exact hin

theorem ordAll_right {a b : V} (ha : a.right = true) (hb : b.right = true) : ordAll a b = a.ord b := by
  unfold ordAll
  rw [ha, hb]; rfl
/-- The same number, of one kind, just where they are the same. -/
theorem PutsOk.same {kid : Nat → V} {n i k : Nat} (h : PutsOk kid n) (hi : i < n) (hk : k < n) (e : (kid k).kind = (kid i).kind) : (numAt kid k == numAt kid i) = (ordAll (kid k) (kid i) == 0) := by
  rw [ordAll_right (h.right k hk) (h.right i hi), Bool.eq_iff_iff, beq_iff_eq, beq_iff_eq]
  exact isIn_same h.dis (kid k) (kid i) 32 32 _ _ (right_may (h.right k hk)) (right_may (h.right i hi)) e (h.isIn k hk) (h.isIn i hi)
theorem ord_back {u v : V} (h : u.ord v = 0) : (v.ord u == 0) = true := by
  rw [ord_neg u v, h]; rfl
end Go.Proofs.YtpiehfjgokfdeaaDoor
