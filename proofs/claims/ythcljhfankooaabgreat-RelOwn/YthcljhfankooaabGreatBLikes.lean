/- Which tuples a range goes over: those of a head; all of them with no head. Sets as lists. -/
import Derived.Test.YthcljhfankooaabGreatBAlike
namespace Go.Proofs.YthcljhfankooaabGreat
open Go.RowKit

/-- Numbers of 64 bits are not below the least one. -/
def Bnd (x : List Int) : Prop := ∀ n ∈ x, -9223372036854775808 ≤ n
def BndI (l : List Item) : Prop := ∀ y ∈ l, Bnd y.2
theorem lowTo_at (cols : List Int) : ∀ (x : List Int) (i : Int), 0 ≤ i → i < (x.length : Int) → (∀ c ∈ cols, 0 ≤ c) → at_ (lowTo cols x) i = if i ∈ cols then -9223372036854775808 else at_ x i := by
  induction cols with
  | nil => intro x i _ _ _; simp [lowTo]
  | cons c r ih =>
    intro x i h0 h1 hc
    have e : lowTo (c :: r) x = lowTo r (x.set c.toNat (-9223372036854775808)) := rfl
    rw [e, ih (x.set c.toNat (-9223372036854775808)) i h0 (by simpa using h1) (fun d hd => hc d (by simp [hd]))]
    by_cases hr : i ∈ r
    · simp [hr]
    · have c0 := hc c (by simp)
      by_cases hci : i = c
      · subst hci
        have : i.toNat < x.length := by omega
        simp [at_, List.getD, this]
      · have hne : c.toNat ≠ i.toNat := by omega
        simp [hr, hci, at_, List.getD, List.getElem?_set_ne hne]
theorem turn_low {o x : List Int} (ho : right o = true) (hx : x.length = o.length) {c : Nat} (hc : c ≤ o.length) : turn o (lowTo (o.drop c) x) = (turn o x).take c ++ List.replicate (o.length - c) (-9223372036854775808) := by
  obtain ⟨_, hin⟩ := right_in ho
  apply List.ext_getElem
  · simp [turn_length]; omega
  · intro i h1 h2
    have hi : i < o.length := by simpa [turn_length] using h1
    have hm := hin o[i] (List.getElem_mem hi)
    have e1 : (turn o (lowTo (o.drop c) x))[i] = at_ (lowTo (o.drop c) x) o[i] := by simp [turn]
    rw [e1, lowTo_at _ _ _ hm.1 (by omega) (fun d hd => (hin d (List.mem_of_mem_drop hd)).1)]
    by_cases hci : i < c
    · rw [List.getElem_append_left (by simp [turn_length]; omega), if_neg]
      · simp [turn]
      · intro hmem
        obtain ⟨j, hj, e⟩ := List.getElem_of_mem hmem
        rw [List.getElem_drop] at e
        have hj2 : c + j < o.length := by simp at hj; omega
        have := right_one ho (c + j) i hj2 hi e
        omega
    · rw [List.getElem_append_right (by simp [turn_length]; omega), if_pos]
      · simp
      · rw [List.mem_iff_getElem]
        refine ⟨i - c, by simp; omega, ?_⟩
        rw [List.getElem_drop]
        congr 1
        omega
theorem lex_app : ∀ (p u v : List Int), lex (p ++ u) (p ++ v) = lex u v
  | [], _, _ => rfl
  | x :: r, u, v => by
    rw [List.cons_append, List.cons_append, lex, if_neg (by omega), if_neg (by omega)]
    exact lex_app r u v
theorem lex_least : ∀ (n : Nat) (b : List Int), Bnd b → lex (List.replicate n (-9223372036854775808)) b ≤ 0
  | 0, _, _ => by simp [lex]
  | n + 1, [], _ => by simp [lex, List.replicate_succ]
  | n + 1, y :: s, h => by
    have := h y (by simp)
    have ih := lex_least n s (fun z hz => h z (by simp [hz]))
    rw [List.replicate_succ, lex]
    split
    · omega
    · rw [if_neg (by omega)]
      exact ih
theorem turn_bnd {o y : List Int} (h : Bnd y) : Bnd (turn o y) := fun n hn => by
  obtain ⟨c, _, rfl⟩ := List.mem_map.1 hn
  unfold at_
  by_cases hc : c.toNat < y.length
  · rw [List.getD, List.getElem?_eq_getElem hc]
    exact h _ (List.getElem_mem hc)
  · rw [List.getD, List.getElem?_eq_none (by omega)]
    simp
theorem take_clip {l : List Int} {n : Nat} (k : Int) (h : l.length = n) : l.take (clip k n) = l.take k.toNat := by
  unfold clip
  by_cases hk : k ≤ (n : Int)
  · rw [Int.min_eq_left hk]
    congr 1
    omega
  · rw [Int.min_eq_right (by omega), List.take_of_length_le (by omega), List.take_of_length_le (by omega)]
theorem least_len {o x : List Int} (k : Int) : (leastL o k x).length = x.length := by
  unfold leastL
  split
  · exact lowTo_length _ _
  · rfl
theorem turn_least {o x : List Int} (ho : right o = true) (hx : x.length = o.length) (k : Int) : turn o (leastL o k x) = (turn o x).take k.toNat ++ List.replicate (o.length - clip k o.length) (-9223372036854775808) := by
  rw [leastL, if_pos (fitB_true.2 hx), turn_low ho hx (clip_le _ _), take_clip k (by simp [turn_length])]
theorem head_ge {o x y : List Int} {k : Int} {v : Value} (ho : right o = true) (hx : x.length = o.length) (hy : y.length = o.length) (hb : Bnd y) (h : headA o k y x = true) : geF o (leastL o k x) (v, y) = true := by
  have h2 : (turn o y).take k.toNat = (turn o x).take k.toNat := by
    rw [headA, fitN_mk2 hy hx ho] at h
    simpa using h
  have e : lex (turn o (leastL o k x)) (turn o y) ≤ 0 := by
    rw [turn_least ho hx]
    have e2 : turn o y = (turn o x).take k.toNat ++ (turn o y).drop k.toNat := by rw [← h2]; exact (List.take_append_drop _ _).symm
    rw [e2, lex_app]
    exact lex_least _ _ (fun n hn => turn_bnd hb n (List.mem_of_mem_drop hn))
  have := lex_neg (turn o (leastL o k x)) (turn o y)
  simp only [geF, decide_eq_true_eq]
  rw [cmpA_all ho hy ((least_len k).trans hx)]
  omega
theorem tw_filter {o x : List Int} {k : Int} (ho : right o = true) (hx : x.length = o.length) : ∀ L : List Item, Rises o L → (∀ y ∈ L, 0 ≤ cmpA o y.2 (leastL o k x)) → L.takeWhile (fun y => headA o k y.2 x) = L.filter (fun y => headA o k y.2 x)
  | [], _, _ => rfl
  | a :: r, hR, hg => by
    have hr : Rises o r := Rises.rest (a := [a]) hR
    by_cases ha : headA o k a.2 x = true
    · rw [List.takeWhile_cons_of_pos (by simpa using ha), List.filter_cons_of_pos (by simpa using ha), tw_filter ho hx r hr (fun y hy => hg y (by simp [hy]))]
    · rw [List.takeWhile_cons_of_neg (by simpa using ha), List.filter_cons_of_neg (by simpa using ha)]
      symm
      rw [List.filter_eq_nil_iff]
      intro b hb hbh
      apply ha
      have la := hR.2 a (by simp)
      have lb := hR.2 b (by simp [hb])
      have ll : (leastL o k x).length = o.length := (least_len k).trans hx
      have h1 := hg a (by simp)
      have h2 := hR.cross (a := [a]) (b := r) a (by simp) b hb
      rw [cmpA_all ho la ll] at h1
      rw [cmpA_all ho la lb] at h2
      have h3 := lex_neg (turn o a.2) (turn o (leastL o k x))
      have hb2 : (turn o b.2).take k.toNat = (turn o x).take k.toNat := by
        rw [headA, fitN_mk2 lb hx ho] at hbh
        simpa using hbh
      have hlow : (turn o (leastL o k x)).take k.toNat = (turn o x).take k.toNat := by
        rw [turn_least ho hx]
        have hlen : (turn o x).length = o.length := turn_length _ _
        by_cases hk : k.toNat ≤ o.length
        · rw [List.take_append_of_le_length (by simp; omega), List.take_take]
          simp
        · have hc : clip k o.length = o.length := by unfold clip; omega
          rw [hc, Nat.sub_self, List.replicate_zero, List.append_nil, List.take_take, Nat.min_self]
      have := lex_head k.toNat (turn o (leastL o k x)) (turn o a.2) (turn o b.2) (by simp [turn_length]) (by simp [turn_length]) (by have := lex_neg (turn o (leastL o k x)) (turn o a.2); omega) (by omega) (hlow.trans hb2.symm)
      rw [headA, fitN_mk2 la hx ho]
      simp only [Bool.true_and, decide_eq_true_eq]
      rw [← this, hlow]
/-- A range goes over just the tuples of the head. -/
theorem like_filter {o x : List Int} {k : Int} {l : List Item} (ho : right o = true) (hR : Rises o l) (hB : BndI l) : likeI o k x l = l.filter (fun y => headA o k y.2 x) := by
  unfold likeI
  by_cases hx : x.length = o.length
  · have hl : (leastL o k x).length = o.length := (least_len k).trans hx
    rw [fromI, if_pos (fitB_true.2 hl), ge]
    have hsub : Rises o (l.filter (geF o (leastL o k x))) := ⟨hR.1.filter _, fun a ha => hR.2 a (List.mem_filter.1 ha).1⟩
    rw [tw_filter ho hx _ hsub (fun y hy => by simpa [geF] using (List.mem_filter.1 hy).2), List.filter_filter]
    refine List.filter_congr (fun y hy => ?_)
    by_cases hh : headA o k y.2 x = true
    · have := head_ge (v := y.1) ho hx (hR.2 y hy) (hB y hy) hh
      rw [hh, this]; rfl
    · have : headA o k y.2 x = false := by simpa using hh
      rw [this]; rfl
  · have e : fitB o (leastL o k x) = false := by
      rw [← Bool.not_eq_true, fitB_true, least_len]
      exact hx
    rw [fromI, e]
    symm
    simp only [Bool.false_eq_true, if_false, List.takeWhile_nil]
    rw [List.filter_eq_nil_iff]
    intro y _ h
    rw [headA, Bool.and_eq_true] at h
    have := (fitN_two h.1).2.1
    exact hx this
theorem head_none {o x y : List Int} (ho : right o = true) (hx : x.length = o.length) (hy : y.length = o.length) : headA o 0 y x = true := by rw [headA, fitN_mk2 hy hx ho]; simp
theorem like_all {o : List Int} {l : List Item} (ho : right o = true) (hR : Rises o l) (hB : BndI l) : likeI o 0 (List.replicate o.length 0) l = l := by
  rw [like_filter ho hR hB, List.filter_eq_self]
  exact fun y hy => head_none ho (by simp) (hR.2 y hy)

/-- Sets with the same members are the same. -/
theorem Rises.head_lt {o : List Int} {a : Item} {r : List Item} (h : Rises o (a :: r)) : ∀ y ∈ r, cmpA o a.2 y.2 < 0 := fun y hy => h.cross (a := [a]) (b := r) a (by simp) y hy
theorem hasI_iff {x : List Int} {l : List Item} : hasI x l = true ↔ ∃ y ∈ l, y.2 = x := by
  constructor
  · intro h
    by_cases hh : ∃ y ∈ l, y.2 = x
    · exact hh
    · exfalso
      rw [hasI_false (fun y hy e => hh ⟨y, hy, e⟩)] at h
      cases h
  · rintro ⟨y, hy, e⟩
    exact hasI_mem hy e
theorem rises_same {o : List Int} (ho : right o = true) : ∀ l m : List Item, Rises o l → Rises o m → (∀ x, hasI x l = hasI x m) → l.map (·.2) = m.map (·.2)
  | [], [], _, _, _ => rfl
  | [], b :: s, _, _, h => by
    have := h b.2
    rw [hasI_mem (y := b) (l := b :: s) (by simp) rfl] at this
    cases this
  | a :: r, [], _, _, h => by
    have := h a.2
    rw [hasI_mem (y := a) (l := a :: r) (by simp) rfl] at this
    cases this
  | a :: r, b :: s, hl, hm, h => by
    have la := hl.2 a (by simp)
    have lb := hm.2 b (by simp)
    have e : a.2 = b.2 := by
      have h1 := (h a.2).symm
      rw [hasI_mem (y := a) (l := a :: r) (by simp) rfl] at h1
      have h2 := h b.2
      rw [hasI_mem (y := b) (l := b :: s) (by simp) rfl] at h2
      obtain ⟨y, hy, ey⟩ := hasI_iff.1 h1
      obtain ⟨z, hz, ez⟩ := hasI_iff.1 h2
      rcases List.mem_cons.1 hy with rfl | hy
      · exact ey.symm
      · rcases List.mem_cons.1 hz with rfl | hz
        · exact ez
        · exfalso
          have c1 := hm.head_lt y hy
          have c2 := hl.head_lt z hz
          rw [ey] at c1
          rw [ez] at c2
          have := cmpA_neg ho la lb
          omega
    rw [List.map_cons, List.map_cons, e]
    congr 1
    refine rises_same ho r s (Rises.rest (a := [a]) hl) (Rises.rest (a := [b]) hm) (fun x => ?_)
    have self : ∀ {c : Item} {t : List Item}, Rises o (c :: t) → hasI c.2 t = false := fun {c t} hc => hasI_false (fun y hy ey => by
      have h1 := hc.head_lt y hy
      rw [ey, cmpA_self o c.2 ho (hc.2 c (by simp))] at h1
      omega)
    by_cases hx : x = a.2
    · rw [hx, self hl, e, self hm]
    · have h1 := h x
      have s1 : hasI x (a :: r) = hasI x r := by
        show hasI x ([a] ++ r) = _
        rw [hasI_append, hasI_false (l := [a]) (fun y hy ey => hx (by rw [List.mem_singleton.1 hy] at ey; exact ey.symm))]
        rfl
      have s2 : hasI x (b :: s) = hasI x s := by
        show hasI x ([b] ++ s) = _
        rw [hasI_append, hasI_false (l := [b]) (fun y hy ey => hx (by rw [List.mem_singleton.1 hy] at ey; rw [e]; exact ey.symm))]
        rfl
      rw [s1, s2] at h1
      exact h1
end Go.Proofs.YthcljhfankooaabGreat
