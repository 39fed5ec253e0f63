/- Unlike values that may be have unlike texts. -/
import Derived.Test.YtbfkcfhkccicoaaDoorTextY
namespace Go.Proofs.YtbfkcfhkccicoaaDoor
open Go.RowKit

/-- What may stand behind a value's text. -/
def Good (r : List UInt8) : Prop := r = [] ∨ r.head? = some 41 ∨ r.head? = some 44

def digs (l : List UInt8) : Prop := ∀ c ∈ l, 48 ≤ c.toNat ∧ c.toNat ≤ 57
theorem dec_digs (u : Nat) : digs (Lib.decDigits u) := by
  induction u using Nat.strongRecOn with
  | _ u ih =>
    intro c hc
    rw [Lib.decDigits] at hc
    split at hc
    · rename_i h
      simp only [List.mem_cons, List.not_mem_nil, or_false] at hc
      subst hc
      have : (UInt8.ofNat (48 + u)).toNat = 48 + u := by simp; omega
      omega
    · rcases List.mem_append.1 hc with h | h
      · exact ih _ (by omega) c h
      · simp only [List.mem_cons, List.not_mem_nil, or_false] at h
        subst h
        have : (UInt8.ofNat (48 + u % 10)).toNat = 48 + u % 10 := by simp; omega
        omega
theorem dec_ne (u : Nat) : Lib.decDigits u ≠ [] := by rw [Lib.decDigits]; split <;> simp

def val10 : List UInt8 → Nat → Nat
  | [], a => a
  | c :: l, a => val10 l (a * 10 + (c.toNat - 48))
theorem val10_app : ∀ (l m : List UInt8) (a : Nat), val10 (l ++ m) a = val10 m (val10 l a)
  | [], _, _ => rfl
  | _ :: l, m, _ => val10_app l m _
theorem val10_dec (u : Nat) : val10 (Lib.decDigits u) 0 = u := by
  induction u using Nat.strongRecOn with
  | _ u ih =>
    rw [Lib.decDigits]
    split
    · rename_i h
      have : (UInt8.ofNat (48 + u)).toNat = 48 + u := by simp; omega
      simp only [val10, this]; omega
    · rw [val10_app, ih _ (by omega)]
      have : (UInt8.ofNat (48 + u % 10)).toNat = 48 + u % 10 := by simp; omega
      simp only [val10, this]; omega
theorem dec_inj {u v : Nat} (h : Lib.decDigits u = Lib.decDigits v) : u = v := by rw [← val10_dec u, ← val10_dec v, h]

theorem digs_split : ∀ {l m r r' : List UInt8}, digs l → digs m → Good r → Good r' → l ++ r = m ++ r' → l = m ∧ r = r'
  | [], [], _, _, _, _, _, _, h => ⟨rfl, h⟩
  | [], c :: m, r, r', _, hm, hr, _, h => by
    have hc := hm c (by simp)
    simp only [List.nil_append, List.cons_append] at h
    subst h
    rcases hr with e | e | e
    · cases e
    · simp at e; subst e; simp at hc
    · simp at e; subst e; simp at hc
  | c :: l, [], r, r', hl, _, _, hr, h => by
    have hc := hl c (by simp)
    simp only [List.nil_append, List.cons_append] at h
    subst h
    rcases hr with e | e | e
    · cases e
    · simp at e; subst e; simp at hc
    · simp at e; subst e; simp at hc
  | c :: l, d :: m, r, r', hl, hm, hr, hr', h => by
    simp only [List.cons_append, List.cons.injEq] at h
    obtain ⟨rfl, h⟩ := h
    obtain ⟨h1, h2⟩ := digs_split (fun x hx => hl x (by simp [hx])) (fun x hx => hm x (by simp [hx])) hr hr' h
    exact ⟨by rw [h1], h2⟩

theorem itoa_split {n m : Int} {r r' : List UInt8} (hr : Good r) (hr' : Good r') (h : Lib.itoa n ++ r = Lib.itoa m ++ r') : n = m ∧ r = r' := by
  unfold Lib.itoa at h
  have head : ∀ (u : Nat) (x : List UInt8) (y : List UInt8), Lib.decDigits u ++ x ≠ 45 :: y := fun u x y e => by
    cases hd : Lib.decDigits u with
    | nil => exact dec_ne u hd
    | cons c l =>
      have := dec_digs u c (by rw [hd]; simp)
      rw [hd] at e
      simp only [List.cons_append, List.cons.injEq] at e
      rw [e.1] at this
      simp at this
  split at h
  · split at h
    · simp only [List.cons_append, List.cons.injEq, true_and] at h
      obtain ⟨h1, h2⟩ := digs_split (dec_digs _) (dec_digs _) hr hr' h
      have := dec_inj h1
      exact ⟨by omega, h2⟩
    · exact absurd h.symm (head _ _ _)
  · split at h
    · exact absurd h (head _ _ _)
    · obtain ⟨h1, h2⟩ := digs_split (dec_digs _) (dec_digs _) hr hr' h
      have := dec_inj h1
      exact ⟨by omega, h2⟩

theorem esc_cases (c : UInt8) : (∃ x, esc c = [92, x] ∧ (c = 34 ∧ x = 34 ∨ c = 92 ∧ x = 92 ∨ c = 10 ∧ x = 110 ∨ c = 9 ∧ x = 116)) ∨ (esc c = [c] ∧ c ≠ 34 ∧ c ≠ 92) := by
  unfold esc
  by_cases h1 : c = 34
  · exact .inl ⟨34, by rw [if_pos h1], .inl ⟨h1, rfl⟩⟩
  · by_cases h2 : c = 92
    · exact .inl ⟨92, by rw [if_neg h1, if_pos h2], .inr (.inl ⟨h2, rfl⟩)⟩
    · by_cases h3 : c = 10
      · exact .inl ⟨110, by rw [if_neg h1, if_neg h2, if_pos h3], .inr (.inr (.inl ⟨h3, rfl⟩))⟩
      · by_cases h4 : c = 9
        · exact .inl ⟨116, by rw [if_neg h1, if_neg h2, if_neg h3, if_pos h4], .inr (.inr (.inr ⟨h4, rfl⟩))⟩
        · exact .inr ⟨by rw [if_neg h1, if_neg h2, if_neg h3, if_neg h4], h1, h2⟩
theorem escs_cons (c : UInt8) (l : List UInt8) : escs (c :: l) = esc c ++ escs l := rfl

theorem escs_split : ∀ {l m r r' : List UInt8}, escs l ++ 34 :: r = escs m ++ 34 :: r' → l = m ∧ r = r'
  | [], [], r, r', h => by
    simp only [escs, List.flatMap_nil, List.nil_append, List.cons.injEq, true_and] at h
    exact ⟨rfl, h⟩
  | [], c :: m, r, r', h => by
    rw [escs_cons] at h
    rcases esc_cases c with ⟨x, e, _⟩ | ⟨e, h1, _⟩
    · rw [e] at h; simp [escs] at h
    · rw [e] at h
      simp only [escs, List.flatMap_nil, List.nil_append, List.cons_append, List.cons.injEq] at h
      exact absurd h.1.symm h1
  | c :: l, [], r, r', h => by
    rw [escs_cons] at h
    rcases esc_cases c with ⟨x, e, _⟩ | ⟨e, h1, _⟩
    · rw [e] at h; simp [escs] at h
    · rw [e] at h
      simp only [escs, List.flatMap_nil, List.nil_append, List.cons_append, List.cons.injEq] at h
      exact absurd h.1 h1
  | c :: l, d :: m, r, r', h => by
    rw [escs_cons, escs_cons, List.append_assoc, List.append_assoc] at h
    rcases esc_cases c with ⟨x, e, hx⟩ | ⟨e, h1, h2⟩ <;> rcases esc_cases d with ⟨y, e', hy⟩ | ⟨e', h1', h2'⟩
    · rw [e, e'] at h
      simp only [List.cons_append, List.nil_append, List.cons.injEq, true_and] at h
      obtain ⟨hxy, h3⟩ := h
      obtain ⟨h4, h5⟩ := escs_split h3
      have hcd : c = d := by
        rcases hx with ⟨rfl, rfl⟩ | ⟨rfl, rfl⟩ | ⟨rfl, rfl⟩ | ⟨rfl, rfl⟩ <;> rcases hy with ⟨rfl, rfl⟩ | ⟨rfl, rfl⟩ | ⟨rfl, rfl⟩ | ⟨rfl, rfl⟩ <;> first | rfl | (exact absurd hxy (by decide))
      exact ⟨by rw [hcd, h4], h5⟩
    · rw [e, e'] at h
      simp only [List.cons_append, List.nil_append, List.cons.injEq] at h
      exact absurd h.1.symm h2'
    · rw [e, e'] at h
      simp only [List.cons_append, List.nil_append, List.cons.injEq] at h
      exact absurd h.1 h2
    · rw [e, e'] at h
      simp only [List.cons_append, List.nil_append, List.cons.injEq] at h
      obtain ⟨h3, h4⟩ := h
      obtain ⟨h5, h6⟩ := escs_split h4
      exact ⟨by rw [h3, h5], h6⟩

theorem word_split : ∀ {l m r r' : List UInt8}, (∀ c ∈ l, c ≠ 40) → (∀ c ∈ m, c ≠ 40) → l ++ 40 :: r = m ++ 40 :: r' → l = m ∧ r = r'
  | [], [], _, _, _, _, h => by simpa using h
  | [], c :: m, _, _, _, hm, h => by
    simp only [List.nil_append, List.cons_append, List.cons.injEq] at h
    exact absurd h.1.symm (hm c (by simp))
  | c :: l, [], _, _, hl, _, h => by
    simp only [List.nil_append, List.cons_append, List.cons.injEq] at h
    exact absurd h.1 (hl c (by simp))
  | c :: l, d :: m, r, r', hl, hm, h => by
    simp only [List.cons_append, List.cons.injEq] at h
    obtain ⟨rfl, h⟩ := h
    obtain ⟨h1, h2⟩ := word_split (fun x hx => hl x (by simp [hx])) (fun x hx => hm x (by simp [hx])) h
    exact ⟨by rw [h1], h2⟩

theorem wd_bytes {s : ByteArray} (h : isWd s = true) : ∀ c ∈ s.data.toList, c ≠ 40 := fun c hc e => by
  unfold isWd at h
  simp only [Bool.and_eq_true, allTo_iff] at h
  obtain ⟨i, hi, he⟩ := List.getElem_of_mem hc
  have hi2 : i < s.size := by simpa using hi
  have := h.2 i hi2
  rw [chAt_eq hi2] at this
  have h2 : s[i] = c := he
  rw [h2, e] at this
  simp [wch, lt, dg] at this

/-- What stands behind the first Arg. -/
def tailFrom (t : Nat → List UInt8) : Nat → Nat → List UInt8
  | _, 0 => []
  | i, n + 1 => [44, 32] ++ t i ++ tailFrom t (i + 1) n
theorem tailFrom_snoc (t : Nat → List UInt8) : ∀ (n i : Nat), tailFrom t i (n + 1) = tailFrom t i n ++ ([44, 32] ++ t (i + n))
  | 0, i => by simp [tailFrom]
  | n + 1, i => by
    rw [tailFrom, tailFrom_snoc t n (i + 1), tailFrom]
    simp [Nat.add_assoc, Nat.add_comm 1 n]
theorem joinTo_tail (t : Nat → List UInt8) : ∀ n : Nat, joinTo t (n + 1) = t 0 ++ tailFrom t 1 n
  | 0 => by simp [joinTo, tailFrom]
  | n + 1 => by
    rw [joinTo, joinTo_tail t n, tailFrom_snoc, if_neg (by omega), Nat.add_comm 1 n]
    simp
theorem good_tail (t : Nat → List UInt8) (i n : Nat) (r : List UInt8) : Good (tailFrom t i n ++ 41 :: r) := by
  cases n with
  | zero => exact .inr (.inl rfl)
  | succ n => exact .inr (.inr rfl)

theorem tail_split {t t' : Nat → List UInt8} {q : Nat → Prop} : ∀ {n m i : Nat} {r r' : List UInt8},
    (∀ j, i ≤ j → j < i + n → j < i + m → ∀ x x', Good x → Good x' → t j ++ x = t' j ++ x' → q j ∧ x = x') → tailFrom t i n ++ 41 :: r = tailFrom t' i m ++ 41 :: r' → n = m ∧ r = r' ∧ ∀ j, i ≤ j → j < i + n → q j
  | 0, 0, i, r, r', _, h => by
    simp only [tailFrom, List.nil_append, List.cons.injEq, true_and] at h
    exact ⟨rfl, h, fun j h1 h2 => by omega⟩
  | 0, m + 1, i, r, r', _, h => by simp [tailFrom] at h
  | n + 1, 0, i, r, r', _, h => by simp [tailFrom] at h
  | n + 1, m + 1, i, r, r', hq, h => by
    simp only [tailFrom, List.append_assoc, List.cons_append, List.nil_append, List.cons.injEq, true_and] at h
    obtain ⟨h1, h2⟩ := hq i (Nat.le_refl _) (by omega) (by omega) _ _ (good_tail _ _ _ _) (good_tail _ _ _ _) h
    obtain ⟨h3, h4, h5⟩ := tail_split (q := q) (fun j hj1 hj2 hj3 => hq j (by omega) (by omega) (by omega)) h2
    refine ⟨by omega, h4, fun j hj1 hj2 => ?_⟩
    by_cases e : j = i
    · subst e; exact h1
    · exact h5 j (by omega) (by omega)

theorem str_eq {s t : ByteArray} (h : s.data.toList = t.data.toList) : s = t := by
  cases s; cases t
  simp only [ByteArray.mk.injEq]
  exact Array.toList_inj.1 h
theorem cmpS_zero {s t : ByteArray} : cmpS s t = 0 ↔ s = t := by
  constructor
  · intro h
    unfold cmpS at h
    split at h
    · cases h
    · rename_i h1
      split at h
      · cases h
      · rename_i h2
        rw [bytes_gtr s.toList t.toList] at h2
        simp only [Bool.not_eq_true, Bool.not_eq_false', Bool.or_eq_true] at h2
        rcases h2 with h2 | h2
        · exact absurd h2 h1
        · have := beq_iff_eq.1 h2
          rw [Lib.toList_data, Lib.toList_data] at this
          exact str_eq this
  · intro h; subst h; exact cmpS_self s
theorem ord_zero (a b : V) : a.ord b = 0 ↔ a.kind = b.kind ∧ a.num = b.num ∧ a.str = b.str ∧ a.len = b.len ∧ ∀ i, i < a.len → (a.kid i).ord (b.kid i) = 0 := by
  rw [V.ord_eq, four_val]
  by_cases h0 : a.kind = b.kind
  · by_cases h1 : a.num = b.num
    · by_cases h2 : a.str = b.str
      · by_cases h3 : a.len = b.len
        · have e0 := cmpI_zero.2 h0
          have e1 := cmpI_zero.2 h1
          have e2 := cmpS_zero.2 h2
          have e3 : cmpI (a.len : Int) (b.len : Int) = 0 := cmpI_zero.2 (by omega)
          simp only [e0, e1, e2, e3, ne_eq, not_true_eq_false, if_false, if_true]
          rw [firstTo_zero]
          exact ⟨fun h => ⟨h0, h1, h2, h3, h.2⟩, fun h => ⟨rfl, h.2.2.2.2⟩⟩
        · have e0 := cmpI_zero.2 h0
          have e1 := cmpI_zero.2 h1
          have e2 := cmpS_zero.2 h2
          have e3 : ¬ cmpI (a.len : Int) (b.len : Int) = 0 := fun e => h3 (by have := cmpI_zero.1 e; omega)
          simp [e0, e1, e2, e3, h3]
      · have e0 := cmpI_zero.2 h0
        have e1 := cmpI_zero.2 h1
        have e2 : ¬ cmpS a.str b.str = 0 := fun e => h2 (cmpS_zero.1 e)
        simp [e0, e1, e2, h2]
    · have e0 := cmpI_zero.2 h0
      have e1 : ¬ cmpI a.num b.num = 0 := fun e => h1 (cmpI_zero.1 e)
      simp [e0, e1, h1]
  · have e0 : ¬ cmpI a.kind b.kind = 0 := fun e => h0 (cmpI_zero.1 e)
    simp [e0, h0]

theorem kinds_of {v : V} {d : Nat} (h : v.may d = true) : v.kind = 1 ∨ v.kind = 2 ∨ v.kind = 3 := by
  rw [V.may_eq] at h
  by_cases h1 : v.kind = 1
  · exact .inl h1
  · by_cases h2 : v.kind = 2
    · exact .inr (.inl h2)
    · rw [if_neg h1, if_neg h2] at h
      simp only [Bool.and_eq_true, decide_eq_true_eq] at h
      exact .inr (.inr h.1.1.1.1.1)
theorem may_kids {v : V} {d : Nat} (h : v.may d = true) (hk : v.kind = 3) : ∀ i, i < v.len → (v.kid i).may (d - 1) = true := by
  rw [may_con hk] at h
  simp only [Bool.and_eq_true] at h
  exact (allTo_iff _ _).1 h.2

/-- The same values have the same text. -/
theorem text_same : ∀ a b : V, ∀ d : Nat, a.may d = true → a.ord b = 0 → a.text = b.text := by
  refine V.ind fun a ih b d hm h => ?_
  obtain ⟨h0, h1, h2, h3, h4⟩ := (ord_zero a b).1 h
  rcases kinds_of hm with hk | hk | hk
  · rw [V.text_num hk, V.text_num (h0 ▸ hk), h1]
  · rw [V.text_sym hk, V.text_sym (h0 ▸ hk), h2]
  · have hj : joinTo (fun i => (a.kid i).text) a.len = joinTo (fun i => (b.kid i).text) b.len := by
      rw [← h3]
      have : ∀ k, k ≤ a.len → joinTo (fun i => (a.kid i).text) k = joinTo (fun i => (b.kid i).text) k := fun k hk2 => by
        induction k with
        | zero => rfl
        | succ k ihk =>
          simp only [joinTo]
          rw [ihk (by omega), ih k (by omega) (b.kid k) (d - 1) (may_kids hm hk k (by omega)) (h4 k (by omega))]
      exact this _ (Nat.le_refl _)
    rw [V.text_con hk, V.text_con (h0 ▸ hk), h2, hj]

theorem may_num0 {v : V} {d : Nat} (h : v.may d = true) (hk : v.kind = 1) : v.str.size = 0 ∧ v.len = 0 := by
  rw [V.may_eq, if_pos hk] at h
  simpa only [Bool.and_eq_true, decide_eq_true_eq] using h
theorem may_sym0 {v : V} {d : Nat} (h : v.may d = true) (hk : v.kind = 2) : v.num = 0 ∧ v.len = 0 := by
  rw [V.may_eq, if_neg (by omega), if_pos hk] at h
  simp only [Bool.and_eq_true, decide_eq_true_eq] at h
  exact h.1
theorem may_con0 {v : V} {d : Nat} (h : v.may d = true) (hk : v.kind = 3) : v.num = 0 ∧ isWd v.str = true := by
  rw [may_con hk] at h
  simp only [Bool.and_eq_true, decide_eq_true_eq] at h
  exact ⟨h.1.1.1.2, h.1.1.2⟩
theorem itoa_head (n : Int) : ∃ c l, Lib.itoa n = c :: l ∧ c ≠ 34 ∧ c ≠ 36 := by
  unfold Lib.itoa
  split
  · exact ⟨45, _, rfl, by decide, by decide⟩
  · cases hd : Lib.decDigits n.toNat with
    | nil => exact absurd hd (dec_ne _)
    | cons c l =>
      have := dec_digs n.toNat c (by rw [hd]; simp)
      exact ⟨c, l, rfl, fun e => by subst e; simp at this, fun e => by subst e; simp at this⟩

/-- Values that may be and have one text, whatever stands behind it, are the same. -/
theorem text_split : ∀ a b : V, ∀ (d d' : Nat), a.may d = true → b.may d' = true → ∀ r r', Good r → Good r' → a.text ++ r = b.text ++ r' → a.ord b = 0 ∧ r = r' := by
  refine V.ind fun a ih b d d' ha hb r r' hr hr' h => ?_
  rcases kinds_of ha with hk | hk | hk <;> rcases kinds_of hb with hk' | hk' | hk'
  · rw [V.text_num hk, V.text_num hk'] at h
    obtain ⟨h1, h2⟩ := itoa_split hr hr' h
    have za := may_num0 ha hk
    have zb := may_num0 hb hk'
    exact ⟨(ord_zero a b).2 ⟨hk.trans hk'.symm, h1, by rw [size0 za.1, size0 zb.1], by omega, fun i hi => by omega⟩, h2⟩
  · rw [V.text_num hk, V.text_sym hk'] at h
    obtain ⟨c, l, e, h1, _⟩ := itoa_head a.num
    rw [e] at h
    simp only [quoted, List.cons_append, List.nil_append, List.cons.injEq] at h
    exact absurd h.1 h1
  · rw [V.text_num hk, V.text_con hk'] at h
    obtain ⟨c, l, e, _, h1⟩ := itoa_head a.num
    rw [e] at h
    simp only [List.cons_append, List.nil_append, List.cons.injEq] at h
    exact absurd h.1 h1
  · rw [V.text_sym hk, V.text_num hk'] at h
    obtain ⟨c, l, e, h1, _⟩ := itoa_head b.num
    rw [e] at h
    simp only [quoted, List.cons_append, List.nil_append, List.cons.injEq] at h
    exact absurd h.1.symm h1
  · rw [V.text_sym hk, V.text_sym hk'] at h
    simp only [quoted, List.cons_append, List.nil_append, List.append_assoc, List.cons.injEq, true_and] at h
    obtain ⟨h1, h2⟩ := escs_split h
    have za := may_sym0 ha hk
    have zb := may_sym0 hb hk'
    exact ⟨(ord_zero a b).2 ⟨hk.trans hk'.symm, by omega, str_eq h1, by omega, fun i hi => by omega⟩, h2⟩
  · rw [V.text_sym hk, V.text_con hk'] at h
    simp [quoted] at h
  · rw [V.text_con hk, V.text_num hk'] at h
    obtain ⟨c, l, e, _, h1⟩ := itoa_head b.num
    rw [e] at h
    simp only [List.cons_append, List.nil_append, List.cons.injEq] at h
    exact absurd h.1.symm h1
  · rw [V.text_con hk, V.text_sym hk'] at h
    simp [quoted] at h
  · rw [V.text_con hk, V.text_con hk'] at h
    simp only [List.cons_append, List.nil_append, List.append_assoc, List.cons.injEq, true_and] at h
    have za := may_con0 ha hk
    have zb := may_con0 hb hk'
    obtain ⟨h1, h2⟩ := word_split (wd_bytes za.2) (wd_bytes zb.2) h
    have hs : a.str = b.str := str_eq h1
    have hq : ∀ j, j < a.len → j < b.len → ∀ x x', Good x → Good x' → (a.kid j).text ++ x = (b.kid j).text ++ x' → (a.kid j).ord (b.kid j) = 0 ∧ x = x' := fun j hj hj' x x' hx hx' hh =>
      ih j hj (b.kid j) (d - 1) (d' - 1) (may_kids ha hk j hj) (may_kids hb hk' j hj') x x' hx hx' hh
    have no41 : ∀ (v : V) (d : Nat), v.may d = true → ∀ x y, v.text ++ x ≠ 41 :: y := fun v d hv x y hh => by
      rcases kinds_of hv with h | h | h
      · rw [V.text_num h] at hh
        unfold Lib.itoa at hh
        split at hh
        · simp at hh
        · cases hd : Lib.decDigits v.num.toNat with
          | nil => exact dec_ne _ hd
          | cons c l =>
            have := dec_digs v.num.toNat c (by rw [hd]; simp)
            rw [hd] at hh
            simp only [List.cons_append, List.cons.injEq] at hh
            rw [hh.1] at this
            simp at this
      · rw [V.text_sym h] at hh; simp [quoted] at hh
      · rw [V.text_con h] at hh; simp at hh
    cases hla : a.len with
    | zero =>
      cases hlb : b.len with
      | zero =>
        rw [hla, hlb] at h2
        simp only [joinTo, List.nil_append, List.cons.injEq, true_and] at h2
        exact ⟨(ord_zero a b).2 ⟨hk.trans hk'.symm, by omega, hs, by omega, fun i hi => by omega⟩, h2⟩
      | succ m =>
        rw [hla, hlb, joinTo_tail] at h2
        simp only [joinTo, List.nil_append, List.append_assoc] at h2
        exact absurd h2.symm (no41 _ _ (may_kids hb hk' 0 (by omega)) _ _)
    | succ n =>
      cases hlb : b.len with
      | zero =>
        rw [hla, hlb, joinTo_tail] at h2
        simp only [joinTo, List.nil_append, List.append_assoc] at h2
        exact absurd h2 (no41 _ _ (may_kids ha hk 0 (by omega)) _ _)
      | succ m =>
        rw [hla, hlb, joinTo_tail, joinTo_tail] at h2
        simp only [List.append_assoc] at h2
        obtain ⟨h3, h4⟩ := hq 0 (by omega) (by omega) _ _ (good_tail _ _ _ _) (good_tail _ _ _ _) h2
        obtain ⟨h5, h6, h7⟩ := tail_split (q := fun j => (a.kid j).ord (b.kid j) = 0) (fun j hj1 hj2 hj3 => hq j (by omega) (by omega)) h4
        refine ⟨(ord_zero a b).2 ⟨hk.trans hk'.symm, by omega, hs, by omega, fun i hi => ?_⟩, h6⟩
        by_cases e : i = 0
        · subst e; exact h3
        · exact h7 i (by omega) (by omega)

theorem text_iff {a b : V} (ha : a.right = true) (hb : b.right = true) : a.text = b.text ↔ a.ord b = 0 :=
  ⟨fun h => (text_split a b 32 32 (right_may ha) (right_may hb) [] [] (.inl rfl) (.inl rfl) (by simpa using h)).1, text_same a b 32 (right_may ha)⟩
end Go.Proofs.YtbfkcfhkccicoaaDoor
