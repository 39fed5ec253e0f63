/- Tuples and orders as plain lists: what an order is, how two tuples stand, turned and turned back. -/
namespace Go.Proofs.YthcljhfankooaabGreat

/-- The number at a column. -/
def at_ (l : List Int) (i : Int) : Int := l.getD i.toNat 0

/-- The document's order. -/
def rright (o : List Int) : Bool := decide (∀ i, i < o.length → ((i : Nat) : Int) ∈ o) && decide (o.length ≤ 8)

/-- May all be columns? -/
def inB (x : Int) : Bool := decide (0 ≤ x) && decide (x < 8)
/-- The set of columns. -/
def mask (l : List Int) : Nat := l.foldl (fun s x => s ||| 2 ^ x.toNat) 0

theorem fold_bit (l : List Int) (s i : Nat) : (l.foldl (fun s x => s ||| 2 ^ x.toNat) s).testBit i = (s.testBit i || l.any fun x => x.toNat == i) := by
  induction l generalizing s with
  | nil => simp
  | cons x r ih => rw [List.foldl_cons, ih, Nat.testBit_or, Nat.testBit_two_pow]; simp [Bool.or_assoc, Bool.beq_eq_decide_eq]
theorem mask_bit (l : List Int) (i : Nat) : (mask l).testBit i = l.any fun x => x.toNat == i := by simp [mask, fold_bit]
theorem mask_snoc (l : List Int) (x : Int) : mask (l ++ [x]) = mask l ||| 2 ^ x.toNat := by simp [mask, List.foldl_append]
theorem mask_lt (l : List Int) (h : ∀ x ∈ l, inB x = true) : mask l < 256 := by
  refine Nat.lt_pow_two_of_testBit (n := 8) _ fun i hi => ?_
  rw [mask_bit]
  simp only [List.any_eq_false, beq_iff_eq]
  intro x hx e
  have := h x hx
  simp [inB] at this
  omega

/-- The program's order. -/
def right (o : List Int) : Bool := decide (o.length ≤ 8) && (o.all inB && decide ((mask o : Int) = 2 ^ o.length - 1))

theorem hole : ∀ (n : Nat) (l : List Int), (∀ i, i < n → ((i : Nat) : Int) ∈ l) → n ≤ l.length
  | 0, _, _ => Nat.zero_le _
  | n + 1, l, h => by
    have h1 := hole n (l.erase (n : Int)) fun i hi => (List.mem_erase_of_ne (by omega)).2 (h i (by omega))
    have h2 := List.length_erase_of_mem (h n (by omega))
    have h3 := List.length_pos_of_mem (h n (by omega))
    omega
theorem hole_in (l : List Int) (h : ∀ i, i < l.length → ((i : Nat) : Int) ∈ l) : ∀ x ∈ l, 0 ≤ x ∧ x < l.length := by
  intro x hx
  rcases Classical.em (0 ≤ x ∧ x < l.length) with g | g
  · exact g
  · exfalso
    have h1 := hole l.length (l.erase x) fun i hi => (List.mem_erase_of_ne (by omega)).2 (h i hi)
    have h2 := List.length_erase_of_mem hx
    have h3 := List.length_pos_of_mem hx
    omega
theorem hole_one (l : List Int) (h : ∀ i, i < l.length → ((i : Nat) : Int) ∈ l) (i j : Nat) (hi : i < l.length) (hj : j < l.length) (e : l[i] = l[j]) : i = j := by
  rcases Classical.em (i = j) with g | g
  · exact g
  · exfalso
    have h1 := hole l.length (l.eraseIdx i) fun k hk => by
      rw [List.mem_eraseIdx_iff_getElem]
      obtain ⟨m, hm, em⟩ := List.getElem_of_mem (h k hk)
      rcases Classical.em (m = i) with e1 | e1
      · subst e1; exact ⟨j, hj, fun x => g x.symm, by rw [← e, em]⟩
      · exact ⟨m, hm, e1, em⟩
    rw [List.length_eraseIdx_of_lt hi] at h1
    omega

theorem right_iff (o : List Int) : right o = rright o := by
  unfold right rright
  by_cases hl : o.length ≤ 8
  · rw [Bool.eq_iff_iff]
    simp only [hl, decide_true, Bool.true_and, Bool.and_true, Bool.and_eq_true, decide_eq_true_eq, List.all_eq_true]
    constructor
    · rintro ⟨hb, hm⟩ i hi
      have hm2 : mask o = 2 ^ o.length - 1 := by
        have : (1 : Nat) ≤ 2 ^ o.length := Nat.one_le_two_pow
        have e : ((2 : Int) ^ o.length) = ((2 ^ o.length : Nat) : Int) := by simp
        rw [e] at hm
        omega
      have h1 := mask_bit o i
      rw [hm2, Nat.testBit_two_pow_sub_one, decide_eq_true hi] at h1
      obtain ⟨x, hx, e⟩ := List.any_eq_true.1 h1.symm
      have := hb x hx
      simp [inB] at this e
      have e2 : x = i := by omega
      rw [← e2]; exact hx
    · intro h
      have hin := hole_in o h
      refine ⟨fun x hx => ?_, ?_⟩
      · have := hin x hx; simp [inB]; omega
      · have : mask o = 2 ^ o.length - 1 := by
          refine Nat.eq_of_testBit_eq fun i => ?_
          rw [mask_bit, Nat.testBit_two_pow_sub_one, Bool.eq_iff_iff]
          simp only [List.any_eq_true, beq_iff_eq, decide_eq_true_eq]
          exact ⟨fun ⟨x, hx, e⟩ => by have := hin x hx; omega, fun hi => ⟨i, h i hi, by omega⟩⟩
        have g : (1 : Nat) ≤ 2 ^ o.length := Nat.one_le_two_pow
        have e : ((2 : Int) ^ o.length) = ((2 ^ o.length : Nat) : Int) := by simp
        rw [this, e]
        omega
  · simp [hl]

theorem right_in {o : List Int} (h : right o = true) : o.length ≤ 8 ∧ ∀ x ∈ o, 0 ≤ x ∧ x < o.length := by
  rw [right_iff, rright] at h
  simp only [Bool.and_eq_true, decide_eq_true_eq] at h
  exact ⟨h.2, hole_in o h.1⟩
theorem right_mem {o : List Int} (h : right o = true) (i : Nat) (hi : i < o.length) : ((i : Nat) : Int) ∈ o := by
  rw [right_iff, rright] at h
  simp only [Bool.and_eq_true, decide_eq_true_eq] at h
  exact h.1 i hi
theorem right_one {o : List Int} (h : right o = true) (i j : Nat) (hi : i < o.length) (hj : j < o.length) (e : o[i] = o[j]) : i = j :=
  hole_one o (right_mem h) i j hi hj e

/-- A tuple by an order. -/
def turn (o t : List Int) : List Int := o.map (at_ t)
theorem turn_length (o t : List Int) : (turn o t).length = o.length := by simp [turn]

/-- By the first number in which both are unlike. -/
def lex : List Int → List Int → Int
  | x :: r, y :: s => if x < y then -1 else if y < x then 1 else lex r s
  | _, _ => 0
theorem lex_range : ∀ a b : List Int, lex a b = -1 ∨ lex a b = 0 ∨ lex a b = 1
  | [], _ => .inr (.inl rfl)
  | _ :: _, [] => .inr (.inl rfl)
  | x :: r, y :: s => by
    unfold lex
    split
    · exact .inl rfl
    · split
      · exact .inr (.inr rfl)
      · exact lex_range r s
theorem lex_neg : ∀ a b : List Int, lex b a = - lex a b
  | [], [] => rfl
  | [], _ :: _ => rfl
  | _ :: _, [] => rfl
  | x :: r, y :: s => by
    have := lex_neg r s
    unfold lex
    by_cases h1 : x < y
    · rw [if_pos h1, if_neg (by omega), if_pos h1]; rfl
    · by_cases h2 : y < x
      · rw [if_pos h2, if_neg h1, if_pos h2]
      · rw [if_neg h2, if_neg h1, if_neg h1, if_neg h2, this]
theorem lex_zero : ∀ a b : List Int, a.length = b.length → (lex a b = 0 ↔ a = b)
  | [], [], _ => by simp [lex]
  | [], _ :: _, h => by simp at h
  | _ :: _, [], h => by simp at h
  | x :: r, y :: s, h => by
    have ih := lex_zero r s (by simpa using h)
    unfold lex
    by_cases h1 : x < y
    · rw [if_pos h1]; simp; omega
    · by_cases h2 : y < x
      · rw [if_neg h1, if_pos h2]; simp; omega
      · rw [if_neg h1, if_neg h2, ih]
        have : x = y := by omega
        simp [this]
theorem lex_trans : ∀ a b c : List Int, a.length = b.length → b.length = c.length → lex a b ≤ 0 → lex b c ≤ 0 → lex a c ≤ 0
  | [], [], _, _, _, _, _ => by simp [lex]
  | x :: r, y :: s, z :: t, e1, e2, h1, h2 => by
    have ih := lex_trans r s t (by simpa using e1) (by simpa using e2)
    unfold lex at h1 h2 ⊢
    by_cases a1 : x < y
    · by_cases a2 : y < z
      · rw [if_pos (by omega)]; omega
      · by_cases a3 : z < y
        · rw [if_neg a2, if_pos a3] at h2; omega
        · rw [if_pos (by omega)]; omega
    · by_cases a4 : y < x
      · rw [if_neg a1, if_pos a4] at h1; omega
      · rw [if_neg a1, if_neg a4] at h1
        by_cases a2 : y < z
        · rw [if_pos (by omega)]; omega
        · by_cases a3 : z < y
          · rw [if_neg a2, if_pos a3] at h2; omega
          · rw [if_neg a2, if_neg a3] at h2
            rw [if_neg (by omega), if_neg (by omega)]
            exact ih h1 h2
  | [], _ :: _, _, e, _, _, _ => by simp at e
  | _ :: _, [], _, e, _, _, _ => by simp at e
  | _ :: _, _ :: _, [], _, e, _, _ => by simp at e
theorem lex_head : ∀ (k : Nat) (a b c : List Int), a.length = b.length → b.length = c.length → lex a b ≤ 0 → lex b c ≤ 0 → a.take k = c.take k → a.take k = b.take k
  | 0, _, _, _, _, _, _, _, _ => by simp
  | k + 1, [], [], _, _, _, _, _, _ => by simp
  | k + 1, x :: r, y :: s, z :: t, e1, e2, h1, h2, h3 => by
    simp only [List.take_succ_cons, List.cons.injEq] at h3 ⊢
    obtain ⟨rfl, h3⟩ := h3
    unfold lex at h1 h2
    by_cases a1 : x < y
    · rw [if_neg (by omega), if_pos a1] at h2; omega
    · by_cases a2 : y < x
      · rw [if_neg a1, if_pos a2] at h1; omega
      · rw [if_neg a1, if_neg a2] at h1
        rw [if_neg a2, if_neg a1] at h2
        exact ⟨by omega, lex_head k r s t (by simpa using e1) (by simpa using e2) h1 h2 h3⟩
  | _ + 1, [], _ :: _, _, e, _, _, _, _ => by simp at e
  | _ + 1, _ :: _, [], _, e, _, _, _, _ => by simp at e
  | _ + 1, _ :: _, _ :: _, [], _, e, _, _, _ => by simp at e

/-- Is the order one, and do tuples of these widths fit it? -/
def fitN (l : List Int) (ns : List Nat) : Bool := ns.all (fun n => decide (n = l.length)) && right l
theorem fitN_right {l : List Int} {ns : List Nat} (h : fitN l ns = true) : right l = true := (Bool.and_eq_true _ _ ▸ h).2
theorem fitN_two {l : List Int} {m n : Nat} (h : fitN l [m, n] = true) : m = l.length ∧ n = l.length ∧ right l = true := by
  simpa [fitN, and_assoc] using h
theorem fitN_one {l : List Int} {m : Nat} (h : fitN l [m] = true) : m = l.length ∧ right l = true := by
  simpa [fitN] using h
theorem fitN_mk2 {l : List Int} {m n : Nat} (h1 : m = l.length) (h2 : n = l.length) (h : right l = true) : fitN l [m, n] = true := by simp [fitN, h1, h2, h]
theorem fitN_mk1 {l : List Int} {m : Nat} (h1 : m = l.length) (h : right l = true) : fitN l [m] = true := by simp [fitN, h1, h]
theorem fitN_twice (l : List Int) (m : Nat) : fitN l [m, m] = fitN l [m] := by simp [fitN]
/-- The answers. -/
def cmpA (o a b : List Int) : Int := if fitN o [a.length, b.length] = true then lex (turn o a) (turn o b) else 0
def headA (o : List Int) (k : Int) (a b : List Int) : Bool := fitN o [a.length, b.length] && decide ((turn o a).take k.toNat = (turn o b).take k.toNat)
def turnA (o t : List Int) : List Int := if fitN o [t.length] = true then turn o t else []
/-- The tuple that is turned back, as far as its first k numbers go. -/
def backTo (o t : List Int) : Nat → List Int
  | 0 => List.replicate o.length 0
  | k + 1 => (backTo o t k).set (o.getD k 0).toNat (t.getD k 0)
def back (o t : List Int) : List Int := backTo o t o.length
def backA (o t : List Int) : List Int := if fitN o [t.length] = true then back o t else []
theorem backTo_length (o t : List Int) : ∀ k, (backTo o t k).length = o.length
  | 0 => by simp [backTo]
  | k + 1 => by simp [backTo, backTo_length o t k]

/-- What stands where, behind k numbers. -/
theorem backTo_at {o : List Int} (ho : right o = true) (t : List Int) : ∀ (k : Nat), k ≤ o.length → ∀ i, i < k → at_ (backTo o t k) (o.getD i 0) = t.getD i 0
  | 0, _, _, hi => by omega
  | k + 1, hk, i, hi => by
    obtain ⟨_, hin⟩ := right_in ho
    have hok := hin o[k] (List.getElem_mem (by omega))
    have hoi := hin o[i] (List.getElem_mem (by omega))
    have hl := backTo_length o t k
    have e1 : o.getD k 0 = o[k] := by simp [List.getD, List.getElem?_eq_getElem (show k < o.length by omega)]
    have e2 : o.getD i 0 = o[i] := by simp [List.getD, List.getElem?_eq_getElem (show i < o.length by omega)]
    unfold at_ backTo
    simp only [e1, e2]
    by_cases h : i = k
    · subst h
      rw [List.getD, List.getElem?_set_self (by omega)]; rfl
    · have ih := backTo_at ho t k (by omega) i (by omega)
      unfold at_ at ih
      rw [e2] at ih
      rw [List.getD, List.getElem?_set_ne, ← List.getD, ih]
      intro e
      exact h (right_one ho k i (by omega) (by omega) (by omega)).symm
theorem back_at {o : List Int} (ho : right o = true) (t : List Int) (i : Nat) (hi : i < o.length) : at_ (back o t) (o.getD i 0) = t.getD i 0 := backTo_at ho t o.length (Nat.le_refl _) i hi

/-- Turned, behind turned back. -/
theorem turn_back {o t : List Int} (ho : right o = true) (ht : t.length = o.length) : turn o (back o t) = t := by
  apply List.ext_getElem
  · simp [turn, ht]
  · intro i h1 h2
    have h := back_at ho t i (by omega)
    have e1 : o.getD i 0 = o[i] := by simp [List.getD, List.getElem?_eq_getElem (show i < o.length by omega)]
    have e2 : t.getD i 0 = t[i] := by simp [List.getD, List.getElem?_eq_getElem h2]
    rw [e1, e2] at h
    simp only [turn, List.getElem_map]
    exact h
/-- Turned back, behind turned. -/
theorem back_turn {o t : List Int} (ho : right o = true) (ht : t.length = o.length) : back o (turn o t) = t := by
  apply List.ext_getElem
  · rw [back, backTo_length, ht]
  · intro i h1 h2
    obtain ⟨k, hk, e⟩ := List.getElem_of_mem (right_mem ho i (by omega))
    have h := back_at ho (turn o t) k hk
    have e1 : o.getD k 0 = o[k] := by simp [List.getD, List.getElem?_eq_getElem hk]
    have e2 : (turn o t).getD k 0 = at_ t (i : Int) := by simp [turn, List.getD, List.getElem?_eq_getElem hk, e]
    rw [e1, e, e2] at h
    simp only [at_, Int.toNat_natCast, List.getD, List.getElem?_eq_getElem h1, List.getElem?_eq_getElem h2, Option.getD_some] at h
    exact h

/-- The plain order. -/
def plain (w : Nat) : List Int := (List.range w).map Int.ofNat
theorem plain_length (w : Nat) : (plain w).length = w := by simp [plain]
theorem plain_right (w : Nat) (h : w ≤ 8) : right (plain w) = true := by
  rw [right_iff, rright, plain_length]
  simp [h, plain]
  exact fun i hi => ⟨i, hi, rfl⟩
theorem turn_plain (t : List Int) : turn (plain t.length) t = t := by
  apply List.ext_getElem
  · simp [turn, plain]
  · intro i h1 h2
    simp [turn, plain, at_, List.getD, List.getElem?_eq_getElem h2]

/-- All columns the same: the same tuple. -/
theorem turn_inj {o a b : List Int} (ho : right o = true) (ha : a.length = o.length) (hb : b.length = o.length) (h : turn o a = turn o b) : a = b := by
  rw [← back_turn ho ha, ← back_turn ho hb, h]

/-- From the k-th column on. -/
def cmpTo (o a b : List Int) (k : Nat) : Int := lex ((turn o a).drop k) ((turn o b).drop k)
theorem cmpTo_zero (o a b : List Int) : cmpTo o a b 0 = lex (turn o a) (turn o b) := rfl
theorem cmpTo_end (o a b : List Int) : cmpTo o a b o.length = 0 := by
  rw [cmpTo, List.drop_of_length_le (by simp [turn_length])]; rfl
theorem turn_drop {o a : List Int} {k : Nat} (hk : k < o.length) : (turn o a).drop k = at_ a o[k] :: (turn o a).drop (k + 1) := by
  rw [List.drop_eq_getElem_cons (by simpa [turn_length] using hk)]
  simp [turn]
theorem cmpTo_step {o a b : List Int} {k : Nat} (hk : k < o.length) : cmpTo o a b k = if at_ a o[k] < at_ b o[k] then -1 else if at_ b o[k] < at_ a o[k] then 1 else cmpTo o a b (k + 1) := by
  unfold cmpTo
  rw [turn_drop hk, turn_drop hk]
  rfl
theorem turn_take {o a : List Int} {k : Nat} (hk : k < o.length) : (turn o a).take (k + 1) = (turn o a).take k ++ [at_ a o[k]] := by
  rw [List.take_succ_eq_append_getElem (by simpa [turn_length] using hk)]
  simp [turn]
/-- How two numbers stand. -/
def cmpI (x y : Int) : Int := if x < y then -1 else if y < x then 1 else 0
end Go.Proofs.YthcljhfankooaabGreat
