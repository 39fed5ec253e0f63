/- Sets of as many columns, and a row of growing ones: how few orders they need. -/
import Derived.Test.YtclialdbaclpoaaMoreW
namespace Go.Proofs.Ytclialdbaclpoaa

/-- How many of the first columns a set has. -/
def popTo (n : Nat) : Nat → Nat
  | 0 => 0
  | i + 1 => popTo n i + n / 2 ^ i % 2
theorem bit_of (n i : Nat) : n / 2 ^ i % 2 = if n.testBit i = true then 1 else 0 := by
  rw [Nat.testBit_eq_decide_div_mod_eq]
  by_cases h : n / 2 ^ i % 2 = 1
  · simp [h]
  · have : n / 2 ^ i % 2 = 0 := by omega
    simp [this]
theorem pop_le {a b : Nat} (h : ∀ i, a.testBit i = true → b.testBit i = true) : ∀ i, popTo a i ≤ popTo b i ∧ (popTo a i = popTo b i → ∀ j, j < i → a.testBit j = b.testBit j)
  | 0 => ⟨Nat.le_refl _, fun _ j hj => by omega⟩
  | i + 1 => by
    obtain ⟨h1, h2⟩ := pop_le h i
    have e : a / 2 ^ i % 2 ≤ b / 2 ^ i % 2 := by
      rw [bit_of, bit_of]
      by_cases g : a.testBit i = true
      · rw [if_pos g, if_pos (h i g)]; exact Nat.le_refl _
      · rw [if_neg g]; exact Nat.zero_le _
    unfold popTo
    refine ⟨by omega, fun g j hj => ?_⟩
    by_cases ej : j = i
    · subst ej
      have : a / 2 ^ j % 2 = b / 2 ^ j % 2 := by omega
      rw [bit_of, bit_of] at this
      cases ga : a.testBit j with
      | true => rw [h j ga]
      | false =>
        cases gb : b.testBit j with
        | false => rfl
        | true => rw [ga, gb] at this; simp at this
    · exact h2 (by omega) j (by omega)
theorem pop_apart {a b : Int} (ha : 0 ≤ a ∧ a < 256) (hb : 0 ≤ b ∧ b < 256) (hp : popTo a.toNat 8 = popTo b.toNat 8) (hne : a ≠ b) : sub a b = false := by
  cases hs : sub a b with
  | false => rfl
  | true =>
    have := (pop_le (sub_iff.1 hs) 8).2 hp
    have : a.toNat = b.toNat := Nat.eq_of_testBit_eq fun i => by
      by_cases g : i < 8
      · exact this i g
      · have e1 : a.toNat.testBit i = false := Nat.testBit_lt_two_pow (Nat.lt_of_lt_of_le (show a.toNat < 2 ^ 8 by omega) (Nat.pow_le_pow_right (by omega) (by omega)))
        have e2 : b.toNat.testBit i = false := Nat.testBit_lt_two_pow (Nat.lt_of_lt_of_le (show b.toNat < 2 ^ 8 by omega) (Nat.pow_le_pow_right (by omega) (by omega)))
        rw [e1, e2]
    omega
/-- The sets of k columns, at most forty. -/
def apL (k : Nat) : Nat → List Int
  | 0 => []
  | n + 1 => if popTo n 8 = k ∧ (apL k n).length < 40 then apL k n ++ [(n : Int)] else apL k n
theorem apL_all (k : Nat) : ∀ n, (apL k n).Nodup ∧ (∀ x ∈ apL k n, 0 ≤ x ∧ x < n ∧ popTo x.toNat 8 = k) ∧ (apL k n).length ≤ 40
  | 0 => ⟨List.nodup_nil, fun _ h => (by cases h), by simp [apL]⟩
  | n + 1 => by
    obtain ⟨h1, h2, h3⟩ := apL_all k n
    unfold apL
    by_cases h : popTo n 8 = k ∧ (apL k n).length < 40
    · rw [if_pos h]
      refine ⟨?_, fun x hx => ?_, by simp; omega⟩
      · rw [List.nodup_append]
        refine ⟨h1, by simp, fun a ha b hb e => ?_⟩
        obtain rfl : b = (n : Int) := by simpa using hb
        have := (h2 a ha).2.1
        omega
      · rcases List.mem_append.1 hx with g | g
        · obtain ⟨q1, q2, q3⟩ := h2 x g
          exact ⟨q1, by omega, q3⟩
        · obtain rfl : x = (n : Int) := by simpa using g
          exact ⟨by omega, by omega, by simpa using h.1⟩
    · rw [if_neg h]
      exact ⟨h1, fun x hx => by obtain ⟨q1, q2, q3⟩ := h2 x hx; exact ⟨q1, by omega, q3⟩, h3⟩
theorem apL_some (k m : Nat) (hm : popTo m 8 = k) : ∀ n, m < n → 1 ≤ (apL k n).length
  | n + 1, h => by
    unfold apL
    by_cases e : m = n
    · subst e
      by_cases g : (apL k m).length < 40
      · rw [if_pos ⟨hm, g⟩]; simp
      · rw [if_neg (fun x => g x.2)]; omega
    · have := apL_some k m hm n (by omega)
      split
      · simp
      · exact this
theorem ap_one (k : Nat) (h1 : 1 ≤ k) (h7 : k ≤ 7) : 1 ≤ (apL k 256).length := by
  refine apL_some k (2 ^ k - 1) ?_ 256 (by have := Nat.pow_le_pow_right (show 1 ≤ 2 by omega) (show k ≤ 8 by omega); omega)
  have : ∀ q : Fin 8, popTo (2 ^ q.val - 1) 8 = q.val := by decide +kernel
  exact this ⟨k, by omega⟩
theorem ap_look (k : Nat) : lookE 8 (apL k 256) = 0 := by
  obtain ⟨_, h2, h3⟩ := apL_all k 256
  refine look_ok (by omega) (List.all_eq_true.2 fun x hx => okB_iff.2 ?_)
  obtain ⟨q1, q2, _⟩ := h2 x hx
  have : ((2 ^ 8 : Nat) : Int) = 256 := by decide
  omega
theorem pop_zero8 : popTo 0 8 = 0 := by decide
/-- They need an order each. -/
theorem ap_least {k n : Nat} (h1 : 1 ≤ k) (h7 : k ≤ 7) (h : IsLeast (apL k 256) n) : n = (apL k 256).length := by
  obtain ⟨W, w1, w0, w2⟩ := h
  obtain ⟨a1, a2, a3⟩ := apL_all k 256
  have hz : (0 : Int) ∉ apL k 256 := fun g => by
    have := (a2 0 g).2.2
    rw [show (0 : Int).toNat = 0 from rfl, pop_zero8] at this
    omega
  have hl : W.length = (apL k 256).length + 1 := by
    have := same_len w2.1 (List.nodup_cons.2 ⟨hz, a1⟩) (fun x => by rw [w1, List.mem_cons])
    simpa using this
  have hone := ap_one k h1 h7
  have := w2.apart ((w1 0).2 (.inl rfl)) (fun a ha b hb h0 hne => by
    have hA := ((w1 a).1 ha).resolve_left h0
    obtain ⟨p1, p2, p3⟩ := a2 a hA
    rcases (w1 b).1 hb with e | e
    · subst e
      cases hs : sub a 0 with
      | false => rfl
      | true =>
        have := sub_le hs p1 (Int.le_refl _)
        omega
    · obtain ⟨r1, r2, r3⟩ := a2 b e
      exact pop_apart ⟨p1, by omega⟩ ⟨r1, by omega⟩ (by rw [p3, r3]) hne) (by omega)
  omega

/-- The columns so far. -/
def setTo (cs : List Int) : Nat → Nat
  | 0 => 0
  | j + 1 => setTo cs j ||| 2 ^ ((cs.getD j 0).toNat % 8)
theorem setTo_lt (cs : List Int) : ∀ j, setTo cs j < 256
  | 0 => by simp [setTo]
  | j + 1 => by
    unfold setTo
    have h1 := setTo_lt cs j
    have h2 : 2 ^ ((cs.getD j 0).toNat % 8) < 2 ^ 8 := Nat.pow_lt_pow_right (by omega) (by omega)
    exact Nat.or_lt_two_pow (n := 8) h1 h2
theorem setTo_sub (cs : List Int) (i : Nat) : ∀ d, sub (setTo cs i : Int) (setTo cs (i + d) : Int) = true
  | 0 => sub_iff.2 fun _ h => h
  | d + 1 => sub_trans (setTo_sub cs i d) (sub_iff.2 fun q h => by
    simp only [Int.toNat_natCast] at h ⊢
    show (setTo cs (i + d) ||| 2 ^ ((cs.getD (i + d) 0).toNat % 8)).testBit q = true
    rw [Nat.testBit_or, h]; rfl)
def rowTo (cs : List Int) (n : Nat) : List Int := (List.range n).map fun j => (setTo cs (j + 1) : Int)
theorem rowTo_succ (cs : List Int) (n : Nat) : rowTo cs (n + 1) = rowTo cs n ++ [(setTo cs (n + 1) : Int)] := by
  unfold rowTo
  rw [List.range_succ, List.map_append]
  rfl
theorem row_look (cs : List Int) (n : Nat) (h : n ≤ 256) : lookE 8 (rowTo cs n) = 0 := by
  refine look_ok (by simp [rowTo]; exact h) (List.all_eq_true.2 fun x hx => okB_iff.2 ?_)
  obtain ⟨j, _, rfl⟩ := List.mem_map.1 hx
  have := setTo_lt cs (j + 1)
  have : ((2 ^ 8 : Nat) : Int) = 256 := by decide
  omega
/-- They need one. -/
theorem row_least {cs : List Int} {n m : Nat} (h : IsLeast (rowTo cs n) m) : m = 1 := by
  obtain ⟨W, w1, w0, hn, ps, ht, hl⟩ := h
  have hV := uniq_up W
  have hVn : (uniq W).Nodup := hV.1.imp (fun h e => by omega)
  have hlen := same_len hVn hn hV.2
  have hat : ∀ x ∈ W, ∃ i, x = (setTo cs i : Int) := fun x hx => by
    rcases (w1 x).1 hx with e | e
    · exact ⟨0, by rw [e]; rfl⟩
    · obtain ⟨j, _, rfl⟩ := List.mem_map.1 e
      exact ⟨j + 1, rfl⟩
  have hrow : Rows_ (uniq W) m := ⟨hVn, ps, ⟨ht.1.of_sub fun x hx => (hV.2 x).2 hx, fun qs hq => ht.2 qs (hq.of_sub fun x hx => (hV.2 x).1 hx)⟩, by omega⟩
  refine hrow.row hV.1 (fun x hx => w0 x ((hV.2 x).1 hx)) (fun a ha b hb hab => ?_) ?_
  · obtain ⟨i, rfl⟩ := hat a ((hV.2 a).1 ha)
    obtain ⟨j, rfl⟩ := hat b ((hV.2 b).1 hb)
    by_cases g : i ≤ j
    · have := setTo_sub cs i (j - i)
      rw [show i + (j - i) = j by omega] at this
      exact this
    · have := setTo_sub cs j (i - j)
      rw [show j + (i - j) = i by omega] at this
      have := sub_le this (by omega) (by omega)
      omega
  · have := (hV.2 0).2 ((w1 0).2 (.inl rfl))
    exact List.length_pos_of_mem this
end Go.Proofs.Ytclialdbaclpoaa
