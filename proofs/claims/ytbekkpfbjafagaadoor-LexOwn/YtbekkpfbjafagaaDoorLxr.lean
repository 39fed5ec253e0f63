/- What stands behind a token's place has no part in what is read ahead of it: plain facts on lists of bytes; no program stands in it. -/
import Derived.Test.YtbekkpfbjafagaaDoorRisesw
namespace Go.Proofs.YtbekkpfbjafagaaDoor

/-- Nothing, or a blank first. -/
def Tail (x : Txt) : Prop := ∀ b y, x = b :: y → isB (bv b) = true
theorem blank_cases {b : UInt8} (h : isB (bv b) = true) : b = 32 ∨ b = 9 ∨ b = 10 ∨ b = 13 := by
  simp only [isB, Bool.or_eq_true, decide_eq_true_eq] at h
  rcases h with ((h | h) | h) | h
  · exact .inl ((bv_eq (k := 32) (by omega)).1 h)
  · exact .inr (.inl ((bv_eq (k := 9) (by omega)).1 h))
  · exact .inr (.inr (.inl ((bv_eq (k := 10) (by omega)).1 h)))
  · exact .inr (.inr (.inr ((bv_eq (k := 13) (by omega)).1 h)))
theorem blank_out {b : UInt8} (h : isB (bv b) = true) : inW (bv b) = false := by
  rcases blank_cases h with rfl | rfl | rfl | rfl <;> decide
theorem tail_noW {x : Txt} (h : Tail x) : noW x = true := by
  cases x with
  | nil => rfl
  | cons b y => simp [noW, blank_out (h b y rfl)]
theorem tail_nm {x : Txt} (h : Tail x) : nmLen x = 0 := by
  cases x with
  | nil => rfl
  | cons b y =>
    refine nm_stop (blank_out (h b y rfl)) (fun _ _ _ e => ?_)
    subst e
    exact absurd (h 46 y rfl) (by decide)

/-- z is r up to p, and then x. -/
structure Cy (r z x : Txt) (p : Nat) : Prop where
  ez : z = r.take p ++ x
  hp : p ≤ r.length
  ht : Tail x
/-- .. and a word at its head is whole. -/
structure Cz (r z x : Txt) (p : Nat) : Prop extends Cy r z x p where
  hw : 0 < p → ∀ c t, r = c :: t → isL (bv c) = true → nmLen r ≤ p

theorem Cy.cases {r z x : Txt} {p : Nat} (h : Cy r z x p) : (p = 0 ∧ z = x) ∨ (∃ c t, p = 1 ∧ r = c :: t ∧ z = c :: x) ∨ (∃ c d u q, p = q + 2 ∧ r = c :: d :: u ∧ z = c :: d :: (u.take q ++ x)) := by
  obtain ⟨rfl, hp, _⟩ := h
  match p, r, hp with
  | 0, _, _ => exact .inl ⟨rfl, rfl⟩
  | 1, c :: t, _ => exact .inr (.inl ⟨c, t, rfl, rfl, rfl⟩)
  | q + 2, c :: d :: u, _ => exact .inr (.inr ⟨c, d, u, q, rfl, rfl, rfl⟩)
  | q + 2, [c], hp => simp at hp
theorem Cz.nW {r z x : Txt} {p : Nat} (h : Cz r z x p) (hn : noW r = true) : noW z = true := by
  rcases h.cases with ⟨_, rfl⟩ | ⟨c, t, _, rfl, rfl⟩ | ⟨c, d, u, q, _, rfl, rfl⟩
  · exact tail_noW h.ht
  · exact hn
  · exact hn
theorem Cz.nm {r z x : Txt} {p : Nat} (h : Cz r z x p) (hn : nmLen r = 0) : nmLen z = 0 := by
  rcases h.cases with ⟨_, rfl⟩ | ⟨c, t, _, rfl, rfl⟩ | ⟨c, d, u, q, _, rfl, rfl⟩
  · exact tail_nm h.ht
  · have hc : inW (bv c) = false := by
      cases hc : inW (bv c) with
      | false => rfl
      | true => rw [nm_in hc] at hn; omega
    refine nm_stop hc (fun d u hx _ => ?_)
    have := blank_out (h.ht d u hx)
    cases hd : isL (bv d) with
    | false => rfl
    | true => rw [inW_L hd] at this; cases this
  · have hc : inW (bv c) = false := by
      cases hc : inW (bv c) with
      | false => rfl
      | true => rw [nm_in hc] at hn; omega
    refine nm_stop hc (fun d' u' hx e => ?_)
    injection hx with hd _
    subst hd e
    cases hd : isL (bv d) with
    | false => rfl
    | true => rw [nm_dot hd] at hn; omega

theorem nm_app : ∀ (a b : Txt), nmLen (a ++ b) = a.length → ∀ z, nmLen (a ++ z) = a.length + nmLen z
  | [], _, _, z => by simp
  | [c], b, h, z => by
    cases hc : inW (bv c) with
    | true => show nmLen (c :: z) = _; rw [nm_in hc]; simp; omega
    | false =>
      exfalso
      cases b with
      | nil => simp [nmLen, hc] at h
      | cons d u =>
        have h : nmLen (c :: d :: u) = 1 := h
        rw [nmLen, if_neg (by simp [hc])] at h
        split at h <;> omega
  | c :: d :: a, b, h, z => by
    have h : nmLen (c :: d :: (a ++ b)) = a.length + 2 := h
    show nmLen (c :: d :: (a ++ z)) = a.length + 2 + nmLen z
    cases hc : inW (bv c) with
    | true =>
      rw [nm_in hc] at h ⊢
      have := nm_app (d :: a) b (by show nmLen (d :: (a ++ b)) = a.length + 1; omega) z
      have this : nmLen (d :: (a ++ z)) = a.length + 1 + nmLen z := this
      omega
    | false =>
      rw [nmLen, if_neg (by simp [hc])] at h ⊢
      split at h
      · rename_i hd
        rw [if_pos hd]
        have := nm_app a b (by omega) z
        omega
      · omega
theorem dcn_app : ∀ (a b : Txt), dcn (a ++ b) = a.length → ∀ z, dcn (a ++ z) = a.length + dcn z
  | [], _, _, z => by simp
  | c :: a, b, h, z => by
    have h : dcn (c :: (a ++ b)) = a.length + 1 := h
    show dcn (c :: (a ++ z)) = a.length + 1 + dcn z
    cases hc : isD (bv c) with
    | true =>
      have e1 : ∀ l : Txt, dcn (c :: l) = dcn l + 1 := fun l => by simp [dcn, hc]
      rw [e1] at h ⊢
      have := dcn_app a b (by omega) z
      omega
    | false =>
      have e1 : dcn (c :: (a ++ b)) = 0 := by simp [dcn, hc]
      omega
theorem dcn_noW {z : Txt} (h : noW z = true) : dcn z = 0 := by
  cases z with
  | nil => rfl
  | cons c t =>
    have : inW (bv c) = false := by simpa [noW] using h
    have hd : isD (bv c) = false := by
      cases hd : isD (bv c) with
      | false => rfl
      | true => rw [inW_D hd] at this; cases this
    simp [dcn, hd]
theorem tx_app : ∀ (a b v : Txt), txScan (a ++ b) = .ok v a.length → ∀ z, txScan (a ++ z) = .ok v a.length
  | [], b, v, h, z => by
    have := (tx_pos b v 0 h).1
    omega
  | [c], b, v, h, z => by
    have h : txScan (c :: b) = .ok v 1 := h
    show txScan (c :: z) = .ok v 1
    by_cases h1 : c = 34
    · subst h1; rw [tx_quote] at h ⊢; exact h
    · exfalso
      by_cases h2 : c = 10
      · subst h2; rw [tx_line] at h; cases h
      · by_cases h3 : c = 92
        · subst h3
          cases b with
          | nil => simp [txScan] at h
          | cons d u =>
            cases he : esc d with
            | none => rw [tx_noesc _ (fun d' u' e => by injection e with e _; rw [← e]; exact he)] at h; cases h
            | some q =>
              rw [tx_esc he] at h
              cases ht : txScan u with
              | ok v' n' => rw [ht] at h; injection h with _ h; omega
              | bad o => rw [ht] at h; cases h
              | never => rw [ht] at h; cases h
        · rw [tx_plain h1 h2 h3] at h
          cases ht : txScan b with
          | ok v' n' =>
            rw [ht] at h
            have := (tx_pos b v' n' ht).1
            injection h with _ h
            omega
          | bad o => rw [ht] at h; cases h
          | never => rw [ht] at h; cases h
  | c :: d :: a, b, v, h, z => by
    have h : txScan (c :: d :: (a ++ b)) = .ok v (a.length + 2) := h
    show txScan (c :: d :: (a ++ z)) = .ok v (a.length + 2)
    by_cases h1 : c = 34
    · subst h1; rw [tx_quote] at h; cases h
    · by_cases h2 : c = 10
      · subst h2; rw [tx_line] at h; cases h
      · by_cases h3 : c = 92
        · subst h3
          cases he : esc d with
          | none => rw [tx_noesc _ (fun d' u' e => by injection e with e _; rw [← e]; exact he)] at h; cases h
          | some q =>
            rw [tx_esc he] at h ⊢
            cases ht : txScan (a ++ b) with
            | ok v' n' =>
              rw [ht] at h
              injection h with hv hn
              have := tx_app a b v' (by rw [ht]; congr 1; omega) z
              rw [this]
              show TR.ok (q :: v') (a.length + 2) = _
              rw [hv]
            | bad o => rw [ht] at h; cases h
            | never => rw [ht] at h; cases h
        · rw [tx_plain h1 h2 h3] at h ⊢
          cases ht : txScan (d :: (a ++ b)) with
          | ok v' n' =>
            rw [ht] at h
            injection h with hv hn
            have := tx_app (d :: a) b v' (by show txScan (d :: (a ++ b)) = .ok v' (a.length + 1); rw [ht]; congr 1; omega) z
            have this : txScan (d :: (a ++ z)) = .ok v' (a.length + 1) := this
            rw [this]
            show TR.ok (c :: v') (a.length + 1 + 1) = _
            rw [hv]
          | bad o => rw [ht] at h; cases h
          | never => rw [ht] at h; cases h
end Go.Proofs.YtbekkpfbjafagaaDoor
