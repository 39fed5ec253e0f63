/- A token, and a gap, hang on nothing behind them: plain facts; no program stands in it. -/
import Derived.Test.YtbekkpfbjafagaaDoorLxr
import Derived.Test.YtbekkpfbjafagaaDoorLxq
namespace Go.Proofs.YtbekkpfbjafagaaDoor

theorem pre_cons {c d : UInt8} {p r : Txt} : pre (c :: p) (d :: r) = (c == d && pre p r) := rfl
theorem pre_nil {r : Txt} : pre [] r = true := by cases r <;> rfl
theorem pre_none {c : UInt8} {p : Txt} : pre (c :: p) [] = false := rfl
theorem pre_append : ∀ (p a b : Txt), p.length ≤ a.length → pre p (a ++ b) = pre p a
  | [], a, b, _ => by rw [pre_nil, pre_nil]
  | c :: p, [], b, h => by simp at h
  | c :: p, d :: a, b, h => by
    show pre (c :: p) (d :: (a ++ b)) = pre (c :: p) (d :: a)
    rw [pre_cons, pre_cons, pre_append p a b (by simp at h; exact h)]

/-- In the front of a text a sign of two bytes hangs on its two bytes. -/
theorem Cy.two {r z x : Txt} {p : Nat} (h : Cy r z x p) (c d : UInt8) (hd : isB (bv d) = false) (e : UInt8) (hn : pre [c, d] (e :: r) = false) : pre [c, d] (e :: z) = false := by
  rcases h.cases with ⟨_, rfl⟩ | ⟨c', t, _, rfl, rfl⟩ | ⟨c', d', u, q, _, rfl, rfl⟩
  · cases z with
    | nil => rw [pre_cons, pre_none, Bool.and_false]
    | cons b y =>
      rw [pre_cons, pre_cons, pre_nil, Bool.and_true]
      have hb := h.ht b y rfl
      have : (d == b) = false := by
        rw [beq_eq_false_iff_ne]
        rintro rfl
        rw [hd] at hb; cases hb
      rw [this, Bool.and_false]
  · rw [pre_cons, pre_cons, pre_nil] at hn ⊢; exact hn
  · rw [pre_cons, pre_cons, pre_nil] at hn ⊢; exact hn
theorem gap_local0 {c : UInt8} {r z x : Txt} {p : Nat} (h : Cy r z x p) (hg : gapAt (c :: r) = .none) : gapAt (c :: z) = .none := by
  rw [gap_cons] at hg ⊢
  split at hg
  · cases hg
  · rename_i h1
    split at hg
    · cases hg
    · rename_i h2
      split at hg
      · rename_i h3
        unfold cGap at hg
        cases hc : cEnd (r.drop 1) with
        | none => rw [hc] at hg; cases hg
        | some m => rw [hc] at hg; cases hg
      · rename_i h3
        have h2 : pre [47, 47] (c :: r) = false := by simpa using h2
        have h3 : pre [47, 42] (c :: r) = false := by simpa using h3
        rw [if_neg h1, if_neg (by rw [h.two 47 47 (by decide) c h2]; simp), if_neg (by rw [h.two 47 42 (by decide) c h3]; simp)]

theorem hds_in {hd : Txt} (h : hd ∈ hds) : ∃ c1 c2 c3 c4, hd = [46, c1, c2, c3, c4] ∧ isL (bv c1) = true ∧ isL (bv c2) = true ∧ isL (bv c3) = true ∧ isL (bv c4) = true := by
  simp only [hds, List.mem_cons, List.not_mem_nil, or_false] at h
  rcases h with rfl | rfl | rfl | rfl <;> exact ⟨_, _, _, _, rfl, by decide, by decide, by decide, by decide⟩
theorem hd_pre {hd r : Txt} (h : hd ∈ hds) (hp : pre hd r = true) : ∃ c1 c2 c3 c4 t, r = 46 :: c1 :: c2 :: c3 :: c4 :: t ∧ hd = [46, c1, c2, c3, c4] ∧ isL (bv c1) = true ∧ inW (bv c1) = true ∧ inW (bv c2) = true ∧ inW (bv c3) = true ∧ inW (bv c4) = true := by
  obtain ⟨c1, c2, c3, c4, rfl, h1, h2, h3, h4⟩ := hds_in h
  have ht := pre_take hp
  match r, ht with
  | a :: b :: c :: d :: e :: t, ht =>
    simp only [List.length_cons, List.length_nil, List.take_succ_cons, List.take_zero, List.cons.injEq] at ht
    obtain ⟨rfl, rfl, rfl, rfl, rfl, _⟩ := ht
    exact ⟨_, _, _, _, t, rfl, rfl, h1, inW_L h1, inW_L h2, inW_L h3, inW_L h4⟩
theorem isHd_cases {r : Txt} (h : isHd r = true) : ∃ c1 c2 c3 c4 t, r = 46 :: c1 :: c2 :: c3 :: c4 :: t ∧ [46, c1, c2, c3, c4] ∈ hds ∧ isL (bv c1) = true ∧ inW (bv c1) = true ∧ inW (bv c2) = true ∧ inW (bv c3) = true ∧ inW (bv c4) = true ∧ noW t = true := by
  unfold isHd at h
  rw [Bool.and_eq_true] at h
  obtain ⟨hd, hm, hp⟩ := List.any_eq_true.1 h.1
  obtain ⟨c1, c2, c3, c4, t, rfl, rfl, g⟩ := hd_pre hm hp
  exact ⟨c1, c2, c3, c4, t, rfl, hm, g.1, g.2.1, g.2.2.1, g.2.2.2.1, g.2.2.2.2, h.2⟩
theorem isHd_of {c1 c2 c3 c4 : UInt8} {t : Txt} (hm : [46, c1, c2, c3, c4] ∈ hds) (hn : noW t = true) : isHd (46 :: c1 :: c2 :: c3 :: c4 :: t) = true := by
  unfold isHd
  rw [Bool.and_eq_true]
  refine ⟨List.any_eq_true.2 ⟨_, hm, ?_⟩, hn⟩
  simp [pre_cons, pre_nil]

/-- What is no head stays none. -/
theorem Cz.hd {r z x : Txt} {p : Nat} (h : Cz r z x p) (e : UInt8) (hn : isHd (e :: r) = false) : isHd (e :: z) = false := by
  cases hz : isHd (e :: z) with
  | false => rfl
  | true =>
    exfalso
    obtain ⟨c1, c2, c3, c4, t, he, hm, l1, w1, w2, w3, w4, hnt⟩ := isHd_cases hz
    injection he with he hzz
    subst he
    have htl : ∀ b y, x = b :: y → inW (bv b) = false := fun b y hx => blank_out (h.ht b y hx)
    have hez := h.ez
    rw [hzz] at hez
    match p, r, h, hez with
    | 0, r, h, hez =>
      have : x = c1 :: c2 :: c3 :: c4 :: t := by simpa using hez.symm
      rw [htl _ _ this] at w1; cases w1
    | 1, [], h, _ => have := h.hp; simp at this
    | 1, a :: r, h, hez =>
      injection hez with _ hez
      have : x = c2 :: c3 :: c4 :: t := by simpa using hez.symm
      rw [htl _ _ this] at w2; cases w2
    | 2, [], h, _ => have := h.hp; simp at this
    | 2, [a], h, _ => have := h.hp; simp at this
    | 2, a :: b :: r, h, hez =>
      injection hez with _ hez
      injection hez with _ hez
      have : x = c3 :: c4 :: t := by simpa using hez.symm
      rw [htl _ _ this] at w3; cases w3
    | 3, [], h, _ => have := h.hp; simp at this
    | 3, [a], h, _ => have := h.hp; simp at this
    | 3, [a, b], h, _ => have := h.hp; simp at this
    | 3, a :: b :: c :: r, h, hez =>
      injection hez with _ hez
      injection hez with _ hez
      injection hez with _ hez
      have : x = c4 :: t := by simpa using hez.symm
      rw [htl _ _ this] at w4; cases w4
    | q + 4, [], h, _ => have := h.hp; simp at this
    | q + 4, [a], h, _ => have := h.hp; simp at this
    | q + 4, [a, b], h, _ => have := h.hp; simp at this
    | q + 4, [a, b, c], h, _ => have := h.hp; simp at this
    | q + 4, a :: b :: c :: d :: r, h, hez =>
      injection hez with e1 hez
      injection hez with e2 hez
      injection hez with e3 hez
      injection hez with e4 hez
      subst e1 e2 e3 e4
      have hr : noW r = true := by
        cases hr : noW r with
        | true => rfl
        | false =>
          exfalso
          cases r with
          | nil => cases hr
          | cons f r =>
            have hf : inW (bv f) = true := by simpa [noW] using hr
            have hw := h.hw (by omega) _ _ rfl l1
            rw [nm_in w1, nm_in w2, nm_in w3, nm_in w4, nm_in hf] at hw
            obtain ⟨q', rfl⟩ : ∃ q', q = q' + 1 := ⟨q - 1, by omega⟩
            have : t = f :: (r.take q' ++ x) := by simpa using hez
            rw [this] at hnt
            simp [noW, hf] at hnt
      rw [isHd_of hm hr] at hn; cases hn

theorem sg_local {a r z x : Txt} {p : Nat} (h : Cz r z x p) (ha : 0 < a.length) (hs : sgLen (a ++ r) = a.length) : sgLen (a ++ z) = a.length := by
  unfold sgLen at hs
  cases h1 : isHd (a ++ r) with
  | true =>
    rw [h1, if_pos rfl] at hs
    obtain ⟨c1, c2, c3, c4, t, he, hm, _, _, _, _, _, hnt⟩ := isHd_cases h1
    match a, hs, he with
    | [b0, b1, b2, b3, b4], _, he =>
      simp only [List.cons_append, List.nil_append, List.cons.injEq] at he
      obtain ⟨rfl, rfl, rfl, rfl, rfl, rfl⟩ := he
      unfold sgLen
      rw [show ([46, b1, b2, b3, b4] ++ z : Txt) = 46 :: b1 :: b2 :: b3 :: b4 :: z from rfl, isHd_of hm (h.nW hnt), if_pos rfl]; rfl
  | false =>
    rw [h1, if_neg (by simp)] at hs
    cases h2 : twos.any (fun h => pre h (a ++ r)) with
    | true =>
      rw [h2, if_pos rfl] at hs
      match a, hs with
      | [b0, b1], _ =>
        obtain ⟨tw, hm, hp⟩ := List.any_eq_true.1 h2
        have hlen : tw.length = 2 := by
          simp only [twos, List.mem_cons, List.not_mem_nil, or_false] at hm
          rcases hm with rfl | rfl | rfl | rfl | rfl <;> rfl
        have e1 : ∀ l : Txt, pre tw ([b0, b1] ++ l) = pre tw [b0, b1] := fun l => pre_append tw [b0, b1] l (by rw [hlen]; exact Nat.le_refl _)
        have hpz : pre tw ([b0, b1] ++ z) = true := by rw [e1, ← e1 r]; exact hp
        have h3 : isHd ([b0, b1] ++ z) = false := by
          cases hz : isHd ([b0, b1] ++ z) with
          | false => rfl
          | true =>
            exfalso
            obtain ⟨c1, c2, c3, c4, t, he, _⟩ := isHd_cases hz
            injection he with he _
            subst he
            simp only [twos, List.mem_cons, List.not_mem_nil, or_false] at hm
            rcases hm with rfl | rfl | rfl | rfl | rfl <;> simp [pre_cons] at hp
        unfold sgLen
        have e2a : twos.any (fun h => pre h ([b0, b1] ++ z)) = true := List.any_eq_true.2 ⟨tw, hm, hpz⟩
        rw [h3, if_neg (by simp), e2a, if_pos rfl]; rfl
    | false =>
      rw [h2, if_neg (by simp)] at hs
      cases h3 : ones.any (fun c => pre [c] (a ++ r)) with
      | false => rw [h3, if_neg (by simp)] at hs; omega
      | true =>
        rw [h3, if_pos rfl] at hs
        match a, hs with
        | [c], _ =>
          have e3 : ones.any (fun o => pre [o] ([c] ++ z)) = true := by
            obtain ⟨o, ho, hp⟩ := List.any_eq_true.1 h3
            exact List.any_eq_true.2 ⟨o, ho, by show pre [o] (c :: z) = true; have hp : pre [o] (c :: r) = true := hp; rw [pre_cons, pre_nil] at hp ⊢; exact hp⟩
          have e2 : twos.any (fun h => pre h ([c] ++ z)) = false := by
            rw [List.any_eq_false] at h2 ⊢
            intro tw hm
            have hq := h2 tw hm
            have hq : pre tw (c :: r) = false := by simpa using hq
            have : pre tw (c :: z) = false := by
              simp only [twos, List.mem_cons, List.not_mem_nil, or_false] at hm
              rcases hm with rfl | rfl | rfl | rfl | rfl <;> exact h.two _ _ (by decide) c hq
            show ¬ pre tw (c :: z) = true
            rw [this]; simp
          unfold sgLen
          rw [show ([c] ++ z : Txt) = c :: z from rfl] at e3 e2 ⊢
          rw [h.hd c h1, if_neg (by simp), e2, if_neg (by simp), e3, if_pos rfl]; rfl

/-- A token hangs on nothing behind it. -/
theorem tok_local {a r z x : Txt} {p : Nat} {kd nm : Int} {tx : Txt} (h : Cz r z x p) (ht : tokAt (a ++ r) = .tok kd tx nm a.length) : tokAt (a ++ z) = .tok kd tx nm a.length := by
  have hpos := (tok_pos ht).1
  have takes : ∀ l : Txt, (a ++ l).take a.length = a := fun l => List.take_left
  have drops : ∀ l : Txt, (a ++ l).drop a.length = l := fun l => List.drop_left
  cases a with
  | nil => simp at hpos
  | cons c a' =>
    rw [List.cons_append, tok_cons, ← List.cons_append] at ht ⊢
    split at ht
    · rename_i hc
      rw [if_pos hc]
      unfold nmRes at ht ⊢
      split at ht
      · cases ht
      · rename_i h64
        injection ht with e1 e2 e3 e4
        have hz := nm_app (c :: a') r e4
        have hr0 : nmLen r = 0 := by have := hz r; omega
        have hzz : nmLen (c :: a' ++ z) = (c :: a').length := by rw [hz z, h.nm hr0]; omega
        rw [e4, takes] at e2
        rw [hzz, takes, if_neg (by omega), e1, e2, e3]
    · rename_i hc
      rw [if_neg hc]
      split at ht
      · rename_i hd
        rw [if_pos hd]
        unfold dgRes at ht ⊢
        split at ht
        · cases ht
        · rename_i hno
          split at ht
          · cases ht
          · rename_i hov
            injection ht with e1 e2 e3 e4
            rw [e4, drops] at hno
            rw [e4, takes] at e3 hov
            have hno : noW r = true := by simpa using hno
            have hzz : dgLen (c :: a' ++ z) = (c :: a').length := by
              by_cases h48 : c = 48
              · subst h48
                rw [List.cons_append, dg_cons, if_pos rfl] at e4 ⊢
                exact e4
              · rw [List.cons_append, dg_cons, if_neg h48] at e4 ⊢
                have := dcn_app (c :: a') r e4 z
                rw [List.cons_append, dcn_noW (h.nW hno)] at this
                exact this
            rw [hzz, drops, takes, if_neg (by rw [h.nW hno]; simp), if_neg hov, e1, e2, e3]
      · rename_i hd
        rw [if_neg hd]
        split at ht
        · rename_i h34
          rw [if_pos h34]
          unfold txRes at ht ⊢
          cases hx : txScan (a' ++ r) with
          | ok v n =>
            rw [hx] at ht
            injection ht with e1 e2 e3 e4
            have e4 : n + 1 = a'.length + 1 := e4
            have hn : n = a'.length := by omega
            subst hn
            rw [tx_app a' r v hx z]
            show Res.tok 3 v 0 (a'.length + 1) = _
            rw [e1, e2, e3]; rfl
          | bad o => rw [hx] at ht; cases ht
          | never => rw [hx] at ht; cases ht
        · rename_i h34
          rw [if_neg h34]
          unfold sgRes at ht ⊢
          split at ht
          · cases ht
          · rename_i h0
            injection ht with e1 e2 e3 e4
            have hz := sg_local h hpos e4
            rw [e4, takes] at e2
            rw [hz, takes, if_neg (by omega), e1, e2, e3]
end Go.Proofs.YtbekkpfbjafagaaDoor
