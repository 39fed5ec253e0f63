/- A token, and a gap, hang on nothing behind them: plain facts; no program stands in it. The tokens of a text up to a token's first byte, and gaps put there: plain facts; no program stands in it. The plain reading: gaps turn nothing but places. -/
import Derived.Test.YtdjehbdpcdikkaaGreatDoorMg34
namespace Go.Proofs.YtdjehbdpcdikkaaGreatDoor

theorem pre_cons {c d : UInt8} {p r : Txt} : pre (c :: p) (d :: r) = (c == d && pre p r) := rfl
theorem pre_nil {r : Txt} : pre [] r = true := by cases r <;> rfl
theorem pre_none {c : UInt8} {p : Txt} : pre (c :: p) [] = false := rfl
theorem pre_append : ∀ (p a b : Txt), p.length ≤ a.length → pre p (a ++ b) = pre p a
  | [], a, b, _ => by rw [pre_nil, pre_nil]
  | c :: p, [], b, h => by simp at h
  | c :: p, d :: a, b, h => by
    show pre (c :: p) (d :: (a ++ b)) = pre (c :: p) (d :: a)
    rw [pre_cons, pre_cons, pre_append p a b (by simp at h; exact h)]

/-- In the front of a text a sign of two bytes hangs on its two bytes. -/
theorem Cy.two {r z x : Txt} {p : Nat} (h : Cy r z x p) (c d : UInt8) (hd : isB (bv d) = false) (e : UInt8) (hn : pre [c, d] (e :: r) = false) : pre [c, d] (e :: z) = false := by
  rcases h.cases with ⟨_, rfl⟩ | ⟨c', t, _, rfl, rfl⟩ | ⟨c', d', u, q, _, rfl, rfl⟩
  · cases z with
    | nil => rw [pre_cons, pre_none, Bool.and_false]
    | cons b y =>
      rw [pre_cons, pre_cons, pre_nil, Bool.and_true]
      have hb := h.ht b y rfl
      have : (d == b) = false := by
        rw [beq_eq_false_iff_ne]
        rintro rfl
        rw [hd] at hb; cases hb
      rw [this, Bool.and_false]
  · rw [pre_cons, pre_cons, pre_nil] at hn ⊢; exact hn
  · rw [pre_cons, pre_cons, pre_nil] at hn ⊢; exact hn
theorem gap_local0 {c : UInt8} {r z x : Txt} {p : Nat} (h : Cy r z x p) (hg : gapAt (c :: r) = .none) : gapAt (c :: z) = .none := by
  rw [gap_cons] at hg ⊢
  split at hg
  · cases hg
  · rename_i h1
    split at hg
    · cases hg
    · rename_i h2
      split at hg
      · rename_i h3
        unfold cGap at hg
        cases hc : cEnd (r.drop 1) with
        | none => rw [hc] at hg; cases hg
        | some m => rw [hc] at hg; cases hg
      · rename_i h3
        have h2 : pre [47, 47] (c :: r) = false := by simpa using h2
        have h3 : pre [47, 42] (c :: r) = false := by simpa using h3
        rw [if_neg h1, if_neg (by rw [h.two 47 47 (by decide) c h2]; simp), if_neg (by rw [h.two 47 42 (by decide) c h3]; simp)]

theorem hds_in {hd : Txt} (h : hd ∈ hds) : ∃ c1 c2 c3 c4, hd = [46, c1, c2, c3, c4] ∧ isL (bv c1) = true ∧ isL (bv c2) = true ∧ isL (bv c3) = true ∧ isL (bv c4) = true := by
  simp only [hds, List.mem_cons, List.not_mem_nil, or_false] at h
  rcases h with rfl | rfl | rfl | rfl <;> exact ⟨_, _, _, _, rfl, by decide, by decide, by decide, by decide⟩
theorem hd_pre {hd r : Txt} (h : hd ∈ hds) (hp : pre hd r = true) : ∃ c1 c2 c3 c4 t, r = 46 :: c1 :: c2 :: c3 :: c4 :: t ∧ hd = [46, c1, c2, c3, c4] ∧ isL (bv c1) = true ∧ inW (bv c1) = true ∧ inW (bv c2) = true ∧ inW (bv c3) = true ∧ inW (bv c4) = true := by
  obtain ⟨c1, c2, c3, c4, rfl, h1, h2, h3, h4⟩ := hds_in h
  have ht := pre_take hp
  match r, ht with
  | a :: b :: c :: d :: e :: t, ht =>
    simp only [List.length_cons, List.length_nil, List.take_succ_cons, List.take_zero, List.cons.injEq] at ht
    obtain ⟨rfl, rfl, rfl, rfl, rfl, _⟩ := ht
    exact ⟨_, _, _, _, t, rfl, rfl, h1, inW_L h1, inW_L h2, inW_L h3, inW_L h4⟩
theorem isHd_cases {r : Txt} (h : isHd r = true) : ∃ c1 c2 c3 c4 t, r = 46 :: c1 :: c2 :: c3 :: c4 :: t ∧ [46, c1, c2, c3, c4] ∈ hds ∧ isL (bv c1) = true ∧ inW (bv c1) = true ∧ inW (bv c2) = true ∧ inW (bv c3) = true ∧ inW (bv c4) = true ∧ noW t = true := by
  unfold isHd at h
  rw [Bool.and_eq_true] at h
  obtain ⟨hd, hm, hp⟩ := List.any_eq_true.1 h.1
  obtain ⟨c1, c2, c3, c4, t, rfl, rfl, g⟩ := hd_pre hm hp
  exact ⟨c1, c2, c3, c4, t, rfl, hm, g.1, g.2.1, g.2.2.1, g.2.2.2.1, g.2.2.2.2, h.2⟩
theorem isHd_of {c1 c2 c3 c4 : UInt8} {t : Txt} (hm : [46, c1, c2, c3, c4] ∈ hds) (hn : noW t = true) : isHd (46 :: c1 :: c2 :: c3 :: c4 :: t) = true := by
  unfold isHd
  rw [Bool.and_eq_true]
  refine ⟨List.any_eq_true.2 ⟨_, hm, ?_⟩, hn⟩
  simp [pre_cons, pre_nil]

/-- What is no head stays none. -/
theorem Cz.hd {r z x : Txt} {p : Nat} (h : Cz r z x p) (e : UInt8) (hn : isHd (e :: r) = false) : isHd (e :: z) = false := by
  cases hz : isHd (e :: z) with
  | false => rfl
  | true =>
    exfalso
    obtain ⟨c1, c2, c3, c4, t, he, hm, l1, w1, w2, w3, w4, hnt⟩ := isHd_cases hz
    injection he with he hzz
    subst he
    have htl : ∀ b y, x = b :: y → inW (bv b) = false := fun b y hx => blank_out (h.ht b y hx)
    have hez := h.ez
    rw [hzz] at hez
    match p, r, h, hez with
    | 0, r, h, hez =>
      have : x = c1 :: c2 :: c3 :: c4 :: t := by simpa using hez.symm
      rw [htl _ _ this] at w1; cases w1
    | 1, [], h, _ => have := h.hp; simp at this
    | 1, a :: r, h, hez =>
      injection hez with _ hez
      have : x = c2 :: c3 :: c4 :: t := by simpa using hez.symm
      rw [htl _ _ this] at w2; cases w2
    | 2, [], h, _ => have := h.hp; simp at this
    | 2, [a], h, _ => have := h.hp; simp at this
    | 2, a :: b :: r, h, hez =>
      injection hez with _ hez
      injection hez with _ hez
      have : x = c3 :: c4 :: t := by simpa using hez.symm
      rw [htl _ _ this] at w3; cases w3
    | 3, [], h, _ => have := h.hp; simp at this
    | 3, [a], h, _ => have := h.hp; simp at this
    | 3, [a, b], h, _ => have := h.hp; simp at this
    | 3, a :: b :: c :: r, h, hez =>
      injection hez with _ hez
      injection hez with _ hez
      injection hez with _ hez
      have : x = c4 :: t := by simpa using hez.symm
      rw [htl _ _ this] at w4; cases w4
    | q + 4, [], h, _ => have := h.hp; simp at this
    | q + 4, [a], h, _ => have := h.hp; simp at this
    | q + 4, [a, b], h, _ => have := h.hp; simp at this
    | q + 4, [a, b, c], h, _ => have := h.hp; simp at this
    | q + 4, a :: b :: c :: d :: r, h, hez =>
      injection hez with e1 hez
      injection hez with e2 hez
      injection hez with e3 hez
      injection hez with e4 hez
      subst e1 e2 e3 e4
      have hr : noW r = true := by
        cases hr : noW r with
        | true => rfl
        | false =>
          exfalso
          cases r with
          | nil => cases hr
          | cons f r =>
            have hf : inW (bv f) = true := by simpa [noW] using hr
            have hw := h.hw (by omega) _ _ rfl l1
            rw [nm_in w1, nm_in w2, nm_in w3, nm_in w4, nm_in hf] at hw
            obtain ⟨q', rfl⟩ : ∃ q', q = q' + 1 := ⟨q - 1, by omega⟩
            have : t = f :: (r.take q' ++ x) := by simpa using hez
            rw [this] at hnt
            simp [noW, hf] at hnt
      rw [isHd_of hm hr] at hn; cases hn

theorem sg_local {a r z x : Txt} {p : Nat} (h : Cz r z x p) (ha : 0 < a.length) (hs : sgLen (a ++ r) = a.length) : sgLen (a ++ z) = a.length := by
  unfold sgLen at hs
  cases h1 : isHd (a ++ r) with
  | true =>
    rw [h1, if_pos rfl] at hs
    obtain ⟨c1, c2, c3, c4, t, he, hm, _, _, _, _, _, hnt⟩ := isHd_cases h1
    match a, hs, he with
    | [b0, b1, b2, b3, b4], _, he =>
      simp only [List.cons_append, List.nil_append, List.cons.injEq] at he
      obtain ⟨rfl, rfl, rfl, rfl, rfl, rfl⟩ := he
      unfold sgLen
      rw [show ([46, b1, b2, b3, b4] ++ z : Txt) = 46 :: b1 :: b2 :: b3 :: b4 :: z from rfl, isHd_of hm (h.nW hnt), if_pos rfl]; rfl
  | false =>
    rw [h1, if_neg (by simp)] at hs
    cases h2 : twos.any (fun h => pre h (a ++ r)) with
    | true =>
      rw [h2, if_pos rfl] at hs
      match a, hs with
      | [b0, b1], _ =>
        obtain ⟨tw, hm, hp⟩ := List.any_eq_true.1 h2
        have hlen : tw.length = 2 := by
          simp only [twos, List.mem_cons, List.not_mem_nil, or_false] at hm
          rcases hm with rfl | rfl | rfl | rfl | rfl <;> rfl
        have e1 : ∀ l : Txt, pre tw ([b0, b1] ++ l) = pre tw [b0, b1] := fun l => pre_append tw [b0, b1] l (by rw [hlen]; exact Nat.le_refl _)
        have hpz : pre tw ([b0, b1] ++ z) = true := by rw [e1, ← e1 r]; exact hp
        have h3 : isHd ([b0, b1] ++ z) = false := by
          cases hz : isHd ([b0, b1] ++ z) with
          | false => rfl
          | true =>
            exfalso
            obtain ⟨c1, c2, c3, c4, t, he, _⟩ := isHd_cases hz
            injection he with he _
            subst he
            simp only [twos, List.mem_cons, List.not_mem_nil, or_false] at hm
            rcases hm with rfl | rfl | rfl | rfl | rfl <;> simp [pre_cons] at hp
        unfold sgLen
        have e2a : twos.any (fun h => pre h ([b0, b1] ++ z)) = true := List.any_eq_true.2 ⟨tw, hm, hpz⟩
        rw [h3, if_neg (by simp), e2a, if_pos rfl]; rfl
    | false =>
      rw [h2, if_neg (by simp)] at hs
      cases h3 : ones.any (fun c => pre [c] (a ++ r)) with
      | false => rw [h3, if_neg (by simp)] at hs; omega
      | true =>
        rw [h3, if_pos rfl] at hs
        match a, hs with
        | [c], _ =>
          have e3 : ones.any (fun o => pre [o] ([c] ++ z)) = true := by
            obtain ⟨o, ho, hp⟩ := List.any_eq_true.1 h3
            exact List.any_eq_true.2 ⟨o, ho, by show pre [o] (c :: z) = true; have hp : pre [o] (c :: r) = true := hp; rw [pre_cons, pre_nil] at hp ⊢; exact hp⟩
          have e2 : twos.any (fun h => pre h ([c] ++ z)) = false := by
            rw [List.any_eq_false] at h2 ⊢
            intro tw hm
            have hq := h2 tw hm
            have hq : pre tw (c :: r) = false := by simpa using hq
            have : pre tw (c :: z) = false := by
              simp only [twos, List.mem_cons, List.not_mem_nil, or_false] at hm
              rcases hm with rfl | rfl | rfl | rfl | rfl <;> exact h.two _ _ (by decide) c hq
            show ¬ pre tw (c :: z) = true
            rw [this]; simp
          unfold sgLen
          rw [show ([c] ++ z : Txt) = c :: z from rfl] at e3 e2 ⊢
          rw [h.hd c h1, if_neg (by simp), e2, if_neg (by simp), e3, if_pos rfl]; rfl

/-- A token hangs on nothing behind it. -/
theorem tok_local {a r z x : Txt} {p : Nat} {kd nm : Int} {tx : Txt} (h : Cz r z x p) (ht : tokAt (a ++ r) = .tok kd tx nm a.length) : tokAt (a ++ z) = .tok kd tx nm a.length := by
  have hpos := (tok_pos ht).1
  have takes : ∀ l : Txt, (a ++ l).take a.length = a := fun l => List.take_left
  have drops : ∀ l : Txt, (a ++ l).drop a.length = l := fun l => List.drop_left
  cases a with
  | nil => simp at hpos
  | cons c a' =>
    rw [List.cons_append, tok_cons, ← List.cons_append] at ht ⊢
    split at ht
    · rename_i hc
      rw [if_pos hc]
      unfold nmRes at ht ⊢
      split at ht
      · cases ht
      · rename_i h64
        injection ht with e1 e2 e3 e4
        have hz := nm_app (c :: a') r e4
        have hr0 : nmLen r = 0 := by have := hz r; omega
        have hzz : nmLen (c :: a' ++ z) = (c :: a').length := by rw [hz z, h.nm hr0]; omega
        rw [e4, takes] at e2
        rw [hzz, takes, if_neg (by omega), e1, e2, e3]
    · rename_i hc
      rw [if_neg hc]
      split at ht
      · rename_i hd
        rw [if_pos hd]
        unfold dgRes at ht ⊢
        split at ht
        · cases ht
        · rename_i hno
          split at ht
          · cases ht
          · rename_i hov
            injection ht with e1 e2 e3 e4
            rw [e4, drops] at hno
            rw [e4, takes] at e3 hov
            have hno : noW r = true := by simpa using hno
            have hzz : dgLen (c :: a' ++ z) = (c :: a').length := by
              by_cases h48 : c = 48
              · subst h48
                rw [List.cons_append, dg_cons, if_pos rfl] at e4 ⊢
                exact e4
              · rw [List.cons_append, dg_cons, if_neg h48] at e4 ⊢
                have := dcn_app (c :: a') r e4 z
                rw [List.cons_append, dcn_noW (h.nW hno)] at this
                exact this
            rw [hzz, drops, takes, if_neg (by rw [h.nW hno]; simp), if_neg hov, e1, e2, e3]
      · rename_i hd
        rw [if_neg hd]
        split at ht
        · rename_i h34
          rw [if_pos h34]
          unfold txRes at ht ⊢
          cases hx : txScan (a' ++ r) with
          | ok v n =>
            rw [hx] at ht
            injection ht with e1 e2 e3 e4
            have e4 : n + 1 = a'.length + 1 := e4
            have hn : n = a'.length := by omega
            subst hn
            rw [tx_app a' r v hx z]
            show Res.tok 3 v 0 (a'.length + 1) = _
            rw [e1, e2, e3]; rfl
          | bad o => rw [hx] at ht; cases ht
          | never => rw [hx] at ht; cases ht
        · rename_i h34
          rw [if_neg h34]
          unfold sgRes at ht ⊢
          split at ht
          · cases ht
          · rename_i h0
            injection ht with e1 e2 e3 e4
            have hz := sg_local h hpos e4
            rw [e4, takes] at e2
            rw [hz, takes, if_neg (by omega), e1, e2, e3]
end Go.Proofs.YtdjehbdpcdikkaaGreatDoor

namespace Go.Proofs.YtdjehbdpcdikkaaGreatDoor

theorem ln_app : ∀ (a b : Txt), lnLen (a ++ b) = a.length → ∀ z, lnLen (a ++ z) = a.length + lnLen z
  | [], _, _, z => by simp
  | c :: a, b, h, z => by
    have h : lnLen (c :: (a ++ b)) = a.length + 1 := h
    show lnLen (c :: (a ++ z)) = a.length + 1 + lnLen z
    by_cases hc : c = 10
    · have e : lnLen (c :: (a ++ b)) = 0 := by simp [lnLen, hc]
      omega
    · have e1 : ∀ l : Txt, lnLen (c :: l) = lnLen l + 1 := fun l => by simp [lnLen, hc]
      rw [e1] at h ⊢
      have := ln_app a b (by omega) z
      omega
theorem ln_zero {r : Txt} (h : lnLen r = 0) : r = [] ∨ ∃ t, r = 10 :: t := by
  cases r with
  | nil => exact .inl rfl
  | cons c t =>
    by_cases hc : c = 10
    · exact .inr ⟨t, by rw [hc]⟩
    · simp [lnLen, hc] at h
theorem ce_app : ∀ (a b : Txt) (m : Nat), cEnd (a ++ b) = some m → m + 2 = a.length → ∀ z, cEnd (a ++ z) = some m
  | [], _, m, _, h, _ => by simp at h
  | c :: a, b, m, h, hm, z => by
    have h : cEnd (c :: (a ++ b)) = some m := h
    have hm : m + 2 = a.length + 1 := hm
    show cEnd (c :: (a ++ z)) = some m
    have e : ∀ l : Txt, pre [42, 47] (c :: (a ++ l)) = pre [42, 47] (c :: a) := fun l => pre_append [42, 47] (c :: a) l (by simp; omega)
    unfold cEnd at h ⊢
    rw [e] at h ⊢
    by_cases hp : pre [42, 47] (c :: a) = true
    · rw [if_pos hp] at h ⊢; exact h
    · rw [if_neg hp] at h ⊢
      cases hc : cEnd (a ++ b) with
      | none => rw [hc] at h; cases h
      | some j =>
        rw [hc] at h
        have hj : j + 1 = m := by simpa using h
        rw [ce_app a b j hc (by omega) z]
        simp [hj]
theorem gap_letter {c : UInt8} {u : Txt} (h : isL (bv c) = true) : gapAt (c :: u) = .none := by
  have hb : isB (bv c) = false := by
    cases hb : isB (bv c) with
    | false => rfl
    | true => have := blank_out hb; rw [inW_L h] at this; cases this
  have hc : ¬ c = 47 := by rintro rfl; exact absurd h (by decide)
  have hp : ∀ d, pre [47, d] (c :: u) = false := fun d => by
    rw [pre_cons, show ((47 : UInt8) == c) = false from beq_eq_false_iff_ne.2 (fun e => hc e.symm), Bool.false_and]
  rw [gap_cons, if_neg (by simp [hb]), if_neg (by rw [hp]; simp), if_neg (by rw [hp]; simp)]

/-- A gap hangs on nothing behind it, but that a line ends. -/
theorem gap_local {a r z x : Txt} {p : Nat} (h : Cz r z x p) (hg : gapAt (a ++ r) = .gap a.length) (hr : r ≠ []) (hz : gapAt (r.drop p) = .none) : gapAt (a ++ z) = .gap a.length := by
  have hpos := (gap_pos hg).1
  cases a with
  | nil => simp at hpos
  | cons c a =>
    rw [List.cons_append, gap_cons] at hg ⊢
    split at hg
    · rename_i hb
      rw [if_pos hb]; exact hg
    · rename_i hb
      rw [if_neg hb]
      split at hg
      · rename_i hp
        injection hg with hg
        have hl := ln_app (c :: a) r hg
        have hr0 : lnLen r = 0 := by have := hl r; rw [List.cons_append] at this; omega
        obtain ⟨t, rfl⟩ : ∃ t, r = 10 :: t := by
          rcases ln_zero hr0 with h | h
          · exact absurd h hr
          · exact h
        have hp0 : 0 < p := by
          rcases Nat.eq_zero_or_pos p with h0 | h0
          · subst h0
            rw [List.drop_zero, gap_cons, if_pos (by decide)] at hz
            cases hz
          · exact h0
        obtain ⟨z', rfl⟩ : ∃ z', z = 10 :: z' := by
          rcases h.cases with ⟨h0, _⟩ | ⟨c', t', _, e, rfl⟩ | ⟨c', d', u, q, _, e, rfl⟩
          · omega
          · injection e with e _; subst e; exact ⟨_, rfl⟩
          · injection e with e _; subst e; exact ⟨_, rfl⟩
        have h2 : 2 ≤ (c :: a).length := by
          have h1 : c = 47 := by have := pre_take hp; simpa using congrArg List.head? this
          subst h1
          cases a with
          | nil =>
            have := pre_take hp
            simp at this
          | cons d a => simp
        have e : pre [47, 47] (c :: (a ++ 10 :: z')) = true := by
          have e1 := pre_append [47, 47] (c :: a) (10 :: z') h2
          have e2 := pre_append [47, 47] (c :: a) (10 :: t) h2
          rw [List.cons_append] at e1 e2
          rw [e1, ← e2]; exact hp
        have hlz := hl (10 :: z')
        rw [List.cons_append, show lnLen (10 :: z') = 0 by simp [lnLen], Nat.add_zero] at hlz
        rw [if_pos e, hlz]
      · rename_i hp
        split at hg
        · rename_i hq
          unfold cGap at hg
          cases hc : cEnd ((a ++ r).drop 1) with
          | none => rw [hc] at hg; cases hg
          | some m =>
            rw [hc] at hg
            have hg : G.gap (m + 4) = .gap (a.length + 1) := hg
            injection hg with hg
            cases a with
            | nil => simp at hg
            | cons d a =>
              have hg : m + 4 = a.length + 2 := hg
              have hc : cEnd (a ++ r) = some m := hc
              have h2 : 2 ≤ (c :: d :: a).length := by simp
              have e1 : ∀ q l, pre [47, q] (c :: (d :: a ++ l)) = pre [47, q] (c :: d :: a) := fun q l => pre_append [47, q] (c :: d :: a) l h2
              rw [e1] at hp hq
              rw [e1, e1, if_neg hp, if_pos hq]
              unfold cGap
              have : cEnd ((d :: a ++ z).drop 1) = some m := ce_app a r m hc (by omega) z
              rw [this]
              show G.gap (m + 4) = .gap (a.length + 2)
              rw [hg]
        · cases hg

theorem app_cons' (l : List Tok) (t : Tok) (o : Out) : (o.app l).cons t = o.app (t :: l) := by cases o <;> rfl
/-- A token's place parts what is read. -/
theorem cut : ∀ (m : Nat) (r : Txt) (k : Nat) (l1 : List Tok) (t : Tok) (l2 : List Tok), r.length ≤ m → scan k r = .ok (l1 ++ t :: l2) →
    ∃ p, t.at_ = k + p ∧ p < r.length ∧ scan (k + p) (r.drop p) = .ok (t :: l2) ∧ gapAt (r.drop p) = .none ∧ (0 < p → ∀ c u, r = c :: u → isL (bv c) = true → nmLen r ≤ p) ∧
      ∀ x, Tail x → scan k (r.take p ++ x) = (scan (k + p) x).app l1 := by
  intro m
  induction m with
  | zero =>
    intro r k l1 t l2 h hs
    have : r = [] := List.eq_nil_of_length_eq_zero (by omega)
    subst this
    rw [scan_nil] at hs
    injection hs with hs
    simp at hs
  | succ m ih =>
    intro r k l1 t l2 h hs
    by_cases h0 : r = []
    · subst h0; rw [scan_nil] at hs; injection hs with hs; simp at hs
    · cases hg : gapAt r with
      | never => rw [scan_never hg] at hs; cases hs
      | gap n =>
        have hp := gap_pos hg
        rw [scan_gap hg] at hs
        obtain ⟨p, e1, e2, e3, e4, e5, e6⟩ := ih (r.drop n) (k + n) l1 t l2 (by rw [List.length_drop]; omega) hs
        rw [List.length_drop] at e2
        rw [List.drop_drop] at e3 e4
        have hr' : r.drop n ≠ [] := by
          intro hn
          rw [hn, scan_nil] at hs
          injection hs with hs
          simp at hs
        have hal : (r.take n).length = n := by rw [List.length_take]; omega
        refine ⟨n + p, by omega, by omega, by rw [← Nat.add_assoc]; exact e3, e4, fun _ c u hc hl => ?_, fun x hx => ?_⟩
        · rw [hc, gap_letter hl] at hg; cases hg
        · have hcz : Cz (r.drop n) ((r.drop n).take p ++ x) x p := ⟨⟨rfl, by rw [List.length_drop]; omega, hx⟩, e5⟩
          have hgl := gap_local (a := r.take n) hcz (by rw [List.take_append_drop, hal]; exact hg) hr' (by rw [List.drop_drop]; exact e4)
          have e : r.take (n + p) ++ x = r.take n ++ ((r.drop n).take p ++ x) := by rw [List.take_add, List.append_assoc]
          rw [e, scan_gap hgl, hal, List.drop_append_of_le_length (by omega), List.drop_of_length_le (by omega), List.nil_append, e6 x hx, Nat.add_assoc]
      | none =>
        cases ht : tokAt r with
        | bad w o => rw [scan_bad h0 hg ht] at hs; cases hs
        | tok kd tx nm n =>
          have hp := tok_pos ht
          have hs0 := hs
          rw [scan_tok hg ht] at hs
          cases hsc : scan (k + n) (r.drop n) with
          | bad w a => rw [hsc] at hs; cases hs
          | ok l =>
            rw [hsc] at hs
            injection hs with hs
            cases l1 with
            | nil =>
              injection hs with ht0 hl
              subst ht0
              refine ⟨0, rfl, by omega, hs0, hg, fun h => absurd h (Nat.lt_irrefl 0), fun x _ => ?_⟩
              show scan k x = _
              cases scan k x <;> rfl
            | cons t0 l1 =>
              injection hs with ht0 hl
              rw [hl] at hsc
              obtain ⟨p, e1, e2, e3, e4, e5, e6⟩ := ih (r.drop n) (k + n) l1 t l2 (by rw [List.length_drop]; omega) hsc
              rw [List.length_drop] at e2
              rw [List.drop_drop] at e3 e4
              have hal : (r.take n).length = n := by rw [List.length_take]; omega
              refine ⟨n + p, by omega, by omega, by rw [← Nat.add_assoc]; exact e3, e4, fun _ c u hc hl => ?_, fun x hx => ?_⟩
              · subst hc
                rw [tok_cons, if_pos hl] at ht
                unfold nmRes at ht
                split at ht
                · cases ht
                · injection ht with _ _ _ e; omega
              · have hcz : Cz (r.drop n) ((r.drop n).take p ++ x) x p := ⟨⟨rfl, by rw [List.length_drop]; omega, hx⟩, e5⟩
                have htl := tok_local (a := r.take n) hcz (by rw [List.take_append_drop, hal]; exact ht)
                have e : r.take (n + p) ++ x = r.take n ++ ((r.drop n).take p ++ x) := by rw [List.take_add, List.append_assoc]
                have hgl : gapAt (r.take n ++ ((r.drop n).take p ++ x)) = .none := by
                  cases r with
                  | nil => exact absurd rfl h0
                  | cons c u =>
                    obtain ⟨n', rfl⟩ : ∃ n', n = n' + 1 := ⟨n - 1, by omega⟩
                    show gapAt (c :: (u.take n' ++ ((u.drop n').take p ++ x))) = .none
                    refine gap_local0 (r := u) (x := x) (p := n' + p) ⟨by rw [List.take_add, List.append_assoc], by simp only [List.length_cons] at e2; omega, hx⟩ hg
                rw [e, scan_tok hgl htl, hal, List.drop_append_of_le_length (by omega), List.drop_of_length_le (by omega), List.nil_append, e6 x hx, app_cons', ht0, Nat.add_assoc]

def Out.shift (d : Nat) : Out → Out
  | .ok l => .ok (l.map fun t => { t with at_ := t.at_ + d })
  | .bad w a => .bad w (a + d)
theorem scan_shift (d : Nat) : ∀ (m : Nat) (r : Txt) (k : Nat), r.length ≤ m → scan (k + d) r = (scan k r).shift d := by
  intro m
  induction m with
  | zero =>
    intro r k h
    have : r = [] := List.eq_nil_of_length_eq_zero (by omega)
    subst this; rfl
  | succ m ih =>
    intro r k h
    by_cases h0 : r = []
    · subst h0; rfl
    · cases hg : gapAt r with
      | never => rw [scan_never hg, scan_never hg]; rfl
      | gap n =>
        have hp := gap_pos hg
        rw [scan_gap hg, scan_gap hg, ← ih _ _ (by rw [List.length_drop]; omega)]
        congr 1; omega
      | none =>
        cases ht : tokAt r with
        | bad w o =>
          rw [scan_bad h0 hg ht, scan_bad h0 hg ht]
          show Out.bad _ _ = .bad _ _
          congr 1; omega
        | tok kd tx nm n =>
          have hp := tok_pos ht
          rw [scan_tok hg ht, scan_tok hg ht, show k + d + n = k + n + d by omega, ih _ _ (by rw [List.length_drop]; omega)]
          cases scan (k + n) (r.drop n) <;> rfl
/-- The gaps that the law puts. -/
def gps : List Txt := [[32], [10], [32, 47, 42, 32, 120, 32, 42, 47, 32], [32, 47, 47, 32, 121, 10], [9, 13]]
theorem gps_scan {g : Txt} (hg : g ∈ gps) (k : Nat) (r : Txt) : scan k (g ++ r) = scan (k + g.length) r := by
  simp only [gps, List.mem_cons, List.not_mem_nil, or_false] at hg
  have b : ∀ (c : UInt8) (l : Txt) (k : Nat), isB (bv c) = true → scan k (c :: l) = scan (k + 1) l := fun c l k h => by
    rw [scan_gap (n := 1) (by rw [gap_cons, if_pos h])]; rfl
  rcases hg with rfl | rfl | rfl | rfl | rfl
  · exact b 32 r k (by decide)
  · exact b 10 r k (by decide)
  · show scan k (32 :: 47 :: 42 :: 32 :: 120 :: 32 :: 42 :: 47 :: 32 :: r) = _
    rw [b 32 _ k (by decide), scan_gap (n := 7) (by rfl)]
    show scan (k + 1 + 7) (32 :: r) = _
    rw [b 32 _ _ (by decide)]; rfl
  · show scan k (32 :: 47 :: 47 :: 32 :: 121 :: 10 :: r) = _
    rw [b 32 _ k (by decide), scan_gap (n := 4) (by rfl)]
    show scan (k + 1 + 4) (10 :: r) = _
    rw [b 10 _ _ (by decide)]; rfl
  · show scan k (9 :: 13 :: r) = _
    rw [b 9 _ k (by decide), b 13 _ _ (by decide)]; rfl
theorem gps_tail {g : Txt} (hg : g ∈ gps) (r : Txt) : Tail (g ++ r) := by
  simp only [gps, List.mem_cons, List.not_mem_nil, or_false] at hg
  rcases hg with rfl | rfl | rfl | rfl | rfl <;> (intro b y h; injection h with h _; subst h; decide)

/-- P8.5: the tokens of a text up to a token's first byte are those ahead of it. -/
theorem heads_pure {l : Txt} {toks : List Tok} (h : lexP l = .ok toks) {i : Nat} {t : Tok} (hi : toks[i]? = some t) : t.at_ < l.length ∧ lexP (l.take t.at_) = .ok (toks.take i) := by
  obtain ⟨hlt, ht⟩ := List.getElem?_eq_some_iff.1 hi
  unfold lexP at h
  split at h
  · cases h
  · rename_i hlen
    have hs : scan 0 l = .ok (toks.take i ++ t :: toks.drop (i + 1)) := by rw [h, ← ht, ← List.drop_eq_getElem_cons hlt, List.take_append_drop]
    obtain ⟨p, e1, e2, e3, e4, e5, e6⟩ := cut l.length l 0 _ _ _ (Nat.le_refl _) hs
    have e1 : t.at_ = p := by omega
    rw [e1]
    refine ⟨e2, ?_⟩
    unfold lexP
    rw [if_neg (by rw [List.length_take]; omega)]
    have := e6 [] (fun b y h => by cases h)
    rw [List.append_nil, scan_nil] at this
    rw [this]; simp [Out.app]
/-- P8.4: gaps between two tokens turn nothing but places. -/
theorem gaps_pure {l : Txt} {toks : List Tok} (h : lexP l = .ok toks) {i : Nat} {t : Tok} (hi : toks[i]? = some t) {g : Txt} (hg : g ∈ gps) (hl : l.length + 16 ≤ 65536) :
    lexP (l.take t.at_ ++ (g ++ l.drop t.at_)) = .ok (toks.take i ++ (toks.drop i).map fun t => { t with at_ := t.at_ + g.length }) := by
  obtain ⟨hlt, ht⟩ := List.getElem?_eq_some_iff.1 hi
  unfold lexP at h
  rw [if_neg (by omega)] at h
  have hs : scan 0 l = .ok (toks.take i ++ t :: toks.drop (i + 1)) := by rw [h, ← ht, ← List.drop_eq_getElem_cons hlt, List.take_append_drop]
  obtain ⟨p, e1, e2, e3, e4, e5, e6⟩ := cut l.length l 0 _ _ _ (Nat.le_refl _) hs
  have e1 : t.at_ = p := by omega
  rw [e1]
  have hgl : g.length ≤ 16 := by
    simp only [gps, List.mem_cons, List.not_mem_nil, or_false] at hg
    rcases hg with rfl | rfl | rfl | rfl | rfl <;> decide
  unfold lexP
  rw [if_neg (by rw [List.length_append, List.length_append, List.length_take, List.length_drop]; omega), e6 _ (gps_tail hg _), gps_scan hg, scan_shift g.length _ _ _ (Nat.le_refl _), e3]
  have hd : toks.drop i = t :: toks.drop (i + 1) := by rw [List.drop_eq_getElem_cons hlt, ht]
  rw [hd]; rfl
end Go.Proofs.YtdjehbdpcdikkaaGreatDoor

namespace Go.Proofs.YtdjehbdpcdikkaaGreatDoor

theorem zt_shift (d : Nat) (l : List Tok) : (l.map fun t : Tok => { t with at_ := t.at_ + d }).map zt = l.map zt := by rw [List.map_map]; rfl
theorem alk_gap (toks : List Tok) (i d : Nat) : Alk toks (toks.take i ++ (toks.drop i).map fun t => { t with at_ := t.at_ + d }) := by
  unfold Alk
  rw [List.map_append, zt_shift, ← List.map_append, List.take_append_drop]
/-- P9.4: gaps turn nothing but places. -/
theorem gaps_parse {s : Txt} {p : Pg} {l2 : List Tok} {i2 : Nat} {toks : List Tok} (hp : parseP s = .ok p l2 i2) (hl : lexP s = .ok toks) {i : Nat} {t : Tok} (ht : toks[i]? = some t) {g : Txt} (hg : g ∈ gps) (hlen : s.length + 16 ≤ 65536) :
    ∃ q l3 i3, parseP (s.take t.at_ ++ (g ++ s.drop t.at_)) = .ok q l3 i3 ∧ eqPg p q = true := by
  unfold parseP at hp ⊢
  rw [hl] at hp
  rw [gaps_pure hl ht hg hlen]
  have hp : progD s.length 32 true toks 0 = .ok p l2 i2 := hp
  have h := al_prog (e := s.length) (e' := (s.take t.at_ ++ (g ++ s.drop t.at_)).length) 32 true _ _ 0 (alk_gap toks i g.length)
  rw [hp] at h
  show ∃ q l3 i3, progD (s.take t.at_ ++ (g ++ s.drop t.at_)).length 32 true _ 0 = .ok q l3 i3 ∧ eqPg p q = true
  revert h
  cases progD (s.take t.at_ ++ (g ++ s.drop t.at_)).length 32 true (toks.take i ++ (toks.drop i).map fun t => { t with at_ := t.at_ + g.length }) 0 with
  | bad w a l => exact fun h => h.elim
  | ok q l3 i3 => exact fun h => ⟨q, l3, i3, rfl, h.1.eq⟩
end Go.Proofs.YtdjehbdpcdikkaaGreatDoor
