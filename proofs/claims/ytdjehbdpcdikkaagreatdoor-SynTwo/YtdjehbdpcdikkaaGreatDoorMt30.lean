/- A token, and a gap, hang on nothing behind them: plain facts; no program stands in it. The tokens of a text up to a token's first byte, and gaps put there: plain facts; no program stands in it. The plain reading: gaps turn nothing but places. The plain reading: gaps; two texts, one behind the other. The plain reading: a fault is one. syn: the laws' own probe answers true. -/
import Derived.Test.YtdjehbdpcdikkaaGreatDoorMt29
import Derived.Test.YtdjehbdpcdikkaaGreatDoorMt04
import Derived.Test.YtdjehbdpcdikkaaGreatDoorMt25
import Derived.Test.YtdjehbdpcdikkaaGreatDoorMt24
namespace Go.Proofs.YtdjehbdpcdikkaaGreatDoor

theorem pre_cons {c d : UInt8} {p r : Txt} : pre (c :: p) (d :: r) = (c == d && pre p r) := rfl
theorem pre_nil {r : Txt} : pre [] r = true := by cases r <;> rfl
theorem pre_none {c : UInt8} {p : Txt} : pre (c :: p) [] = false := rfl
theorem pre_append : ∀ (p a b : Txt), p.length ≤ a.length → pre p (a ++ b) = pre p a
 | [], a, b, _ => by rw [pre_nil, pre_nil]
 | c :: p, [], b, h => by simp at h
 | c :: p, d :: a, b, h => by
  show pre (c :: p) (d :: (a ++ b)) = pre (c :: p) (d :: a)
  rw [pre_cons, pre_cons, pre_append p a b (by simp at h; exact h)]

/-- In the front of a text a sign of two bytes hangs on its two bytes. -/
theorem Cy.two {r z x : Txt} {p : Nat} (h : Cy r z x p) (c d : UInt8) (hd : isB (bv d) = false) (e : UInt8) (hn : pre [c, d] (e :: r) = false) : pre [c, d] (e :: z) = false := by
 rcases h.cases with ⟨_, rfl⟩ | ⟨c', t, _, rfl, rfl⟩ | ⟨c', d', u, q, _, rfl, rfl⟩
 ·
  cases z with
  | nil => rw [pre_cons, pre_none, Bool.and_false]
  | cons b y =>
   rw [pre_cons, pre_cons, pre_nil, Bool.and_true]
   have hb := h.ht b y rfl
   have : (d == b) = false := by
    rw [beq_eq_false_iff_ne]
    rintro rfl
    rw [hd] at hb; cases hb
   rw [this, Bool.and_false]
 · rw [pre_cons, pre_cons, pre_nil] at hn ⊢; exact hn
 · rw [pre_cons, pre_cons, pre_nil] at hn ⊢; exact hn
theorem gap_local0 {c : UInt8} {r z x : Txt} {p : Nat} (h : Cy r z x p) (hg : gapAt (c :: r) = .none) : gapAt (c :: z) = .none := by
 rw [gap_cons] at hg ⊢
 split at hg
 · cases hg
 ·
  rename_i h1
  split at hg
  · cases hg
  ·
   rename_i h2
   split at hg
   ·
    rename_i h3
    unfold cGap at hg
    cases hc : cEnd (r.drop 1) with
    | none => rw [hc] at hg; cases hg
    | some m => rw [hc] at hg; cases hg
   ·
    rename_i h3
    have h2 : pre [47, 47] (c :: r) = false := by simpa using h2
    have h3 : pre [47, 42] (c :: r) = false := by simpa using h3
    rw [if_neg h1, if_neg (by rw [h.two 47 47 (by decide) c h2]; simp), if_neg (by rw [h.two 47 42 (by decide) c h3]; simp)]

theorem hds_in {hd : Txt} (h : hd ∈ hds) : ∃ c1 c2 c3 c4, hd = [46, c1, c2, c3, c4] ∧ isL (bv c1) = true ∧ isL (bv c2) = true ∧ isL (bv c3) = true ∧ isL (bv c4) = true := by
 simp only [hds, List.mem_cons, List.not_mem_nil, or_false] at h
 rcases h with rfl | rfl | rfl | rfl <;> exact ⟨_, _, _, _, rfl, by decide, by decide, by decide, by decide⟩
theorem hd_pre {hd r : Txt} (h : hd ∈ hds) (hp : pre hd r = true) : ∃ c1 c2 c3 c4 t, r = 46 :: c1 :: c2 :: c3 :: c4 :: t ∧ hd = [46, c1, c2, c3, c4] ∧ isL (bv c1) = true ∧ inW (bv c1) = true ∧ inW (bv c2) = true ∧ inW (bv c3) = true ∧ inW (bv c4) = true := by
 obtain ⟨c1, c2, c3, c4, rfl, h1, h2, h3, h4⟩ := hds_in h
 have ht := pre_take hp
 match r, ht with
 | a :: b :: c :: d :: e :: t, ht =>
  simp only [List.length_cons, List.length_nil, List.take_succ_cons, List.take_zero, List.cons.injEq] at ht
  obtain ⟨rfl, rfl, rfl, rfl, rfl, _⟩ := ht
  exact ⟨_, _, _, _, t, rfl, rfl, h1, inW_L h1, inW_L h2, inW_L h3, inW_L h4⟩
theorem isHd_cases {r : Txt} (h : isHd r = true) : ∃ c1 c2 c3 c4 t, r = 46 :: c1 :: c2 :: c3 :: c4 :: t ∧ [46, c1, c2, c3, c4] ∈ hds ∧ isL (bv c1) = true ∧ inW (bv c1) = true ∧ inW (bv c2) = true ∧ inW (bv c3) = true ∧ inW (bv c4) = true ∧ noW t = true := by
 unfold isHd at h
 rw [Bool.and_eq_true] at h
 obtain ⟨hd, hm, hp⟩ := List.any_eq_true.1 h.1
 obtain ⟨c1, c2, c3, c4, t, rfl, rfl, g⟩ := hd_pre hm hp
 exact ⟨c1, c2, c3, c4, t, rfl, hm, g.1, g.2.1, g.2.2.1, g.2.2.2.1, g.2.2.2.2, h.2⟩
theorem isHd_of {c1 c2 c3 c4 : UInt8} {t : Txt} (hm : [46, c1, c2, c3, c4] ∈ hds) (hn : noW t = true) : isHd (46 :: c1 :: c2 :: c3 :: c4 :: t) = true := by
 unfold isHd
 rw [Bool.and_eq_true]
 refine ⟨List.any_eq_true.2 ⟨_, hm, ?_⟩, hn⟩
 simp [pre_cons, pre_nil]

/-- What is no head stays none. -/
theorem Cz.hd {r z x : Txt} {p : Nat} (h : Cz r z x p) (e : UInt8) (hn : isHd (e :: r) = false) : isHd (e :: z) = false := by
 cases hz : isHd (e :: z) with
 | false => rfl
 | true =>
  exfalso
  obtain ⟨c1, c2, c3, c4, t, he, hm, l1, w1, w2, w3, w4, hnt⟩ := isHd_cases hz
  injection he with he hzz
  subst he
  have htl : ∀ b y, x = b :: y → inW (bv b) = false := fun b y hx => blank_out (h.ht b y hx)
  have hez := h.ez
  rw [hzz] at hez
  match p, r, h, hez with
  | 0, r, h, hez =>
   have : x = c1 :: c2 :: c3 :: c4 :: t := by simpa using hez.symm
   rw [htl _ _ this] at w1; cases w1
  | 1, [], h, _ => have := h.hp; simp at this
  | 1, a :: r, h, hez =>
   injection hez with _ hez
   have : x = c2 :: c3 :: c4 :: t := by simpa using hez.symm
   rw [htl _ _ this] at w2; cases w2
  | 2, [], h, _ => have := h.hp; simp at this
  | 2, [a], h, _ => have := h.hp; simp at this
  | 2, a :: b :: r, h, hez =>
   injection hez with _ hez
   injection hez with _ hez
   have : x = c3 :: c4 :: t := by simpa using hez.symm
   rw [htl _ _ this] at w3; cases w3
  | 3, [], h, _ => have := h.hp; simp at this
  | 3, [a], h, _ => have := h.hp; simp at this
  | 3, [a, b], h, _ => have := h.hp; simp at this
  | 3, a :: b :: c :: r, h, hez =>
   injection hez with _ hez
   injection hez with _ hez
   injection hez with _ hez
   have : x = c4 :: t := by simpa using hez.symm
   rw [htl _ _ this] at w4; cases w4
  | q + 4, [], h, _ => have := h.hp; simp at this
  | q + 4, [a], h, _ => have := h.hp; simp at this
  | q + 4, [a, b], h, _ => have := h.hp; simp at this
  | q + 4, [a, b, c], h, _ => have := h.hp; simp at this
  | q + 4, a :: b :: c :: d :: r, h, hez =>
   injection hez with e1 hez
   injection hez with e2 hez
   injection hez with e3 hez
   injection hez with e4 hez
   subst e1 e2 e3 e4
   have hr : noW r = true := by
    cases hr : noW r with
    | true => rfl
    | false =>
     exfalso
     cases r with
     | nil => cases hr
     | cons f r =>
      have hf : inW (bv f) = true := by simpa [noW] using hr
      have hw := h.hw (by omega) _ _ rfl l1
      rw [nm_in w1, nm_in w2, nm_in w3, nm_in w4, nm_in hf] at hw
      obtain ⟨q', rfl⟩ : ∃ q', q = q' + 1 := ⟨q - 1, by omega⟩
      have : t = f :: (r.take q' ++ x) := by simpa using hez
      rw [this] at hnt
      simp [noW, hf] at hnt
   rw [isHd_of hm hr] at hn; cases hn

theorem sg_local {a r z x : Txt} {p : Nat} (h : Cz r z x p) (ha : 0 < a.length) (hs : sgLen (a ++ r) = a.length) : sgLen (a ++ z) = a.length := by
 unfold sgLen at hs
 cases h1 : isHd (a ++ r) with
 | true =>
  rw [h1, if_pos rfl] at hs
  obtain ⟨c1, c2, c3, c4, t, he, hm, _, _, _, _, _, hnt⟩ := isHd_cases h1
  match a, hs, he with
  | [b0, b1, b2, b3, b4], _, he =>
   simp only [List.cons_append, List.nil_append, List.cons.injEq] at he
   obtain ⟨rfl, rfl, rfl, rfl, rfl, rfl⟩ := he
   unfold sgLen
   rw [show ([46, b1, b2, b3, b4] ++ z : Txt) = 46 :: b1 :: b2 :: b3 :: b4 :: z from rfl, isHd_of hm (h.nW hnt), if_pos rfl]; rfl
 | false =>
  rw [h1, if_neg (by simp)] at hs
  cases h2 : twos.any (fun h => pre h (a ++ r)) with
  | true =>
   rw [h2, if_pos rfl] at hs
   match a, hs with
   | [b0, b1], _ =>
    obtain ⟨tw, hm, hp⟩ := List.any_eq_true.1 h2
    have hlen : tw.length = 2 := by
     simp only [twos, List.mem_cons, List.not_mem_nil, or_false] at hm
     rcases hm with rfl | rfl | rfl | rfl | rfl <;> rfl
    have e1 : ∀ l : Txt, pre tw ([b0, b1] ++ l) = pre tw [b0, b1] := fun l => pre_append tw [b0, b1] l (by rw [hlen]; exact Nat.le_refl _)
    have hpz : pre tw ([b0, b1] ++ z) = true := by rw [e1, ← e1 r]; exact hp
    have h3 : isHd ([b0, b1] ++ z) = false := by
     cases hz : isHd ([b0, b1] ++ z) with
     | false => rfl
     | true =>
      exfalso
      obtain ⟨c1, c2, c3, c4, t, he, _⟩ := isHd_cases hz
      injection he with he _
      subst he
      simp only [twos, List.mem_cons, List.not_mem_nil, or_false] at hm
      rcases hm with rfl | rfl | rfl | rfl | rfl <;> simp [pre_cons] at hp
    unfold sgLen
    have e2a : twos.any (fun h => pre h ([b0, b1] ++ z)) = true := List.any_eq_true.2 ⟨tw, hm, hpz⟩
    rw [h3, if_neg (by simp), e2a, if_pos rfl]; rfl
  | false =>
   rw [h2, if_neg (by simp)] at hs
   cases h3 : ones.any (fun c => pre [c] (a ++ r)) with
   | false => rw [h3, if_neg (by simp)] at hs; omega
   | true =>
    rw [h3, if_pos rfl] at hs
    match a, hs with
    | [c], _ =>
     have e3 : ones.any (fun o => pre [o] ([c] ++ z)) = true := by
      obtain ⟨o, ho, hp⟩ := List.any_eq_true.1 h3
      exact List.any_eq_true.2 ⟨o, ho, by show pre [o] (c :: z) = true; have hp : pre [o] (c :: r) = true := hp; rw [pre_cons, pre_nil] at hp ⊢; exact hp⟩
     have e2 : twos.any (fun h => pre h ([c] ++ z)) = false := by
      rw [List.any_eq_false] at h2 ⊢
      intro tw hm
      have hq := h2 tw hm
      have hq : pre tw (c :: r) = false := by simpa using hq
      have : pre tw (c :: z) = false := by
       simp only [twos, List.mem_cons, List.not_mem_nil, or_false] at hm
       rcases hm with rfl | rfl | rfl | rfl | rfl <;> exact h.two _ _ (by decide) c hq
      show ¬ pre tw (c :: z) = true
      rw [this]; simp
     unfold sgLen
     rw [show ([c] ++ z : Txt) = c :: z from rfl] at e3 e2 ⊢
     rw [h.hd c h1, if_neg (by simp), e2, if_neg (by simp), e3, if_pos rfl]; rfl

/-- A token hangs on nothing behind it. -/
theorem tok_local {a r z x : Txt} {p : Nat} {kd nm : Int} {tx : Txt} (h : Cz r z x p) (ht : tokAt (a ++ r) = .tok kd tx nm a.length) : tokAt (a ++ z) = .tok kd tx nm a.length := by
 have hpos := (tok_pos ht).1
 have takes : ∀ l : Txt, (a ++ l).take a.length = a := fun l => List.take_left
 have drops : ∀ l : Txt, (a ++ l).drop a.length = l := fun l => List.drop_left
 cases a with
 | nil => simp at hpos
 | cons c a' =>
  rw [List.cons_append, tok_cons, ← List.cons_append] at ht ⊢
  split at ht
  ·
   rename_i hc
   rw [if_pos hc]
   unfold nmRes at ht ⊢
   split at ht
   · cases ht
   ·
    rename_i h64
    injection ht with e1 e2 e3 e4
    have hz := nm_app (c :: a') r e4
    have hr0 : nmLen r = 0 := by have := hz r; omega
    have hzz : nmLen (c :: a' ++ z) = (c :: a').length := by rw [hz z, h.nm hr0]; omega
    rw [e4, takes] at e2
    rw [hzz, takes, if_neg (by omega), e1, e2, e3]
  ·
   rename_i hc
   rw [if_neg hc]
   split at ht
   ·
    rename_i hd
    rw [if_pos hd]
    unfold dgRes at ht ⊢
    split at ht
    · cases ht
    ·
     rename_i hno
     split at ht
     · cases ht
     ·
      rename_i hov
      injection ht with e1 e2 e3 e4
      rw [e4, drops] at hno
      rw [e4, takes] at e3 hov
      have hno : noW r = true := by simpa using hno
      have hzz : dgLen (c :: a' ++ z) = (c :: a').length := by
       by_cases h48 : c = 48
       ·
        subst h48
        rw [List.cons_append, dg_cons, if_pos rfl] at e4 ⊢
        exact e4
       ·
        rw [List.cons_append, dg_cons, if_neg h48] at e4 ⊢
        have := dcn_app (c :: a') r e4 z
        rw [List.cons_append, dcn_noW (h.nW hno)] at this
        exact this
      rw [hzz, drops, takes, if_neg (by rw [h.nW hno]; simp), if_neg hov, e1, e2, e3]
   ·
    rename_i hd
    rw [if_neg hd]
    split at ht
    ·
     rename_i h34
     rw [if_pos h34]
     unfold txRes at ht ⊢
     cases hx : txScan (a' ++ r) with
     | ok v n =>
      rw [hx] at ht
      injection ht with e1 e2 e3 e4
      have e4 : n + 1 = a'.length + 1 := e4
      have hn : n = a'.length := by omega
      subst hn
      rw [tx_app a' r v hx z]
      show Res.tok 3 v 0 (a'.length + 1) = _
      rw [e1, e2, e3]; rfl
     | bad o => rw [hx] at ht; cases ht
     | never => rw [hx] at ht; cases ht
    ·
     rename_i h34
     rw [if_neg h34]
     unfold sgRes at ht ⊢
     split at ht
     · cases ht
     ·
      rename_i h0
      injection ht with e1 e2 e3 e4
      have hz := sg_local h hpos e4
      rw [e4, takes] at e2
      rw [hz, takes, if_neg (by omega), e1, e2, e3]
end Go.Proofs.YtdjehbdpcdikkaaGreatDoor

namespace Go.Proofs.YtdjehbdpcdikkaaGreatDoor

theorem ln_app : ∀ (a b : Txt), lnLen (a ++ b) = a.length → ∀ z, lnLen (a ++ z) = a.length + lnLen z
 | [], _, _, z => by simp
 | c :: a, b, h, z => by
  have h : lnLen (c :: (a ++ b)) = a.length + 1 := h
  show lnLen (c :: (a ++ z)) = a.length + 1 + lnLen z
  by_cases hc : c = 10
  ·
   have e : lnLen (c :: (a ++ b)) = 0 := by simp [lnLen, hc]
   omega
  ·
   have e1 : ∀ l : Txt, lnLen (c :: l) = lnLen l + 1 := fun l => by simp [lnLen, hc]
   rw [e1] at h ⊢
   have := ln_app a b (by omega) z
   omega
theorem ln_zero {r : Txt} (h : lnLen r = 0) : r = [] ∨ ∃ t, r = 10 :: t := by
 cases r with
 | nil => exact .inl rfl
 | cons c t =>
  by_cases hc : c = 10
  · exact .inr ⟨t, by rw [hc]⟩
  · simp [lnLen, hc] at h
theorem ce_app : ∀ (a b : Txt) (m : Nat), cEnd (a ++ b) = some m → m + 2 = a.length → ∀ z, cEnd (a ++ z) = some m
 | [], _, m, _, h, _ => by simp at h
 | c :: a, b, m, h, hm, z => by
  have h : cEnd (c :: (a ++ b)) = some m := h
  have hm : m + 2 = a.length + 1 := hm
  show cEnd (c :: (a ++ z)) = some m
  have e : ∀ l : Txt, pre [42, 47] (c :: (a ++ l)) = pre [42, 47] (c :: a) := fun l => pre_append [42, 47] (c :: a) l (by simp; omega)
  unfold cEnd at h ⊢
  rw [e] at h ⊢
  by_cases hp : pre [42, 47] (c :: a) = true
  · rw [if_pos hp] at h ⊢; exact h
  ·
   rw [if_neg hp] at h ⊢
   cases hc : cEnd (a ++ b) with
   | none => rw [hc] at h; cases h
   | some j =>
    rw [hc] at h
    have hj : j + 1 = m := by simpa using h
    rw [ce_app a b j hc (by omega) z]
    simp [hj]
theorem app_cons' (l : List Tok) (t : Tok) (o : Out) : (o.app l).cons t = o.app (t :: l) := by cases o <;> rfl
def Out.shift (d : Nat) : Out → Out
 | .ok l => .ok (l.map fun t => { t with at_ := t.at_ + d })
 | .bad w a => .bad w (a + d)
theorem scan_shift (d : Nat) : ∀ (m : Nat) (r : Txt) (k : Nat), r.length ≤ m → scan (k + d) r = (scan k r).shift d := by
 intro m
 induction m with
 | zero =>
  intro r k h
  have : r = [] := List.eq_nil_of_length_eq_zero (by omega)
  subst this; rfl
 | succ m ih =>
  intro r k h
  by_cases h0 : r = []
  · subst h0; rfl
  ·
   cases hg : gapAt r with
   | never => rw [scan_never hg, scan_never hg]; rfl
   | gap n =>
    have hp := gap_pos hg
    rw [scan_gap hg, scan_gap hg, ← ih _ _ (by rw [List.length_drop]; omega)]
    congr 1; omega
   | none =>
    cases ht : tokAt r with
    | bad w o =>
     rw [scan_bad h0 hg ht, scan_bad h0 hg ht]
     show Out.bad _ _ = .bad _ _
     congr 1; omega
    | tok kd tx nm n =>
     have hp := tok_pos ht
     rw [scan_tok hg ht, scan_tok hg ht, show k + d + n = k + n + d by omega, ih _ _ (by rw [List.length_drop]; omega)]
     cases scan (k + n) (r.drop n) <;> rfl
/-- The gaps that the law puts. -/
def gps : List Txt := [[32], [10], [32, 47, 42, 32, 120, 32, 42, 47, 32], [32, 47, 47, 32, 121, 10], [9, 13]]
end Go.Proofs.YtdjehbdpcdikkaaGreatDoor

namespace Go.Proofs.YtdjehbdpcdikkaaGreatDoor

theorem zt_shift (d : Nat) (l : List Tok) : (l.map fun t : Tok => { t with at_ := t.at_ + d }).map zt = l.map zt := by rw [List.map_map]; rfl
end Go.Proofs.YtdjehbdpcdikkaaGreatDoor

namespace Go.Proofs.YtdjehbdpcdikkaaGreatDoor

/-- A gap, with a line's end and more behind the text. -/
theorem gap_two {a r : Txt} (b : Txt) (hg : gapAt (a ++ r) = .gap a.length) : gapAt (a ++ (r ++ 10 :: b)) = .gap a.length := by
 have hpos := (gap_pos hg).1
 cases a with
 | nil => simp at hpos
 | cons c a =>
  rw [List.cons_append, gap_cons] at hg ⊢
  split at hg
  ·
   rename_i hb
   rw [if_pos hb]; exact hg
  ·
   rename_i hb
   rw [if_neg hb]
   split at hg
   ·
    rename_i hp
    injection hg with hg
    have hl := ln_app (c :: a) r hg
    have hr0 : lnLen r = 0 := by have := hl r; rw [List.cons_append] at this; omega
    have h2 : 2 ≤ (c :: a).length := by
     cases a with
     | nil =>
      have := pre_take hp
      rcases ln_zero hr0 with h | ⟨t, h⟩
      · rw [h] at this; simp at this
      · rw [h] at this; simp at this
     | cons d a => simp
    obtain ⟨z', hz⟩ : ∃ z', r ++ 10 :: b = 10 :: z' := by
     rcases ln_zero hr0 with h | ⟨t, h⟩
     · exact ⟨b, by rw [h]; rfl⟩
     · exact ⟨t ++ 10 :: b, by rw [h]; rfl⟩
    have e : pre [47, 47] (c :: (a ++ 10 :: z')) = true := by
     have e1 := pre_append [47, 47] (c :: a) (10 :: z') h2
     have e2 := pre_append [47, 47] (c :: a) r h2
     rw [List.cons_append] at e1 e2
     rw [e1, ← e2]; exact hp
    have hlz := hl (10 :: z')
    rw [List.cons_append, show lnLen (10 :: z') = 0 by simp [lnLen], Nat.add_zero] at hlz
    rw [hz, if_pos e, hlz]
   ·
    rename_i hp
    split at hg
    ·
     rename_i hq
     unfold cGap at hg
     cases hc : cEnd ((a ++ r).drop 1) with
     | none => rw [hc] at hg; cases hg
     | some m =>
      rw [hc] at hg
      have hg : G.gap (m + 4) = .gap (a.length + 1) := hg
      injection hg with hg
      cases a with
      | nil => simp at hg
      | cons d a =>
       have hg : m + 4 = a.length + 2 := hg
       have hc : cEnd (a ++ r) = some m := hc
       have h2 : 2 ≤ (c :: d :: a).length := by simp
       have e1 : ∀ q l, pre [47, q] (c :: (d :: a ++ l)) = pre [47, q] (c :: d :: a) := fun q l => pre_append [47, q] (c :: d :: a) l h2
       rw [e1] at hp hq
       rw [e1, e1, if_neg hp, if_pos hq]
       unfold cGap
       have : cEnd ((d :: a ++ (r ++ 10 :: b)).drop 1) = some m := ce_app a r m hc (by omega) (r ++ 10 :: b)
       rw [this]
       show G.gap (m + 4) = .gap (a.length + 2)
       rw [hg]
    · cases hg
theorem tail_ten (b : Txt) : Tail (10 :: b) := fun c y e => by injection e with e _; subst e; decide
theorem scan_two (b : Txt) : ∀ (m : Nat) (r : Txt) (k : Nat) (l : List Tok), r.length ≤ m → scan k r = .ok l → scan k (r ++ 10 :: b) = (scan (k + r.length + 1) b).app l := by
 have base : ∀ (k : Nat), scan k ([] ++ 10 :: b) = (scan (k + ([] : Txt).length + 1) b).app [] := fun k => by
  rw [List.nil_append, scan_gap (n := 1) (by rw [gap_cons, if_pos (by decide)])]
  show scan (k + 1) b = (scan (k + 0 + 1) b).app []
  rw [Nat.add_zero]
  cases scan (k + 1) b <;> rfl
 intro m
 induction m with
 | zero =>
  intro r k l h hs
  have : r = [] := List.eq_nil_of_length_eq_zero (by omega)
  subst this
  rw [scan_nil] at hs
  injection hs with hs
  subst hs
  exact base k
 | succ m ih =>
  intro r k l h hs
  by_cases h0 : r = []
  ·
   subst h0
   rw [scan_nil] at hs
   injection hs with hs
   subst hs
   exact base k
  ·
   cases hg : gapAt r with
   | never => rw [scan_never hg] at hs; cases hs
   | gap n =>
    have hp := gap_pos hg
    rw [scan_gap hg] at hs
    have hal : (r.take n).length = n := by rw [List.length_take]; omega
    have e := ih (r.drop n) (k + n) l (by rw [List.length_drop]; omega) hs
    have hgl := gap_two (a := r.take n) (r := r.drop n) b (by rw [List.take_append_drop, hal]; exact hg)
    have er : r ++ 10 :: b = r.take n ++ (r.drop n ++ 10 :: b) := by rw [← List.append_assoc, List.take_append_drop]
    rw [er, scan_gap hgl, hal, List.drop_append_of_le_length (by omega), List.drop_of_length_le (by omega), List.nil_append, e, List.length_drop, show k + n + (r.length - n) = k + r.length by omega]
   | none =>
    cases ht : tokAt r with
    | bad w o => rw [scan_bad h0 hg ht] at hs; cases hs
    | tok kd tx nm n =>
     have hp := tok_pos ht
     rw [scan_tok hg ht] at hs
     cases hsc : scan (k + n) (r.drop n) with
     | bad w a => rw [hsc] at hs; cases hs
     | ok l0 =>
      rw [hsc] at hs
      injection hs with hs
      have hal : (r.take n).length = n := by rw [List.length_take]; omega
      have e := ih (r.drop n) (k + n) l0 (by rw [List.length_drop]; omega) hsc
      have hcz : Cz (r.drop n) (r.drop n ++ 10 :: b) (10 :: b) (r.drop n).length := ⟨⟨by rw [List.take_length], Nat.le_refl _, tail_ten b⟩, fun _ c t _ _ => nm_le _⟩
      have htl := tok_local (a := r.take n) hcz (by rw [List.take_append_drop, hal]; exact ht)
      have er : r ++ 10 :: b = r.take n ++ (r.drop n ++ 10 :: b) := by rw [← List.append_assoc, List.take_append_drop]
      have hgl : gapAt (r.take n ++ (r.drop n ++ 10 :: b)) = .none := by
       rw [← er]
       cases r with
       | nil => exact absurd rfl h0
       | cons c u =>
        rw [List.cons_append]
        exact gap_local0 (r := u) (x := 10 :: b) (p := u.length) ⟨by rw [List.take_length], Nat.le_refl _, tail_ten b⟩ hg
      rw [er, scan_tok hgl htl, hal, List.drop_append_of_le_length (by omega), List.drop_of_length_le (by omega), List.nil_append, e, app_cons', hs, List.length_drop, show k + n + (r.length - n) = k + r.length by omega]
theorem lex_two {a b : Txt} {la lb : List Tok} (ha : lexP a = .ok la) (hb : lexP b = .ok lb) (hl : (a ++ 10 :: b).length ≤ 65536) : lexP (a ++ 10 :: b) = .ok (la ++ lb.map fun t => { t with at_ := t.at_ + (a.length + 1) }) := by
 unfold lexP at ha hb ⊢
 split at ha
 · cases ha
 ·
  split at hb
  · cases hb
  ·
   rw [if_neg (by omega), scan_two b a.length a 0 la (Nat.le_refl _) ha, Nat.zero_add]
   have := scan_shift (a.length + 1) b.length b 0 (Nat.le_refl _)
   rw [Nat.zero_add] at this
   rw [this, hb]
   rfl
theorem All2.append {α : Type} {r : α → α → Prop} {xs ys us vs : List α} (h : All2 r xs ys) (k : All2 r us vs) : All2 r (xs ++ us) (ys ++ vs) := by
 induction h with
 | nil => exact k
 | cons h1 _ ih => exact .cons h1 ih
theorem rP.both {p q p' q' : Pg} (h : rP p p') (k : rP q q') : rP (both p q) (Go.Proofs.YtdjehbdpcdikkaaGreatDoor.both p' q') := ⟨h.t.append k.t, h.d.append k.d, h.c.append k.c, h.i.append k.i, h.l.append k.l⟩
/-- P9.5: two texts, one behind the other. -/
theorem two_pure {a b : Txt} {p q : Pg} {l2 l3 : List Tok} {i j : Nat} {lb : List Tok} (ha : parseP a = .ok p l2 i) (hb : parseP b = .ok q l3 j) (hlb : lexP b = .ok lb) (hw : ∀ t m, lb = t :: m → t.kind = 1 → t.text ≠ wIn ∧ t.text ≠ wOut) :
  (∃ x l, parseP (a ++ 10 :: b) = .bad 2 x l) ∨ Many (parseP (a ++ 10 :: b)) ∨ ∃ r l4 i4, parseP (a ++ 10 :: b) = .ok r l4 i4 ∧ eqPg r (both p q) = true := by
 by_cases hl : (a ++ 10 :: b).length ≤ 65536
 ·
  right
  unfold parseP at ha hb
  cases hla : lexP a with
  | bad w x => rw [hla] at ha; cases ha
  | ok la =>
   rw [hla] at ha
   rw [hlb] at hb
   have ha : progD a.length 32 true la 0 = .ok p l2 i := ha
   have hb : progD b.length 32 true lb 0 = .ok q l3 j := hb
   obtain ⟨lb', hlb'⟩ : ∃ lb', lb' = lb.map fun t : Tok => { t with at_ := t.at_ + (a.length + 1) } := ⟨_, rfl⟩
   have hlx := lex_two hla hlb hl
   rw [← hlb'] at hlx
   have ka : ∀ t ∈ la, t.kind ≠ 0 := fun t ht => by have := (lex_ok hla).2.2 t ht; unfold TkOk at this; omega
   have kb : ∀ t ∈ lb, t.kind ≠ 0 := fun t ht => by have := (lex_ok hlb).2.2 t ht; unfold TkOk at this; omega
   have kb' : ∀ t ∈ lb', t.kind ≠ 0 := fun t ht => by
    rw [hlb'] at ht
    obtain ⟨u, hu, rfl⟩ := List.mem_map.1 ht
    exact kb u hu
   have hak : Alk lb' lb := by unfold Alk; rw [hlb', zt_shift]
   have hal := al_prog (e := (a ++ 10 :: b).length) (e' := b.length) 32 true _ _ 0 hak
   rw [hb] at hal
   obtain ⟨q', l5, j5, hq', hr⟩ : ∃ q' l5 j5, progD (a ++ 10 :: b).length 32 true lb' 0 = .ok q' l5 j5 ∧ rP q' q := by
    revert hal
    cases progD (a ++ 10 :: b).length 32 true lb' 0 with
    | bad w x l => exact fun h => h.elim
    | ok q' l5 j5 => exact fun h => ⟨q', l5, j5, rfl, h.1⟩
   have hself := al_prog (e := a.length) (e' := a.length) 32 true la la 0 rfl
   rw [ha] at hself
   have hF : Fine lb' := fine_of hq' kb' (fun t m e hk => by
    rw [hlb'] at e
    cases lb with
    | nil => cases e
    | cons u v =>
     injection e with e1 e2
     subst e1
     exact hw u v rfl hk)
   have h2 := two_prog ha hq' ka kb' hF
   have hP : parseP (a ++ 10 :: b) = progD (a ++ 10 :: b).length 32 true (la ++ lb') 0 := by unfold parseP; rw [hlx]
   rw [hP]
   rcases h2 with h2 | h2
   · exact .inl h2
   · exact .inr ⟨_, _, _, h2, (hself.1.both hr).eq⟩
 ·
  left
  have : lexP (a ++ 10 :: b) = .bad 2 0 := by unfold lexP; rw [if_pos (by omega)]
  exact ⟨_, _, by unfold parseP; rw [this]⟩
end Go.Proofs.YtdjehbdpcdikkaaGreatDoor

namespace Go.Proofs.YtdjehbdpcdikkaaGreatDoor

section
variable {α β : Type} {e : Nat}
def Bw (R : Rs α) : Prop := ∀ w a l, R = .bad w a l → w ≠ 0
def BwP (P : Pr α) : Prop := ∀ l i, Bw (P l i)
theorem Bw.bind {R : Rs α} {f : α → Pr β} (h : Bw R) (hf : ∀ x, BwP (f x)) : Bw (R.bind f) := fun w a l hb => by
 cases R with
 | bad w2 a2 l2 => injection hb with h1 _ _; subst h1; exact h _ _ _ rfl
 | ok x l2 i2 => exact hf x l2 i2 w a l hb
theorem Bw.map {R : Rs α} {g : α → β} (h : Bw R) : Bw (R.map g) := fun w a l hb => by
 cases R with
 | bad w2 a2 l2 => injection hb with h1 _ _; subst h1; exact h _ _ _ rfl
 | ok x l2 i2 => cases hb
theorem Bw.ok {x : α} {l : List Tok} {i : Nat} : Bw (.ok x l i) := fun _ _ _ h => by cases h
theorem Bw.refuse {why : Int} (hw : why ≠ 0) {l : List Tok} {i : Nat} : Bw (refuse (α := α) e why l i) := fun _ _ _ h => by
 injection h with h1 _ _
 subst h1
 exact hw
theorem Bw.ite {p : Prop} [Decidable p] {A B : Rs α} (hA : Bw A) (hB : Bw B) : Bw (if p then A else B) := by
 split
 · exact hA
 · exact hB
theorem bw_want (s : Txt) : BwP (want e s) := fun _ _ => Bw.ite .ok (.refuse (by decide))
theorem bw_choose (ss : List Txt) : BwP (choose e ss) := fun _ _ => Bw.ite .ok (.refuse (by decide))
theorem bw_nm : BwP (nmQ e) := fun _ _ => Bw.ite .ok (.refuse (by decide))
theorem bw_word : BwP (wordQ e) := fun _ _ => Bw.ite .ok (.refuse (by decide))
theorem bw_listL {sep : Txt} {most : Nat} {P : Pr α} (hP : BwP P) : ∀ (f : Nat) (acc : List α), BwP (listL e sep most P f acc)
 | 0, _ => fun _ _ => .ok
 | f + 1, acc => fun l i => by
  unfold listL
  exact Bw.ite (.refuse (by decide)) (Bw.bind (hP l i) (fun _ _ _ => Bw.ite (bw_listL hP f _ _ _) .ok))
theorem bw_list {sep : Txt} {most : Nat} {P : Pr α} (hP : BwP P) : BwP (listP e sep most P) := fun _ _ => bw_listL hP _ _ _ _
theorem bw_encl {op cl : Txt} {P : Pr α} (hP : BwP P) : BwP (encl e op cl P) := fun l i => by
 unfold encl
 exact Bw.bind (bw_want op l i) (fun _ _ _ => Bw.ite .ok (Bw.bind (bw_list hP _ _) (fun _ _ _ => Bw.map (bw_want cl _ _))))
theorem bw_joinL {P : Pr Ex} {ss : List Txt} (hP : BwP P) : ∀ (f : Nat) (x : Ex), BwP (joinL e P ss f x)
 | 0, _ => fun _ _ => .ok
 | f + 1, x => fun l i => by
  unfold joinL
  exact Bw.ite (Bw.bind (hP _ i) (fun _ _ _ => bw_joinL hP f _ _ _)) .ok
theorem bw_joined {P : Pr Ex} {ss : List Txt} (hP : BwP P) : BwP (joined e P ss) := fun l i => by
 unfold joined
 exact Bw.bind (hP l i) (fun _ _ _ => bw_joinL hP _ _ _ _)
theorem bw_signed {E F : Pr Ex} (hE : BwP E) (hF : BwP F) : BwP (signed e E F) := fun l i => by
 unfold signed
 exact Bw.bind (bw_choose _ l i) (fun _ _ _ => Bw.ite (Bw.map (hF _ _)) (Bw.ite (Bw.bind (hE _ _) (fun _ _ _ => Bw.map (bw_want _ _ _))) (Bw.bind (bw_word _ _) (fun _ _ _ => Bw.map (bw_encl hE _ _)))))
theorem bw_factor {E F : Pr Ex} (hE : BwP E) (hF : BwP F) : BwP (factorB e E F) := fun l i => by
 unfold factorB
 exact Bw.ite .ok (Bw.ite .ok (Bw.ite (Bw.ite .ok (Bw.map (bw_word _ _))) (bw_signed hE hF _ _)))
theorem bw_ex : ∀ d, BwP (exD e d).1 ∧ BwP (exD e d).2
 | 0 => ⟨fun _ i => Bw.refuse (i := i) (by decide), fun _ i => Bw.refuse (i := i) (by decide)⟩
 | d + 1 => ⟨bw_joined (bw_joined (bw_ex d).2), bw_factor (bw_ex d).1 (bw_ex d).2⟩
theorem bw_atom (d : Nat) : BwP (atomP e d) := fun l i => by
 unfold atomP
 exact Bw.bind (bw_nm l i) (fun _ _ _ => Bw.map (bw_encl (bw_ex d).1 _ _))
theorem bw_lit (d : Nat) : BwP (litP e d) := fun l i => by
 unfold litP
 exact Bw.ite (Bw.map (bw_atom d _ _)) (Bw.ite (Bw.map (bw_atom d _ _)) (Bw.bind ((bw_ex d).1 l i) (fun _ _ _ => Bw.bind (bw_choose _ _ _) (fun _ _ _ => Bw.map ((bw_ex d).1 _ _)))))
theorem bw_clause (d : Nat) : BwP (clauseP e d) := fun l i => by
 unfold clauseP
 exact Bw.bind (bw_atom d l i) (fun _ _ _ => Bw.ite (Bw.bind (bw_list (bw_lit d) _ _) (fun _ _ _ => Bw.map (bw_want _ _ _))) (Bw.map (bw_want _ _ _)))
theorem bw_field : BwP (fieldP e) := fun l i => by
 unfold fieldP
 exact Bw.bind (bw_word l i) (fun _ _ _ => Bw.bind (bw_want _ _ _) (fun _ _ _ => Bw.map (bw_nm _ _)))
theorem bw_ctor : BwP (ctorP e) := fun l i => by
 unfold ctorP
 exact Bw.bind (bw_word l i) (fun _ _ _ => Bw.map (bw_encl bw_field _ _))
theorem bw_type : BwP (typeP e) := fun l i => by
 unfold typeP
 exact Bw.bind (bw_word _ i) (fun _ _ _ => Bw.bind (bw_choose _ _ _) (fun _ _ _ => Bw.ite (Bw.map (bw_nm _ _)) (Bw.map (bw_list bw_ctor _ _))))
theorem bw_flagL : ∀ (f : Nat) (a b : Bool), BwP (flagL e f a b)
 | 0, _, _ => fun _ _ => .ok
 | f + 1, a, b => fun l i => by
  unfold flagL
  exact Bw.ite (Bw.ite (bw_flagL f _ _ _ _) (Bw.ite (bw_flagL f _ _ _ _) .ok)) .ok
theorem bw_decl : BwP (declP e) := fun l i => by
 unfold declP
 exact Bw.bind (bw_word _ i) (fun _ _ _ => Bw.bind (bw_encl bw_field _ _) (fun _ _ _ => Bw.map (bw_flagL _ _ _ _ _)))
theorem bw_init : BwP (initP e) := fun l i => by
 unfold initP
 exact Bw.bind (bw_word _ i) (fun _ _ _ => Bw.bind (bw_want _ _ _) (fun _ _ _ => Bw.map (bw_nm _ _)))
theorem bw_comp {B : Pr Pg} (hB : BwP B) : BwP (compB e B) := fun l i => by
 unfold compB
 exact Bw.bind (bw_word _ i) (fun _ _ _ => Bw.bind (Bw.ite (bw_list bw_nm _ _) .ok) (fun _ _ _ => Bw.bind (bw_want _ _ _) (fun _ _ _ => Bw.bind (hB _ _) (fun _ _ _ => Bw.map (bw_want _ _ _)))))
theorem bw_item {d : Nat} {C : Pr (Txt × List Txt × Pg × Int)} (hC : BwP C) (p : Pg) : BwP (itemP e d C p) := fun l i => by
 unfold itemP
 exact Bw.ite (.refuse (by decide)) (Bw.ite (Bw.map (bw_type _ _)) (Bw.ite (Bw.map (bw_decl _ _)) (Bw.ite (Bw.map (hC _ _)) (Bw.ite (Bw.map (bw_init _ _)) (Bw.map (bw_clause d _ _))))))
theorem bw_progL {d : Nat} {top : Bool} {C : Pr (Txt × List Txt × Pg × Int)} (hC : BwP C) : ∀ (f : Nat) (p : Pg), BwP (progL e top d C f p)
 | 0, _ => fun _ _ => .ok
 | f + 1, p => fun l i => by
  unfold progL
  exact Bw.ite .ok (Bw.bind (bw_item hC p l i) (fun _ _ _ => bw_progL hC f _ _ _))
theorem bw_compC : ∀ d, BwP (compC e d)
 | 0 => fun _ i => Bw.refuse (i := i) (by decide)
 | d + 1 => bw_comp (fun l i => by rw [progD_eq]; exact bw_progL (bw_compC d) _ _ _ _)
end
theorem parse_why {s : Txt} {w a : Int} {l : List Tok} (h : parseP s = .bad w a l) : w ≠ 0 := by
 unfold parseP at h
 cases hl : lexP s with
 | bad w2 a2 =>
  rw [hl] at h
  have h : Rs.bad w2 (a2 : Int) [] = .bad w a l := h
  injection h with h1 _ _
  subst h1
  have := lex_ris s
  rw [hl] at this
  exact this.1
 | ok toks =>
  rw [hl] at h
  have h : progD s.length 32 true toks 0 = .bad w a l := h
  rw [progD_eq] at h
  exact bw_progL (bw_compC 32) _ _ _ _ _ _ _ h
end Go.Proofs.YtdjehbdpcdikkaaGreatDoor

namespace Go.Proofs.YtdjehbdpcdikkaaGreatDoor
open Go.RowKit Go.Maps

def vx (c : UInt8) (a : Int) : Ex := .mk 1 0 [c] [] a
/-- The program of the laws' own probe. -/
def live : Pg := .mk [] [] [] [] [⟨⟨[112], [vx 120 2, vx 121 5], 0⟩, [⟨1, ⟨[101], [vx 120 13, vx 122 16], 11⟩, [], .none, .none, 11⟩, ⟨1, ⟨[112], [vx 122 22, vx 121 25], 20⟩, [], .none, .none, 20⟩, ⟨3, .none, [60], vx 120 29, .mk 2 (-3) [] [] 33, 29⟩], 0⟩]
set_option maxRecDepth 100000 in
theorem live_parse : parseP (⟨#[112, 40, 120, 44, 32, 121, 41, 32, 58, 45, 32, 101, 40, 120, 44, 32, 122, 41, 44, 32, 112, 40, 122, 44, 32, 121, 41, 44, 32, 120, 32, 60, 32, 45, 51, 46]⟩ : ByteArray).data.toList = .ok live [] 1 := by kernel_rfl
set_option maxRecDepth 100000 in
theorem live_same : eqPg live live = true := by kernel_rfl
attribute [local go_sem ↓] storeAt_lt loadAt_lt
theorem lt_at {w : World} {b o : Nat} {c0 c1 c2 c3 c4 c5 c6 c7 c8 c9 c10 c11 c12 c13 c14 c15 : Value} (h : ∀ q c, ([c0, c1, c2, c3, c4, c5, c6, c7, c8, c9, c10, c11, c12, c13, c14, c15] : List Value)[q]? = some c → w.cell? ⟨b, o + q, none⟩ = some c) : (ltLoad (.pointer (some ⟨b, o, none⟩))).run Tryz.prog w = .ok (.agg #[c0, c1, c2, c3, c4, c5, c6, c7, c8, c9, c10, c11, c12, c13, c14, c15]) w :=
 run_loadAt_mid w b o 92 [c0, c1, c2, c3, c4, c5, c6, c7, c8, c9, c10, c11, c12, c13, c14, c15] _ (fun q v hq => h q v hq) Tryz.underlying92 rfl size_lt
theorem lt_put (w : World) {c0 c1 c2 c3 c4 c5 c6 c7 c8 c9 c10 c11 c12 c13 c14 c15 : Value} (h1 : ∀ c ∈ ([c0, c1, c2, c3, c4, c5, c6, c7, c8, c9, c10, c11, c12, c13, c14, c15] : List Value), c.oneCell' = true) : (ltStore (.pointer (some ⟨w.heap.size, 0, none⟩)) (.agg #[c0, c1, c2, c3, c4, c5, c6, c7, c8, c9, c10, c11, c12, c13, c14, c15])).run Tryz.prog (w.alloc ltZ) = .ok () (w.alloc (.cells #[c0, c1, c2, c3, c4, c5, c6, c7, c8, c9, c10, c11, c12, c13, c14, c15] 92)) :=
 run_storeAt_new w 92 _ _ size_lt rfl (by simpa using h1)
theorem live_mem {S : Nat → Prop} {w : World} {a0 a1 a2 a3 a4 : Option Addr} {n0 q0 n1 q1 n2 q2 n3 q3 n4 q4 : Nat} (hP : PgS S w [.slice a0 n0 q0, .slice a1 n1 q1, .slice a2 n2 q2, .slice a3 n3 q3, .slice a4 n4 q4] live) : ∃ b d dap c0 c1 c2 c3 c5 c6 c7 c8 c9 c10 c12 c13 c14, a4 = some ⟨b, 0, none⟩ ∧ n4 = 1 ∧ b < w.heap.size ∧ w.cell? ⟨b, 3, none⟩ = some (.slice (some ⟨d, 0, none⟩) 3 dap) ∧ d < w.heap.size ∧ (∀ q c, ([c0, c1, c2, c3, .string ⟨#[60]⟩, c5, c6, c7, c8, c9, c10, .int .i64 (-3), c12, c13, c14, .int .i64 29] : List Value)[q]? = some c → w.cell? ⟨d, 32 + q, none⟩ = some c) ∧ ∀ c ∈ ([c0, c1, c2, c3, .string ⟨#[60]⟩, c5, c6, c7, c8, c9, c10, .int .i64 (-3), c12, c13, c14, .int .i64 29] : List Value), c.oneCell' = true := by
 obtain ⟨v0, v1, v2, v3, v4, ev, h0, h1, h2, h3, h4⟩ := hP.cells
 obtain ⟨rfl, rfl, rfl, rfl, rfl⟩ := list5 ev
 obtain ⟨b, cap, cs, e1, hb, _, hl, hq, hc⟩ := h4.elem (j := 0) rfl
 obtain ⟨aa, an, ac, ba, bn, bc, rfl, _, hB⟩ := hq
 obtain ⟨d, dap, ds, e2, hd, _, hdl, hdq, hdc⟩ := hB.elem (j := 2) rfl
 have h16 := plt_one hdq
 obtain ⟨ua, un, uc, xa, xn, xc, ya, yn, yc, rfl, _, _, _⟩ := hdq
 simp only [Value.slice.injEq] at e1
 have hbody := hc 3 _ rfl
 rw [e2] at hbody
 exact ⟨b, d, dap, _, _, _, _, _, _, _, _, _, _, _, _, _, e1.1, e1.2.1, hb, hbody, hd, hdc, h16⟩
set_option maxRecDepth 100000 in
set_option maxHeartbeats 8000000 in
theorem alive9_any (w : World) (hE : Env w) : Calls Tryz.prog 11 #[] w fun e w' => e = .returned (.bool true) ∧ Below w.heap.size w w' := by
 have H1 := parse_any ⟨#[112, 40, 120, 44, 32, 121, 41, 32, 58, 45, 32, 101, 40, 120, 44, 32, 122, 41, 44, 32, 112, 40, 122, 44, 32, 121, 41, 44, 32, 120, 32, 60, 32, 45, 51, 46]⟩ (by decide) w hE
 rw [live_parse] at H1
 clear hE
 go_enter Tryz.func11, Tryz.ntmps11
 go_wp2_with fail
 refine H1.mono ?_
 clear H1
 rintro e w1 ⟨_, rfl, ⟨a0, n0, q0, a1, n1, q1, a2, n2, q2, a3, n3, q3, a4, n4, q4, rfl, hP⟩, b1⟩
 obtain ⟨b, d, dap, c0, c1, c2, c3, c5, c6, c7, c8, c9, c10, c12, c13, c14, rfl, rfl, hb, hcb, hd, hcd, h16⟩ := live_mem hP
 obtain ⟨w2, hw2⟩ : ∃ w2, w2 = (w1.alloc (.cells #[.slice a0 n0 q0, .slice a1 n1 q1, .slice a2 n2 q2, .slice a3 n3 q3, .slice (some ⟨b, 0, none⟩) 1 q4] 28)).alloc (.cells #[.int .i64 0, .int .i64 0] 31) := ⟨_, rfl⟩
 have b2 : Below w1.heap.size w1 w2 := by rw [hw2]; exact ((Below.refl _ w1).alloc (Nat.le_refl _) _).alloc (by simp) _
 have s2 : w2.heap.size = w1.heap.size + 1 + 1 := by rw [hw2]; simp
 have p2 : w2.heap[w1.heap.size]? = some (.cells #[.slice a0 n0 q0, .slice a1 n1 q1, .slice a2 n2 q2, .slice a3 n3 q3, .slice (some ⟨b, 0, none⟩) 1 q4] 28 (0, 0)) := by rw [hw2, Below.heap_alloc _ _ _ (by simp)]; exact heap_alloc_new w1 _
 have f2 : w2.heap[w1.heap.size + 1]? = some (.cells #[.int .i64 0, .int .i64 0] 31 (0, 0)) := by
  rw [hw2]
  have := heap_alloc_new (w1.alloc (.cells #[.slice a0 n0 q0, .slice a1 n1 q1, .slice a2 n2 q2, .slice a3 n3 q3, .slice (some ⟨b, 0, none⟩) 1 q4] 28)) (.cells #[.int .i64 0, .int .i64 0] 31)
  simpa using this
 have hbo : w2.cell? ⟨b, 3, none⟩ = some (.slice (some ⟨d, 0, none⟩) 3 dap) := by rw [b2.cell (p := ⟨b, 3, none⟩) hb]; exact hcb
 have L1 := lt_at (w := w2) (b := d) (o := 32) (fun q c hq => by rw [b2.cell (p := ⟨d, 32 + q, none⟩) hd]; exact hcd q c hq)
 have N1 := lt_put w2 h16
 obtain ⟨w3, hw3⟩ : ∃ w3, w3 = w2.alloc (.cells #[c0, c1, c2, c3, .string ⟨#[60]⟩, c5, c6, c7, c8, c9, c10, .int .i64 (-3), c12, c13, c14, .int .i64 29] 92) := ⟨_, rfl⟩
 have b3 : Below w1.heap.size w1 w3 := by rw [hw3]; exact b2.alloc b2.size _
 have m3 : w3.heap[w2.heap.size]? = some (.cells #[c0, c1, c2, c3, .string ⟨#[60]⟩, c5, c6, c7, c8, c9, c10, .int .i64 (-3), c12, c13, c14, .int .i64 29] 92 (0, 0)) := by rw [hw3]; exact heap_alloc_new w2 _
 have p3 := ((by rw [hw3, Below.heap_alloc _ _ _ (by omega)] : w3.heap[w1.heap.size]? = w2.heap[w1.heap.size]?)).trans p2
 have hsm := samePg_any live live _ w3 _ _ _ _ _ _ _ _ _ _ (pgS_ok.same _ _ w3 _ _ hP b3.size (fun b _ hl => b3.block b hl)) (pgS_ok.same _ _ w3 _ _ hP b3.size (fun b _ hl => b3.block b hl))
 rw [live_same] at hsm
 rw [s2] at m3
 obtain ⟨x0, x1, x2, x3, x4, xf⟩ := cl5 p2
 obtain ⟨y0, y1, y2, y3, y4, yf⟩ := cl5 p3
 obtain ⟨z0, z1, zf⟩ := cl2 f2
 obtain ⟨u0, u1, u2, u3, u4, u5, u6, u7, u8, u9, u10, u11, u12, u13, u14, u15, uf⟩ := cl16 m3
 rw [← hw3, s2] at N1
 have HB := hide (And.intro b1 b3)
 clear hP b1 hb hcb hd hcd h16 b2 s2 p2 f2 hw3 b3 m3 p3 u0 u1 u2 u3 u5 u6 u7 u8 u9 u10 u12 u13 u14
 subst hw2
 go_wp2_with fail
 refine hsm.mono ?_
 clear hsm
 rintro e w4 ⟨rfl, b4⟩
 have B4 := hide b4
 clear b4
 go_wp2_with fail
 go_ret
 obtain ⟨b1, b3⟩ := unhide HB
 exact ⟨rfl, (b1.trans (b3.mono b1.size)).trans ((unhide B4).mono (Nat.le_trans b1.size b3.size))⟩
end Go.Proofs.YtdjehbdpcdikkaaGreatDoor
