/- The tokens of a text up to a token's first byte, and gaps put there: plain facts; no program stands in it. Walk of the law on heads. -/
import Derived.Test.YtcdobniommnflaaGreatDoorMf40
namespace Go.Proofs.YtcdobniommnflaaGreatDoor

theorem ln_app : ∀ (a b : Txt), lnLen (a ++ b) = a.length → ∀ z, lnLen (a ++ z) = a.length + lnLen z
  | [], _, _, z => by simp
  | c :: a, b, h, z => by
    have h : lnLen (c :: (a ++ b)) = a.length + 1 := h
    show lnLen (c :: (a ++ z)) = a.length + 1 + lnLen z
    by_cases hc : c = 10
    · have e : lnLen (c :: (a ++ b)) = 0 := by simp [lnLen, hc]
      omega
    · have e1 : ∀ l : Txt, lnLen (c :: l) = lnLen l + 1 := fun l => by simp [lnLen, hc]
      rw [e1] at h ⊢
      have := ln_app a b (by omega) z
      omega
theorem ln_zero {r : Txt} (h : lnLen r = 0) : r = [] ∨ ∃ t, r = 10 :: t := by
  cases r with
  | nil => exact .inl rfl
  | cons c t =>
    by_cases hc : c = 10
    · exact .inr ⟨t, by rw [hc]⟩
    · simp [lnLen, hc] at h
theorem ce_app : ∀ (a b : Txt) (m : Nat), cEnd (a ++ b) = some m → m + 2 = a.length → ∀ z, cEnd (a ++ z) = some m
  | [], _, m, _, h, _ => by simp at h
  | c :: a, b, m, h, hm, z => by
    have h : cEnd (c :: (a ++ b)) = some m := h
    have hm : m + 2 = a.length + 1 := hm
    show cEnd (c :: (a ++ z)) = some m
    have e : ∀ l : Txt, pre [42, 47] (c :: (a ++ l)) = pre [42, 47] (c :: a) := fun l => pre_append [42, 47] (c :: a) l (by simp; omega)
    unfold cEnd at h ⊢
    rw [e] at h ⊢
    by_cases hp : pre [42, 47] (c :: a) = true
    · rw [if_pos hp] at h ⊢; exact h
    · rw [if_neg hp] at h ⊢
      cases hc : cEnd (a ++ b) with
      | none => rw [hc] at h; cases h
      | some j =>
        rw [hc] at h
        have hj : j + 1 = m := by simpa using h
        rw [ce_app a b j hc (by omega) z]
        simp [hj]
theorem gap_letter {c : UInt8} {u : Txt} (h : isL (bv c) = true) : gapAt (c :: u) = .none := by
  have hb : isB (bv c) = false := by
    cases hb : isB (bv c) with
    | false => rfl
    | true => have := blank_out hb; rw [inW_L h] at this; cases this
  have hc : ¬ c = 47 := by rintro rfl; exact absurd h (by decide)
  have hp : ∀ d, pre [47, d] (c :: u) = false := fun d => by
    rw [pre_cons, show ((47 : UInt8) == c) = false from beq_eq_false_iff_ne.2 (fun e => hc e.symm), Bool.false_and]
  rw [gap_cons, if_neg (by simp [hb]), if_neg (by rw [hp]; simp), if_neg (by rw [hp]; simp)]

/-- A gap hangs on nothing behind it, but that a line ends. -/
theorem gap_local {a r z x : Txt} {p : Nat} (h : Cz r z x p) (hg : gapAt (a ++ r) = .gap a.length) (hr : r ≠ []) (hz : gapAt (r.drop p) = .none) : gapAt (a ++ z) = .gap a.length := by
  have hpos := (gap_pos hg).1
  cases a with
  | nil => simp at hpos
  | cons c a =>
    rw [List.cons_append, gap_cons] at hg ⊢
    split at hg
    · rename_i hb
      rw [if_pos hb]; exact hg
    · rename_i hb
      rw [if_neg hb]
      split at hg
      · rename_i hp
        injection hg with hg
        have hl := ln_app (c :: a) r hg
        have hr0 : lnLen r = 0 := by have := hl r; rw [List.cons_append] at this; omega
        obtain ⟨t, rfl⟩ : ∃ t, r = 10 :: t := by
          rcases ln_zero hr0 with h | h
          · exact absurd h hr
          · exact h
        have hp0 : 0 < p := by
          rcases Nat.eq_zero_or_pos p with h0 | h0
          · subst h0
            rw [List.drop_zero, gap_cons, if_pos (by decide)] at hz
            cases hz
          · exact h0
        obtain ⟨z', rfl⟩ : ∃ z', z = 10 :: z' := by
          rcases h.cases with ⟨h0, _⟩ | ⟨c', t', _, e, rfl⟩ | ⟨c', d', u, q, _, e, rfl⟩
          · omega
          · injection e with e _; subst e; exact ⟨_, rfl⟩
          · injection e with e _; subst e; exact ⟨_, rfl⟩
        have h2 : 2 ≤ (c :: a).length := by
          have h1 : c = 47 := by have := pre_take hp; simpa using congrArg List.head? this
          subst h1
          cases a with
          | nil =>
            have := pre_take hp
            simp at this
          | cons d a => simp
        have e : pre [47, 47] (c :: (a ++ 10 :: z')) = true := by
          have e1 := pre_append [47, 47] (c :: a) (10 :: z') h2
          have e2 := pre_append [47, 47] (c :: a) (10 :: t) h2
          rw [List.cons_append] at e1 e2
          rw [e1, ← e2]; exact hp
        have hlz := hl (10 :: z')
        rw [List.cons_append, show lnLen (10 :: z') = 0 by simp [lnLen], Nat.add_zero] at hlz
        rw [if_pos e, hlz]
      · rename_i hp
        split at hg
        · rename_i hq
          unfold cGap at hg
          cases hc : cEnd ((a ++ r).drop 1) with
          | none => rw [hc] at hg; cases hg
          | some m =>
            rw [hc] at hg
            have hg : G.gap (m + 4) = .gap (a.length + 1) := hg
            injection hg with hg
            cases a with
            | nil => simp at hg
            | cons d a =>
              have hg : m + 4 = a.length + 2 := hg
              have hc : cEnd (a ++ r) = some m := hc
              have h2 : 2 ≤ (c :: d :: a).length := by simp
              have e1 : ∀ q l, pre [47, q] (c :: (d :: a ++ l)) = pre [47, q] (c :: d :: a) := fun q l => pre_append [47, q] (c :: d :: a) l h2
              rw [e1] at hp hq
              rw [e1, e1, if_neg hp, if_pos hq]
              unfold cGap
              have : cEnd ((d :: a ++ z).drop 1) = some m := ce_app a r m hc (by omega) z
              rw [this]
              show G.gap (m + 4) = .gap (a.length + 2)
              rw [hg]
        · cases hg

theorem app_cons' (l : List Tok) (t : Tok) (o : Out) : (o.app l).cons t = o.app (t :: l) := by cases o <;> rfl
/-- A token's place parts what is read. -/
theorem cut : ∀ (m : Nat) (r : Txt) (k : Nat) (l1 : List Tok) (t : Tok) (l2 : List Tok), r.length ≤ m → scan k r = .ok (l1 ++ t :: l2) →
    ∃ p, t.at_ = k + p ∧ p < r.length ∧ scan (k + p) (r.drop p) = .ok (t :: l2) ∧ gapAt (r.drop p) = .none ∧ (0 < p → ∀ c u, r = c :: u → isL (bv c) = true → nmLen r ≤ p) ∧
      ∀ x, Tail x → scan k (r.take p ++ x) = (scan (k + p) x).app l1 := by
  intro m
  induction m with
  | zero =>
    intro r k l1 t l2 h hs
    have : r = [] := List.eq_nil_of_length_eq_zero (by omega)
    subst this
    rw [scan_nil] at hs
    injection hs with hs
    simp at hs
  | succ m ih =>
    intro r k l1 t l2 h hs
    by_cases h0 : r = []
    · subst h0; rw [scan_nil] at hs; injection hs with hs; simp at hs
    · cases hg : gapAt r with
      | never => rw [scan_never hg] at hs; cases hs
      | gap n =>
        have hp := gap_pos hg
        rw [scan_gap hg] at hs
        obtain ⟨p, e1, e2, e3, e4, e5, e6⟩ := ih (r.drop n) (k + n) l1 t l2 (by rw [List.length_drop]; omega) hs
        rw [List.length_drop] at e2
        rw [List.drop_drop] at e3 e4
        have hr' : r.drop n ≠ [] := by
          intro hn
          rw [hn, scan_nil] at hs
          injection hs with hs
          simp at hs
        have hal : (r.take n).length = n := by rw [List.length_take]; omega
        refine ⟨n + p, by omega, by omega, by rw [← Nat.add_assoc]; exact e3, e4, fun _ c u hc hl => ?_, fun x hx => ?_⟩
        · rw [hc, gap_letter hl] at hg; cases hg
        · have hcz : Cz (r.drop n) ((r.drop n).take p ++ x) x p := ⟨⟨rfl, by rw [List.length_drop]; omega, hx⟩, e5⟩
          have hgl := gap_local (a := r.take n) hcz (by rw [List.take_append_drop, hal]; exact hg) hr' (by rw [List.drop_drop]; exact e4)
          have e : r.take (n + p) ++ x = r.take n ++ ((r.drop n).take p ++ x) := by rw [List.take_add, List.append_assoc]
          rw [e, scan_gap hgl, hal, List.drop_append_of_le_length (by omega), List.drop_of_length_le (by omega), List.nil_append, e6 x hx, Nat.add_assoc]
      | none =>
        cases ht : tokAt r with
        | bad w o => rw [scan_bad h0 hg ht] at hs; cases hs
        | tok kd tx nm n =>
          have hp := tok_pos ht
          have hs0 := hs
          rw [scan_tok hg ht] at hs
          cases hsc : scan (k + n) (r.drop n) with
          | bad w a => rw [hsc] at hs; cases hs
          | ok l =>
            rw [hsc] at hs
            injection hs with hs
            cases l1 with
            | nil =>
              injection hs with ht0 hl
              subst ht0
              refine ⟨0, rfl, by omega, hs0, hg, fun h => absurd h (Nat.lt_irrefl 0), fun x _ => ?_⟩
              show scan k x = _
              cases scan k x <;> rfl
            | cons t0 l1 =>
              injection hs with ht0 hl
              rw [hl] at hsc
              obtain ⟨p, e1, e2, e3, e4, e5, e6⟩ := ih (r.drop n) (k + n) l1 t l2 (by rw [List.length_drop]; omega) hsc
              rw [List.length_drop] at e2
              rw [List.drop_drop] at e3 e4
              have hal : (r.take n).length = n := by rw [List.length_take]; omega
              refine ⟨n + p, by omega, by omega, by rw [← Nat.add_assoc]; exact e3, e4, fun _ c u hc hl => ?_, fun x hx => ?_⟩
              · subst hc
                rw [tok_cons, if_pos hl] at ht
                unfold nmRes at ht
                split at ht
                · cases ht
                · injection ht with _ _ _ e; omega
              · have hcz : Cz (r.drop n) ((r.drop n).take p ++ x) x p := ⟨⟨rfl, by rw [List.length_drop]; omega, hx⟩, e5⟩
                have htl := tok_local (a := r.take n) hcz (by rw [List.take_append_drop, hal]; exact ht)
                have e : r.take (n + p) ++ x = r.take n ++ ((r.drop n).take p ++ x) := by rw [List.take_add, List.append_assoc]
                have hgl : gapAt (r.take n ++ ((r.drop n).take p ++ x)) = .none := by
                  cases r with
                  | nil => exact absurd rfl h0
                  | cons c u =>
                    obtain ⟨n', rfl⟩ : ∃ n', n = n' + 1 := ⟨n - 1, by omega⟩
                    show gapAt (c :: (u.take n' ++ ((u.drop n').take p ++ x))) = .none
                    refine gap_local0 (r := u) (x := x) (p := n' + p) ⟨by rw [List.take_add, List.append_assoc], by simp only [List.length_cons] at e2; omega, hx⟩ hg
                rw [e, scan_tok hgl htl, hal, List.drop_append_of_le_length (by omega), List.drop_of_length_le (by omega), List.nil_append, e6 x hx, app_cons', ht0, Nat.add_assoc]

def Out.shift (d : Nat) : Out → Out
  | .ok l => .ok (l.map fun t => { t with at_ := t.at_ + d })
  | .bad w a => .bad w (a + d)
theorem scan_shift (d : Nat) : ∀ (m : Nat) (r : Txt) (k : Nat), r.length ≤ m → scan (k + d) r = (scan k r).shift d := by
  intro m
  induction m with
  | zero =>
    intro r k h
    have : r = [] := List.eq_nil_of_length_eq_zero (by omega)
    subst this; rfl
  | succ m ih =>
    intro r k h
    by_cases h0 : r = []
    · subst h0; rfl
    · cases hg : gapAt r with
      | never => rw [scan_never hg, scan_never hg]; rfl
      | gap n =>
        have hp := gap_pos hg
        rw [scan_gap hg, scan_gap hg, ← ih _ _ (by rw [List.length_drop]; omega)]
        congr 1; omega
      | none =>
        cases ht : tokAt r with
        | bad w o =>
          rw [scan_bad h0 hg ht, scan_bad h0 hg ht]
          show Out.bad _ _ = .bad _ _
          congr 1; omega
        | tok kd tx nm n =>
          have hp := tok_pos ht
          rw [scan_tok hg ht, scan_tok hg ht, show k + d + n = k + n + d by omega, ih _ _ (by rw [List.length_drop]; omega)]
          cases scan (k + n) (r.drop n) <;> rfl
/-- The gaps that the law puts. -/
def gps : List Txt := [[32], [10], [32, 47, 42, 32, 120, 32, 42, 47, 32], [32, 47, 47, 32, 121, 10], [9, 13]]
theorem gps_scan {g : Txt} (hg : g ∈ gps) (k : Nat) (r : Txt) : scan k (g ++ r) = scan (k + g.length) r := by
  simp only [gps, List.mem_cons, List.not_mem_nil, or_false] at hg
  have b : ∀ (c : UInt8) (l : Txt) (k : Nat), isB (bv c) = true → scan k (c :: l) = scan (k + 1) l := fun c l k h => by
    rw [scan_gap (n := 1) (by rw [gap_cons, if_pos h])]; rfl
  rcases hg with rfl | rfl | rfl | rfl | rfl
  · exact b 32 r k (by decide)
  · exact b 10 r k (by decide)
  · show scan k (32 :: 47 :: 42 :: 32 :: 120 :: 32 :: 42 :: 47 :: 32 :: r) = _
    rw [b 32 _ k (by decide), scan_gap (n := 7) (by rfl)]
    show scan (k + 1 + 7) (32 :: r) = _
    rw [b 32 _ _ (by decide)]; rfl
  · show scan k (32 :: 47 :: 47 :: 32 :: 121 :: 10 :: r) = _
    rw [b 32 _ k (by decide), scan_gap (n := 4) (by rfl)]
    show scan (k + 1 + 4) (10 :: r) = _
    rw [b 10 _ _ (by decide)]; rfl
  · show scan k (9 :: 13 :: r) = _
    rw [b 9 _ k (by decide), b 13 _ _ (by decide)]; rfl
theorem gps_tail {g : Txt} (hg : g ∈ gps) (r : Txt) : Tail (g ++ r) := by
  simp only [gps, List.mem_cons, List.not_mem_nil, or_false] at hg
  rcases hg with rfl | rfl | rfl | rfl | rfl <;> (intro b y h; injection h with h _; subst h; decide)

/-- P8.5: the tokens of a text up to a token's first byte are those ahead of it. -/
theorem heads_pure {l : Txt} {toks : List Tok} (h : lexP l = .ok toks) {i : Nat} {t : Tok} (hi : toks[i]? = some t) : t.at_ < l.length ∧ lexP (l.take t.at_) = .ok (toks.take i) := by
  obtain ⟨hlt, ht⟩ := List.getElem?_eq_some_iff.1 hi
  unfold lexP at h
  split at h
  · cases h
  · rename_i hlen
    have hs : scan 0 l = .ok (toks.take i ++ t :: toks.drop (i + 1)) := by rw [h, ← ht, ← List.drop_eq_getElem_cons hlt, List.take_append_drop]
    obtain ⟨p, e1, e2, e3, e4, e5, e6⟩ := cut l.length l 0 _ _ _ (Nat.le_refl _) hs
    have e1 : t.at_ = p := by omega
    rw [e1]
    refine ⟨e2, ?_⟩
    unfold lexP
    rw [if_neg (by rw [List.length_take]; omega)]
    have := e6 [] (fun b y h => by cases h)
    rw [List.append_nil, scan_nil] at this
    rw [this]; simp [Out.app]
/-- P8.4: gaps between two tokens turn nothing but places. -/
theorem gaps_pure {l : Txt} {toks : List Tok} (h : lexP l = .ok toks) {i : Nat} {t : Tok} (hi : toks[i]? = some t) {g : Txt} (hg : g ∈ gps) (hl : l.length + 16 ≤ 65536) :
    lexP (l.take t.at_ ++ (g ++ l.drop t.at_)) = .ok (toks.take i ++ (toks.drop i).map fun t => { t with at_ := t.at_ + g.length }) := by
  obtain ⟨hlt, ht⟩ := List.getElem?_eq_some_iff.1 hi
  unfold lexP at h
  rw [if_neg (by omega)] at h
  have hs : scan 0 l = .ok (toks.take i ++ t :: toks.drop (i + 1)) := by rw [h, ← ht, ← List.drop_eq_getElem_cons hlt, List.take_append_drop]
  obtain ⟨p, e1, e2, e3, e4, e5, e6⟩ := cut l.length l 0 _ _ _ (Nat.le_refl _) hs
  have e1 : t.at_ = p := by omega
  rw [e1]
  have hgl : g.length ≤ 16 := by
    simp only [gps, List.mem_cons, List.not_mem_nil, or_false] at hg
    rcases hg with rfl | rfl | rfl | rfl | rfl <;> decide
  unfold lexP
  rw [if_neg (by rw [List.length_append, List.length_append, List.length_take, List.length_drop]; omega), e6 _ (gps_tail hg _), gps_scan hg, scan_shift g.length _ _ _ (Nat.le_refl _), e3]
  have hd : toks.drop i = t :: toks.drop (i + 1) := by rw [List.drop_eq_getElem_cons hlt, ht]
  rw [hd]; rfl
end Go.Proofs.YtcdobniommnflaaGreatDoor

namespace Go.Proofs.YtcdobniommnflaaGreatDoor
open Go.RowKit

theorem RowAt.take {w : World} {g cap : Nat} {toks : List Tok} (h : RowAt w g cap toks) (i : Nat) : RowAt w g cap (toks.take i) :=
  ⟨h.lt, by rw [List.length_take]; have := h.le; omega, h.cm, fun j t hj => h.cells j t (by
    rw [List.getElem?_take] at hj
    split at hj
    · exact hj
    · cases hj)⟩
theorem alike_refl (p : Bool) (l : List Tok) : ∀ (i : Nat) (x y : Tok), l[i]? = some x → l[i]? = some y → Alike p x y := fun i x y h1 h2 => by
  rw [h1] at h2
  injection h2 with h2
  subst h2
  exact ⟨rfl, rfl, rfl, fun _ => rfl⟩
theorem ris_len {n : Nat} : ∀ {l : List Tok} {k : Nat}, k ≤ n → Ris k n l → k + l.length ≤ n
  | [], k, hk, _ => by simpa using hk
  | t :: l, k, _, hr => by
    have := ris_len (l := l) (k := t.at_ + 1) (by have := hr.2.1; omega) hr.2.2
    have h1 := hr.1
    simp only [List.length_cons]; omega
theorem slice_of {w : World} {B : Nat} {v : Value} (h : w.ownsRow B 42 4 v 0 (tokCells [])) : ∃ ao cap, v = .slice ao 0 cap := by
  rcases h.2 with h | ⟨g, cap, cur, hv, _⟩
  · exact ⟨_, _, h.1⟩
  · exact ⟨_, _, hv⟩
/-- The index that the laws reckon. -/
theorem idx_of (a : Int) {n : Nat} (hn : 0 < n) : ∃ (b : Int) (i : Nat), a.tmod (n : Int) = b ∧ -(n : Int) < b ∧ b < (n : Int) ∧ (b + (n : Int)).tmod (n : Int) = (i : Int) ∧ i < n := by
  have h1 : (a.tmod (n : Int)).natAbs < n := by
    have := Int.natAbs_tmod a (n : Int)
    rw [this]
    exact Nat.mod_lt _ (by omega)
  refine ⟨a.tmod n, ((a.tmod n + n).tmod n).toNat, rfl, by omega, by omega, ?_, ?_⟩
  · have : 0 ≤ (a.tmod n + (n : Int)).tmod n := Int.tmod_nonneg _ (by omega)
    omega
  · have : (a.tmod n + (n : Int)).tmod n < n := Int.tmod_lt_of_pos _ (by omega)
    omega
theorem run_head (s : ByteArray) (k : Nat) (hk : k ≤ s.size) (w : World) :
    (Instr.slice 9 (.string s) none (some (.int .i64 (k : Int))) none).run Tryz.prog w = .ok (.string (s.extract 0 k)) w := by
  have := run_slice_string_h (P := Tryz.prog) w 9 s Tryz.underlying9 .i64 (k : Int) (by omega) (by omega)
  rwa [Int.toNat_natCast] at this
theorem ext_head (s : ByteArray) (k : Nat) : (s.extract 0 k).data.toList = s.data.toList.take k := by
  have := ext_piece s 0 k
  rwa [Nat.zero_add, List.drop_zero] at this

end Go.Proofs.YtcdobniommnflaaGreatDoor
