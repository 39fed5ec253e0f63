/- A text's tokens, as plain functions on lists of bytes; no program stands in it. Walks of the looks at one byte, and of the names' ends. -/
import Derived.Lib.Strings
import Derived.Lib.Index
import Derived.Test.YtdjehbdpcdikkaaGreatDoorChecked
import Derived.WalkKit
import Derived.WalkMore
import Derived.ScopeJumps
import Derived.Handy
namespace Go.Proofs.YtdjehbdpcdikkaaGreatDoor

def isL (n : Int) : Bool := decide (n = 95) || (decide (65 ≤ n) && decide (n ≤ 90)) || (decide (97 ≤ n) && decide (n ≤ 122))
def isD (n : Int) : Bool := decide (48 ≤ n) && decide (n ≤ 57)
def inW (n : Int) : Bool := isL n || isD n
def isB (n : Int) : Bool := decide (n = 32) || decide (n = 9) || decide (n = 10) || decide (n = 13)

abbrev Txt := List UInt8
/-- A byte as a number. -/
def bv (c : UInt8) : Int := c.toNat

theorem inW_L {n : Int} (h : isL n = true) : inW n = true := by unfold inW; rw [h]; rfl
theorem inW_D {n : Int} (h : isD n = true) : inW n = true := by unfold inW; rw [h]; simp
/-- How many bytes of words with points between. -/
def nmLen : Txt → Nat
  | [] => 0
  | [c] => if inW (bv c) then 1 else 0
  | c :: d :: u => if inW (bv c) then nmLen (d :: u) + 1 else if c = 46 ∧ isL (bv d) = true then nmLen u + 2 else 0

theorem nm_in {c : UInt8} (h : inW (bv c) = true) : ∀ t : Txt, nmLen (c :: t) = nmLen t + 1
  | [] => by simp [nmLen, h]
  | d :: u => by simp [nmLen, h]
theorem inW46 : inW (bv 46) = false := by decide
theorem nm_dot {d : UInt8} (h : isL (bv d) = true) (u : Txt) : nmLen (46 :: d :: u) = nmLen u + 2 := by simp [nmLen, inW46, h]
theorem nm_stop {c : UInt8} {t : Txt} (h : inW (bv c) = false) (h2 : ∀ d u, t = d :: u → c = 46 → isL (bv d) = false) : nmLen (c :: t) = 0 := by
  cases t with
  | nil => simp [nmLen, h]
  | cons d u =>
    rw [nmLen, if_neg (by simp [h]), if_neg]
    rintro ⟨h3, h4⟩
    rw [h2 d u rfl h3] at h4
    exact absurd h4 (by simp)
theorem nm_le : ∀ r : Txt, nmLen r ≤ r.length
  | [] => Nat.le_refl _
  | [c] => by unfold nmLen; split <;> simp
  | c :: d :: u => by
    unfold nmLen
    split
    · have := nm_le (d :: u); simp only [List.length_cons] at this ⊢; omega
    · split
      · have := nm_le u; simp only [List.length_cons] at this ⊢; omega
      · simp

/-- How many bytes of a word go on. -/
def wcn : Txt → Nat
  | [] => 0
  | c :: t => if inW (bv c) then wcn t + 1 else 0
/-- How many bytes of a word. -/
def wdLen : Txt → Nat
  | [] => 0
  | c :: t => if isL (bv c) then wcn t + 1 else 0
theorem wd_cons (c : UInt8) (t : Txt) : wdLen (c :: t) = if isL (bv c) then wcn t + 1 else 0 := rfl
theorem wcn_le : ∀ r : Txt, wcn r ≤ r.length
  | [] => Nat.le_refl _
  | c :: t => by
    unfold wcn; split
    · have := wcn_le t; simp only [List.length_cons]; omega
    · simp
theorem wd_le (r : Txt) : wdLen r ≤ r.length := by
  cases r with
  | nil => exact Nat.le_refl _
  | cons c t =>
    rw [wd_cons]; split
    · have := wcn_le t; simp only [List.length_cons]; omega
    · simp
/-- Does no byte of a word stand at the head? -/
def noW : Txt → Bool
  | [] => true
  | c :: _ => !inW (bv c)
theorem noW_wcn : ∀ r : Txt, noW (r.drop (wcn r)) = true
  | [] => rfl
  | c :: t => by
    unfold wcn; split
    · exact noW_wcn t
    · rename_i h; simp [noW, h]
theorem nm_wcn : ∀ r : Txt, nmLen r = wcn r + nmLen (r.drop (wcn r))
  | [] => rfl
  | c :: t => by
    cases h : inW (bv c) with
    | true =>
      have e : wcn (c :: t) = wcn t + 1 := by simp [wcn, h]
      rw [nm_in h, e, nm_wcn t, List.drop_succ_cons]; omega
    | false =>
      have e : wcn (c :: t) = 0 := by simp [wcn, h]
      rw [e, List.drop_zero]; omega
theorem nm_wd {r : Txt} (h : 0 < wdLen r) : nmLen r = wdLen r + nmLen (r.drop (wdLen r)) := by
  cases r with
  | nil => exact absurd h (by simp [wdLen])
  | cons c t =>
    cases hc : isL (bv c) with
    | false => simp [wdLen, hc] at h
    | true =>
      have e : wdLen (c :: t) = wcn t + 1 := by simp [wdLen, hc]
      rw [nm_in (inW_L hc), e, List.drop_succ_cons, nm_wcn t]; omega
theorem noW_wd {r : Txt} (h : 0 < wdLen r) : noW (r.drop (wdLen r)) = true := by
  cases r with
  | nil => exact absurd h (by simp [wdLen])
  | cons c t =>
    cases hc : isL (bv c) with
    | false => simp [wdLen, hc] at h
    | true =>
      have e : wdLen (c :: t) = wcn t + 1 := by simp [wdLen, hc]
      rw [e, List.drop_succ_cons]; exact noW_wcn t
/-- Behind a word: a point and a word, or the end. -/
theorem nm_go {t : Txt} (h : 0 < wdLen t) : nmLen (46 :: t) = 1 + wdLen t + nmLen (t.drop (wdLen t)) := by
  cases t with
  | nil => exact absurd h (by simp [wdLen])
  | cons d u =>
    cases hc : isL (bv d) with
    | false => simp [wdLen, hc] at h
    | true =>
      have e : wdLen (d :: u) = wcn u + 1 := by simp [wdLen, hc]
      rw [nm_dot hc, e, List.drop_succ_cons, nm_wcn u]; omega
theorem nm_end {r : Txt} (h : noW r = true) (h2 : ∀ t, r = 46 :: t → wdLen t = 0) : nmLen r = 0 := by
  cases r with
  | nil => rfl
  | cons c t =>
    refine nm_stop (by simpa [noW] using h) ?_
    rintro d u rfl rfl
    have := h2 _ rfl
    cases hd : isL (bv d) with
    | false => rfl
    | true => simp [wdLen, hd] at this

/-- The digits of a number: no digit follows a 0 that is the first. -/
def dcn : Txt → Nat
  | [] => 0
  | c :: t => if isD (bv c) then dcn t + 1 else 0
def dgLen : Txt → Nat
  | [] => 0
  | c :: t => if c = 48 then 1 else dcn (c :: t)
theorem dg_cons (c : UInt8) (t : Txt) : dgLen (c :: t) = if c = 48 then 1 else dcn (c :: t) := rfl
theorem dcn_le : ∀ r : Txt, dcn r ≤ r.length
  | [] => Nat.le_refl _
  | c :: t => by
    unfold dcn; split
    · have := dcn_le t; simp only [List.length_cons]; omega
    · simp
theorem dg_le (r : Txt) : dgLen r ≤ r.length := by
  cases r with
  | nil => exact Nat.le_refl _
  | cons c t =>
    rw [dg_cons]; split
    · simp
    · exact dcn_le _

/-- A text behind its quote: what it is and how long with the closing quote; where it is wrong; or that it does not end. -/
inductive TR where
  | ok (v : Txt) (n : Nat)
  | bad (o : Nat)
  | never
def TR.pre (b : UInt8) (k : Nat) : TR → TR
  | ok v n => ok (b :: v) (n + k)
  | bad o => bad (o + k)
  | never => never
def esc (c : UInt8) : Option UInt8 := if c = 34 ∨ c = 92 then some c else if c = 110 then some 10 else if c = 116 then some 9 else none
def txScan : Txt → TR
  | [] => .never
  | [c] => if c = 34 then .ok [] 1 else if c = 10 then .bad 0 else if c = 92 then .bad 0 else .never
  | c :: d :: t => if c = 34 then .ok [] 1 else if c = 10 then .bad 0 else if c = 92 then (match esc d with | none => .bad 0 | some b => (txScan t).pre b 2) else (txScan (d :: t)).pre c 1

/-- The signs. -/
def hds : List Txt := [[46, 100, 101, 99, 108], [46, 116, 121, 112, 101], [46, 99, 111, 109, 112], [46, 105, 110, 105, 116]]
def twos : List Txt := [[58, 45], [60, 58], [60, 61], [62, 61], [33, 61]]
def ones : Txt := [40, 41, 123, 125, 44, 46, 58, 124, 33, 61, 60, 62, 43, 45, 42, 47, 37, 36]
def pre (p r : Txt) : Bool := Lib.hasPrefix r p
def isHd (r : Txt) : Bool := hds.any (fun h => pre h r) && noW (r.drop 5)
def sgLen (r : Txt) : Nat := if isHd r then 5 else if twos.any (fun h => pre h r) then 2 else if ones.any (fun c => pre [c] r) then 1 else 0

/-- What a number's digits come to. -/
def vl : Nat → Txt → Nat
  | acc, [] => acc
  | acc, c :: l => vl (acc * 10 + (c.toNat - 48)) l

inductive Res where
  | tok (kind : Int) (text : Txt) (num : Int) (len : Nat)
  | bad (why : Int) (off : Nat)

def nmRes (r : Txt) : Res := if 64 < nmLen r then .bad 2 0 else .tok 1 (r.take (nmLen r)) 0 (nmLen r)
def dgRes (r : Txt) : Res := if noW (r.drop (dgLen r)) = false then .bad 7 (dgLen r) else if 9223372036854775807 < vl 0 (r.take (dgLen r)) then .bad 8 0 else .tok 2 [] (vl 0 (r.take (dgLen r))) (dgLen r)
def txRes (t : Txt) : Res := match txScan t with | .ok v n => .tok 3 v 0 (n + 1) | .bad o => .bad 7 (o + 1) | .never => .bad 7 0
def sgRes (r : Txt) : Res := if sgLen r = 0 then .bad 7 0 else .tok 4 (r.take (sgLen r)) 0 (sgLen r)
/-- The token at the head of a text. -/
def tokAt : Txt → Res
  | [] => .bad 7 0
  | c :: t => if isL (bv c) then nmRes (c :: t) else if isD (bv c) then dgRes (c :: t) else if c = 34 then txRes t else sgRes (c :: t)

inductive G where
  | none
  | gap (n : Nat)
  | never
/-- How many bytes up to the line's end. -/
def lnLen : Txt → Nat
  | [] => 0
  | c :: t => if c = 10 then 0 else lnLen t + 1
def cEnd : Txt → Option Nat
  | [] => none
  | c :: t => if pre [42, 47] (c :: t) then some 0 else (cEnd t).map (· + 1)
def cGap (t : Txt) : G := match cEnd t with | some n => .gap (n + 4) | none => .never
/-- The gap at the head of a text. -/
def gapAt : Txt → G
  | [] => .none
  | c :: t => if isB (bv c) then .gap 1 else if pre [47, 47] (c :: t) then .gap (lnLen (c :: t)) else if pre [47, 42] (c :: t) then cGap (t.drop 1) else .none

theorem gap_cons (c : UInt8) (t : Txt) : gapAt (c :: t) = if isB (bv c) then .gap 1 else if pre [47, 47] (c :: t) then .gap (lnLen (c :: t)) else if pre [47, 42] (c :: t) then cGap (t.drop 1) else .none := rfl
theorem tok_cons (c : UInt8) (t : Txt) : tokAt (c :: t) = if isL (bv c) then nmRes (c :: t) else if isD (bv c) then dgRes (c :: t) else if c = 34 then txRes t else sgRes (c :: t) := rfl

structure Tok where
  kind : Int
  text : Txt
  num : Int
  at_ : Nat
inductive Out where
  | ok (l : List Tok)
  | bad (why : Int) (at_ : Nat)
def Out.cons (t : Tok) : Out → Out
  | ok l => ok (t :: l)
  | bad w a => bad w a
def Out.app (l : List Tok) : Out → Out
  | ok m => ok (l ++ m)
  | bad w a => bad w a

def scanF : Nat → Nat → Txt → Out
  | 0, _, _ => .ok []
  | f + 1, k, r => if r = [] then .ok [] else match gapAt r with
    | .never => .bad 7 k
    | .gap n => scanF f (k + n) (r.drop n)
    | .none => match tokAt r with
      | .bad w o => .bad w (k + o)
      | .tok kd tx nm n => (scanF f (k + n) (r.drop n)).cons ⟨kd, tx, nm, k⟩
/-- The tokens of a text whose first byte is the k-th. -/
def scan (k : Nat) (r : Txt) : Out := scanF r.length k r

theorem pre_len {p r : Txt} (h : pre p r = true) : p.length ≤ r.length := by
  unfold pre Lib.hasPrefix at h
  exact (List.isPrefixOf_iff_prefix.1 h).length_le
theorem pre_take {p r : Txt} (h : pre p r = true) : r.take p.length = p := by
  unfold pre Lib.hasPrefix at h
  exact (List.prefix_iff_eq_take.1 (List.isPrefixOf_iff_prefix.1 h)).symm
theorem ln_le : ∀ r : Txt, lnLen r ≤ r.length
  | [] => Nat.le_refl _
  | c :: t => by
    unfold lnLen; split
    · simp
    · have := ln_le t; simp only [List.length_cons]; omega
theorem ce_le : ∀ (r : Txt) (n : Nat), cEnd r = some n → n + 2 ≤ r.length
  | [], _, h => by simp [cEnd] at h
  | c :: t, n, h => by
    unfold cEnd at h
    split at h
    · rename_i hp; have := pre_len hp; cases h; simpa using this
    · cases ht : cEnd t with
      | none => rw [ht] at h; simp at h
      | some m =>
        rw [ht] at h
        have e : m + 1 = n := by simpa using h
        have := ce_le t m ht
        simp only [List.length_cons]; omega
theorem gap_pos {r : Txt} {n : Nat} (h : gapAt r = .gap n) : 0 < n ∧ n ≤ r.length := by
  cases r with
  | nil => simp [gapAt] at h
  | cons c t =>
    rw [gap_cons] at h
    split at h
    · cases h; simp
    · split at h
      · rename_i hp
        cases h
        refine ⟨?_, ln_le _⟩
        have ht := pre_take hp
        have : c = 47 := by simpa using congrArg List.head? ht
        unfold lnLen
        rw [if_neg (by rw [this]; decide)]
        omega
      · split at h
        · rename_i hp
          unfold cGap at h
          cases hc : cEnd (t.drop 1) with
          | none => rw [hc] at h; cases h
          | some m =>
            rw [hc] at h
            cases h
            have := ce_le _ _ hc
            rw [List.length_drop] at this
            simp only [List.length_cons]; omega
        · cases h

theorem tx_pos : ∀ (r : Txt) (v : Txt) (n : Nat), txScan r = .ok v n → 0 < n ∧ n ≤ r.length
  | [], _, _, h => by simp [txScan] at h
  | [c], v, n, h => by
    unfold txScan at h
    split at h
    · cases h; simp
    · split at h
      · cases h
      · split at h <;> cases h
  | c :: d :: t, v, n, h => by
    unfold txScan at h
    split at h
    · cases h; simp
    · split at h
      · cases h
      · split at h
        · cases he : esc d with
          | none => rw [he] at h; cases h
          | some b =>
            rw [he] at h
            cases ht : txScan t with
            | ok v' n' =>
              rw [ht] at h
              have := tx_pos t v' n' ht
              cases h
              simp only [List.length_cons]; omega
            | bad o => rw [ht] at h; cases h
            | never => rw [ht] at h; cases h
        · cases ht : txScan (d :: t) with
          | ok v' n' =>
            rw [ht] at h
            have := tx_pos (d :: t) v' n' ht
            cases h
            simp only [List.length_cons] at this ⊢; omega
          | bad o => rw [ht] at h; cases h
          | never => rw [ht] at h; cases h
theorem tx_bad : ∀ (r : Txt) (o : Nat), txScan r = .bad o → o < r.length
  | [], _, h => by simp [txScan] at h
  | [c], o, h => by
    unfold txScan at h
    split at h
    · cases h
    · split at h
      · cases h; simp
      · split at h
        · cases h; simp
        · cases h
  | c :: d :: t, o, h => by
    unfold txScan at h
    split at h
    · cases h
    · split at h
      · cases h; simp
      · split at h
        · cases he : esc d with
          | none => rw [he] at h; cases h; simp
          | some b =>
            rw [he] at h
            cases ht : txScan t with
            | ok v' n' => rw [ht] at h; cases h
            | bad o' =>
              rw [ht] at h
              have := tx_bad t o' ht
              cases h
              simp only [List.length_cons]; omega
            | never => rw [ht] at h; cases h
        · cases ht : txScan (d :: t) with
          | ok v' n' => rw [ht] at h; cases h
          | bad o' =>
            rw [ht] at h
            have := tx_bad (d :: t) o' ht
            cases h
            simp only [List.length_cons] at this ⊢; omega
          | never => rw [ht] at h; cases h

theorem any_len {l : List Txt} {r : Txt} {k : Nat} (hl : ∀ h ∈ l, k ≤ h.length) (h : l.any (fun h => pre h r) = true) : k ≤ r.length := by
  obtain ⟨p, hp, h2⟩ := List.any_eq_true.1 h
  exact Nat.le_trans (hl p hp) (pre_len h2)
theorem sg_le (r : Txt) : sgLen r ≤ r.length := by
  unfold sgLen
  split
  · rename_i h
    unfold isHd at h
    rw [Bool.and_eq_true] at h
    exact any_len (l := hds) (by decide) h.1
  · split
    · rename_i h; exact any_len (l := twos) (by decide) h
    · split
      · rename_i h
        obtain ⟨c, _, h2⟩ := List.any_eq_true.1 h
        exact pre_len h2
      · simp
theorem dg_pos {c : UInt8} {t : Txt} (h : isD (bv c) = true) : 0 < dgLen (c :: t) := by
  rw [dg_cons]; split
  · omega
  · simp [dcn, h]
theorem tok_pos {r : Txt} {kd : Int} {tx : Txt} {nm : Int} {n : Nat} (h : tokAt r = .tok kd tx nm n) : 0 < n ∧ n ≤ r.length := by
  cases r with
  | nil => simp [tokAt] at h
  | cons c t =>
    rw [tok_cons] at h
    split at h
    · rename_i hc
      unfold nmRes at h
      split at h
      · cases h
      · cases h
        exact ⟨by rw [nm_in (inW_L hc)]; omega, nm_le _⟩
    · split at h
      · rename_i hd
        unfold dgRes at h
        split at h
        · cases h
        · split at h
          · cases h
          · cases h
            exact ⟨dg_pos hd, dg_le _⟩
      · split at h
        · unfold txRes at h
          cases ht : txScan t with
          | ok v m =>
            rw [ht] at h
            cases h
            have := tx_pos t _ m ht
            simp only [List.length_cons]; omega
          | bad o => rw [ht] at h; cases h
          | never => rw [ht] at h; cases h
        · unfold sgRes at h
          split at h
          · cases h
          · cases h
            exact ⟨by omega, sg_le _⟩
theorem tok_bad {r : Txt} {why : Int} {o : Nat} (h : tokAt r = .bad why o) : why ≠ 0 ∧ o ≤ r.length := by
  cases r with
  | nil => simp only [tokAt, Res.bad.injEq] at h; obtain ⟨rfl, rfl⟩ := h; exact ⟨by decide, Nat.le_refl _⟩
  | cons c t =>
    rw [tok_cons] at h
    split at h
    · unfold nmRes at h
      split at h
      · cases h; exact ⟨by decide, Nat.zero_le _⟩
      · cases h
    · split at h
      · unfold dgRes at h
        split at h
        · cases h; exact ⟨by decide, dg_le _⟩
        · split at h
          · cases h; exact ⟨by decide, Nat.zero_le _⟩
          · cases h
      · split at h
        · unfold txRes at h
          cases ht : txScan t with
          | ok v m => rw [ht] at h; cases h
          | bad o' =>
            rw [ht] at h
            cases h
            have := tx_bad t o' ht
            exact ⟨by decide, by simp only [List.length_cons]; omega⟩
          | never => rw [ht] at h; cases h; exact ⟨by decide, Nat.zero_le _⟩
        · unfold sgRes at h
          split at h
          · cases h; exact ⟨by decide, Nat.zero_le _⟩
          · cases h

theorem scanF_len : ∀ (f : Nat) (k : Nat) (r : Txt), r.length ≤ f → scanF f k r = scanF r.length k r := by
  intro f
  induction f using Nat.strongRecOn with
  | _ f ih =>
    intro k r hf
    cases f with
    | zero =>
      have : r.length = 0 := by omega
      rw [this]
    | succ f =>
      cases r with
      | nil => simp [scanF]
      | cons c t =>
        simp only [List.length_cons] at hf ⊢
        unfold scanF
        rw [if_neg (by simp), if_neg (by simp)]
        cases hg : gapAt (c :: t) with
        | never => rfl
        | gap n =>
          have := gap_pos hg
          simp only [List.length_cons] at this
          have hl : ((c :: t).drop n).length = t.length + 1 - n := by rw [List.length_drop, List.length_cons]
          show scanF f (k + n) _ = scanF t.length (k + n) _
          rw [ih f (by omega) _ _ (by omega)]
          by_cases hft : t.length < f + 1
          · exact (ih t.length hft _ _ (by omega)).symm
          · exact absurd hf (by omega)
        | none =>
          cases hk : tokAt (c :: t) with
          | bad w o => rfl
          | tok kd tx nm n =>
            have := tok_pos hk
            simp only [List.length_cons] at this
            have hl : ((c :: t).drop n).length = t.length + 1 - n := by rw [List.length_drop, List.length_cons]
            show (scanF f (k + n) _).cons _ = (scanF t.length (k + n) _).cons _
            rw [ih f (by omega) _ _ (by omega)]
            by_cases hft : t.length < f + 1
            · rw [ih t.length hft _ _ (by omega)]
            · exact absurd hf (by omega)

theorem scan_nil (k : Nat) : scan k [] = .ok [] := rfl
theorem scan_never {k : Nat} {r : Txt} (h : gapAt r = .never) : scan k r = .bad 7 k := by
  cases r with
  | nil => simp [gapAt] at h
  | cons c t => simp only [scan, List.length_cons, scanF]; rw [if_neg (by simp), h]
theorem scan_gap {k : Nat} {r : Txt} {n : Nat} (h : gapAt r = .gap n) : scan k r = scan (k + n) (r.drop n) := by
  cases r with
  | nil => simp [gapAt] at h
  | cons c t =>
    have hp := gap_pos h
    simp only [scan, List.length_cons, scanF]
    rw [if_neg (by simp), h]
    show scanF t.length _ _ = _
    rw [scanF_len t.length _ _ (by rw [List.length_drop, List.length_cons]; simp only [List.length_cons] at hp; omega)]
theorem scan_bad {k : Nat} {r : Txt} {why : Int} {o : Nat} (h0 : r ≠ []) (hg : gapAt r = .none) (h : tokAt r = .bad why o) : scan k r = .bad why (k + o) := by
  cases r with
  | nil => exact absurd rfl h0
  | cons c t => simp only [scan, List.length_cons, scanF]; rw [if_neg (by simp), hg]; simp only [h]
theorem scan_tok {k : Nat} {r : Txt} {kd : Int} {tx : Txt} {nm : Int} {n : Nat} (hg : gapAt r = .none) (h : tokAt r = .tok kd tx nm n) :
    scan k r = (scan (k + n) (r.drop n)).cons ⟨kd, tx, nm, k⟩ := by
  cases r with
  | nil => simp [tokAt] at h
  | cons c t =>
    have hp := tok_pos h
    simp only [scan, List.length_cons, scanF]
    rw [if_neg (by simp), hg]
    simp only [h]
    rw [scanF_len t.length _ _ (by rw [List.length_drop, List.length_cons]; simp only [List.length_cons] at hp; omega)]
theorem app_cons (l : List Tok) (t : Tok) (o : Out) : (o.cons t).app l = o.app (l ++ [t]) := by
  cases o with
  | ok m => simp [Out.cons, Out.app]
  | bad w a => rfl
end Go.Proofs.YtdjehbdpcdikkaaGreatDoor

namespace Go.Proofs.YtdjehbdpcdikkaaGreatDoor
open Go.RowKit

theorem hide {p : Prop} (h : p) : Hid p := h
theorem unhide {p : Prop} (h : Hid p) : p := h.out
theorem ret_bool {a b : Bool} (h : a = b) : Ending.returned (.bool a) = .returned (.bool b) := by rw [h]
theorem ret_int {a b : Int} (h : a = b) : Ending.returned (.int .i64 a) = .returned (.int .i64 b) := by rw [h]

set_option maxHeartbeats 400000 in
theorem begins_any (n : Int) (w : World) : Calls Tryz.prog 101 #[.int .u8 n] w fun e w' => e = .returned (.bool (isL n)) ∧ w' = w := by
  go_enter Tryz.func101, Tryz.ntmps101
  go_wp2
  all_goals
    go_ret
    refine ⟨ret_bool ?_, rfl⟩
    unfold isL
    rw [Bool.eq_iff_iff]
    simp <;> omega
set_option maxHeartbeats 400000 in
theorem isDigit_any (n : Int) (w : World) : Calls Tryz.prog 103 #[.int .u8 n] w fun e w' => e = .returned (.bool (isD n)) ∧ w' = w := by
  go_enter Tryz.func103, Tryz.ntmps103
  go_wp2
  all_goals
    go_ret
    refine ⟨ret_bool ?_, rfl⟩
    unfold isD
    rw [Bool.eq_iff_iff]
    simp <;> omega
set_option maxHeartbeats 400000 in
theorem isBlank_any (n : Int) (w : World) : Calls Tryz.prog 97 #[.int .u8 n] w fun e w' => e = .returned (.bool (isB n)) ∧ w' = w := by
  go_enter Tryz.func97, Tryz.ntmps97
  go_wp2
  all_goals
    go_ret
    refine ⟨ret_bool ?_, rfl⟩
    unfold isB
    rw [Bool.eq_iff_iff]
    simp <;> omega
set_option maxHeartbeats 400000 in
theorem letter_any (n : Int) (w : World) : Calls Tryz.prog 78 #[.int .u8 n] w fun e w' => e = .returned (.bool (isL n)) ∧ w' = w := by
  go_enter Tryz.func78, Tryz.ntmps78
  go_wp2
  all_goals
    go_ret
    refine ⟨ret_bool ?_, rfl⟩
    unfold isL
    rw [Bool.eq_iff_iff]
    simp <;> omega
set_option maxHeartbeats 400000 in
theorem digit_any (n : Int) (w : World) : Calls Tryz.prog 43 #[.int .u8 n] w fun e w' => e = .returned (.bool (isD n)) ∧ w' = w := by
  go_enter Tryz.func43, Tryz.ntmps43
  go_wp2
  all_goals
    go_ret
    refine ⟨ret_bool ?_, rfl⟩
    unfold isD
    rw [Bool.eq_iff_iff]
    simp <;> omega
set_option maxHeartbeats 400000 in
theorem inWord_any (n : Int) (w : World) : Calls Tryz.prog 128 #[.int .u8 n] w fun e w' => e = .returned (.bool (inW n)) ∧ w' = w := by
  cases h : isL n with
  | true =>
    go_enter Tryz.func128, Tryz.ntmps128
    go_wp2_with (go_at_call 101; refine (begins_any _ _).mono ?_; rintro e w' ⟨rfl, rfl⟩; rw [h])
    go_ret
    exact ⟨ret_bool (by unfold inW; rw [h]; rfl), rfl⟩
  | false =>
    go_enter Tryz.func128, Tryz.ntmps128
    go_wp2_with (first
      | (go_at_call 101; refine (begins_any _ _).mono ?_; rintro e w' ⟨rfl, rfl⟩; rw [h])
      | (go_at_call 103; refine (isDigit_any _ _).mono ?_; rintro e w' ⟨rfl, rfl⟩))
    go_ret
    exact ⟨ret_bool (by unfold inW; rw [h]; rfl), rfl⟩

theorem drop_at (s : ByteArray) (k : Nat) (h : k < s.size) : s.data.toList.drop k = s[k] :: s.data.toList.drop (k + 1) := by
  rw [List.drop_eq_getElem_cons (by simpa using h)]; rfl
theorem drop_end (s : ByteArray) (k : Nat) (h : s.size ≤ k) : s.data.toList.drop k = [] :=
  List.drop_eq_nil_of_le (by rw [Array.length_toList]; exact h)
theorem len_drop (s : ByteArray) (k : Nat) : (s.data.toList.drop k).length = s.size - k := by rw [List.length_drop, Array.length_toList]; rfl
theorem bv_eq {c : UInt8} {k : Nat} (hk : k < 256) : bv c = k ↔ c = UInt8.ofNat k := by
  unfold bv
  constructor
  · intro h
    exact UInt8.toNat_inj.1 (by rw [UInt8.toNat_ofNat', Nat.mod_eq_of_lt (by omega)]; omega)
  · rintro rfl
    rw [UInt8.toNat_ofNat', Nat.mod_eq_of_lt (by omega)]
end Go.Proofs.YtdjehbdpcdikkaaGreatDoor
