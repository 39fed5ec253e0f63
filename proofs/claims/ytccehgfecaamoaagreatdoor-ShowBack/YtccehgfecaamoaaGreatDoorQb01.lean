/- A text's tokens, as plain functions on lists of bytes; no program stands in it. Walks of the looks at one byte, and of the names' ends. Walks of the ends of names and numbers, of the document's words and names, and of what a backslash means. Walks of what a backslash means, and of the document's words and names. -/
import Derived.Lib.Strings
import Derived.Lib.Index
import Derived.Test.YtccehgfecaamoaaGreatDoorChecked
import Derived.WalkKit
import Derived.WalkMore
import Derived.ScopeJumps
import Derived.Handy
set_option maxRecDepth 100000
set_option maxHeartbeats 32000000
namespace Go.Proofs.YtccehgfecaamoaaGreatDoor
section
def isL (n : Int) : Bool := decide (n = 95) || (decide (65 ≤ n) && decide (n ≤ 90)) || (decide (97 ≤ n) && decide (n ≤ 122))
def isD (n : Int) : Bool := decide (48 ≤ n) && decide (n ≤ 57)
def inW (n : Int) : Bool := isL n || isD n
def isB (n : Int) : Bool := decide (n = 32) || decide (n = 9) || decide (n = 10) || decide (n = 13)

abbrev Txt := List UInt8
/-- A byte as a number. -/
def bv (c : UInt8) : Int := c.toNat

theorem inW_L {n : Int} (h : isL n = true) : inW n = true := by unfold inW; rw [h]; rfl
theorem inW_D {n : Int} (h : isD n = true) : inW n = true := by unfold inW; rw [h]; simp
theorem isL_D {n : Int} (h : isD n = true) : isL n = false := by
 simp only [isD, isL, Bool.and_eq_true, decide_eq_true_eq] at h ⊢
 simp; omega
/-- How many bytes of words with points between. -/
def nmLen : Txt → Nat
 | [] => 0
 | [c] => if inW (bv c) then 1 else 0
 | c :: d :: u => if inW (bv c) then nmLen (d :: u) + 1 else if c = 46 ∧ isL (bv d) = true then nmLen u + 2 else 0

theorem Qpa {c : UInt8} (h : inW (bv c) = true) : ∀ t : Txt, nmLen (c :: t) = nmLen t + 1
 | [] => by simp [nmLen, h]
 | d :: u => by simp [nmLen, h]
theorem inW46 : inW (bv 46) = false := by decide
theorem Qrg {d : UInt8} (h : isL (bv d) = true) (u : Txt) : nmLen (46 :: d :: u) = nmLen u + 2 := by simp [nmLen, inW46, h]
theorem Qxq {c : UInt8} {t : Txt} (h : inW (bv c) = false) (h2 : ∀ d u, t = d :: u → c = 46 → isL (bv d) = false) : nmLen (c :: t) = 0 := by
 cases t with
 | nil => simp [nmLen, h]
 | cons d u =>
  rw [nmLen, if_neg (by simp [h]), if_neg]
  rintro ⟨h3, h4⟩
  rw [h2 d u rfl h3] at h4
  exact absurd h4 (by simp)
theorem Qxp : ∀ r : Txt, nmLen r ≤ r.length
 | [] => Nat.le_refl _
 | [c] => by unfold nmLen; split <;> simp
 | c :: d :: u => by
  unfold nmLen
  split
  · have := Qxp (d :: u); simp only [List.length_cons] at this ⊢; omega
  split
  · have := Qxp u; simp only [List.length_cons] at this ⊢; omega
  · simp

/-- How many bytes of a word go on. -/
def wcn : Txt → Nat
 | [] => 0
 | c :: t => if inW (bv c) then wcn t + 1 else 0
/-- How many bytes of a word. -/
def wdLen : Txt → Nat
 | [] => 0
 | c :: t => if isL (bv c) then wcn t + 1 else 0
/-- Does no byte of a word stand at the head? -/
def noW : Txt → Bool
 | [] => true
 | c :: _ => !inW (bv c)
theorem Jcv {r : Txt} (h : noW r = true) (h2 : ∀ t, r = 46 :: t → wdLen t = 0) : nmLen r = 0 := by
 cases r with
 | nil => rfl
 | cons c t =>
  refine Qxq (by simpa [noW] using h) ?_
  rintro d u rfl rfl
  have := h2 _ rfl
  cases hd : isL (bv d) with
  | false => rfl
  | true => simp [wdLen, hd] at this

/-- The digits of a number: no digit follows a 0 that is the first. -/
def dcn : Txt → Nat
 | [] => 0
 | c :: t => if isD (bv c) then dcn t + 1 else 0
def dgLen : Txt → Nat
 | [] => 0
 | c :: t => if c = 48 then 1 else dcn (c :: t)
theorem Qfw (c : UInt8) (t : Txt) : dgLen (c :: t) = if c = 48 then 1 else dcn (c :: t) := rfl
theorem Jcc : ∀ r : Txt, dcn r ≤ r.length
 | [] => Nat.le_refl _
 | c :: t => by
  unfold dcn; split
  · have := Jcc t; simp only [List.length_cons]; omega
  · simp
theorem dg_le (r : Txt) : dgLen r ≤ r.length := by
 cases r with
 | nil => exact Nat.le_refl _
 | cons c t =>
  rw [Qfw]; split
  · simp
  · exact Jcc _

/-- A text behind its quote: what it is and how long with the closing quote; where it is wrong; or that it does not end. -/
inductive TR where
 | ok (v : Txt) (n : Nat)
 | bad (o : Nat)
 | never
def TR.pre (b : UInt8) (k : Nat) : TR → TR
 | ok v n => ok (b :: v) (n + k)
 | bad o => bad (o + k)
 | never => never
def esc (c : UInt8) : Option UInt8 := if c = 34 ∨ c = 92 then some c else if c = 110 then some 10 else if c = 116 then some 9 else none
def txScan : Txt → TR
 | [] => .never
 | [c] => if c = 34 then .ok [] 1 else if c = 10 then .bad 0 else if c = 92 then .bad 0 else .never
 | c :: d :: t => if c = 34 then .ok [] 1 else if c = 10 then .bad 0 else if c = 92 then (match esc d with | none => .bad 0 | some b => (txScan t).pre b 2) else (txScan (d :: t)).pre c 1

/-- The signs. -/
def hds : List Txt := [[46, 100, 101, 99, 108], [46, 116, 121, 112, 101], [46, 99, 111, 109, 112], [46, 105, 110, 105, 116]]
def twos : List Txt := [[58, 45], [60, 58], [60, 61], [62, 61], [33, 61]]
def ones : Txt := [40, 41, 123, 125, 44, 46, 58, 124, 33, 61, 60, 62, 43, 45, 42, 47, 37, 36]
def pre (p r : Txt) : Bool := Lib.hasPrefix r p
def isHd (r : Txt) : Bool := hds.any (fun h => pre h r) && noW (r.drop 5)
def sgLen (r : Txt) : Nat := if isHd r then 5 else if twos.any (fun h => pre h r) then 2 else if ones.any (fun c => pre [c] r) then 1 else 0

/-- What a number's digits come to. -/
def vl : Nat → Txt → Nat
 | acc, [] => acc
 | acc, c :: l => vl (acc * 10 + (c.toNat - 48)) l

inductive Res where
 | tok (kind : Int) (text : Txt) (num : Int) (len : Nat)
 | bad (why : Int) (off : Nat)

def nmRes (r : Txt) : Res := if 64 < nmLen r then .bad 2 0 else .tok 1 (r.take (nmLen r)) 0 (nmLen r)
def dgRes (r : Txt) : Res := if noW (r.drop (dgLen r)) = false then .bad 7 (dgLen r) else if 9223372036854775807 < vl 0 (r.take (dgLen r)) then .bad 8 0 else .tok 2 [] (vl 0 (r.take (dgLen r))) (dgLen r)
def txRes (t : Txt) : Res := match txScan t with | .ok v n => .tok 3 v 0 (n + 1) | .bad o => .bad 7 (o + 1) | .never => .bad 7 0
def sgRes (r : Txt) : Res := if sgLen r = 0 then .bad 7 0 else .tok 4 (r.take (sgLen r)) 0 (sgLen r)
/-- The token at the head of a text. -/
def tokAt : Txt → Res
 | [] => .bad 7 0
 | c :: t => if isL (bv c) then nmRes (c :: t) else if isD (bv c) then dgRes (c :: t) else if c = 34 then txRes t else sgRes (c :: t)

inductive G where
 | none
 | gap (n : Nat)
 | never
/-- How many bytes up to the line's end. -/
def lnLen : Txt → Nat
 | [] => 0
 | c :: t => if c = 10 then 0 else lnLen t + 1
def cEnd : Txt → Option Nat
 | [] => none
 | c :: t => if pre [42, 47] (c :: t) then some 0 else (cEnd t).map (· + 1)
def cGap (t : Txt) : G := match cEnd t with | some n => .gap (n + 4) | none => .never
/-- The gap at the head of a text. -/
def gapAt : Txt → G
 | [] => .none
 | c :: t => if isB (bv c) then .gap 1 else if pre [47, 47] (c :: t) then .gap (lnLen (c :: t)) else if pre [47, 42] (c :: t) then cGap (t.drop 1) else .none

theorem Qdp (c : UInt8) (t : Txt) : gapAt (c :: t) = if isB (bv c) then .gap 1 else if pre [47, 47] (c :: t) then .gap (lnLen (c :: t)) else if pre [47, 42] (c :: t) then cGap (t.drop 1) else .none := rfl
theorem Qbm (c : UInt8) (t : Txt) : tokAt (c :: t) = if isL (bv c) then nmRes (c :: t) else if isD (bv c) then dgRes (c :: t) else if c = 34 then txRes t else sgRes (c :: t) := rfl

structure Tok where
 kind : Int
 text : Txt
 num : Int
 at_ : Nat
inductive Out where
 | ok (l : List Tok)
 | bad (why : Int) (at_ : Nat)
def Out.cons (t : Tok) : Out → Out
 | ok l => ok (t :: l)
 | bad w a => bad w a
def Out.app (l : List Tok) : Out → Out
 | ok m => ok (l ++ m)
 | bad w a => bad w a

def scanF : Nat → Nat → Txt → Out
 | 0, _, _ => .ok []
 | f + 1, k, r => if r = [] then .ok [] else match gapAt r with
  | .never => .bad 7 k
  | .gap n => scanF f (k + n) (r.drop n)
  | .none => match tokAt r with
   | .bad w o => .bad w (k + o)
   | .tok kd tx nm n => (scanF f (k + n) (r.drop n)).cons ⟨kd, tx, nm, k⟩
/-- The tokens of a text whose first byte is the k-th. -/
def scan (k : Nat) (r : Txt) : Out := scanF r.length k r

theorem Qls {p r : Txt} (h : pre p r = true) : p.length ≤ r.length := by
 unfold pre Lib.hasPrefix at h
 exact (List.isPrefixOf_iff_prefix.1 h).length_le
theorem Jbb {p r : Txt} (h : pre p r = true) : r.take p.length = p := by
 unfold pre Lib.hasPrefix at h
 exact (List.prefix_iff_eq_take.1 (List.isPrefixOf_iff_prefix.1 h)).symm
theorem ln_le : ∀ r : Txt, lnLen r ≤ r.length
 | [] => Nat.le_refl _
 | c :: t => by
  unfold lnLen; split
  · simp
  · have := ln_le t; simp only [List.length_cons]; omega
theorem ce_le : ∀ (r : Txt) (n : Nat), cEnd r = some n → n + 2 ≤ r.length
 | [], _, h => by simp [cEnd] at h
 | c :: t, n, h => by
  unfold cEnd at h
  split at h
  · rename_i hp; have := Qls hp; cases h; simpa using this
  cases ht : cEnd t with
  | none => rw [ht] at h; simp at h
  | some m =>
   rw [ht] at h
   have e : m + 1 = n := by simpa using h
   have := ce_le t m ht
   simp only [List.length_cons]; omega
theorem Qfx {r : Txt} {n : Nat} (h : gapAt r = .gap n) : 0 < n ∧ n ≤ r.length := by
 cases r with
 | nil => simp [gapAt] at h
 | cons c t =>
  rw [Qdp] at h
  split at h
  · cases h; simp
  split at h
  ·
   rename_i hp
   cases h
   refine ⟨?_, ln_le _⟩
   have ht := Jbb hp
   have : c = 47 := by simpa using congrArg List.head? ht
   unfold lnLen
   rw [if_neg (by rw [this]; decide)]
   omega
  split at h
  ·
   rename_i hp
   unfold cGap at h
   cases hc : cEnd (t.drop 1) with
   | none => rw [hc] at h; cases h
   | some m =>
    rw [hc] at h
    cases h
    have := ce_le _ _ hc
    rw [List.length_drop] at this
    simp only [List.length_cons]; omega
  · cases h

theorem Qzh : ∀ (r : Txt) (v : Txt) (n : Nat), txScan r = .ok v n → 0 < n ∧ n ≤ r.length
 | [], _, _, h => by simp [txScan] at h
 | [c], v, n, h => by
  unfold txScan at h
  split at h
  · cases h; simp
  split at h
  · cases h
  · split at h <;> cases h
 | c :: d :: t, v, n, h => by
  unfold txScan at h
  split at h
  · cases h; simp
  split at h
  · cases h
  split at h
  ·
   cases he : esc d with
   | none => rw [he] at h; cases h
   | some b =>
    rw [he] at h
    cases ht : txScan t with
    | ok v' n' =>
     rw [ht] at h
     have := Qzh t v' n' ht
     cases h
     simp only [List.length_cons]; omega
    | bad o => rw [ht] at h; cases h
    | never => rw [ht] at h; cases h
  cases ht : txScan (d :: t) with
  | ok v' n' =>
   rw [ht] at h
   have := Qzh (d :: t) v' n' ht
   cases h
   simp only [List.length_cons] at this ⊢; omega
  | bad o => rw [ht] at h; cases h
  | never => rw [ht] at h; cases h
theorem Qzd : ∀ (r : Txt) (o : Nat), txScan r = .bad o → o < r.length
 | [], _, h => by simp [txScan] at h
 | [c], o, h => by
  unfold txScan at h
  split at h
  · cases h
  split at h
  · cases h; simp
  split at h
  · cases h; simp
  · cases h
 | c :: d :: t, o, h => by
  unfold txScan at h
  split at h
  · cases h
  split at h
  · cases h; simp
  split at h
  ·
   cases he : esc d with
   | none => rw [he] at h; cases h; simp
   | some b =>
    rw [he] at h
    cases ht : txScan t with
    | ok v' n' => rw [ht] at h; cases h
    | bad o' =>
     rw [ht] at h
     have := Qzd t o' ht
     cases h
     simp only [List.length_cons]; omega
    | never => rw [ht] at h; cases h
  cases ht : txScan (d :: t) with
  | ok v' n' => rw [ht] at h; cases h
  | bad o' =>
   rw [ht] at h
   have := Qzd (d :: t) o' ht
   cases h
   simp only [List.length_cons] at this ⊢; omega
  | never => rw [ht] at h; cases h

theorem Qum {l : List Txt} {r : Txt} {k : Nat} (hl : ∀ h ∈ l, k ≤ h.length) (h : l.any (fun h => pre h r) = true) : k ≤ r.length := by
 obtain ⟨p, hp, h2⟩ := List.any_eq_true.1 h
 exact Nat.le_trans (hl p hp) (Qls h2)
theorem sg_le (r : Txt) : sgLen r ≤ r.length := by
 unfold sgLen
 split
 ·
  rename_i h
  unfold isHd at h
  rw [Bool.and_eq_true] at h
  exact Qum (l := hds) (by decide) h.1
 split
 · rename_i h; exact Qum (l := twos) (by decide) h
 split
 ·
  rename_i h
  obtain ⟨c, _, h2⟩ := List.any_eq_true.1 h
  exact Qls h2
 · simp
theorem dg_pos {c : UInt8} {t : Txt} (h : isD (bv c) = true) : 0 < dgLen (c :: t) := by
 rw [Qfw]; split
 · omega
 · simp [dcn, h]
theorem Qg {r : Txt} {kd : Int} {tx : Txt} {nm : Int} {n : Nat} (h : tokAt r = .tok kd tx nm n) : 0 < n ∧ n ≤ r.length := by
 cases r with
 | nil => simp [tokAt] at h
 | cons c t =>
  rw [Qbm] at h
  split at h
  ·
   rename_i hc
   unfold nmRes at h
   split at h
   · cases h
   cases h
   exact ⟨by rw [Qpa (inW_L hc)]; omega, Qxp _⟩
  split at h
  ·
   rename_i hd
   unfold dgRes at h
   split at h
   · cases h
   split at h
   · cases h
   cases h
   exact ⟨dg_pos hd, dg_le _⟩
  split at h
  ·
   unfold txRes at h
   cases ht : txScan t with
   | ok v m =>
    rw [ht] at h
    cases h
    have := Qzh t _ m ht
    simp only [List.length_cons]; omega
   | bad o => rw [ht] at h; cases h
   | never => rw [ht] at h; cases h
  unfold sgRes at h
  split at h
  · cases h
  cases h
  exact ⟨by omega, sg_le _⟩
theorem Qzb {r : Txt} {why : Int} {o : Nat} (h : tokAt r = .bad why o) : why ≠ 0 ∧ o ≤ r.length := by
 cases r with
 | nil => simp only [tokAt, Res.bad.injEq] at h; obtain ⟨rfl, rfl⟩ := h; exact ⟨by decide, Nat.le_refl _⟩
 | cons c t =>
  rw [Qbm] at h
  split at h
  ·
   unfold nmRes at h
   split at h
   · cases h; exact ⟨by decide, Nat.zero_le _⟩
   · cases h
  split at h
  ·
   unfold dgRes at h
   split at h
   · cases h; exact ⟨by decide, dg_le _⟩
   split at h
   · cases h; exact ⟨by decide, Nat.zero_le _⟩
   · cases h
  split at h
  ·
   unfold txRes at h
   cases ht : txScan t with
   | ok v m => rw [ht] at h; cases h
   | bad o' =>
    rw [ht] at h
    cases h
    have := Qzd t o' ht
    exact ⟨by decide, by simp only [List.length_cons]; omega⟩
   | never => rw [ht] at h; cases h; exact ⟨by decide, Nat.zero_le _⟩
  unfold sgRes at h
  split at h
  · cases h; exact ⟨by decide, Nat.zero_le _⟩
  · cases h

theorem Qnu : ∀ (f : Nat) (k : Nat) (r : Txt), r.length ≤ f → scanF f k r = scanF r.length k r := by
 intro f
 induction f using Nat.strongRecOn with
 | _ f ih =>
  intro k r hf
  cases f with
  | zero =>
   have : r.length = 0 := by omega
   rw [this]
  | succ f =>
   cases r with
   | nil => simp [scanF]
   | cons c t =>
    simp only [List.length_cons] at hf ⊢
    unfold scanF
    rw [if_neg (by simp), if_neg (by simp)]
    cases hg : gapAt (c :: t) with
    | never => rfl
    | gap n =>
     have := Qfx hg
     simp only [List.length_cons] at this
     have hl : ((c :: t).drop n).length = t.length + 1 - n := by rw [List.length_drop, List.length_cons]
     show scanF f (k + n) _ = scanF t.length (k + n) _
     rw [ih f (by omega) _ _ (by omega)]
     by_cases hft : t.length < f + 1
     · exact (ih t.length hft _ _ (by omega)).symm
     · exact absurd hf (by omega)
    | none =>
     cases hk : tokAt (c :: t) with
     | bad w o => rfl
     | tok kd tx nm n =>
      have := Qg hk
      simp only [List.length_cons] at this
      have hl : ((c :: t).drop n).length = t.length + 1 - n := by rw [List.length_drop, List.length_cons]
      show (scanF f (k + n) _).cons _ = (scanF t.length (k + n) _).cons _
      rw [ih f (by omega) _ _ (by omega)]
      by_cases hft : t.length < f + 1
      · rw [ih t.length hft _ _ (by omega)]
      · exact absurd hf (by omega)

theorem Qcs (k : Nat) : scan k [] = .ok [] := rfl
theorem Qeg {k : Nat} {r : Txt} (h : gapAt r = .never) : scan k r = .bad 7 k := by
 cases r with
 | nil => simp [gapAt] at h
 | cons c t => simp only [scan, List.length_cons, scanF]; rw [if_neg (by simp), h]
theorem Qfq {k : Nat} {r : Txt} {n : Nat} (h : gapAt r = .gap n) : scan k r = scan (k + n) (r.drop n) := by
 cases r with
 | nil => simp [gapAt] at h
 | cons c t =>
  have hp := Qfx h
  simp only [scan, List.length_cons, scanF]
  rw [if_neg (by simp), h]
  show scanF t.length _ _ = _
  rw [Qnu t.length _ _ (by rw [List.length_drop, List.length_cons]; simp only [List.length_cons] at hp; omega)]
theorem Qgj {k : Nat} {r : Txt} {why : Int} {o : Nat} (h0 : r ≠ []) (hg : gapAt r = .none) (h : tokAt r = .bad why o) : scan k r = .bad why (k + o) := by
 cases r with
 | nil => exact absurd rfl h0
 | cons c t => simp only [scan, List.length_cons, scanF]; rw [if_neg (by simp), hg]; simp only [h]
theorem Qfr {k : Nat} {r : Txt} {kd : Int} {tx : Txt} {nm : Int} {n : Nat} (hg : gapAt r = .none) (h : tokAt r = .tok kd tx nm n) :
  scan k r = (scan (k + n) (r.drop n)).cons ⟨kd, tx, nm, k⟩ := by
 cases r with
 | nil => simp [tokAt] at h
 | cons c t =>
  have hp := Qg h
  simp only [scan, List.length_cons, scanF]
  rw [if_neg (by simp), hg]
  simp only [h]
  rw [Qnu t.length _ _ (by rw [List.length_drop, List.length_cons]; simp only [List.length_cons] at hp; omega)]
theorem Qzv (l : List Tok) (t : Tok) (o : Out) : (o.cons t).app l = o.app (l ++ [t]) := by
 cases o with
 | ok m => simp [Out.cons, Out.app]
 | bad w a => rfl
end
section
open Go.RowKit
theorem hide {p : Prop} (h : p) : Hid p := h
theorem Qa {p : Prop} (h : Hid p) : p := h.out
theorem Ya {p q : Prop} (a : p) (b : q) : p ∧ q := ⟨a, b⟩
theorem Qcf {a b : Bool} (h : a = b) : Ending.returned (.bool a) = .returned (.bool b) := by rw [h]
theorem Qce {a b : Int} (h : a = b) : Ending.returned (.int .i64 a) = .returned (.int .i64 b) := by rw [h]

theorem Qay (n : Int) (w : World) : Calls Tryz.prog 54 #[.int .u8 n] w fun e w' => e = .returned (.bool (isL n)) ∧ w' = w := by
 go_enter Tryz.func54, Tryz.ntmps54
 go_wp2
 all_goals
  go_ret
  refine ⟨Qcf ?_, rfl⟩
  unfold isL
  rw [Bool.eq_iff_iff]
  simp <;> omega
theorem Qcq (n : Int) (w : World) : Calls Tryz.prog 56 #[.int .u8 n] w fun e w' => e = .returned (.bool (isD n)) ∧ w' = w := by
 go_enter Tryz.func56, Tryz.ntmps56
 go_wp2
 all_goals
  go_ret
  refine ⟨Qcf ?_, rfl⟩
  unfold isD
  rw [Bool.eq_iff_iff]
  simp <;> omega
theorem Qdj (n : Int) (w : World) : Calls Tryz.prog 50 #[.int .u8 n] w fun e w' => e = .returned (.bool (isB n)) ∧ w' = w := by
 go_enter Tryz.func50, Tryz.ntmps50
 go_wp2
 all_goals
  go_ret
  refine ⟨Qcf ?_, rfl⟩
  unfold isB
  rw [Bool.eq_iff_iff]
  simp <;> omega
theorem Qba (n : Int) (w : World) : Calls Tryz.prog 87 #[.int .u8 n] w fun e w' => e = .returned (.bool (inW n)) ∧ w' = w := by
 cases h : isL n with
 | true =>
  go_enter Tryz.func87, Tryz.ntmps87
  go_wp2_with (go_at_call 54; refine (Qay _ _).mono ?_; rintro e w' ⟨rfl, rfl⟩; rw [h])
  go_ret
  exact ⟨Qcf (by unfold inW; rw [h]; rfl), rfl⟩
 | false =>
  go_enter Tryz.func87, Tryz.ntmps87
  go_wp2_with (first
   | (go_at_call 54; refine (Qay _ _).mono ?_; rintro e w' ⟨rfl, rfl⟩; rw [h])
   | (go_at_call 56; refine (Qcq _ _).mono ?_; rintro e w' ⟨rfl, rfl⟩))
  go_ret
  exact ⟨Qcf (by unfold inW; rw [h]; rfl), rfl⟩

theorem Qb (s : ByteArray) (k : Nat) (h : k < s.size) : s.data.toList.drop k = s[k] :: s.data.toList.drop (k + 1) := by
 rw [List.drop_eq_getElem_cons (by simpa using h)]; rfl
theorem Qdn (s : ByteArray) (k : Nat) (h : s.size ≤ k) : s.data.toList.drop k = [] :=
 List.drop_eq_nil_of_le (by rw [Array.length_toList]; exact h)
theorem Qcn (s : ByteArray) (k : Nat) : (s.data.toList.drop k).length = s.size - k := by rw [List.length_drop, Array.length_toList]; rfl
theorem Qhz {c : UInt8} {k : Nat} (hk : k < 256) : bv c = k ↔ c = UInt8.ofNat k := by
 unfold bv
 constructor
 ·
  intro h
  exact UInt8.toNat_inj.1 (by rw [UInt8.toNat_ofNat', Nat.mod_eq_of_lt (by omega)]; omega)
 rintro rfl
 rw [UInt8.toNat_ofNat', Nat.mod_eq_of_lt (by omega)]
end
section
open Go.RowKit
def intOf : Value → Int | .int _ q => q | _ => 0

theorem Qrh {s : ByteArray} {k m : Nat} (h : m < s.size) (hw : inW (bv s[m]) = true) (hh : k + nmLen (s.data.toList.drop k) = m + nmLen (s.data.toList.drop m)) :
  k + nmLen (s.data.toList.drop k) = (m + 1) + nmLen (s.data.toList.drop (m + 1)) := by
 rw [Qb s m h, Qpa hw] at hh; omega
theorem Qri {s : ByteArray} {k m : Nat} (h : m + 1 < s.size) (hd : bv s[m] = 46) (hl : isL (bv s[m + 1]) = true) (hh : k + nmLen (s.data.toList.drop k) = m + nmLen (s.data.toList.drop m)) :
  k + nmLen (s.data.toList.drop k) = (m + 2) + nmLen (s.data.toList.drop (m + 2)) := by
 have e : s[m] = 46 := (Qhz (k := 46) (by omega)).1 hd
 have e2 : s.data.toList.drop m = 46 :: s[m + 1] :: s.data.toList.drop (m + 2) := by rw [Qb s m (by omega), Qb s (m + 1) h, e]
 rw [e2, Qrg hl] at hh
 omega
theorem Qdq {s : ByteArray} {k m : Nat} (h : ∀ hm : m < s.size, inW (bv s[m]) = false) (h2 : ∀ (hlt : m + 1 < s.size), bv (s[m]'(by omega)) = 46 → isL (bv s[m + 1]) = false) (hh : k + nmLen (s.data.toList.drop k) = m + nmLen (s.data.toList.drop m)) :
  k + nmLen (s.data.toList.drop k) = m := by
 by_cases hm : m < s.size
 ·
  rw [Qb s m hm, Qxq (h hm)] at hh
  · exact hh
  intro d u hd hc
  by_cases hlt : m + 1 < s.size
  ·
   rw [Qb s (m + 1) hlt] at hd
   cases hd
   exact h2 hlt (by rw [hc]; rfl)
  rw [Qdn s (m + 1) (by omega)] at hd
  cases hd
 rw [Qdn s m (by omega)] at hh
 exact hh

theorem Qp (s : ByteArray) (k : Nat) (hk : k ≤ s.size) (hs : s.size ≤ 140737488355328) (w : World) :
  Calls Tryz.prog 83 #[.string s, .int .i64 (k : Int)] w fun e w' => e = .returned (.int .i64 ((k + nmLen (s.data.toList.drop k) : Nat) : Int)) ∧ w' = w := by
 go_enter Tryz.func83, Tryz.ntmps83
 go_wp2
 refine wp_scope_jumps 0 (fun a' w' => w' = w ∧ ∃ (m : Nat) (u5 u6 u7 u8 u9 u10 u11 u12 u13 u14 u15 u16 u17 u18 u19 u20 u21 u22 u23 u24 u25 u26 u27 u28 u29 u30 u31 u32 u33 u34 u35 u36 u37 : Value), a' = { tmps := #[.string s, .int .i64 (m : Int), undef, undef, .int .i64 0, u5, u6, u7, u8, u9, u10, u11, u12, u13, u14, u15, u16, u17, u18, u19, u20, u21, u22, u23, u24, u25, u26, u27, u28, u29, u30, u31, u32, u33, u34, u35, u36, u37], defers := [] } ∧ m ≤ s.size ∧ Hid (k + nmLen (s.data.toList.drop k) = m + nmLen (s.data.toList.drop m))) (fun a' _ => s.size - (intOf (a'.tmps.getD 1 undef)).toNat) rfl ?_ ?_
 ·
  go_wp2
  go_step3
  by_cases hlt : k < s.size
  ·
   cases hw : inW (s[k].toNat : Int) with
   | true =>
    go_wp2_with (first
     | (go_at_call 87; refine (Qba _ _).mono ?_; rintro e w' ⟨rfl, rfl⟩; rw [hw])
     | (go_at_call 54; refine (Qay _ _).mono ?_; rintro e w' ⟨rfl, rfl⟩; rw [hl]))
    go_step3
    refine ⟨rfl, rfl, k + 1, _, _, _, _, _, _, _, _, _, _, _, _, _, _, _, _, _, _, _, _, _, _, _, _, _, _, _, _, _, _, _, _, _, rfl, by omega, hide (Qrh hlt hw rfl)⟩
   | false =>
    by_cases h2 : k + 1 < s.size
    ·
     cases hd : ((s[k].toNat : Int) == 46) with
     | true =>
      cases hl : isL (s[k + 1].toNat : Int) with
      | true =>
       go_wp2_with (first
        | (go_at_call 87; refine (Qba _ _).mono ?_; rintro e w' ⟨rfl, rfl⟩; rw [hw])
        | (go_at_call 54; refine (Qay _ _).mono ?_; rintro e w' ⟨rfl, rfl⟩; rw [hl]))
       go_step3
       refine ⟨rfl, rfl, k + 2, _, _, _, _, _, _, _, _, _, _, _, _, _, _, _, _, _, _, _, _, _, _, _, _, _, _, _, _, _, _, _, _, _, rfl, by omega, hide (Qri h2 (beq_iff_eq.1 hd) hl rfl)⟩
      | false =>
       go_wp2_with (first
        | (go_at_call 87; refine (Qba _ _).mono ?_; rintro e w' ⟨rfl, rfl⟩; rw [hw])
        | (go_at_call 54; refine (Qay _ _).mono ?_; rintro e w' ⟨rfl, rfl⟩; rw [hl]))
       simp only [Exit.jump]
       go_ret
       exact ⟨Qce (by have := Qdq (fun _ => hw) (fun _ _ => hl) rfl; omega), rfl⟩
     | false =>
      go_wp2_with (first
       | (go_at_call 87; refine (Qba _ _).mono ?_; rintro e w' ⟨rfl, rfl⟩; rw [hw])
       | (go_at_call 54; refine (Qay _ _).mono ?_; rintro e w' ⟨rfl, rfl⟩; rw [hl]))
      simp only [Exit.jump]
      go_ret
      exact ⟨Qce (by have := Qdq (fun _ => hw) (fun _ h => absurd h (beq_eq_false_iff_ne.1 hd)) rfl; omega), rfl⟩
    go_wp2_with (first
     | (go_at_call 87; refine (Qba _ _).mono ?_; rintro e w' ⟨rfl, rfl⟩; rw [hw])
     | (go_at_call 54; refine (Qay _ _).mono ?_; rintro e w' ⟨rfl, rfl⟩; rw [hl]))
    simp only [Exit.jump]
    go_ret
    exact ⟨Qce (by have := Qdq (fun _ => hw) (fun h => absurd h h2) rfl; omega), rfl⟩
  go_wp2
  simp only [Exit.jump]
  go_ret
  exact ⟨Qce (by have := Qdq (fun h => absurd h hlt) (fun h => absurd (Nat.lt_of_succ_lt h) hlt) rfl; omega), rfl⟩
 rintro a' w' ⟨rfl, m, u5, u6, u7, u8, u9, u10, u11, u12, u13, u14, u15, u16, u17, u18, u19, u20, u21, u22, u23, u24, u25, u26, u27, u28, u29, u30, u31, u32, u33, u34, u35, u36, u37, rfl, hm, HH⟩
 by_cases hlt : m < s.size
 ·
  cases hw : inW (s[m].toNat : Int) with
  | true =>
   go_wp2_with (first
    | (go_at_call 87; refine (Qba _ _).mono ?_; rintro e w' ⟨rfl, rfl⟩; rw [hw])
    | (go_at_call 54; refine (Qay _ _).mono ?_; rintro e w' ⟨rfl, rfl⟩; rw [hl]))
   go_step3
   refine ⟨rfl, ⟨rfl, m + 1, _, _, _, _, _, _, _, _, _, _, _, _, _, _, _, _, _, _, _, _, _, _, _, _, _, _, _, _, _, _, _, _, _, rfl, by omega, hide (Qrh hlt hw (Qa HH))⟩, ?_⟩
   simp [intOf]
   omega
  | false =>
   by_cases h2 : m + 1 < s.size
   ·
    cases hd : ((s[m].toNat : Int) == 46) with
    | true =>
     cases hl : isL (s[m + 1].toNat : Int) with
     | true =>
      go_wp2_with (first
       | (go_at_call 87; refine (Qba _ _).mono ?_; rintro e w' ⟨rfl, rfl⟩; rw [hw])
       | (go_at_call 54; refine (Qay _ _).mono ?_; rintro e w' ⟨rfl, rfl⟩; rw [hl]))
      go_step3
      refine ⟨rfl, ⟨rfl, m + 2, _, _, _, _, _, _, _, _, _, _, _, _, _, _, _, _, _, _, _, _, _, _, _, _, _, _, _, _, _, _, _, _, _, rfl, by omega, hide (Qri h2 (beq_iff_eq.1 hd) hl (Qa HH))⟩, ?_⟩
      simp [intOf]
      omega
     | false =>
      go_wp2_with (first
       | (go_at_call 87; refine (Qba _ _).mono ?_; rintro e w' ⟨rfl, rfl⟩; rw [hw])
       | (go_at_call 54; refine (Qay _ _).mono ?_; rintro e w' ⟨rfl, rfl⟩; rw [hl]))
      simp only [Exit.jump]
      go_ret
      exact ⟨Qce (by have := Qdq (fun _ => hw) (fun _ _ => hl) (Qa HH); omega), rfl⟩
    | false =>
     go_wp2_with (first
      | (go_at_call 87; refine (Qba _ _).mono ?_; rintro e w' ⟨rfl, rfl⟩; rw [hw])
      | (go_at_call 54; refine (Qay _ _).mono ?_; rintro e w' ⟨rfl, rfl⟩; rw [hl]))
     simp only [Exit.jump]
     go_ret
     exact ⟨Qce (by have := Qdq (fun _ => hw) (fun _ h => absurd h (beq_eq_false_iff_ne.1 hd)) (Qa HH); omega), rfl⟩
   go_wp2_with (first
    | (go_at_call 87; refine (Qba _ _).mono ?_; rintro e w' ⟨rfl, rfl⟩; rw [hw])
    | (go_at_call 54; refine (Qay _ _).mono ?_; rintro e w' ⟨rfl, rfl⟩; rw [hl]))
   simp only [Exit.jump]
   go_ret
   exact ⟨Qce (by have := Qdq (fun _ => hw) (fun h => absurd h h2) (Qa HH); omega), rfl⟩
 go_wp2
 simp only [Exit.jump]
 go_ret
 exact ⟨Qce (by have := Qdq (fun h => absurd h hlt) (fun h => absurd (Nat.lt_of_succ_lt h) hlt) (Qa HH); omega), rfl⟩

theorem dcn_at {s : ByteArray} {k m : Nat} (h : m < s.size) (hd : isD (bv s[m]) = true) (hh : k + dcn (s.data.toList.drop k) = m + dcn (s.data.toList.drop m)) :
  k + dcn (s.data.toList.drop k) = (m + 1) + dcn (s.data.toList.drop (m + 1)) := by
 rw [Qb s m h] at hh
 simp only [dcn, hd, if_pos] at hh
 omega
theorem Quz {s : ByteArray} {k m : Nat} (h : ∀ hm : m < s.size, isD (bv s[m]) = false) (hh : k + dcn (s.data.toList.drop k) = m + dcn (s.data.toList.drop m)) :
  k + dcn (s.data.toList.drop k) = m := by
 by_cases hm : m < s.size
 ·
  rw [Qb s m hm] at hh
  simp only [dcn, h hm] at hh
  simpa using hh
 rw [Qdn s m (by omega)] at hh
 exact hh
theorem dg_zero {s : ByteArray} {k : Nat} (h : k < s.size) (h0 : bv s[k] = 48) : dgLen (s.data.toList.drop k) = 1 := by
 have e : s[k] = 48 := (Qhz (k := 48) (by omega)).1 h0
 rw [Qb s k h, Qfw, if_pos e]
theorem Jac {s : ByteArray} {k : Nat} (h : k < s.size) (h0 : ¬ bv s[k] = 48) : dgLen (s.data.toList.drop k) = dcn (s.data.toList.drop k) := by
 rw [Qb s k h, Qfw, if_neg]
 intro e
 exact h0 (by rw [e]; rfl)

theorem Qkv (s : ByteArray) (k : Nat) (hk : k < s.size) (hs : s.size ≤ 140737488355328) (w : World) :
  Calls Tryz.prog 86 #[.string s, .int .i64 (k : Int)] w fun e w' => e = .returned (.int .i64 ((k + dgLen (s.data.toList.drop k) : Nat) : Int)) ∧ w' = w := by
 cases h0 : ((s[k].toNat : Int) == 48) with
 | true =>
  have H := hide (dg_zero hk (beq_iff_eq.1 h0))
  go_enter Tryz.func86, Tryz.ntmps86
  go_wp2
  go_ret
  exact ⟨Qce (by have := Qa H; omega), rfl⟩
 | false =>
  have H := hide (Jac hk (beq_eq_false_iff_ne.1 h0))
  go_enter Tryz.func86, Tryz.ntmps86
  go_wp2
  go_loop [1] (fun i => ∃ m : Nat, m ≤ s.size ∧ i = .int .i64 (m : Int) ∧ Hid (k + dcn (s.data.toList.drop k) = m + dcn (s.data.toList.drop m))) (fun i => s.size - (intOf i).toNat)
  case atStart => exact ⟨k, by omega, rfl, hide rfl⟩
  obtain ⟨m, hm, rfl, HH⟩ := hrel
  by_cases hlt : m < s.size
  ·
   cases hd : isD (s[m].toNat : Int) with
   | true =>
    go_wp2_with (go_at_call 56; refine (Qcq _ _).mono ?_; rintro e w' ⟨rfl, rfl⟩; rw [hd])
    go_round
    case rel => exact ⟨m + 1, by omega, by go_num, hide (dcn_at hlt hd (Qa HH))⟩
    case measure => simp [intOf]; omega
   | false =>
    go_wp2_with (go_at_call 56; refine (Qcq _ _).mono ?_; rintro e w' ⟨rfl, rfl⟩; rw [hd])
    go_ret
    exact ⟨Qce (by have := Qa H; have := Quz (fun _ => hd) (Qa HH); omega), rfl⟩
  go_wp2
  go_ret
  exact ⟨Qce (by have := Qa H; have := Quz (fun h => absurd h hlt) (Qa HH); omega), rfl⟩
end
section
open Go.RowKit
def escI (n : Int) : Int × Bool := if n = 34 ∨ n = 92 then (n, true) else if n = 110 then (10, true) else if n = 116 then (9, true) else (0, false)
def escR : Txt → Int × Bool
 | [] => (0, false)
 | c :: _ => escI (bv c)
theorem Qgg {a : Int} {b : Bool} {p : Int × Bool} (h : p = (a, b)) : Ending.returned (.tuple #[.int .u8 a, .bool b]) = .returned (.tuple #[.int .u8 p.1, .bool p.2]) := by subst h; rfl
theorem Qqs {c b : UInt8} (h : esc c = some b) : escI (bv c) = (bv b, true) := by
 unfold esc at h
 split at h
 ·
  rename_i h1
  cases h
  unfold escI
  rw [if_pos]
  rcases h1 with rfl | rfl
  · exact .inl rfl
  · exact .inr rfl
 split at h
 · rename_i h2; subst h2; cases h; rfl
 split at h
 · rename_i h3; subst h3; cases h; rfl
 · cases h
theorem Jaf {c : UInt8} (h : esc c = none) : escI (bv c) = (0, false) := by
 unfold esc at h
 split at h
 · cases h
 rename_i h1
 split at h
 · cases h
 rename_i h2
 split at h
 · cases h
 rename_i h3
 unfold escI
 rw [if_neg, if_neg, if_neg]
 · exact fun e => h3 ((Qhz (k := 116) (by omega)).1 e)
 · exact fun e => h2 ((Qhz (k := 110) (by omega)).1 e)
 rintro (e | e)
 · exact h1 (.inl ((Qhz (k := 34) (by omega)).1 e))
 · exact h1 (.inr ((Qhz (k := 92) (by omega)).1 e))

theorem Qos (s : ByteArray) (hs : s.size ≤ 140737488355328) (w : World) :
  Calls Tryz.prog 89 #[.string s] w fun e w' => e = .returned (.tuple #[.int .u8 (escR s.data.toList).1, .bool (escR s.data.toList).2]) ∧ w' = w := by
 by_cases h0 : 0 < s.size
 ·
  have H := hide (show escR s.data.toList = escI (s[0].toNat : Int) by
   have := Qb s 0 h0
   rw [List.drop_zero] at this
   rw [this]; rfl)
  have hne : s.toList.isEmpty = false := by
   have := Qb s 0 h0
   rw [List.drop_zero] at this
   rw [Lib.toList_data, this]; rfl
  cases e1 : ((s[0].toNat : Int) == 34) with
  | true =>
   go_enter Tryz.func89, Tryz.ntmps89
   go_wp2
   go_ret2
   refine ⟨Qgg ?_, rfl⟩
   rw [Qa H]
   unfold escI
   rw [if_pos (.inl (beq_iff_eq.1 e1))]
  | false =>
   have n1 := beq_eq_false_iff_ne.1 e1
   cases e2 : ((s[0].toNat : Int) == 92) with
   | true =>
    go_enter Tryz.func89, Tryz.ntmps89
    go_wp2
    go_ret2
    refine ⟨Qgg ?_, rfl⟩
    rw [Qa H]
    unfold escI
    rw [if_pos (.inr (beq_iff_eq.1 e2))]
   | false =>
    have n2 := beq_eq_false_iff_ne.1 e2
    cases e3 : ((s[0].toNat : Int) == 110) with
    | true =>
     go_enter Tryz.func89, Tryz.ntmps89
     go_wp2
     go_ret2
     refine ⟨Qgg ?_, rfl⟩
     rw [Qa H]
     unfold escI
     rw [if_neg (by omega), if_pos (beq_iff_eq.1 e3)]
    | false =>
     have n3 := beq_eq_false_iff_ne.1 e3
     cases e4 : ((s[0].toNat : Int) == 116) with
     | true =>
      go_enter Tryz.func89, Tryz.ntmps89
      go_wp2
      go_ret2
      refine ⟨Qgg ?_, rfl⟩
      rw [Qa H]
      unfold escI
      rw [if_neg (by omega), if_neg n3, if_pos (beq_iff_eq.1 e4)]
     | false =>
      have n4 := beq_eq_false_iff_ne.1 e4
      go_enter Tryz.func89, Tryz.ntmps89
      go_wp2
      go_ret2
      refine ⟨Qgg ?_, rfl⟩
      rw [Qa H]
      unfold escI
      rw [if_neg (by omega), if_neg n3, if_neg n4]
 have e : s = ⟨#[]⟩ := ByteArray.ext (Array.eq_empty_of_size_eq_zero (by have : s.size = s.data.size := rfl; omega))
 subst e
 go_enter Tryz.func89, Tryz.ntmps89
 go_wp2
 go_ret2
 exact ⟨rfl, rfl⟩

def wdAt (s : ByteArray) (i n : Nat) : Nat := if n = 0 then wdLen (s.data.toList.drop i) else n + wcn (s.data.toList.drop (i + n))
end
end Go.Proofs.YtccehgfecaamoaaGreatDoor
