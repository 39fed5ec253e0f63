/- Plain functions of values: which may be, how many parts they have, how two stand, what text they have. -/
import Derived.Test.YtbfkcfhkccicoaaDoorVal
namespace Go.Proofs.YtbfkcfhkccicoaaDoor
open Go.RowKit

def allTo (f : Nat → Bool) : Nat → Bool
  | 0 => true
  | n + 1 => allTo f n && f n
def sumTo (f : Nat → Nat) : Nat → Nat
  | 0 => 0
  | n + 1 => sumTo f n + f n

theorem allTo_iff (f : Nat → Bool) (n : Nat) : allTo f n = true ↔ ∀ i, i < n → f i = true := by
  induction n with
  | zero => simp [allTo]
  | succ n ih =>
    simp only [allTo, Bool.and_eq_true, ih]
    constructor
    · rintro ⟨h1, h2⟩ i hi
      rcases Nat.lt_succ_iff_lt_or_eq.1 hi with h | rfl
      · exact h1 i h
      · exact h2
    · exact fun h => ⟨fun i hi => h i (by omega), h n (by omega)⟩
theorem allTo_bad {f : Nat → Bool} {n i : Nat} (hi : i < n) (h : f i = false) : allTo f n = false := by
  rw [Bool.eq_false_iff]
  intro e
  have := (allTo_iff f n).1 e i hi
  rw [h] at this
  cases this
theorem sumTo_mono {f : Nat → Nat} {i n : Nat} (h : i ≤ n) : sumTo f i ≤ sumTo f n := by
  induction n with
  | zero => obtain rfl : i = 0 := by omega
            exact Nat.le_refl _
  | succ n ih =>
    by_cases e : i = n + 1
    · subst e; exact Nat.le_refl _
    · exact Nat.le_trans (ih (by omega)) (Nat.le_add_right _ _)

/-- Of a byte. -/
def dg (n : Int) : Bool := decide (48 ≤ n) && decide (n ≤ 57)
def lt (n : Int) : Bool := decide (65 ≤ n) && decide (n ≤ 90) || decide (97 ≤ n) && decide (n ≤ 122)
def rlt (n : Int) : Bool := n == 95 || decide (97 ≤ n) && decide (n ≤ 122) || decide (65 ≤ n) && decide (n ≤ 90)
/-- May a byte stand at a place of a word. -/
def wch (i : Nat) (n : Int) : Bool := lt n || n == 95 || (i != 0 && dg n)
def chAt (s : ByteArray) (i : Nat) : Int := ((s.data[i]?.getD 0).toNat : Int)
def isWd (s : ByteArray) : Bool := decide (1 ≤ s.size) && decide (s.size ≤ 64) && allTo (fun i => wch i (chAt s i)) s.size

theorem chAt_eq {s : ByteArray} {k : Nat} (h : k < s.size) : chAt s k = (s[k].toNat : Int) := by
  unfold chAt
  rw [Array.getElem?_eq_getElem h]
  rfl

namespace V
def size : V → Nat
  | none => 1
  | mk _ _ _ _ l _ f => 1 + sumTo (fun i => (f i).size) l
def may : V → Nat → Bool
  | none, _ => false
  | mk k n s _ l _ f, d =>
    if k = 1 then decide (s.size = 0) && decide (l = 0)
    else if k = 2 then decide (n = 0) && decide (l = 0) && decide (s.size ≤ 65536)
    else decide (k = 3) && decide (0 < d) && decide (n = 0) && isWd s && decide (l ≤ 8) && allTo (fun i => (f i).may (d - 1)) l
/-- May a value be. -/
def right (v : V) : Bool := v.may 32 && decide (v.size ≤ 1024)

theorem size_eq (v : V) : v.size = 1 + sumTo (fun i => (v.kid i).size) v.len := by cases v <;> rfl
theorem may_eq (v : V) (d : Nat) : v.may d = (if v.kind = 1 then decide (v.str.size = 0) && decide (v.len = 0)
    else if v.kind = 2 then decide (v.num = 0) && decide (v.len = 0) && decide (v.str.size ≤ 65536)
    else decide (v.kind = 3) && decide (0 < d) && decide (v.num = 0) && isWd v.str && decide (v.len ≤ 8) && allTo (fun i => (v.kid i).may (d - 1)) v.len) := by
  cases v <;> rfl
theorem size_pos (v : V) : 1 ≤ v.size := by rw [size_eq]; omega
end V
end Go.Proofs.YtbfkcfhkccicoaaDoor
