/- What an operator and a comparison by its sign come to, as plain functions. -/
import Derived.Test.YtkmnboaimhcmiaaDoorMath
namespace Go.Proofs.YtkmnboaimhcmiaaDoor
open Go.RowKit

def opP (l : List UInt8) (a b : Int) : Int × Int :=
  if ([43] == l) = true then addP a b else if ([45] == l) = true then subP a b else if ([42] == l) = true then mulP a b else if ([47] == l) = true then divP a b else if ([37] == l) = true then remP a b else (0, 1)

def cmpP (l : List UInt8) (a b : Int) : Bool × Int :=
  if ([61] == l) = true then (a == b, 0) else if ([33, 61] == l) = true then (a != b, 0) else if ([60] == l) = true then (decide (a < b), 0) else if ([60, 61] == l) = true then (decide (a ≤ b), 0) else if ([62] == l) = true then (decide (b < a), 0) else if ([62, 61] == l) = true then (decide (b ≤ a), 0) else (false, 1)

theorem opP_at0 {l : List UInt8} {a b : Int}  (h0 : ([43] == l) = true) : opP l a b = addP a b := by simp [opP, h0]
theorem opP_at1 {l : List UInt8} {a b : Int} (h0 : ([43] == l) = false) (h1 : ([45] == l) = true) : opP l a b = subP a b := by simp [opP, h0, h1]
theorem opP_at2 {l : List UInt8} {a b : Int} (h0 : ([43] == l) = false) (h1 : ([45] == l) = false) (h2 : ([42] == l) = true) : opP l a b = mulP a b := by simp [opP, h0, h1, h2]
theorem opP_at3 {l : List UInt8} {a b : Int} (h0 : ([43] == l) = false) (h1 : ([45] == l) = false) (h2 : ([42] == l) = false) (h3 : ([47] == l) = true) : opP l a b = divP a b := by simp [opP, h0, h1, h2, h3]
theorem opP_at4 {l : List UInt8} {a b : Int} (h0 : ([43] == l) = false) (h1 : ([45] == l) = false) (h2 : ([42] == l) = false) (h3 : ([47] == l) = false) (h4 : ([37] == l) = true) : opP l a b = remP a b := by simp [opP, h0, h1, h2, h3, h4]
theorem opP_at5 {l : List UInt8} {a b : Int} (h0 : ([43] == l) = false) (h1 : ([45] == l) = false) (h2 : ([42] == l) = false) (h3 : ([47] == l) = false) (h4 : ([37] == l) = false) : opP l a b = (0, 1) := by simp [opP, h0, h1, h2, h3, h4]
theorem cmpP_at0 {l : List UInt8} {a b : Int}  (h0 : ([61] == l) = true) : cmpP l a b = (a == b, 0) := by simp [cmpP, h0]
theorem cmpP_at1 {l : List UInt8} {a b : Int} (h0 : ([61] == l) = false) (h1 : ([33, 61] == l) = true) : cmpP l a b = (a != b, 0) := by simp [cmpP, h0, h1]
theorem cmpP_at2 {l : List UInt8} {a b : Int} (h0 : ([61] == l) = false) (h1 : ([33, 61] == l) = false) (h2 : ([60] == l) = true) : cmpP l a b = (decide (a < b), 0) := by simp [cmpP, h0, h1, h2]
theorem cmpP_at3 {l : List UInt8} {a b : Int} (h0 : ([61] == l) = false) (h1 : ([33, 61] == l) = false) (h2 : ([60] == l) = false) (h3 : ([60, 61] == l) = true) : cmpP l a b = (decide (a ≤ b), 0) := by simp [cmpP, h0, h1, h2, h3]
theorem cmpP_at4 {l : List UInt8} {a b : Int} (h0 : ([61] == l) = false) (h1 : ([33, 61] == l) = false) (h2 : ([60] == l) = false) (h3 : ([60, 61] == l) = false) (h4 : ([62] == l) = true) : cmpP l a b = (decide (b < a), 0) := by simp [cmpP, h0, h1, h2, h3, h4]
theorem cmpP_at5 {l : List UInt8} {a b : Int} (h0 : ([61] == l) = false) (h1 : ([33, 61] == l) = false) (h2 : ([60] == l) = false) (h3 : ([60, 61] == l) = false) (h4 : ([62] == l) = false) (h5 : ([62, 61] == l) = true) : cmpP l a b = (decide (b ≤ a), 0) := by simp [cmpP, h0, h1, h2, h3, h4, h5]
theorem cmpP_at6 {l : List UInt8} {a b : Int} (h0 : ([61] == l) = false) (h1 : ([33, 61] == l) = false) (h2 : ([60] == l) = false) (h3 : ([60, 61] == l) = false) (h4 : ([62] == l) = false) (h5 : ([62, 61] == l) = false) : cmpP l a b = (false, 1) := by simp [cmpP, h0, h1, h2, h3, h4, h5]

theorem retb {x : Bool} {e : Int} {p : Bool × Int} (h : p = (x, e)) : Ending.returned (.tuple #[.bool x, .int .i64 e]) = .returned (.tuple #[.bool p.1, .int .i64 p.2]) := by
  subst h; rfl
theorem beq_swap (x y : List UInt8) : (x == y) = (y == x) := by
  by_cases h : x = y
  · rw [h]
  · have h2 : ¬ y = x := fun e => h e.symm
    rw [beq_eq_false_iff_ne.2 h, beq_eq_false_iff_ne.2 h2]
end Go.Proofs.YtkmnboaimhcmiaaDoor
