/- A slice of numbers in memory, and what later worlds leave of it. -/
import Derived.Test.YthcljhfankooaabGreatChecked
import Derived.Test.YthcljhfankooaabGreatBMath
import Derived.WalkKit
import Derived.BigQuiet
import Derived.Deep.QuietTactic




namespace Go.Proofs.YthcljhfankooaabGreat
open Go.RowKit

theorem hide {p : Prop} (h : p) : Hid p := h
theorem unhide {p : Prop} (h : Hid p) : p := h.out
theorem ret_int {k : IntKind} {a b : Int} (h : a = b) : Ending.returned (.int k a) = .returned (.int k b) := by rw [h]
theorem ret_bool {a b : Bool} (h : a = b) : Ending.returned (.bool a) = .returned (.bool b) := by rw [h]

theorem below_drewN {B : Nat} {a w : World} (h : Below B a w) (n : Nat) : Below B a (w.drewN n) := h.trans ⟨rfl, rfl, rfl, Nat.le_refl _, fun _ _ => rfl⟩

/-- A slice whose numbers are these, in blocks below B. -/
def Ints (B : Nat) (w : World) (v : Value) (l : List Int) : Prop :=
  ∃ (a : Option Addr) (cap : Nat), v = .slice a l.length cap ∧ l.length ≤ cap ∧ cap ≤ 9223372036854775807 ∧
    ∀ j x, l[j]? = some x → ∃ b off, a = some ⟨b, off, none⟩ ∧ b < B ∧ w.cell? ⟨b, off + j, none⟩ = some (.int .i64 x)

theorem Ints.below {B : Nat} {w w' : World} {v : Value} {l : List Int} (h : Ints B w v l) {C : Nat} (hb : Below C w w') (hC : B ≤ C) : Ints B w' v l := by
  obtain ⟨a, cap, h1, h2, h3, h4⟩ := h
  refine ⟨a, cap, h1, h2, h3, fun j x hj => ?_⟩
  obtain ⟨b, off, e, hB, hc⟩ := h4 j x hj
  exact ⟨b, off, e, hB, (hb.cell (p := ⟨b, off + j, none⟩) (show b < C by omega)).trans hc⟩
theorem Ints.mono {B C : Nat} {w : World} {v : Value} {l : List Int} (h : Ints B w v l) (hC : B ≤ C) : Ints C w v l := by
  obtain ⟨a, cap, h1, h2, h3, h4⟩ := h
  refine ⟨a, cap, h1, h2, h3, fun j x hj => ?_⟩
  obtain ⟨b, off, e, hB, hc⟩ := h4 j x hj
  exact ⟨b, off, e, by omega, hc⟩
theorem Ints.nil (B : Nat) (w : World) : Ints B w (.slice none 0 0) [] := ⟨none, 0, rfl, by simp, by omega, fun j x h => by simp at h⟩
end Go.Proofs.YthcljhfankooaabGreat
