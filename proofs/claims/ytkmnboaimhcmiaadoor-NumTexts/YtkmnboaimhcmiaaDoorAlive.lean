/- Walks of num.Text and of the probe that stands in each statement: the probe answers true. -/
import Derived.Test.YtkmnboaimhcmiaaDoorArith
import Derived.Test.YtkmnboaimhcmiaaDoorShelf
import Derived.Lib.AppendIntMem
namespace Go.Proofs.YtkmnboaimhcmiaaDoor
open Go.ChangeShapes Go.WideShapes Go.ChangeAt Go.RowKit

set_option maxHeartbeats 400000 in
theorem text_any (n : Int) (hn : Fits n) (w : World) (htab : Lib.TabIs Tryd.prog w "internal/strconv.uint64pow10" .u64 Lib.pow10Tab) :
    Calls Tryd.prog 27 #[.int .i64 n] w fun e w' => e = .returned (.string ⟨(Lib.itoa n).toArray⟩) ∧ Below w.heap.size w w' := by
  go_enter Tryd.func27, Tryd.ntmps27
  go_wp2_with (go_at_call 34; refine (Tryd.strconv_Itoa n hn.1 hn.2 _ htab).mono ?_; rintro e w' ⟨rfl, k, os, rfl⟩)
  go_ret
  exact ⟨rfl, Lib.below_grow _ _ (Nat.le_refl _) _ _⟩

theorem fits_of {n : Int} (h : -9223372036854775808 ≤ n ∧ n ≤ 9223372036854775807) : Fits n := h

theorem add23 (w : World) : Calls Tryd.prog 9 #[.int .i64 2, .int .i64 3] w fun e w' => e = .returned (.tuple #[.int .i64 5, .int .i64 0]) ∧ w' = w :=
  add_any 2 3 (fits_of (by omega)) (fits_of (by omega)) w
theorem addmax (w : World) : Calls Tryd.prog 9 #[.int .i64 9223372036854775807, .int .i64 1] w fun e w' => e = .returned (.tuple #[.int .i64 0, .int .i64 8]) ∧ w' = w :=
  add_any 9223372036854775807 1 (fits_of (by omega)) (fits_of (by omega)) w
theorem itoa70 : Lib.itoa (-70) = [45, 55, 48] := by kernel_rfl
theorem text70 (w : World) (htab : Lib.TabIs Tryd.prog w "internal/strconv.uint64pow10" .u64 Lib.pow10Tab) :
    Calls Tryd.prog 27 #[.int .i64 (-70)] w fun e w' => e = .returned (.string ⟨#[45, 55, 48]⟩) ∧ Below w.heap.size w w' := by
  have h := text_any (-70) (fits_of (by omega)) w htab
  rw [itoa70] at h
  exact h

set_option maxHeartbeats 400000 in
theorem alive_any (w : World) (htab : Lib.TabIs Tryd.prog w "internal/strconv.uint64pow10" .u64 Lib.pow10Tab) :
    Calls Tryd.prog 20 #[] w fun e w' => e = .returned (.bool true) ∧ Below w.heap.size w w' := by
  go_enter Tryd.func20, Tryd.ntmps20
  go_wp2_with fail
  refine (add23 _).mono ?_
  rintro e w' ⟨rfl, rfl⟩
  go_wp2_with fail
  refine (addmax _).mono ?_
  rintro e w' ⟨rfl, rfl⟩
  go_wp2_with fail
  refine (text70 _ htab).mono ?_
  rintro e w1 ⟨rfl, hb⟩
  go_wp2
  go_ret
  exact ⟨rfl, hb⟩
end Go.Proofs.YtkmnboaimhcmiaaDoor
