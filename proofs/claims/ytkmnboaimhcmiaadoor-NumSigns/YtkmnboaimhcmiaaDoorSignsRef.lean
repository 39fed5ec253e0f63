/- Walks of the document's operators and comparisons by their sign. -/
import Derived.Test.YtkmnboaimhcmiaaDoorArith
import Derived.Test.YtkmnboaimhcmiaaDoorSignMath
namespace Go.Proofs.YtkmnboaimhcmiaaDoor
open Go.ChangeShapes Go.WideShapes Go.ChangeAt Go.RowKit

set_option maxHeartbeats 2000000 in
theorem rop_any (op : ByteArray) (a b : Int) (ha : Fits a) (hb : Fits b) (w : World) :
    Calls Tryd.prog 22 #[.string op, .int .i64 a, .int .i64 b] w fun e w' => e = .returned (.tuple #[.int .i64 (opP op.toList a b).1, .int .i64 (opP op.toList a b).2]) ∧ w' = w := by
  go_enter Tryd.func22, Tryd.ntmps22
  go_wp2_with (first
    | (go_at_call 10; refine (radd_any _ _ ha hb _).mono ?_; rintro e w' ⟨rfl, rfl⟩)
    | (go_at_call 13; refine (rsub_any _ _ ha hb _).mono ?_; rintro e w' ⟨rfl, rfl⟩)
    | (go_at_call 15; refine (rmul_any _ _ ha hb _).mono ?_; rintro e w' ⟨rfl, rfl⟩)
    | (go_at_call 17; refine (rdiv_any _ _ ha _).mono ?_; rintro e w' ⟨rfl, rfl⟩)
    | (go_at_call 19; refine (rrem_any _ _ _).mono ?_; rintro e w' ⟨rfl, rfl⟩))
  · go_ret2
    exact ⟨ret2 (opP_at0 ((beq_swap _ _).trans ‹_›)), rfl⟩
  · go_ret2
    exact ⟨ret2 (opP_at1 ((beq_swap _ _).trans ‹_›) ((beq_swap _ _).trans ‹_›)), rfl⟩
  · go_ret2
    exact ⟨ret2 (opP_at2 ((beq_swap _ _).trans ‹_›) ((beq_swap _ _).trans ‹_›) ((beq_swap _ _).trans ‹_›)), rfl⟩
  · go_ret2
    exact ⟨ret2 (opP_at3 ((beq_swap _ _).trans ‹_›) ((beq_swap _ _).trans ‹_›) ((beq_swap _ _).trans ‹_›) ((beq_swap _ _).trans ‹_›)), rfl⟩
  · go_ret2
    exact ⟨ret2 (opP_at4 ((beq_swap _ _).trans ‹_›) ((beq_swap _ _).trans ‹_›) ((beq_swap _ _).trans ‹_›) ((beq_swap _ _).trans ‹_›) ((beq_swap _ _).trans ‹_›)), rfl⟩
  · go_ret2
    exact ⟨ret2 (opP_at5 ((beq_swap _ _).trans ‹_›) ((beq_swap _ _).trans ‹_›) ((beq_swap _ _).trans ‹_›) ((beq_swap _ _).trans ‹_›) ((beq_swap _ _).trans ‹_›)), rfl⟩

set_option maxHeartbeats 2000000 in
theorem rcmp_any (op : ByteArray) (a b : Int) (w : World) :
    Calls Tryd.prog 24 #[.string op, .int .i64 a, .int .i64 b] w fun e w' => e = .returned (.tuple #[.bool (cmpP op.toList a b).1, .int .i64 (cmpP op.toList a b).2]) ∧ w' = w := by
  go_enter Tryd.func24, Tryd.ntmps24
  go_wp2
  · go_ret2
    exact ⟨retb (cmpP_at0 ((beq_swap _ _).trans ‹_›)), rfl⟩
  · go_ret2
    exact ⟨retb (cmpP_at1 ((beq_swap _ _).trans ‹_›) ((beq_swap _ _).trans ‹_›)), rfl⟩
  · go_ret2
    exact ⟨retb (cmpP_at2 ((beq_swap _ _).trans ‹_›) ((beq_swap _ _).trans ‹_›) ((beq_swap _ _).trans ‹_›)), rfl⟩
  · go_ret2
    exact ⟨retb (cmpP_at3 ((beq_swap _ _).trans ‹_›) ((beq_swap _ _).trans ‹_›) ((beq_swap _ _).trans ‹_›) ((beq_swap _ _).trans ‹_›)), rfl⟩
  · go_ret2
    exact ⟨retb (cmpP_at4 ((beq_swap _ _).trans ‹_›) ((beq_swap _ _).trans ‹_›) ((beq_swap _ _).trans ‹_›) ((beq_swap _ _).trans ‹_›) ((beq_swap _ _).trans ‹_›)), rfl⟩
  · go_ret2
    exact ⟨retb (cmpP_at5 ((beq_swap _ _).trans ‹_›) ((beq_swap _ _).trans ‹_›) ((beq_swap _ _).trans ‹_›) ((beq_swap _ _).trans ‹_›) ((beq_swap _ _).trans ‹_›) ((beq_swap _ _).trans ‹_›)), rfl⟩
  · go_ret2
    exact ⟨retb (cmpP_at6 ((beq_swap _ _).trans ‹_›) ((beq_swap _ _).trans ‹_›) ((beq_swap _ _).trans ‹_›) ((beq_swap _ _).trans ‹_›) ((beq_swap _ _).trans ‹_›) ((beq_swap _ _).trans ‹_›)), rfl⟩
end Go.Proofs.YtkmnboaimhcmiaaDoor
