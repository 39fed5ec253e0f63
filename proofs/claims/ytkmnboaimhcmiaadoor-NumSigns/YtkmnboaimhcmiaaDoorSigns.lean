/- Walks of num.Op and num.Cmp, and of the document's: each returns what the plain function of the sign says. -/
import Derived.Test.YtkmnboaimhcmiaaDoorArith
import Derived.Test.YtkmnboaimhcmiaaDoorSignMath
import Derived.Handy
import Derived.Laws.EntriesVeiled
namespace Go.Proofs.YtkmnboaimhcmiaaDoor
open Go.ChangeShapes Go.WideShapes Go.ChangeAt Go.RowKit

def signBox : Array Value := #[.string ⟨#[43]⟩, .func (.func 9) #[] #[], .string ⟨#[45]⟩, .func (.func 12) #[] #[], .string ⟨#[42]⟩, .func (.func 14) #[] #[], .string ⟨#[47]⟩, .func (.func 16) #[] #[], .string ⟨#[37]⟩, .func (.func 18) #[] #[]]
set_option maxHeartbeats 1000000 in
theorem ops_any (w : World) :
    Calls Tryd.prog 30 #[] w fun e w' => e = .returned (.agg #[.string ⟨#[43]⟩, .func (.func 9) #[] #[], .string ⟨#[45]⟩, .func (.func 12) #[] #[], .string ⟨#[42]⟩, .func (.func 14) #[] #[], .string ⟨#[47]⟩, .func (.func 16) #[] #[], .string ⟨#[37]⟩, .func (.func 18) #[] #[]]) ∧ w' = w.alloc (.cells signBox 45) := by
  go_enter Tryd.func30, Tryd.ntmps30
  go_wp2
  exact bodyPost_ret (v := .agg #[.string ⟨#[43]⟩, .func (.func 9) #[] #[], .string ⟨#[45]⟩, .func (.func 12) #[] #[], .string ⟨#[42]⟩, .func (.func 14) #[] #[], .string ⟨#[47]⟩, .func (.func 16) #[] #[], .string ⟨#[37]⟩, .func (.func 18) #[] #[]]) (by simp [results, Tryd.results30, go_sem]) rfl ⟨rfl, rfl⟩
def cmpBox : Array Value := #[.string ⟨#[61]⟩, .func (.func 35) #[] #[], .string ⟨#[33, 61]⟩, .func (.func 36) #[] #[], .string ⟨#[60]⟩, .func (.func 37) #[] #[], .string ⟨#[60, 61]⟩, .func (.func 38) #[] #[], .string ⟨#[62]⟩, .func (.func 39) #[] #[], .string ⟨#[62, 61]⟩, .func (.func 40) #[] #[]]
set_option maxHeartbeats 1000000 in
theorem cmps_any (w : World) :
    Calls Tryd.prog 31 #[] w fun e w' => e = .returned (.agg #[.string ⟨#[61]⟩, .func (.func 35) #[] #[], .string ⟨#[33, 61]⟩, .func (.func 36) #[] #[], .string ⟨#[60]⟩, .func (.func 37) #[] #[], .string ⟨#[60, 61]⟩, .func (.func 38) #[] #[], .string ⟨#[62]⟩, .func (.func 39) #[] #[], .string ⟨#[62, 61]⟩, .func (.func 40) #[] #[]]) ∧ w' = w.alloc (.cells cmpBox 49) := by
  go_enter Tryd.func31, Tryd.ntmps31
  go_wp2
  exact bodyPost_ret (v := .agg #[.string ⟨#[61]⟩, .func (.func 35) #[] #[], .string ⟨#[33, 61]⟩, .func (.func 36) #[] #[], .string ⟨#[60]⟩, .func (.func 37) #[] #[], .string ⟨#[60, 61]⟩, .func (.func 38) #[] #[], .string ⟨#[62]⟩, .func (.func 39) #[] #[], .string ⟨#[62, 61]⟩, .func (.func 40) #[] #[]]) (by simp [results, Tryd.results31, go_sem]) rfl ⟨rfl, rfl⟩

theorem opIdx0 (w : World) : (Instr.index 45 (.agg #[.string ⟨#[43]⟩, .func (.func 9) #[] #[], .string ⟨#[45]⟩, .func (.func 12) #[] #[], .string ⟨#[42]⟩, .func (.func 14) #[] #[], .string ⟨#[47]⟩, .func (.func 16) #[] #[], .string ⟨#[37]⟩, .func (.func 18) #[] #[]]) (.int .i64 0)).run Tryd.prog w = .ok (.agg #[.string ⟨#[43]⟩, .func (.func 9) #[] #[]]) w := by kernel_rfl
theorem opIdx1 (w : World) : (Instr.index 45 (.agg #[.string ⟨#[43]⟩, .func (.func 9) #[] #[], .string ⟨#[45]⟩, .func (.func 12) #[] #[], .string ⟨#[42]⟩, .func (.func 14) #[] #[], .string ⟨#[47]⟩, .func (.func 16) #[] #[], .string ⟨#[37]⟩, .func (.func 18) #[] #[]]) (.int .i64 1)).run Tryd.prog w = .ok (.agg #[.string ⟨#[45]⟩, .func (.func 12) #[] #[]]) w := by kernel_rfl
theorem opIdx2 (w : World) : (Instr.index 45 (.agg #[.string ⟨#[43]⟩, .func (.func 9) #[] #[], .string ⟨#[45]⟩, .func (.func 12) #[] #[], .string ⟨#[42]⟩, .func (.func 14) #[] #[], .string ⟨#[47]⟩, .func (.func 16) #[] #[], .string ⟨#[37]⟩, .func (.func 18) #[] #[]]) (.int .i64 2)).run Tryd.prog w = .ok (.agg #[.string ⟨#[42]⟩, .func (.func 14) #[] #[]]) w := by kernel_rfl
theorem opIdx3 (w : World) : (Instr.index 45 (.agg #[.string ⟨#[43]⟩, .func (.func 9) #[] #[], .string ⟨#[45]⟩, .func (.func 12) #[] #[], .string ⟨#[42]⟩, .func (.func 14) #[] #[], .string ⟨#[47]⟩, .func (.func 16) #[] #[], .string ⟨#[37]⟩, .func (.func 18) #[] #[]]) (.int .i64 3)).run Tryd.prog w = .ok (.agg #[.string ⟨#[47]⟩, .func (.func 16) #[] #[]]) w := by kernel_rfl
theorem opIdx4 (w : World) : (Instr.index 45 (.agg #[.string ⟨#[43]⟩, .func (.func 9) #[] #[], .string ⟨#[45]⟩, .func (.func 12) #[] #[], .string ⟨#[42]⟩, .func (.func 14) #[] #[], .string ⟨#[47]⟩, .func (.func 16) #[] #[], .string ⟨#[37]⟩, .func (.func 18) #[] #[]]) (.int .i64 4)).run Tryd.prog w = .ok (.agg #[.string ⟨#[37]⟩, .func (.func 18) #[] #[]]) w := by kernel_rfl
theorem cmpIdx0 (w : World) : (Instr.index 49 (.agg #[.string ⟨#[61]⟩, .func (.func 35) #[] #[], .string ⟨#[33, 61]⟩, .func (.func 36) #[] #[], .string ⟨#[60]⟩, .func (.func 37) #[] #[], .string ⟨#[60, 61]⟩, .func (.func 38) #[] #[], .string ⟨#[62]⟩, .func (.func 39) #[] #[], .string ⟨#[62, 61]⟩, .func (.func 40) #[] #[]]) (.int .i64 0)).run Tryd.prog w = .ok (.agg #[.string ⟨#[61]⟩, .func (.func 35) #[] #[]]) w := by kernel_rfl
theorem cmpIdx1 (w : World) : (Instr.index 49 (.agg #[.string ⟨#[61]⟩, .func (.func 35) #[] #[], .string ⟨#[33, 61]⟩, .func (.func 36) #[] #[], .string ⟨#[60]⟩, .func (.func 37) #[] #[], .string ⟨#[60, 61]⟩, .func (.func 38) #[] #[], .string ⟨#[62]⟩, .func (.func 39) #[] #[], .string ⟨#[62, 61]⟩, .func (.func 40) #[] #[]]) (.int .i64 1)).run Tryd.prog w = .ok (.agg #[.string ⟨#[33, 61]⟩, .func (.func 36) #[] #[]]) w := by kernel_rfl
theorem cmpIdx2 (w : World) : (Instr.index 49 (.agg #[.string ⟨#[61]⟩, .func (.func 35) #[] #[], .string ⟨#[33, 61]⟩, .func (.func 36) #[] #[], .string ⟨#[60]⟩, .func (.func 37) #[] #[], .string ⟨#[60, 61]⟩, .func (.func 38) #[] #[], .string ⟨#[62]⟩, .func (.func 39) #[] #[], .string ⟨#[62, 61]⟩, .func (.func 40) #[] #[]]) (.int .i64 2)).run Tryd.prog w = .ok (.agg #[.string ⟨#[60]⟩, .func (.func 37) #[] #[]]) w := by kernel_rfl
theorem cmpIdx3 (w : World) : (Instr.index 49 (.agg #[.string ⟨#[61]⟩, .func (.func 35) #[] #[], .string ⟨#[33, 61]⟩, .func (.func 36) #[] #[], .string ⟨#[60]⟩, .func (.func 37) #[] #[], .string ⟨#[60, 61]⟩, .func (.func 38) #[] #[], .string ⟨#[62]⟩, .func (.func 39) #[] #[], .string ⟨#[62, 61]⟩, .func (.func 40) #[] #[]]) (.int .i64 3)).run Tryd.prog w = .ok (.agg #[.string ⟨#[60, 61]⟩, .func (.func 38) #[] #[]]) w := by kernel_rfl
theorem cmpIdx4 (w : World) : (Instr.index 49 (.agg #[.string ⟨#[61]⟩, .func (.func 35) #[] #[], .string ⟨#[33, 61]⟩, .func (.func 36) #[] #[], .string ⟨#[60]⟩, .func (.func 37) #[] #[], .string ⟨#[60, 61]⟩, .func (.func 38) #[] #[], .string ⟨#[62]⟩, .func (.func 39) #[] #[], .string ⟨#[62, 61]⟩, .func (.func 40) #[] #[]]) (.int .i64 4)).run Tryd.prog w = .ok (.agg #[.string ⟨#[62]⟩, .func (.func 39) #[] #[]]) w := by kernel_rfl
theorem cmpIdx5 (w : World) : (Instr.index 49 (.agg #[.string ⟨#[61]⟩, .func (.func 35) #[] #[], .string ⟨#[33, 61]⟩, .func (.func 36) #[] #[], .string ⟨#[60]⟩, .func (.func 37) #[] #[], .string ⟨#[60, 61]⟩, .func (.func 38) #[] #[], .string ⟨#[62]⟩, .func (.func 39) #[] #[], .string ⟨#[62, 61]⟩, .func (.func 40) #[] #[]]) (.int .i64 5)).run Tryd.prog w = .ok (.agg #[.string ⟨#[62, 61]⟩, .func (.func 40) #[] #[]]) w := by kernel_rfl

set_option maxHeartbeats 2000000 in
theorem op_any (op : ByteArray) (a b : Int) (ha : Fits a) (hb : Fits b) (w : World) :
    Calls Tryd.prog 21 #[.string op, .int .i64 a, .int .i64 b] w fun e w' => e = .returned (.tuple #[.int .i64 (opP op.toList a b).1, .int .i64 (opP op.toList a b).2]) ∧ Below w.heap.size w w' := by
  have x0 := opIdx0
  have x1 := opIdx1
  have x2 := opIdx2
  have x3 := opIdx3
  have x4 := opIdx4
  go_enter Tryd.func21, Tryd.ntmps21
  go_wp2_with (go_at_call 30; refine (ops_any _).mono ?_; rintro e w' ⟨rfl, rfl⟩)
  refine wp_loop_rounds 6 ?_
  rw [rounds_succ]
  go_wp2_with (go_at_call 9; refine (add_any _ _ ha hb _).mono ?_; rintro e w' ⟨rfl, rfl⟩)
  · go_ret2
    exact ⟨ret2 (opP_at0 ‹_›), by go_grown⟩
  rw [rounds_succ]
  go_wp2_with (go_at_call 12; refine (sub_any _ _ ha hb _).mono ?_; rintro e w' ⟨rfl, rfl⟩)
  · go_ret2
    exact ⟨ret2 (opP_at1 ‹_› ‹_›), by go_grown⟩
  rw [rounds_succ]
  go_wp2_with (go_at_call 14; refine (mul_any _ _ ha hb _).mono ?_; rintro e w' ⟨rfl, rfl⟩)
  · go_ret2
    exact ⟨ret2 (opP_at2 ‹_› ‹_› ‹_›), by go_grown⟩
  rw [rounds_succ]
  go_wp2_with (go_at_call 16; refine (div_any _ _ ha _).mono ?_; rintro e w' ⟨rfl, rfl⟩)
  · go_ret2
    exact ⟨ret2 (opP_at3 ‹_› ‹_› ‹_› ‹_›), by go_grown⟩
  rw [rounds_succ]
  go_wp2_with (go_at_call 18; refine (rem_any _ _ _).mono ?_; rintro e w' ⟨rfl, rfl⟩)
  · go_ret2
    exact ⟨ret2 (opP_at4 ‹_› ‹_› ‹_› ‹_› ‹_›), by go_grown⟩
  rw [rounds_succ]
  go_wp2
  go_ret2
  exact ⟨ret2 (opP_at5 ‹_› ‹_› ‹_› ‹_› ‹_›), by go_grown⟩

set_option maxHeartbeats 2000000 in
theorem cmp_any (op : ByteArray) (a b : Int) (w : World) :
    Calls Tryd.prog 23 #[.string op, .int .i64 a, .int .i64 b] w fun e w' => e = .returned (.tuple #[.bool (cmpP op.toList a b).1, .int .i64 (cmpP op.toList a b).2]) ∧ Below w.heap.size w w' := by
  have x0 := cmpIdx0
  have x1 := cmpIdx1
  have x2 := cmpIdx2
  have x3 := cmpIdx3
  have x4 := cmpIdx4
  have x5 := cmpIdx5
  go_enter Tryd.func23, Tryd.ntmps23
  go_wp2_with (go_at_call 31; refine (cmps_any _).mono ?_; rintro e w' ⟨rfl, rfl⟩)
  refine wp_loop_rounds 7 ?_
  rw [rounds_succ]
  go_wp2
  · go_ret2
    exact ⟨retb (cmpP_at0 ‹_›), by go_grown⟩
  rw [rounds_succ]
  go_wp2
  · go_ret2
    exact ⟨retb (cmpP_at1 ‹_› ‹_›), by go_grown⟩
  rw [rounds_succ]
  go_wp2
  · go_ret2
    exact ⟨retb (cmpP_at2 ‹_› ‹_› ‹_›), by go_grown⟩
  rw [rounds_succ]
  go_wp2
  · go_ret2
    exact ⟨retb (cmpP_at3 ‹_› ‹_› ‹_› ‹_›), by go_grown⟩
  rw [rounds_succ]
  go_wp2
  · go_ret2
    exact ⟨retb (cmpP_at4 ‹_› ‹_› ‹_› ‹_› ‹_›), by go_grown⟩
  rw [rounds_succ]
  go_wp2
  · go_ret2
    exact ⟨retb (cmpP_at5 ‹_› ‹_› ‹_› ‹_› ‹_› ‹_›), by go_grown⟩
  rw [rounds_succ]
  go_wp2
  go_ret2
  exact ⟨retb (cmpP_at6 ‹_› ‹_› ‹_› ‹_› ‹_› ‹_›), by go_grown⟩

end Go.Proofs.YtkmnboaimhcmiaaDoor
