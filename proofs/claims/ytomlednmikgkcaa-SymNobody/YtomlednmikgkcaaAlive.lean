/- The probe that stands in each statement: it answers true. -/
import Derived.Test.YtomlednmikgkcaaRef
namespace Go.Proofs.Ytomlednmikgkcaa
open Go.RowKit Go.Maps

theorem Left.below {W W' : World} {base tb hb mb : Nat} {a a' : Option Addr} {cap cap' : Nat} {xs xs' : List ByteArray} (l : Left W W' base tb hb mb a xs xs' a' cap') (h : Tab W base tb hb mb a cap xs) : Below base W W' :=
  l.turn.below h.from_.2.2 (fun k e => (h.mine_lt k e).1)

def tb : ByteArray := ⟨#[98]⟩
def ta : ByteArray := ⟨#[97]⟩
theorem p1 : put [] tb = [tb] ∧ ansN [] tb = 0 ∧ ansE [] tb = 0 := by decide
theorem p2 : put [tb] ta = [tb, ta] ∧ ansN [tb] ta = 1 ∧ ansE [tb] ta = 0 := by decide
theorem p3 : put [tb, ta] tb = [tb, ta] ∧ ansN [tb, ta] tb = 0 ∧ ansE [tb, ta] tb = 0 := by decide
theorem p4 : ahead [tb, ta] 1 0 = true := by kernel_rfl

theorem put1 {W : World} {base tb' hb mb : Nat} {a : Option Addr} {cap : Nat} (h : Tab W base tb' hb mb a cap []) :
    Calls Try.prog 13 #[.pointer (some ⟨tb', 0, none⟩), .string ⟨#[98]⟩] W fun e w' => e = .returned (.tuple #[.int .i64 0, .int .i64 0]) ∧ ∃ a' cap', Left W w' base tb' hb mb a [] [tb] a' cap' := by
  have := put_any h tb (by decide)
  rw [p1.1, p1.2.1, p1.2.2] at this
  exact this
theorem put2 {W : World} {base tb' hb mb : Nat} {a : Option Addr} {cap : Nat} (h : Tab W base tb' hb mb a cap [tb]) :
    Calls Try.prog 13 #[.pointer (some ⟨tb', 0, none⟩), .string ⟨#[97]⟩] W fun e w' => e = .returned (.tuple #[.int .i64 1, .int .i64 0]) ∧ ∃ a' cap', Left W w' base tb' hb mb a [tb] [tb, ta] a' cap' := by
  have := put_any h ta (by decide)
  rw [p2.1, p2.2.1, p2.2.2] at this
  exact this
theorem put3 {W : World} {base tb' hb mb : Nat} {a : Option Addr} {cap : Nat} (h : Tab W base tb' hb mb a cap [tb, ta]) :
    Calls Try.prog 13 #[.pointer (some ⟨tb', 0, none⟩), .string ⟨#[98]⟩] W fun e w' => e = .returned (.tuple #[.int .i64 0, .int .i64 0]) ∧ ∃ a' cap', Left W w' base tb' hb mb a [tb, ta] [tb, ta] a' cap' := by
  have := put_any h tb (by decide)
  rw [p3.1, p3.2.1, p3.2.2] at this
  exact this
theorem less1 {W : World} {base tb' hb mb : Nat} {a : Option Addr} {cap : Nat} (h : Tab W base tb' hb mb a cap [tb, ta]) :
    Calls Try.prog 18 #[.pointer (some ⟨tb', 0, none⟩), .int .i64 1, .int .i64 0] W fun e w' => e = .returned (.bool true) ∧ w' = W := by
  have := less_any h 1 0
  rw [p4] at this
  exact this
theorem len1 {W : World} {base tb' hb mb : Nat} {a : Option Addr} {cap : Nat} (h : Tab W base tb' hb mb a cap [tb, ta]) :
    Calls Try.prog 20 #[.pointer (some ⟨tb', 0, none⟩)] W fun e w' => e = .returned (.int .i64 2) ∧ w' = W := len_any h

set_option maxHeartbeats 1000000 in
theorem alive_any (w : World) : Calls Try.prog 10 #[] w fun e w' => e = .returned (.bool true) ∧ Below w.heap.size w w' := by
  go_enter Try.func10, Try.ntmps10
  go_wp2_with fail
  refine (new_any w).mono ?_
  rintro e w0 ⟨rfl, h0, b0⟩
  go_wp2_with fail
  refine (put1 h0).mono ?_
  rintro e w1 ⟨rfl, a1, cap1, l1⟩
  go_wp2_with fail
  refine (put2 l1.tab).mono ?_
  rintro e w2 ⟨rfl, a2, cap2, l2⟩
  go_wp2_with fail
  refine (put3 l2.tab).mono ?_
  rintro e w3 ⟨rfl, a3, cap3, l3⟩
  have hb := ((b0.trans (l1.below h0)).trans (l2.below l1.tab)).trans (l3.below l2.tab)
  have hl := less1 l3.tab
  have hn := len1 l3.tab
  clear l1 l2 l3 h0 b0
  go_wp2_with (first
    | (go_at_call 18; refine hl.mono ?_; rintro e w' ⟨rfl, rfl⟩)
    | (go_at_call 20; refine hn.mono ?_; rintro e w' ⟨rfl, rfl⟩))
  go_ret
  exact ⟨rfl, hb⟩
end Go.Proofs.Ytomlednmikgkcaa
