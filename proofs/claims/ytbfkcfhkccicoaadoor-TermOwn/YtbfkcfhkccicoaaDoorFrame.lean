/- What the listed variables of the rows give a walk, that the program's own start meets the lists, and what a value that came in gives. -/
import Derived.Test.YtbfkcfhkccicoaaDoorRows
import Derived.Test.YtbfkcfhkccicoaaDoorAliveW
import Derived.ProofKit
import Derived.LaidMore
import Derived.OpenShut
import Derived.Stop.Joined
import Derived.Stop.LaidErr
import Derived.Lib.LaidTab
import Derived.Lib.ItoaNum
import Derived.SizedLaws
namespace Go.Proofs.YtbfkcfhkccicoaaDoor
open Go.ChangeShapes Go.WideShapes Go.ChangeAt Go.WideMaps Go.WideElems Go.RowKit

theorem own : ownKnob Tryd.prog.godebug = none := by kernel_rfl
theorem laidOut : laidOutB Tryd.prog = true := by kernel_rfl

/-- The three variables that every row lists. -/
def laid3 {H : Type} : List (String × DataW H) := [("math/bits.deBruijn32tab", Rows.laid_math_bits_deBruijn32tab), ("math/bits.deBruijn64tab", Rows.laid_math_bits_deBruijn64tab), ("internal/strconv.uint64pow10", Rows.laid_internal_strconv_uint64pow10)]

set_option maxRecDepth 100000 in
theorem door (os : Os) (args : Array Value) : laidMetH Tryd.prog laid3 ((World.doorLaid Tryd.prog 106 os).forCall (fun _ _ => 0) ⟨#[], args, []⟩).memory :=
  laidMetH_of_parts3 (fuel := 8) (laidMet_of_run' 8 (by kernel_rfl) (by kernel_rfl)) (by kernel_rfl) (by kernel_rfl)

theorem gPow : Tryd.prog.globalNamed "internal/strconv.uint64pow10" = some 0 := by kernel_rfl
theorem tPow : (Tryd.prog.globals[0]?).map (·.type) = some 119 := by kernel_rfl
theorem cellsTab : Tryd.prog.cellsOf 119 = 20 := by kernel_rfl
theorem cellsU64 : Tryd.prog.cellsOf 112 = 1 := by kernel_rfl
theorem powD : Rows.laid_internal_strconv_uint64pow10 = (Lib.tabData .u64 Lib.pow10Tab : DataW Unit) := by kernel_rfl

theorem tab3 {W : World} (h : laidMetH Tryd.prog laid3 W) : Lib.TabIs Tryd.prog W "internal/strconv.uint64pow10" .u64 Lib.pow10Tab := by
  rw [MakeChecks.laidMetH_plain _ _ _ (by kernel_rfl)] at h
  have h2 : laidMet Tryd.prog (("internal/strconv.uint64pow10", Rows.laid_internal_strconv_uint64pow10) :: []) W := laidMet.tail (laidMet.tail h)
  rw [powD] at h2
  exact Lib.tabIs_of_head gPow tPow Tryd.underlying119 Tryd.underlying112 cellsU64 cellsTab h2

theorem tbl_of {W : World} (h : laidMetH Tryd.prog laid3 W) : Tbl W.heap.size W := by
  refine ⟨tab3 h, fun g hg => ?_⟩
  have ht := tab3 h
  unfold Lib.TabIs World.var? at ht
  rw [hg] at ht
  simp only [Option.bind_some] at ht
  rcases Nat.lt_or_ge g W.heap.size with hl | hl
  · exact hl
  · rw [Array.getElem?_eq_none hl] at ht
    cases ht

set_option maxRecDepth 100000 in
/-- A value that came in. -/
theorem val_of {H : Type} {enc : TypeId × Value → H} {W : World} {r : Reach} {b0 : Nat} {x : Value} {d : DataW H} {p : List MemPlace} (hval : Value.okWide Tryd.prog W r b0 32 x) (h : DataW.Trod enc Tryd.prog W 0 (fun _ => true) true 32 x d p) :
    ∃ v : V, x = v.val ∧ v.At W.heap.size W := by
  obtain ⟨cs, rfl, _⟩ := okWide_struct Tryd.underlying32 hval
  obtain ⟨fuel, hf⟩ := h
  obtain ⟨v, hv, hat⟩ := open_val fuel _ _ hf
  refine ⟨v, ?_, hat⟩
  have : cs.toList = _ := hv
  cases cs
  simp at this
  subst this
  rfl
end Go.Proofs.YtbfkcfhkccicoaaDoor
