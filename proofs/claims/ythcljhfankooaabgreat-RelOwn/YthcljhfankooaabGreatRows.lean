/-
  No cell of these rows narrows 'for every input' (looked for: loops, veiled, ifaces, maps, wideKeys, modest, calm, conditions, laid).
  DERIVED. THE GIVEN ROWS OF THIS SEAT. 2 by the template 'for every input the law returns true; each argument reads behind the call as it read before'; 0 by the template 'total and deterministic' (their statements: YthcljhfankooaabGreatTotals.lean).
  GIVEN WITH THE SEED: the statements are not yours to turn. If you find one false, say at which input.
  Laid BY PROGRAM, IN A SANDBOX (cutbox-rows.mjs): the forced cells as the released guide's own fill.sh prints them over the translation e52adea772466bb6… (all of the seat's roots in one cut). By AI agents, Wed Nov 11 2026. No macro, syntax, notation, axiom, sorry.
-/
import Derived.Test.YthcljhfankooaabGreatChecked
import GoSem.Claim
import GoSem.ClaimJoined
import GoSem.ClaimMapViews
import Derived.JoinedTies
import Derived.KernelRfl
namespace Go.Proofs.YthcljhfankooaabGreat
/- THE CELL 'sum', in the pinned program and in every row, IS THE sha256 OF THE DUMP (.gsa) THAT YthcljhfankooaabGreatProg.lean LOADS. Nothing in Lean hashes anything: it is a label: what it is worth is what the hold of that sum in a sandbox is worth. -/
noncomputable def Tryz.pinned : Pinned := { name := "ythcljhfankooaabgreat", sum := "e52adea772466bb61cf0ccfaaa4ae49888ca597817ae2fa1027a52456f12466a", checked := Tryz.checked }
namespace Rows
def none {H : Type} : Left H := { results := [], args := [] }

/-- 'vestrylaw07.RelOwn': WHATEVER THE INPUT: true; the input reads as it did. -/
def relOwnSpec : ChangeSpec := { name := "relOwn", fn := fun _ => fun
  | [d1, d2] => { results := [.lit (.bool true)], args := [d1, d2] }
  | _ => none }
def relOwnRow : OpenClaim := { program := "ythcljhfankooaabgreat", sum := "e52adea772466bb61cf0ccfaaa4ae49888ca597817ae2fa1027a52456f12466a", func := "vestry/vestrylaw07.RelOwn", spec := "relOwn", inPlace := ["math.archTrunc", "math.Float64bits", "math.Float64frombits", "slices.overlaps[[]int]", "slices.overlaps[*vestry/btree.node]"], unfollowed := true, recurses := true, plainKeys := false, apart := false }
def RelOwnSaid : Prop := relOwnRow.holds Tryz.pinned (OpenSpec.ofChange relOwnSpec)

/-- ITS FALSE NEIGHBOUR: 'it returns false'. Refute it at one input. -/
def relOwnWrong : ChangeSpec := { name := "relOwn", fn := fun _ => fun
  | [d1, d2] => { results := [.lit (.bool false)], args := [d1, d2] }
  | _ => none }
def RelOwnWrongFalsely : Prop := relOwnRow.holds Tryz.pinned (OpenSpec.ofChange relOwnWrong)

/-- 'vestrylaw07.RelNobody': WHATEVER THE INPUT: true; the input reads as it did. -/
def relNobodySpec : ChangeSpec := { name := "relNobody", fn := fun _ => fun
  | [d1, d2] => { results := [.lit (.bool true)], args := [d1, d2] }
  | _ => none }
def relNobodyRow : OpenClaim := { program := "ythcljhfankooaabgreat", sum := "e52adea772466bb61cf0ccfaaa4ae49888ca597817ae2fa1027a52456f12466a", func := "vestry/vestrylaw07.RelNobody", spec := "relNobody", inPlace := ["math.archTrunc", "math.Float64bits", "math.Float64frombits", "slices.overlaps[[]int]", "slices.overlaps[*vestry/btree.node]"], unfollowed := true, recurses := true, plainKeys := false, apart := false }
def RelNobodySaid : Prop := relNobodyRow.holds Tryz.pinned (OpenSpec.ofChange relNobodySpec)

/-- ITS FALSE NEIGHBOUR: 'it returns false'. Refute it at one input. -/
def relNobodyWrong : ChangeSpec := { name := "relNobody", fn := fun _ => fun
  | [d1, d2] => { results := [.lit (.bool false)], args := [d1, d2] }
  | _ => none }
def RelNobodyWrongFalsely : Prop := relNobodyRow.holds Tryz.pinned (OpenSpec.ofChange relNobodyWrong)

/- THE SECOND FORM. 'bulk': how many values and letters a reading holds, each counted each time it is reached (what is shared counts as often as it is met; a slice's spare places count too). A statement '..UptoSaid' is the law's where the arguments, and the package variables that the reading takes, are together of bulk at most 1048576: NARROWER than '..Said'. Prove '..Said' where nothing that the law and all that it calls make is longer than what came in: it says more and counts as full. Else prove '..UptoSaid'. A law counts once. -/
mutual
def uptoBulk {H : Type} : DataW H → Nat
  | .lit (.string bytes) => bytes.length + 1
  | .lit _ => 1
  | .nil => 1
  | .ptr d => uptoBulk d + 1
  | .slice elems spare => uptoBulkAll elems + uptoBulkAll spare + 1
  | .agg parts => uptoBulkAll parts + 1
  | .iface _ d => uptoBulk d + 1
  | .map entries => uptoBulkEntries entries + 1
  | .held _ => 1
def uptoBulkAll {H : Type} : List (DataW H) → Nat
  | [] => 0
  | d :: r => uptoBulk d + uptoBulkAll r
def uptoBulkEntries {H : Type} : List (Lit × DataW H) → Nat
  | [] => 0
  | x :: r => uptoBulkEntry x + uptoBulkEntries r
def uptoBulkEntry {H : Type} : Lit × DataW H → Nat
  | (.string bytes, d) => bytes.length + uptoBulk d + 1
  | (_, d) => uptoBulk d + 1
 end
def uptoSmall : (H : Type) → List (DataW H) → Bool := fun _ ds => decide (uptoBulkAll ds ≤ 1048576)
def OpenSpec.upto (s : _root_.Go.ChangeSpec) : _root_.Go.OpenSpec := { _root_.Go.OpenSpec.ofChange s with cond := some uptoSmall }

/-- 'vestrylaw07.RelOwn', WHERE WHAT IT READS IS OF BULK AT MOST 1048576: true; the input reads as it did. -/
def relOwnUptoRow : OpenClaim := { program := "ythcljhfankooaabgreat", sum := "e52adea772466bb61cf0ccfaaa4ae49888ca597817ae2fa1027a52456f12466a", func := "vestry/vestrylaw07.RelOwn", spec := "relOwn", inPlace := ["math.archTrunc", "math.Float64bits", "math.Float64frombits", "slices.overlaps[[]int]", "slices.overlaps[*vestry/btree.node]"], unfollowed := true, recurses := true, plainKeys := false, apart := false, narrowed := true }
def RelOwnUptoSaid : Prop := relOwnUptoRow.holds Tryz.pinned (OpenSpec.upto relOwnSpec)

/-- 'vestrylaw07.RelNobody', WHERE WHAT IT READS IS OF BULK AT MOST 1048576: true; the input reads as it did. -/
def relNobodyUptoRow : OpenClaim := { program := "ythcljhfankooaabgreat", sum := "e52adea772466bb61cf0ccfaaa4ae49888ca597817ae2fa1027a52456f12466a", func := "vestry/vestrylaw07.RelNobody", spec := "relNobody", inPlace := ["math.archTrunc", "math.Float64bits", "math.Float64frombits", "slices.overlaps[[]int]", "slices.overlaps[*vestry/btree.node]"], unfollowed := true, recurses := true, plainKeys := false, apart := false, narrowed := true }
def RelNobodyUptoSaid : Prop := relNobodyUptoRow.holds Tryz.pinned (OpenSpec.upto relNobodySpec)

end Rows
end Go.Proofs.YthcljhfankooaabGreat
