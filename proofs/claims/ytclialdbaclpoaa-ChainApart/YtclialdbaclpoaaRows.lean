/-
  No cell of these rows narrows 'for every input' (looked for: loops, veiled, ifaces, maps, wideKeys, modest, calm, conditions, laid).
  DERIVED. THE GIVEN ROWS OF THIS SEAT. 6 by the template 'for every input the law returns true; each argument reads behind the call as it read before'; 0 by the template 'total and deterministic' (their statements: YtclialdbaclpoaaTotals.lean).
  GIVEN WITH THE SEED: the statements are not yours to turn. If you find one false, say at which input.
  Laid BY PROGRAM, IN A SANDBOX (cutbox-rows.mjs): the forced cells as the released guide's own fill.sh prints them over the translation 4821c1594c7330bf… (all of the seat's roots in one cut). By AI agents, Wed Nov 11 2026. No macro, syntax, notation, axiom, sorry.
-/
import Derived.Test.YtclialdbaclpoaaChecked
import GoSem.Claim
import GoSem.ClaimJoined
import GoSem.ClaimMapViews
import Derived.JoinedTies
import Derived.KernelRfl
namespace Go.Proofs.Ytclialdbaclpoaa
/- THE CELL 'sum', in the pinned program and in every row, IS THE sha256 OF THE DUMP (.gsa) THAT YtclialdbaclpoaaProg.lean LOADS. Nothing in Lean hashes anything: it is a label: what it is worth is what the hold of that sum in a sandbox is worth. -/
noncomputable def Try.pinned : Pinned := { name := "ytclialdbaclpoaa", sum := "4821c1594c7330bfde6ceca7a8a92383f3c9110e103e74c992239891d3285ac8", checked := Try.checked }
namespace Rows
def none {H : Type} : Left H := { results := [], args := [] }

/-- 'vestrylaw06.ChainLeast': WHATEVER THE INPUT: true; the input reads as it did. -/
def chainLeastSpec : ChangeSpec := { name := "chainLeast", fn := fun _ => fun
  | [d] => { results := [.lit (.bool true)], args := [d] }
  | _ => none }
def chainLeastRow : OpenClaim := { program := "ytclialdbaclpoaa", sum := "4821c1594c7330bfde6ceca7a8a92383f3c9110e103e74c992239891d3285ac8", func := "vestry/vestrylaw06.ChainLeast", spec := "chainLeast", recurses := true, apart := false }
def ChainLeastSaid : Prop := chainLeastRow.holds Try.pinned (OpenSpec.ofChange chainLeastSpec)

/-- ITS FALSE NEIGHBOUR: 'it returns false'. Refute it at one input. -/
def chainLeastWrong : ChangeSpec := { name := "chainLeast", fn := fun _ => fun
  | [d] => { results := [.lit (.bool false)], args := [d] }
  | _ => none }
def ChainLeastWrongFalsely : Prop := chainLeastRow.holds Try.pinned (OpenSpec.ofChange chainLeastWrong)

/-- 'vestrylaw06.ChainServes': WHATEVER THE INPUT: true; the input reads as it did. -/
def chainServesSpec : ChangeSpec := { name := "chainServes", fn := fun _ => fun
  | [d1, d2] => { results := [.lit (.bool true)], args := [d1, d2] }
  | _ => none }
def chainServesRow : OpenClaim := { program := "ytclialdbaclpoaa", sum := "4821c1594c7330bfde6ceca7a8a92383f3c9110e103e74c992239891d3285ac8", func := "vestry/vestrylaw06.ChainServes", spec := "chainServes", recurses := true, apart := false }
def ChainServesSaid : Prop := chainServesRow.holds Try.pinned (OpenSpec.ofChange chainServesSpec)

/-- ITS FALSE NEIGHBOUR: 'it returns false'. Refute it at one input. -/
def chainServesWrong : ChangeSpec := { name := "chainServes", fn := fun _ => fun
  | [d1, d2] => { results := [.lit (.bool false)], args := [d1, d2] }
  | _ => none }
def ChainServesWrongFalsely : Prop := chainServesRow.holds Try.pinned (OpenSpec.ofChange chainServesWrong)

/-- 'vestrylaw06.ChainPicks': WHATEVER THE INPUT: true; the input reads as it did. -/
def chainPicksSpec : ChangeSpec := { name := "chainPicks", fn := fun _ => fun
  | [d1, d2] => { results := [.lit (.bool true)], args := [d1, d2] }
  | _ => none }
def chainPicksRow : OpenClaim := { program := "ytclialdbaclpoaa", sum := "4821c1594c7330bfde6ceca7a8a92383f3c9110e103e74c992239891d3285ac8", func := "vestry/vestrylaw06.ChainPicks", spec := "chainPicks", recurses := true, apart := false }
def ChainPicksSaid : Prop := chainPicksRow.holds Try.pinned (OpenSpec.ofChange chainPicksSpec)

/-- ITS FALSE NEIGHBOUR: 'it returns false'. Refute it at one input. -/
def chainPicksWrong : ChangeSpec := { name := "chainPicks", fn := fun _ => fun
  | [d1, d2] => { results := [.lit (.bool false)], args := [d1, d2] }
  | _ => none }
def ChainPicksWrongFalsely : Prop := chainPicksRow.holds Try.pinned (OpenSpec.ofChange chainPicksWrong)

/-- 'vestrylaw06.ChainApart': WHATEVER THE INPUT: true; the input reads as it did. -/
def chainApartSpec : ChangeSpec := { name := "chainApart", fn := fun _ => fun
  | [d1, d2] => { results := [.lit (.bool true)], args := [d1, d2] }
  | _ => none }
def chainApartRow : OpenClaim := { program := "ytclialdbaclpoaa", sum := "4821c1594c7330bfde6ceca7a8a92383f3c9110e103e74c992239891d3285ac8", func := "vestry/vestrylaw06.ChainApart", spec := "chainApart", recurses := true, apart := false }
def ChainApartSaid : Prop := chainApartRow.holds Try.pinned (OpenSpec.ofChange chainApartSpec)

/-- ITS FALSE NEIGHBOUR: 'it returns false'. Refute it at one input. -/
def chainApartWrong : ChangeSpec := { name := "chainApart", fn := fun _ => fun
  | [d1, d2] => { results := [.lit (.bool false)], args := [d1, d2] }
  | _ => none }
def ChainApartWrongFalsely : Prop := chainApartRow.holds Try.pinned (OpenSpec.ofChange chainApartWrong)

/-- 'vestrylaw06.ChainMore': WHATEVER THE INPUT: true; the input reads as it did. -/
def chainMoreSpec : ChangeSpec := { name := "chainMore", fn := fun _ => fun
  | [d1, d2] => { results := [.lit (.bool true)], args := [d1, d2] }
  | _ => none }
def chainMoreRow : OpenClaim := { program := "ytclialdbaclpoaa", sum := "4821c1594c7330bfde6ceca7a8a92383f3c9110e103e74c992239891d3285ac8", func := "vestry/vestrylaw06.ChainMore", spec := "chainMore", recurses := true, apart := false }
def ChainMoreSaid : Prop := chainMoreRow.holds Try.pinned (OpenSpec.ofChange chainMoreSpec)

/-- ITS FALSE NEIGHBOUR: 'it returns false'. Refute it at one input. -/
def chainMoreWrong : ChangeSpec := { name := "chainMore", fn := fun _ => fun
  | [d1, d2] => { results := [.lit (.bool false)], args := [d1, d2] }
  | _ => none }
def ChainMoreWrongFalsely : Prop := chainMoreRow.holds Try.pinned (OpenSpec.ofChange chainMoreWrong)

/-- 'vestrylaw06.ChainOwn': WHATEVER THE INPUT: true; the input reads as it did. -/
def chainOwnSpec : ChangeSpec := { name := "chainOwn", fn := fun _ => fun
  | [d1, d2] => { results := [.lit (.bool true)], args := [d1, d2] }
  | _ => none }
def chainOwnRow : OpenClaim := { program := "ytclialdbaclpoaa", sum := "4821c1594c7330bfde6ceca7a8a92383f3c9110e103e74c992239891d3285ac8", func := "vestry/vestrylaw06.ChainOwn", spec := "chainOwn", recurses := true, apart := false }
def ChainOwnSaid : Prop := chainOwnRow.holds Try.pinned (OpenSpec.ofChange chainOwnSpec)

/-- ITS FALSE NEIGHBOUR: 'it returns false'. Refute it at one input. -/
def chainOwnWrong : ChangeSpec := { name := "chainOwn", fn := fun _ => fun
  | [d1, d2] => { results := [.lit (.bool false)], args := [d1, d2] }
  | _ => none }
def ChainOwnWrongFalsely : Prop := chainOwnRow.holds Try.pinned (OpenSpec.ofChange chainOwnWrong)

/- THE SECOND FORM. 'bulk': how many values and letters a reading holds, each counted each time it is reached (what is shared counts as often as it is met; a slice's spare places count too). A statement '..UptoSaid' is the law's where the arguments, and the package variables that the reading takes, are together of bulk at most 1048576: NARROWER than '..Said'. Prove '..Said' where nothing that the law and all that it calls make is longer than what came in: it says more and counts as full. Else prove '..UptoSaid'. A law counts once. -/
mutual
def uptoBulk {H : Type} : DataW H → Nat
  | .lit (.string bytes) => bytes.length + 1
  | .lit _ => 1
  | .nil => 1
  | .ptr d => uptoBulk d + 1
  | .slice elems spare => uptoBulkAll elems + uptoBulkAll spare + 1
  | .agg parts => uptoBulkAll parts + 1
  | .iface _ d => uptoBulk d + 1
  | .map entries => uptoBulkEntries entries + 1
  | .held _ => 1
def uptoBulkAll {H : Type} : List (DataW H) → Nat
  | [] => 0
  | d :: r => uptoBulk d + uptoBulkAll r
def uptoBulkEntries {H : Type} : List (Lit × DataW H) → Nat
  | [] => 0
  | x :: r => uptoBulkEntry x + uptoBulkEntries r
def uptoBulkEntry {H : Type} : Lit × DataW H → Nat
  | (.string bytes, d) => bytes.length + uptoBulk d + 1
  | (_, d) => uptoBulk d + 1
 end
def uptoSmall : (H : Type) → List (DataW H) → Bool := fun _ ds => decide (uptoBulkAll ds ≤ 1048576)
def OpenSpec.upto (s : _root_.Go.ChangeSpec) : _root_.Go.OpenSpec := { _root_.Go.OpenSpec.ofChange s with cond := some uptoSmall }

/-- 'vestrylaw06.ChainLeast', WHERE WHAT IT READS IS OF BULK AT MOST 1048576: true; the input reads as it did. -/
def chainLeastUptoRow : OpenClaim := { program := "ytclialdbaclpoaa", sum := "4821c1594c7330bfde6ceca7a8a92383f3c9110e103e74c992239891d3285ac8", func := "vestry/vestrylaw06.ChainLeast", spec := "chainLeast", recurses := true, apart := false, narrowed := true }
def ChainLeastUptoSaid : Prop := chainLeastUptoRow.holds Try.pinned (OpenSpec.upto chainLeastSpec)

/-- 'vestrylaw06.ChainServes', WHERE WHAT IT READS IS OF BULK AT MOST 1048576: true; the input reads as it did. -/
def chainServesUptoRow : OpenClaim := { program := "ytclialdbaclpoaa", sum := "4821c1594c7330bfde6ceca7a8a92383f3c9110e103e74c992239891d3285ac8", func := "vestry/vestrylaw06.ChainServes", spec := "chainServes", recurses := true, apart := false, narrowed := true }
def ChainServesUptoSaid : Prop := chainServesUptoRow.holds Try.pinned (OpenSpec.upto chainServesSpec)

/-- 'vestrylaw06.ChainPicks', WHERE WHAT IT READS IS OF BULK AT MOST 1048576: true; the input reads as it did. -/
def chainPicksUptoRow : OpenClaim := { program := "ytclialdbaclpoaa", sum := "4821c1594c7330bfde6ceca7a8a92383f3c9110e103e74c992239891d3285ac8", func := "vestry/vestrylaw06.ChainPicks", spec := "chainPicks", recurses := true, apart := false, narrowed := true }
def ChainPicksUptoSaid : Prop := chainPicksUptoRow.holds Try.pinned (OpenSpec.upto chainPicksSpec)

/-- 'vestrylaw06.ChainApart', WHERE WHAT IT READS IS OF BULK AT MOST 1048576: true; the input reads as it did. -/
def chainApartUptoRow : OpenClaim := { program := "ytclialdbaclpoaa", sum := "4821c1594c7330bfde6ceca7a8a92383f3c9110e103e74c992239891d3285ac8", func := "vestry/vestrylaw06.ChainApart", spec := "chainApart", recurses := true, apart := false, narrowed := true }
def ChainApartUptoSaid : Prop := chainApartUptoRow.holds Try.pinned (OpenSpec.upto chainApartSpec)

/-- 'vestrylaw06.ChainMore', WHERE WHAT IT READS IS OF BULK AT MOST 1048576: true; the input reads as it did. -/
def chainMoreUptoRow : OpenClaim := { program := "ytclialdbaclpoaa", sum := "4821c1594c7330bfde6ceca7a8a92383f3c9110e103e74c992239891d3285ac8", func := "vestry/vestrylaw06.ChainMore", spec := "chainMore", recurses := true, apart := false, narrowed := true }
def ChainMoreUptoSaid : Prop := chainMoreUptoRow.holds Try.pinned (OpenSpec.upto chainMoreSpec)

/-- 'vestrylaw06.ChainOwn', WHERE WHAT IT READS IS OF BULK AT MOST 1048576: true; the input reads as it did. -/
def chainOwnUptoRow : OpenClaim := { program := "ytclialdbaclpoaa", sum := "4821c1594c7330bfde6ceca7a8a92383f3c9110e103e74c992239891d3285ac8", func := "vestry/vestrylaw06.ChainOwn", spec := "chainOwn", recurses := true, apart := false, narrowed := true }
def ChainOwnUptoSaid : Prop := chainOwnUptoRow.holds Try.pinned (OpenSpec.upto chainOwnSpec)

end Rows
end Go.Proofs.Ytclialdbaclpoaa
