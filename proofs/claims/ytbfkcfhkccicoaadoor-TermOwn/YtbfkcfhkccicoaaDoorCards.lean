/-
  DERIVED. GIVEN WITH THE SEED: THE CARDS: each row of YtbfkcfhkccicoaaDoorRows.lean that lists a variable, with what it lists TIED to the program's text (the seventh form; the later family's looks); each row that meets fmt, with fmt's text TOLD by the authors' own Lean function (tested against real Go, not proved from fmt's source: count such statements apart). THE CARD IS WHAT COUNTS. Prove the row's statement (the work); the ties are given (YtbfkcfhkccicoaaDoorTie.lean); close each card by the builder's one call (the guide's Derived/Test/ToyasCard.lean, 'card_holds'). Laid BY PROGRAM, IN A SANDBOX (cutbox-door.mjs). By AI agents, Wed Nov 11 2026. No macro, syntax, notation, axiom, sorry.
-/
import Derived.Test.YtbfkcfhkccicoaaDoorRows
import GoSem.ClaimSeven
namespace Go.Proofs.YtbfkcfhkccicoaaDoor
namespace Rows

/-- THE TIED CARD OF 'vestrylaw03.TermOwn'. -/
def termOwnCard : Claim7 := { stood := { row := termOwnRow, standIns := [], harness := (true, "d5e03785ec11526f1bc9429da8d78c8136487c7996c299aa8cac5dd1f0db0304"), looks := false }, kinds := [], alts := [], laidByText := true, laidKinds := [.data, .data, .data], laidTests := true, laidLooks := .later }
def TermOwnCardSaid : Prop := Claim7.holds Tryd.pinned (.plain (OpenSpec.ofChange termOwnSpec)) termOwnCard

/-- THE SECOND FORM's CARD OF 'vestrylaw03.TermOwn'. -/
def termOwnUptoCard : Claim7 := { stood := { row := termOwnUptoRow, standIns := [], harness := (true, "d5e03785ec11526f1bc9429da8d78c8136487c7996c299aa8cac5dd1f0db0304"), looks := false }, kinds := [], alts := [], laidByText := true, laidKinds := [.data, .data, .data], laidTests := true, laidLooks := .later }
def TermOwnUptoCardSaid : Prop := Claim7.holds Tryd.pinned (.plain (OpenSpec.upto termOwnSpec)) termOwnUptoCard
end Rows
end Go.Proofs.YtbfkcfhkccicoaaDoor
