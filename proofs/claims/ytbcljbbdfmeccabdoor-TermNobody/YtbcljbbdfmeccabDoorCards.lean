/-
  DERIVED. GIVEN WITH THE SEED: THE CARDS: each row of YtbcljbbdfmeccabDoorRows.lean that lists a variable, with what it lists TIED to the program's text (the seventh form; the later family's looks); each row that meets fmt, with fmt's text TOLD by the authors' own Lean function (tested against real Go, not proved from fmt's source: count such statements apart). THE CARD IS WHAT COUNTS. Prove the row's statement (the work); the ties are given (YtbcljbbdfmeccabDoorTie.lean); close each card by the builder's one call (the guide's Derived/Test/ToyasCard.lean, 'card_holds'). Laid BY PROGRAM, IN A SANDBOX (cutbox-door.mjs). By AI agents, Wed Nov 11 2026. No macro, syntax, notation, axiom, sorry.
-/
import Derived.Test.YtbcljbbdfmeccabDoorRows
import GoSem.ClaimSeven
namespace Go.Proofs.YtbcljbbdfmeccabDoor
namespace Rows

/-- THE TIED CARD OF 'vestrylaw03.TermOwn'. -/
def termOwnCard : Claim7 := { stood := { row := termOwnRow, standIns := [], harness := (true, "f84c04b553bcbd21b71040005dedfc854e1a87d0663ac8eb0bdd51ea6160223a"), looks := false }, kinds := [], alts := [], laidByText := true, laidKinds := [.data, .data, .data], laidTests := true, laidLooks := .later }
def TermOwnCardSaid : Prop := Claim7.holds Tryd.pinned (.plain (OpenSpec.ofChange termOwnSpec)) termOwnCard

/-- THE TIED CARD OF 'vestrylaw03.TermNobody'. -/
def termNobodyCard : Claim7 := { stood := { row := termNobodyRow, standIns := [], harness := (true, "f84c04b553bcbd21b71040005dedfc854e1a87d0663ac8eb0bdd51ea6160223a"), looks := false }, kinds := [], alts := [], laidByText := true, laidKinds := [.data, .data, .data], laidTests := true, laidLooks := .later }
def TermNobodyCardSaid : Prop := Claim7.holds Tryd.pinned (.plain (OpenSpec.ofChange termNobodySpec)) termNobodyCard

/-- THE SECOND FORM's CARD OF 'vestrylaw03.TermOwn'. -/
def termOwnUptoCard : Claim7 := { stood := { row := termOwnUptoRow, standIns := [], harness := (true, "f84c04b553bcbd21b71040005dedfc854e1a87d0663ac8eb0bdd51ea6160223a"), looks := false }, kinds := [], alts := [], laidByText := true, laidKinds := [.data, .data, .data], laidTests := true, laidLooks := .later }
def TermOwnUptoCardSaid : Prop := Claim7.holds Tryd.pinned (.plain (OpenSpec.upto termOwnSpec)) termOwnUptoCard

/-- THE SECOND FORM's CARD OF 'vestrylaw03.TermNobody'. -/
def termNobodyUptoCard : Claim7 := { stood := { row := termNobodyUptoRow, standIns := [], harness := (true, "f84c04b553bcbd21b71040005dedfc854e1a87d0663ac8eb0bdd51ea6160223a"), looks := false }, kinds := [], alts := [], laidByText := true, laidKinds := [.data, .data, .data], laidTests := true, laidLooks := .later }
def TermNobodyUptoCardSaid : Prop := Claim7.holds Tryd.pinned (.plain (OpenSpec.upto termNobodySpec)) termNobodyUptoCard
end Rows
end Go.Proofs.YtbcljbbdfmeccabDoor
