/-
  No cell of these rows narrows 'for every input' (looked for: loops, veiled, ifaces, maps, wideKeys, modest, calm, conditions, laid).
  DERIVED. THE GIVEN ROWS OF THIS SEAT. 5 by the template 'for every input the law returns true; each argument reads behind the call as it read before'; 0 by the template 'total and deterministic' (their statements: YtkhndlnadhggkaaGreatTotals.lean).
  GIVEN WITH THE SEED: the statements are not yours to turn. If you find one false, say at which input.
  Laid BY PROGRAM, IN A SANDBOX (cutbox-rows.mjs): the forced cells as the released guide's own fill.sh prints them over the translation c879cd92f4054b42… (all of the seat's roots in one cut). By AI agents, Wed Nov 11 2026. No macro, syntax, notation, axiom, sorry.
-/
import Derived.Test.YtkhndlnadhggkaaGreatChecked
import GoSem.Claim
import GoSem.ClaimJoined
import GoSem.ClaimMapViews
import Derived.JoinedTies
import Derived.KernelRfl
namespace Go.Proofs.YtkhndlnadhggkaaGreat
/- THE CELL 'sum', in the pinned program and in every row, IS THE sha256 OF THE DUMP (.gsa) THAT YtkhndlnadhggkaaGreatProg.lean LOADS. Nothing in Lean hashes anything: it is a label: what it is worth is what the hold of that sum in a sandbox is worth. -/
noncomputable def Tryz.pinned : Pinned := { name := "ytkhndlnadhggkaagreat", sum := "c879cd92f4054b42e19b82a62e9cb3080da23b8a56a6855b330a0e35c6926db6", checked := Tryz.checked }
namespace Rows
def none {H : Type} : Left H := { results := [], args := [] }

/-- 'vestrylaw12.TypesChecks': WHATEVER THE INPUT: true; the input reads as it did. -/
def typesChecksSpec : ChangeSpec := { name := "typesChecks", fn := fun _ => fun
  | [d] => { results := [.lit (.bool true)], args := [d] }
  | _ => none }
def typesChecksRow : OpenClaim := { program := "ytkhndlnadhggkaagreat", sum := "c879cd92f4054b42e19b82a62e9cb3080da23b8a56a6855b330a0e35c6926db6", func := "vestry/vestrylaw12.TypesChecks", spec := "typesChecks", unfollowed := true, recurses := true, apart := false }
def TypesChecksSaid : Prop := typesChecksRow.holds Tryz.pinned (OpenSpec.ofChange typesChecksSpec)

/-- ITS FALSE NEIGHBOUR: 'it returns false'. Refute it at one input. -/
def typesChecksWrong : ChangeSpec := { name := "typesChecks", fn := fun _ => fun
  | [d] => { results := [.lit (.bool false)], args := [d] }
  | _ => none }
def TypesChecksWrongFalsely : Prop := typesChecksRow.holds Tryz.pinned (OpenSpec.ofChange typesChecksWrong)

/-- 'vestrylaw12.TypesInfers': WHATEVER THE INPUT: true; the input reads as it did. -/
def typesInfersSpec : ChangeSpec := { name := "typesInfers", fn := fun _ => fun
  | [d1, d2] => { results := [.lit (.bool true)], args := [d1, d2] }
  | _ => none }
def typesInfersRow : OpenClaim := { program := "ytkhndlnadhggkaagreat", sum := "c879cd92f4054b42e19b82a62e9cb3080da23b8a56a6855b330a0e35c6926db6", func := "vestry/vestrylaw12.TypesInfers", spec := "typesInfers", unfollowed := true, recurses := true, apart := false }
def TypesInfersSaid : Prop := typesInfersRow.holds Tryz.pinned (OpenSpec.ofChange typesInfersSpec)

/-- ITS FALSE NEIGHBOUR: 'it returns false'. Refute it at one input. -/
def typesInfersWrong : ChangeSpec := { name := "typesInfers", fn := fun _ => fun
  | [d1, d2] => { results := [.lit (.bool false)], args := [d1, d2] }
  | _ => none }
def TypesInfersWrongFalsely : Prop := typesInfersRow.holds Tryz.pinned (OpenSpec.ofChange typesInfersWrong)

/-- 'vestrylaw12.TypesOrders': WHATEVER THE INPUT: true; the input reads as it did. -/
def typesOrdersSpec : ChangeSpec := { name := "typesOrders", fn := fun _ => fun
  | [d] => { results := [.lit (.bool true)], args := [d] }
  | _ => none }
def typesOrdersRow : OpenClaim := { program := "ytkhndlnadhggkaagreat", sum := "c879cd92f4054b42e19b82a62e9cb3080da23b8a56a6855b330a0e35c6926db6", func := "vestry/vestrylaw12.TypesOrders", spec := "typesOrders", unfollowed := true, recurses := true, apart := false }
def TypesOrdersSaid : Prop := typesOrdersRow.holds Tryz.pinned (OpenSpec.ofChange typesOrdersSpec)

/-- ITS FALSE NEIGHBOUR: 'it returns false'. Refute it at one input. -/
def typesOrdersWrong : ChangeSpec := { name := "typesOrders", fn := fun _ => fun
  | [d] => { results := [.lit (.bool false)], args := [d] }
  | _ => none }
def TypesOrdersWrongFalsely : Prop := typesOrdersRow.holds Tryz.pinned (OpenSpec.ofChange typesOrdersWrong)

/-- 'vestrylaw12.TypesBounds': WHATEVER THE INPUT: true; the input reads as it did. -/
def typesBoundsSpec : ChangeSpec := { name := "typesBounds", fn := fun _ => fun
  | [d] => { results := [.lit (.bool true)], args := [d] }
  | _ => none }
def typesBoundsRow : OpenClaim := { program := "ytkhndlnadhggkaagreat", sum := "c879cd92f4054b42e19b82a62e9cb3080da23b8a56a6855b330a0e35c6926db6", func := "vestry/vestrylaw12.TypesBounds", spec := "typesBounds", unfollowed := true, recurses := true, apart := false }
def TypesBoundsSaid : Prop := typesBoundsRow.holds Tryz.pinned (OpenSpec.ofChange typesBoundsSpec)

/-- ITS FALSE NEIGHBOUR: 'it returns false'. Refute it at one input. -/
def typesBoundsWrong : ChangeSpec := { name := "typesBounds", fn := fun _ => fun
  | [d] => { results := [.lit (.bool false)], args := [d] }
  | _ => none }
def TypesBoundsWrongFalsely : Prop := typesBoundsRow.holds Tryz.pinned (OpenSpec.ofChange typesBoundsWrong)

/-- 'vestrylaw12.TypesApart': WHATEVER THE INPUT: true; the input reads as it did. -/
def typesApartSpec : ChangeSpec := { name := "typesApart", fn := fun _ => fun
  | [d1, d2] => { results := [.lit (.bool true)], args := [d1, d2] }
  | _ => none }
def typesApartRow : OpenClaim := { program := "ytkhndlnadhggkaagreat", sum := "c879cd92f4054b42e19b82a62e9cb3080da23b8a56a6855b330a0e35c6926db6", func := "vestry/vestrylaw12.TypesApart", spec := "typesApart", unfollowed := true, recurses := true, apart := false }
def TypesApartSaid : Prop := typesApartRow.holds Tryz.pinned (OpenSpec.ofChange typesApartSpec)

/-- ITS FALSE NEIGHBOUR: 'it returns false'. Refute it at one input. -/
def typesApartWrong : ChangeSpec := { name := "typesApart", fn := fun _ => fun
  | [d1, d2] => { results := [.lit (.bool false)], args := [d1, d2] }
  | _ => none }
def TypesApartWrongFalsely : Prop := typesApartRow.holds Tryz.pinned (OpenSpec.ofChange typesApartWrong)

/- THE SECOND FORM. 'bulk': how many values and letters a reading holds, each counted each time it is reached (what is shared counts as often as it is met; a slice's spare places count too). A statement '..UptoSaid' is the law's where the arguments, and the package variables that the reading takes, are together of bulk at most 1048576: NARROWER than '..Said'. Prove '..Said' where nothing that the law and all that it calls make is longer than what came in: it says more and counts as full. Else prove '..UptoSaid'. A law counts once. -/
mutual
def uptoBulk {H : Type} : DataW H → Nat
  | .lit (.string bytes) => bytes.length + 1
  | .lit _ => 1
  | .nil => 1
  | .ptr d => uptoBulk d + 1
  | .slice elems spare => uptoBulkAll elems + uptoBulkAll spare + 1
  | .agg parts => uptoBulkAll parts + 1
  | .iface _ d => uptoBulk d + 1
  | .map entries => uptoBulkEntries entries + 1
  | .held _ => 1
def uptoBulkAll {H : Type} : List (DataW H) → Nat
  | [] => 0
  | d :: r => uptoBulk d + uptoBulkAll r
def uptoBulkEntries {H : Type} : List (Lit × DataW H) → Nat
  | [] => 0
  | x :: r => uptoBulkEntry x + uptoBulkEntries r
def uptoBulkEntry {H : Type} : Lit × DataW H → Nat
  | (.string bytes, d) => bytes.length + uptoBulk d + 1
  | (_, d) => uptoBulk d + 1
 end
def uptoSmall : (H : Type) → List (DataW H) → Bool := fun _ ds => decide (uptoBulkAll ds ≤ 1048576)
def OpenSpec.upto (s : _root_.Go.ChangeSpec) : _root_.Go.OpenSpec := { _root_.Go.OpenSpec.ofChange s with cond := some uptoSmall }

/-- 'vestrylaw12.TypesChecks', WHERE WHAT IT READS IS OF BULK AT MOST 1048576: true; the input reads as it did. -/
def typesChecksUptoRow : OpenClaim := { program := "ytkhndlnadhggkaagreat", sum := "c879cd92f4054b42e19b82a62e9cb3080da23b8a56a6855b330a0e35c6926db6", func := "vestry/vestrylaw12.TypesChecks", spec := "typesChecks", unfollowed := true, recurses := true, apart := false, narrowed := true }
def TypesChecksUptoSaid : Prop := typesChecksUptoRow.holds Tryz.pinned (OpenSpec.upto typesChecksSpec)

/-- 'vestrylaw12.TypesInfers', WHERE WHAT IT READS IS OF BULK AT MOST 1048576: true; the input reads as it did. -/
def typesInfersUptoRow : OpenClaim := { program := "ytkhndlnadhggkaagreat", sum := "c879cd92f4054b42e19b82a62e9cb3080da23b8a56a6855b330a0e35c6926db6", func := "vestry/vestrylaw12.TypesInfers", spec := "typesInfers", unfollowed := true, recurses := true, apart := false, narrowed := true }
def TypesInfersUptoSaid : Prop := typesInfersUptoRow.holds Tryz.pinned (OpenSpec.upto typesInfersSpec)

/-- 'vestrylaw12.TypesOrders', WHERE WHAT IT READS IS OF BULK AT MOST 1048576: true; the input reads as it did. -/
def typesOrdersUptoRow : OpenClaim := { program := "ytkhndlnadhggkaagreat", sum := "c879cd92f4054b42e19b82a62e9cb3080da23b8a56a6855b330a0e35c6926db6", func := "vestry/vestrylaw12.TypesOrders", spec := "typesOrders", unfollowed := true, recurses := true, apart := false, narrowed := true }
def TypesOrdersUptoSaid : Prop := typesOrdersUptoRow.holds Tryz.pinned (OpenSpec.upto typesOrdersSpec)

/-- 'vestrylaw12.TypesBounds', WHERE WHAT IT READS IS OF BULK AT MOST 1048576: true; the input reads as it did. -/
def typesBoundsUptoRow : OpenClaim := { program := "ytkhndlnadhggkaagreat", sum := "c879cd92f4054b42e19b82a62e9cb3080da23b8a56a6855b330a0e35c6926db6", func := "vestry/vestrylaw12.TypesBounds", spec := "typesBounds", unfollowed := true, recurses := true, apart := false, narrowed := true }
def TypesBoundsUptoSaid : Prop := typesBoundsUptoRow.holds Tryz.pinned (OpenSpec.upto typesBoundsSpec)

/-- 'vestrylaw12.TypesApart', WHERE WHAT IT READS IS OF BULK AT MOST 1048576: true; the input reads as it did. -/
def typesApartUptoRow : OpenClaim := { program := "ytkhndlnadhggkaagreat", sum := "c879cd92f4054b42e19b82a62e9cb3080da23b8a56a6855b330a0e35c6926db6", func := "vestry/vestrylaw12.TypesApart", spec := "typesApart", unfollowed := true, recurses := true, apart := false, narrowed := true }
def TypesApartUptoSaid : Prop := typesApartUptoRow.holds Tryz.pinned (OpenSpec.upto typesApartSpec)

end Rows
end Go.Proofs.YtkhndlnadhggkaaGreat
