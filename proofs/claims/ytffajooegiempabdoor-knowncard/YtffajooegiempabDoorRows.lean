/-
  NARROWER THAN 'FOR EVERY INPUT', by the rows' own cells (each row's printed sentence says how): Holds: laid · Sharp: laid · Moves: laid · Sound: laid · Found: laid · Known: laid.
  DERIVED. THE GIVEN ROWS OF THIS SEAT. 6 by the template 'for every input the law returns true; each argument reads behind the call as it read before'; 0 by the template 'total and deterministic' (their statements: YtffajooegiempabDoorTotals.lean).
  GIVEN WITH THE SEED: the statements are not yours to turn. If you find one false, say at which input.
  Laid BY PROGRAM, IN A SANDBOX (cutbox-rows.mjs): the forced cells as the released guide's own fill.sh prints them over the translation 54e51cd45c5fb461… (all of the seat's roots in one cut). By AI agents, Wed Nov 11 2026. No macro, syntax, notation, axiom, sorry.
-/
import Derived.Test.YtffajooegiempabDoorChecked
import GoSem.Claim
import GoSem.ClaimJoined
import GoSem.ClaimMapViews
import Derived.JoinedTies
import Derived.KernelRfl
namespace Go.Proofs.YtffajooegiempabDoor
/- THE CELL 'sum', in the pinned program and in every row, IS THE sha256 OF THE DUMP (.gsa) THAT YtffajooegiempabDoorProg.lean LOADS. Nothing in Lean hashes anything: it is a label: what it is worth is what the hold of that sum in a sandbox is worth. -/
noncomputable def Tryd.pinned : Pinned := { name := "ytffajooegiempabdoor", sum := "54e51cd45c5fb4614e01c774efbb9fefcc4956f1b948bf993e585e851b8b1ebb", checked := Tryd.checked }
namespace Rows
def none {H : Type} : Left H := { results := [], args := [] }

/- WHAT THE LISTED PACKAGE-LEVEL VARIABLES READ AS WHEN THE CALL BEGINS. Each datum BY PROGRAM (the guide's laid-datum.mjs) off the statement by which the dump's own 'gosem.cut.vars' lays the variable. In a bare row this is a premise. The card (YtffajooegiempabDoorCards.lean) ties it to the program's text. -/
def laid_witness_octagon_firstSide {H : Type} : DataW H := .agg [.lit (.int .i64 0), .lit (.int .i64 1), .lit (.int .i64 2), .lit (.int .i64 3), .lit (.int .i64 4), .lit (.int .i64 5), .lit (.int .i64 6), .lit (.int .i64 7), .lit (.int .i64 0), .lit (.int .i64 0), .lit (.int .i64 1), .lit (.int .i64 1), .lit (.int .i64 0), .lit (.int .i64 0), .lit (.int .i64 1), .lit (.int .i64 1), .lit (.int .i64 0), .lit (.int .i64 0), .lit (.int .i64 1), .lit (.int .i64 1), .lit (.int .i64 2), .lit (.int .i64 2), .lit (.int .i64 3), .lit (.int .i64 3), .lit (.int .i64 2), .lit (.int .i64 2), .lit (.int .i64 3), .lit (.int .i64 3), .lit (.int .i64 4), .lit (.int .i64 4), .lit (.int .i64 5), .lit (.int .i64 5)]
def laid_witness_octagon_secondSide {H : Type} : DataW H := .agg [.lit (.int .i64 0), .lit (.int .i64 1), .lit (.int .i64 2), .lit (.int .i64 3), .lit (.int .i64 4), .lit (.int .i64 5), .lit (.int .i64 6), .lit (.int .i64 7), .lit (.int .i64 2), .lit (.int .i64 3), .lit (.int .i64 2), .lit (.int .i64 3), .lit (.int .i64 4), .lit (.int .i64 5), .lit (.int .i64 4), .lit (.int .i64 5), .lit (.int .i64 6), .lit (.int .i64 7), .lit (.int .i64 6), .lit (.int .i64 7), .lit (.int .i64 4), .lit (.int .i64 5), .lit (.int .i64 4), .lit (.int .i64 5), .lit (.int .i64 6), .lit (.int .i64 7), .lit (.int .i64 6), .lit (.int .i64 7), .lit (.int .i64 6), .lit (.int .i64 7), .lit (.int .i64 6), .lit (.int .i64 7)]

/-- 'witnesskeep.Holds': WHATEVER THE INPUT: true; the input reads as it did. -/
def holdsSpec : ChangeSpec := { name := "holds", fn := fun _ => fun
  | [d1, d2, d3] => { results := [.lit (.bool true)], args := [d1, d2, d3] }
  | _ => none }
def holdsRow : OpenClaim := { program := "ytffajooegiempabdoor", sum := "54e51cd45c5fb4614e01c774efbb9fefcc4956f1b948bf993e585e851b8b1ebb", func := "witness/witnesskeep.Holds", spec := "holds", named := ["witness/octagon.firstSide", "witness/octagon.secondSide"], apart := false, laid := [("witness/octagon.firstSide", laid_witness_octagon_firstSide), ("witness/octagon.secondSide", laid_witness_octagon_secondSide)] }
def HoldsSaid : Prop := holdsRow.holds Tryd.pinned (OpenSpec.ofChange holdsSpec)

/-- ITS FALSE NEIGHBOUR: 'it returns false'. Refute it at one input. -/
def holdsWrong : ChangeSpec := { name := "holds", fn := fun _ => fun
  | [d1, d2, d3] => { results := [.lit (.bool false)], args := [d1, d2, d3] }
  | _ => none }
def HoldsWrongFalsely : Prop := holdsRow.holds Tryd.pinned (OpenSpec.ofChange holdsWrong)

/-- 'witnesskeep.Sharp': WHATEVER THE INPUT: true; the input reads as it did. -/
def sharpSpec : ChangeSpec := { name := "sharp", fn := fun _ => fun
  | [d] => { results := [.lit (.bool true)], args := [d] }
  | _ => none }
def sharpRow : OpenClaim := { program := "ytffajooegiempabdoor", sum := "54e51cd45c5fb4614e01c774efbb9fefcc4956f1b948bf993e585e851b8b1ebb", func := "witness/witnesskeep.Sharp", spec := "sharp", named := ["witness/octagon.firstSide", "witness/octagon.secondSide"], apart := false, laid := [("witness/octagon.firstSide", laid_witness_octagon_firstSide), ("witness/octagon.secondSide", laid_witness_octagon_secondSide)] }
def SharpSaid : Prop := sharpRow.holds Tryd.pinned (OpenSpec.ofChange sharpSpec)

/-- ITS FALSE NEIGHBOUR: 'it returns false'. Refute it at one input. -/
def sharpWrong : ChangeSpec := { name := "sharp", fn := fun _ => fun
  | [d] => { results := [.lit (.bool false)], args := [d] }
  | _ => none }
def SharpWrongFalsely : Prop := sharpRow.holds Tryd.pinned (OpenSpec.ofChange sharpWrong)

/-- 'witnesskeep.Moves': WHATEVER THE INPUT: true; the input reads as it did. -/
def movesSpec : ChangeSpec := { name := "moves", fn := fun _ => fun
  | [d1, d2, d3, d4] => { results := [.lit (.bool true)], args := [d1, d2, d3, d4] }
  | _ => none }
def movesRow : OpenClaim := { program := "ytffajooegiempabdoor", sum := "54e51cd45c5fb4614e01c774efbb9fefcc4956f1b948bf993e585e851b8b1ebb", func := "witness/witnesskeep.Moves", spec := "moves", recurses := true, named := ["witness/octagon.firstSide", "witness/octagon.secondSide"], apart := false, laid := [("witness/octagon.firstSide", laid_witness_octagon_firstSide), ("witness/octagon.secondSide", laid_witness_octagon_secondSide)] }
def MovesSaid : Prop := movesRow.holds Tryd.pinned (OpenSpec.ofChange movesSpec)

/-- ITS FALSE NEIGHBOUR: 'it returns false'. Refute it at one input. -/
def movesWrong : ChangeSpec := { name := "moves", fn := fun _ => fun
  | [d1, d2, d3, d4] => { results := [.lit (.bool false)], args := [d1, d2, d3, d4] }
  | _ => none }
def MovesWrongFalsely : Prop := movesRow.holds Tryd.pinned (OpenSpec.ofChange movesWrong)

/-- 'witnesskeep.Sound': WHATEVER THE INPUT: true; the input reads as it did. -/
def soundSpec : ChangeSpec := { name := "sound", fn := fun _ => fun
  | [d1, d2, d3, d4] => { results := [.lit (.bool true)], args := [d1, d2, d3, d4] }
  | _ => none }
def soundRow : OpenClaim := { program := "ytffajooegiempabdoor", sum := "54e51cd45c5fb4614e01c774efbb9fefcc4956f1b948bf993e585e851b8b1ebb", func := "witness/witnesskeep.Sound", spec := "sound", recurses := true, named := ["witness/octagon.firstSide", "witness/octagon.secondSide"], apart := false, laid := [("witness/octagon.firstSide", laid_witness_octagon_firstSide), ("witness/octagon.secondSide", laid_witness_octagon_secondSide)] }
def SoundSaid : Prop := soundRow.holds Tryd.pinned (OpenSpec.ofChange soundSpec)

/-- ITS FALSE NEIGHBOUR: 'it returns false'. Refute it at one input. -/
def soundWrong : ChangeSpec := { name := "sound", fn := fun _ => fun
  | [d1, d2, d3, d4] => { results := [.lit (.bool false)], args := [d1, d2, d3, d4] }
  | _ => none }
def SoundWrongFalsely : Prop := soundRow.holds Tryd.pinned (OpenSpec.ofChange soundWrong)

/-- 'witnesskeep.Found': WHATEVER THE INPUT: true; the input reads as it did. -/
def foundSpec : ChangeSpec := { name := "found", fn := fun _ => fun
  | [d1, d2, d3] => { results := [.lit (.bool true)], args := [d1, d2, d3] }
  | _ => none }
def foundRow : OpenClaim := { program := "ytffajooegiempabdoor", sum := "54e51cd45c5fb4614e01c774efbb9fefcc4956f1b948bf993e585e851b8b1ebb", func := "witness/witnesskeep.Found", spec := "found", recurses := true, named := ["witness/octagon.firstSide", "witness/octagon.secondSide"], apart := false, laid := [("witness/octagon.firstSide", laid_witness_octagon_firstSide), ("witness/octagon.secondSide", laid_witness_octagon_secondSide)] }
def FoundSaid : Prop := foundRow.holds Tryd.pinned (OpenSpec.ofChange foundSpec)

/-- ITS FALSE NEIGHBOUR: 'it returns false'. Refute it at one input. -/
def foundWrong : ChangeSpec := { name := "found", fn := fun _ => fun
  | [d1, d2, d3] => { results := [.lit (.bool false)], args := [d1, d2, d3] }
  | _ => none }
def FoundWrongFalsely : Prop := foundRow.holds Tryd.pinned (OpenSpec.ofChange foundWrong)

/-- 'witnesskeep.Known': WHATEVER THE INPUT: true; the input reads as it did. -/
def knownSpec : ChangeSpec := { name := "known", fn := fun _ => fun
  | [d] => { results := [.lit (.bool true)], args := [d] }
  | _ => none }
def knownRow : OpenClaim := { program := "ytffajooegiempabdoor", sum := "54e51cd45c5fb4614e01c774efbb9fefcc4956f1b948bf993e585e851b8b1ebb", func := "witness/witnesskeep.Known", spec := "known", recurses := true, named := ["witness/octagon.firstSide", "witness/octagon.secondSide"], apart := false, laid := [("witness/octagon.firstSide", laid_witness_octagon_firstSide), ("witness/octagon.secondSide", laid_witness_octagon_secondSide)] }
def KnownSaid : Prop := knownRow.holds Tryd.pinned (OpenSpec.ofChange knownSpec)

/-- ITS FALSE NEIGHBOUR: 'it returns false'. Refute it at one input. -/
def knownWrong : ChangeSpec := { name := "known", fn := fun _ => fun
  | [d] => { results := [.lit (.bool false)], args := [d] }
  | _ => none }
def KnownWrongFalsely : Prop := knownRow.holds Tryd.pinned (OpenSpec.ofChange knownWrong)

/- THE SECOND FORM. 'bulk': how many values and letters a reading holds, each counted each time it is reached (what is shared counts as often as it is met; a slice's spare places count too). A statement '..UptoSaid' is the law's where the arguments, and the package variables that the reading takes, are together of bulk at most 1048576: NARROWER than '..Said'. Prove '..Said' where nothing that the law and all that it calls make is longer than what came in: it says more and counts as full. Else prove '..UptoSaid'. A law counts once. -/
mutual
def uptoBulk {H : Type} : DataW H → Nat
  | .lit (.string bytes) => bytes.length + 1
  | .lit _ => 1
  | .nil => 1
  | .ptr d => uptoBulk d + 1
  | .slice elems spare => uptoBulkAll elems + uptoBulkAll spare + 1
  | .agg parts => uptoBulkAll parts + 1
  | .iface _ d => uptoBulk d + 1
  | .map entries => uptoBulkEntries entries + 1
  | .held _ => 1
def uptoBulkAll {H : Type} : List (DataW H) → Nat
  | [] => 0
  | d :: r => uptoBulk d + uptoBulkAll r
def uptoBulkEntries {H : Type} : List (Lit × DataW H) → Nat
  | [] => 0
  | x :: r => uptoBulkEntry x + uptoBulkEntries r
def uptoBulkEntry {H : Type} : Lit × DataW H → Nat
  | (.string bytes, d) => bytes.length + uptoBulk d + 1
  | (_, d) => uptoBulk d + 1
 end
def uptoSmall : (H : Type) → List (DataW H) → Bool := fun _ ds => decide (uptoBulkAll ds ≤ 1048576)
def OpenSpec.upto (s : _root_.Go.ChangeSpec) : _root_.Go.OpenSpec := { _root_.Go.OpenSpec.ofChange s with cond := some uptoSmall }

/-- 'witnesskeep.Holds', WHERE WHAT IT READS IS OF BULK AT MOST 1048576: true; the input reads as it did. -/
def holdsUptoRow : OpenClaim := { program := "ytffajooegiempabdoor", sum := "54e51cd45c5fb4614e01c774efbb9fefcc4956f1b948bf993e585e851b8b1ebb", func := "witness/witnesskeep.Holds", spec := "holds", named := ["witness/octagon.firstSide", "witness/octagon.secondSide"], apart := false, laid := [("witness/octagon.firstSide", laid_witness_octagon_firstSide), ("witness/octagon.secondSide", laid_witness_octagon_secondSide)], narrowed := true }
def HoldsUptoSaid : Prop := holdsUptoRow.holds Tryd.pinned (OpenSpec.upto holdsSpec)

/-- 'witnesskeep.Sharp', WHERE WHAT IT READS IS OF BULK AT MOST 1048576: true; the input reads as it did. -/
def sharpUptoRow : OpenClaim := { program := "ytffajooegiempabdoor", sum := "54e51cd45c5fb4614e01c774efbb9fefcc4956f1b948bf993e585e851b8b1ebb", func := "witness/witnesskeep.Sharp", spec := "sharp", named := ["witness/octagon.firstSide", "witness/octagon.secondSide"], apart := false, laid := [("witness/octagon.firstSide", laid_witness_octagon_firstSide), ("witness/octagon.secondSide", laid_witness_octagon_secondSide)], narrowed := true }
def SharpUptoSaid : Prop := sharpUptoRow.holds Tryd.pinned (OpenSpec.upto sharpSpec)

/-- 'witnesskeep.Moves', WHERE WHAT IT READS IS OF BULK AT MOST 1048576: true; the input reads as it did. -/
def movesUptoRow : OpenClaim := { program := "ytffajooegiempabdoor", sum := "54e51cd45c5fb4614e01c774efbb9fefcc4956f1b948bf993e585e851b8b1ebb", func := "witness/witnesskeep.Moves", spec := "moves", recurses := true, named := ["witness/octagon.firstSide", "witness/octagon.secondSide"], apart := false, laid := [("witness/octagon.firstSide", laid_witness_octagon_firstSide), ("witness/octagon.secondSide", laid_witness_octagon_secondSide)], narrowed := true }
def MovesUptoSaid : Prop := movesUptoRow.holds Tryd.pinned (OpenSpec.upto movesSpec)

/-- 'witnesskeep.Sound', WHERE WHAT IT READS IS OF BULK AT MOST 1048576: true; the input reads as it did. -/
def soundUptoRow : OpenClaim := { program := "ytffajooegiempabdoor", sum := "54e51cd45c5fb4614e01c774efbb9fefcc4956f1b948bf993e585e851b8b1ebb", func := "witness/witnesskeep.Sound", spec := "sound", recurses := true, named := ["witness/octagon.firstSide", "witness/octagon.secondSide"], apart := false, laid := [("witness/octagon.firstSide", laid_witness_octagon_firstSide), ("witness/octagon.secondSide", laid_witness_octagon_secondSide)], narrowed := true }
def SoundUptoSaid : Prop := soundUptoRow.holds Tryd.pinned (OpenSpec.upto soundSpec)

/-- 'witnesskeep.Found', WHERE WHAT IT READS IS OF BULK AT MOST 1048576: true; the input reads as it did. -/
def foundUptoRow : OpenClaim := { program := "ytffajooegiempabdoor", sum := "54e51cd45c5fb4614e01c774efbb9fefcc4956f1b948bf993e585e851b8b1ebb", func := "witness/witnesskeep.Found", spec := "found", recurses := true, named := ["witness/octagon.firstSide", "witness/octagon.secondSide"], apart := false, laid := [("witness/octagon.firstSide", laid_witness_octagon_firstSide), ("witness/octagon.secondSide", laid_witness_octagon_secondSide)], narrowed := true }
def FoundUptoSaid : Prop := foundUptoRow.holds Tryd.pinned (OpenSpec.upto foundSpec)

/-- 'witnesskeep.Known', WHERE WHAT IT READS IS OF BULK AT MOST 1048576: true; the input reads as it did. -/
def knownUptoRow : OpenClaim := { program := "ytffajooegiempabdoor", sum := "54e51cd45c5fb4614e01c774efbb9fefcc4956f1b948bf993e585e851b8b1ebb", func := "witness/witnesskeep.Known", spec := "known", recurses := true, named := ["witness/octagon.firstSide", "witness/octagon.secondSide"], apart := false, laid := [("witness/octagon.firstSide", laid_witness_octagon_firstSide), ("witness/octagon.secondSide", laid_witness_octagon_secondSide)], narrowed := true }
def KnownUptoSaid : Prop := knownUptoRow.holds Tryd.pinned (OpenSpec.upto knownSpec)

end Rows
end Go.Proofs.YtffajooegiempabDoor
