/-
  DERIVED. GIVEN WITH THE SEED: THE CARDS: each row of YtkggelfkpieonabDoorRows.lean that lists a variable, with what it lists TIED to the program's text (the seventh form; the later family's looks); each row that meets fmt, with fmt's text TOLD by the authors' own Lean function (tested against real Go, not proved from fmt's source: count such statements apart). THE CARD IS WHAT COUNTS. Prove the row's statement (the work); the ties are given (YtkggelfkpieonabDoorTie.lean); close each card by the builder's one call (the guide's Derived/Test/ToyasCard.lean, 'card_holds'). Laid BY PROGRAM, IN A SANDBOX (cutbox-door.mjs). By AI agents, Wed Nov 11 2026. No macro, syntax, notation, axiom, sorry.
-/
import Derived.Test.YtkggelfkpieonabDoorRows
import GoSem.ClaimSeven
namespace Go.Proofs.YtkggelfkpieonabDoor
namespace Rows

/-- THE TIED CARD OF 'witnesskeep.Holds'. -/
def holdsCard : Claim7 := { stood := { row := holdsRow, standIns := [], harness := (true, "258e899c80f578a769bfdff054ded380c72f57e366d75556d6ccb879d5b501ca"), looks := false }, kinds := [], alts := [], laidByText := true, laidKinds := [.data, .data], laidTests := true, laidLooks := .later }
def HoldsCardSaid : Prop := Claim7.holds Tryd.pinned (.plain (OpenSpec.ofChange holdsSpec)) holdsCard

/-- THE TIED CARD OF 'witnesskeep.Sharp'. -/
def sharpCard : Claim7 := { stood := { row := sharpRow, standIns := [], harness := (true, "258e899c80f578a769bfdff054ded380c72f57e366d75556d6ccb879d5b501ca"), looks := false }, kinds := [], alts := [], laidByText := true, laidKinds := [.data, .data], laidTests := true, laidLooks := .later }
def SharpCardSaid : Prop := Claim7.holds Tryd.pinned (.plain (OpenSpec.ofChange sharpSpec)) sharpCard

/-- THE TIED CARD OF 'witnesskeep.Moves'. -/
def movesCard : Claim7 := { stood := { row := movesRow, standIns := [], harness := (true, "258e899c80f578a769bfdff054ded380c72f57e366d75556d6ccb879d5b501ca"), looks := false }, kinds := [], alts := [], laidByText := true, laidKinds := [.data, .data], laidTests := true, laidLooks := .later }
def MovesCardSaid : Prop := Claim7.holds Tryd.pinned (.plain (OpenSpec.ofChange movesSpec)) movesCard

/-- THE SECOND FORM's CARD OF 'witnesskeep.Holds'. -/
def holdsUptoCard : Claim7 := { stood := { row := holdsUptoRow, standIns := [], harness := (true, "258e899c80f578a769bfdff054ded380c72f57e366d75556d6ccb879d5b501ca"), looks := false }, kinds := [], alts := [], laidByText := true, laidKinds := [.data, .data], laidTests := true, laidLooks := .later }
def HoldsUptoCardSaid : Prop := Claim7.holds Tryd.pinned (.plain (OpenSpec.upto holdsSpec)) holdsUptoCard

/-- THE SECOND FORM's CARD OF 'witnesskeep.Sharp'. -/
def sharpUptoCard : Claim7 := { stood := { row := sharpUptoRow, standIns := [], harness := (true, "258e899c80f578a769bfdff054ded380c72f57e366d75556d6ccb879d5b501ca"), looks := false }, kinds := [], alts := [], laidByText := true, laidKinds := [.data, .data], laidTests := true, laidLooks := .later }
def SharpUptoCardSaid : Prop := Claim7.holds Tryd.pinned (.plain (OpenSpec.upto sharpSpec)) sharpUptoCard

/-- THE SECOND FORM's CARD OF 'witnesskeep.Moves'. -/
def movesUptoCard : Claim7 := { stood := { row := movesUptoRow, standIns := [], harness := (true, "258e899c80f578a769bfdff054ded380c72f57e366d75556d6ccb879d5b501ca"), looks := false }, kinds := [], alts := [], laidByText := true, laidKinds := [.data, .data], laidTests := true, laidLooks := .later }
def MovesUptoCardSaid : Prop := Claim7.holds Tryd.pinned (.plain (OpenSpec.upto movesSpec)) movesUptoCard
end Rows
end Go.Proofs.YtkggelfkpieonabDoor
