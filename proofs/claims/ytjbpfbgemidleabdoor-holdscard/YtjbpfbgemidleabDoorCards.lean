/-
  DERIVED. GIVEN WITH THE SEED: THE CARDS: each row of YtjbpfbgemidleabDoorRows.lean that lists a variable, with what it lists TIED to the program's text (the seventh form; the later family's looks); each row that meets fmt, with fmt's text TOLD by the authors' own Lean function (tested against real Go, not proved from fmt's source: count such statements apart). THE CARD IS WHAT COUNTS. Prove the row's statement (the work); the ties are given (YtjbpfbgemidleabDoorTie.lean); close each card by the builder's one call (the guide's Derived/Test/ToyasCard.lean, 'card_holds'). Laid BY PROGRAM, IN A SANDBOX (cutbox-door.mjs). By AI agents, Wed Nov 11 2026. No macro, syntax, notation, axiom, sorry.
-/
import Derived.Test.YtjbpfbgemidleabDoorRows
import GoSem.ClaimSeven
namespace Go.Proofs.YtjbpfbgemidleabDoor
namespace Rows

/-- THE TIED CARD OF 'witnesskeep.Holds'. -/
def holdsCard : Claim7 := { stood := { row := holdsRow, standIns := [], harness := (true, "95e39aa4ad153e6800d53a1d2c05ddea07c54c6f240bbd3ad728708121456628"), looks := false }, kinds := [], alts := [], laidByText := true, laidKinds := [.data, .data], laidTests := true, laidLooks := .later }
def HoldsCardSaid : Prop := Claim7.holds Tryd.pinned (.plain (OpenSpec.ofChange holdsSpec)) holdsCard

/-- THE TIED CARD OF 'witnesskeep.Sharp'. -/
def sharpCard : Claim7 := { stood := { row := sharpRow, standIns := [], harness := (true, "95e39aa4ad153e6800d53a1d2c05ddea07c54c6f240bbd3ad728708121456628"), looks := false }, kinds := [], alts := [], laidByText := true, laidKinds := [.data, .data], laidTests := true, laidLooks := .later }
def SharpCardSaid : Prop := Claim7.holds Tryd.pinned (.plain (OpenSpec.ofChange sharpSpec)) sharpCard

/-- THE SECOND FORM's CARD OF 'witnesskeep.Holds'. -/
def holdsUptoCard : Claim7 := { stood := { row := holdsUptoRow, standIns := [], harness := (true, "95e39aa4ad153e6800d53a1d2c05ddea07c54c6f240bbd3ad728708121456628"), looks := false }, kinds := [], alts := [], laidByText := true, laidKinds := [.data, .data], laidTests := true, laidLooks := .later }
def HoldsUptoCardSaid : Prop := Claim7.holds Tryd.pinned (.plain (OpenSpec.upto holdsSpec)) holdsUptoCard

/-- THE SECOND FORM's CARD OF 'witnesskeep.Sharp'. -/
def sharpUptoCard : Claim7 := { stood := { row := sharpUptoRow, standIns := [], harness := (true, "95e39aa4ad153e6800d53a1d2c05ddea07c54c6f240bbd3ad728708121456628"), looks := false }, kinds := [], alts := [], laidByText := true, laidKinds := [.data, .data], laidTests := true, laidLooks := .later }
def SharpUptoCardSaid : Prop := Claim7.holds Tryd.pinned (.plain (OpenSpec.upto sharpSpec)) sharpUptoCard
end Rows
end Go.Proofs.YtjbpfbgemidleabDoor
