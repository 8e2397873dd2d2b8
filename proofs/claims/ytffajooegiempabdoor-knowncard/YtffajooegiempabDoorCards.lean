/-
  DERIVED. GIVEN WITH THE SEED: THE CARDS: each row of YtffajooegiempabDoorRows.lean that lists a variable, with what it lists TIED to the program's text (the seventh form; the later family's looks); each row that meets fmt, with fmt's text TOLD by the authors' own Lean function (tested against real Go, not proved from fmt's source: count such statements apart). THE CARD IS WHAT COUNTS. Prove the row's statement (the work); the ties are given (YtffajooegiempabDoorTie.lean); close each card by the builder's one call (the guide's Derived/Test/ToyasCard.lean, 'card_holds'). Laid BY PROGRAM, IN A SANDBOX (cutbox-door.mjs). By AI agents, Wed Nov 11 2026. No macro, syntax, notation, axiom, sorry.
-/
import Derived.Test.YtffajooegiempabDoorRows
import GoSem.ClaimSeven
namespace Go.Proofs.YtffajooegiempabDoor
namespace Rows

/-- THE TIED CARD OF 'witnesskeep.Holds'. -/
def holdsCard : Claim7 := { stood := { row := holdsRow, standIns := [], harness := (true, "aa2ec8a446b1b01c7670e56b03cbfede11d561dbe7a425c11b3ac79a5a4c1a54"), looks := false }, kinds := [], alts := [], laidByText := true, laidKinds := [.data, .data], laidTests := true, laidLooks := .later }
def HoldsCardSaid : Prop := Claim7.holds Tryd.pinned (.plain (OpenSpec.ofChange holdsSpec)) holdsCard

/-- THE TIED CARD OF 'witnesskeep.Sharp'. -/
def sharpCard : Claim7 := { stood := { row := sharpRow, standIns := [], harness := (true, "aa2ec8a446b1b01c7670e56b03cbfede11d561dbe7a425c11b3ac79a5a4c1a54"), looks := false }, kinds := [], alts := [], laidByText := true, laidKinds := [.data, .data], laidTests := true, laidLooks := .later }
def SharpCardSaid : Prop := Claim7.holds Tryd.pinned (.plain (OpenSpec.ofChange sharpSpec)) sharpCard

/-- THE TIED CARD OF 'witnesskeep.Moves'. -/
def movesCard : Claim7 := { stood := { row := movesRow, standIns := [], harness := (true, "aa2ec8a446b1b01c7670e56b03cbfede11d561dbe7a425c11b3ac79a5a4c1a54"), looks := false }, kinds := [], alts := [], laidByText := true, laidKinds := [.data, .data], laidTests := true, laidLooks := .later }
def MovesCardSaid : Prop := Claim7.holds Tryd.pinned (.plain (OpenSpec.ofChange movesSpec)) movesCard

/-- THE TIED CARD OF 'witnesskeep.Sound'. -/
def soundCard : Claim7 := { stood := { row := soundRow, standIns := [], harness := (true, "aa2ec8a446b1b01c7670e56b03cbfede11d561dbe7a425c11b3ac79a5a4c1a54"), looks := false }, kinds := [], alts := [], laidByText := true, laidKinds := [.data, .data], laidTests := true, laidLooks := .later }
def SoundCardSaid : Prop := Claim7.holds Tryd.pinned (.plain (OpenSpec.ofChange soundSpec)) soundCard

/-- THE TIED CARD OF 'witnesskeep.Found'. -/
def foundCard : Claim7 := { stood := { row := foundRow, standIns := [], harness := (true, "aa2ec8a446b1b01c7670e56b03cbfede11d561dbe7a425c11b3ac79a5a4c1a54"), looks := false }, kinds := [], alts := [], laidByText := true, laidKinds := [.data, .data], laidTests := true, laidLooks := .later }
def FoundCardSaid : Prop := Claim7.holds Tryd.pinned (.plain (OpenSpec.ofChange foundSpec)) foundCard

/-- THE TIED CARD OF 'witnesskeep.Known'. -/
def knownCard : Claim7 := { stood := { row := knownRow, standIns := [], harness := (true, "aa2ec8a446b1b01c7670e56b03cbfede11d561dbe7a425c11b3ac79a5a4c1a54"), looks := false }, kinds := [], alts := [], laidByText := true, laidKinds := [.data, .data], laidTests := true, laidLooks := .later }
def KnownCardSaid : Prop := Claim7.holds Tryd.pinned (.plain (OpenSpec.ofChange knownSpec)) knownCard

/-- THE SECOND FORM's CARD OF 'witnesskeep.Holds'. -/
def holdsUptoCard : Claim7 := { stood := { row := holdsUptoRow, standIns := [], harness := (true, "aa2ec8a446b1b01c7670e56b03cbfede11d561dbe7a425c11b3ac79a5a4c1a54"), looks := false }, kinds := [], alts := [], laidByText := true, laidKinds := [.data, .data], laidTests := true, laidLooks := .later }
def HoldsUptoCardSaid : Prop := Claim7.holds Tryd.pinned (.plain (OpenSpec.upto holdsSpec)) holdsUptoCard

/-- THE SECOND FORM's CARD OF 'witnesskeep.Sharp'. -/
def sharpUptoCard : Claim7 := { stood := { row := sharpUptoRow, standIns := [], harness := (true, "aa2ec8a446b1b01c7670e56b03cbfede11d561dbe7a425c11b3ac79a5a4c1a54"), looks := false }, kinds := [], alts := [], laidByText := true, laidKinds := [.data, .data], laidTests := true, laidLooks := .later }
def SharpUptoCardSaid : Prop := Claim7.holds Tryd.pinned (.plain (OpenSpec.upto sharpSpec)) sharpUptoCard

/-- THE SECOND FORM's CARD OF 'witnesskeep.Moves'. -/
def movesUptoCard : Claim7 := { stood := { row := movesUptoRow, standIns := [], harness := (true, "aa2ec8a446b1b01c7670e56b03cbfede11d561dbe7a425c11b3ac79a5a4c1a54"), looks := false }, kinds := [], alts := [], laidByText := true, laidKinds := [.data, .data], laidTests := true, laidLooks := .later }
def MovesUptoCardSaid : Prop := Claim7.holds Tryd.pinned (.plain (OpenSpec.upto movesSpec)) movesUptoCard

/-- THE SECOND FORM's CARD OF 'witnesskeep.Sound'. -/
def soundUptoCard : Claim7 := { stood := { row := soundUptoRow, standIns := [], harness := (true, "aa2ec8a446b1b01c7670e56b03cbfede11d561dbe7a425c11b3ac79a5a4c1a54"), looks := false }, kinds := [], alts := [], laidByText := true, laidKinds := [.data, .data], laidTests := true, laidLooks := .later }
def SoundUptoCardSaid : Prop := Claim7.holds Tryd.pinned (.plain (OpenSpec.upto soundSpec)) soundUptoCard

/-- THE SECOND FORM's CARD OF 'witnesskeep.Found'. -/
def foundUptoCard : Claim7 := { stood := { row := foundUptoRow, standIns := [], harness := (true, "aa2ec8a446b1b01c7670e56b03cbfede11d561dbe7a425c11b3ac79a5a4c1a54"), looks := false }, kinds := [], alts := [], laidByText := true, laidKinds := [.data, .data], laidTests := true, laidLooks := .later }
def FoundUptoCardSaid : Prop := Claim7.holds Tryd.pinned (.plain (OpenSpec.upto foundSpec)) foundUptoCard

/-- THE SECOND FORM's CARD OF 'witnesskeep.Known'. -/
def knownUptoCard : Claim7 := { stood := { row := knownUptoRow, standIns := [], harness := (true, "aa2ec8a446b1b01c7670e56b03cbfede11d561dbe7a425c11b3ac79a5a4c1a54"), looks := false }, kinds := [], alts := [], laidByText := true, laidKinds := [.data, .data], laidTests := true, laidLooks := .later }
def KnownUptoCardSaid : Prop := Claim7.holds Tryd.pinned (.plain (OpenSpec.upto knownSpec)) knownUptoCard
end Rows
end Go.Proofs.YtffajooegiempabDoor
