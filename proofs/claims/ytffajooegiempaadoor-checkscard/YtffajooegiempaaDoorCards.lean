/-
  DERIVED. GIVEN WITH THE SEED: THE CARDS: each row of YtffajooegiempaaDoorRows.lean that lists a variable, with what it lists TIED to the program's text (the seventh form; the later family's looks); each row that meets fmt, with fmt's text TOLD by the authors' own Lean function (tested against real Go, not proved from fmt's source: count such statements apart). THE CARD IS WHAT COUNTS. Prove the row's statement (the work); the ties are given (YtffajooegiempaaDoorTie.lean); close each card by the builder's one call (the guide's Derived/Test/ToyasCard.lean, 'card_holds'). Laid BY PROGRAM, IN A SANDBOX (cutbox-door.mjs). By AI agents, Wed Nov 11 2026. No macro, syntax, notation, axiom, sorry.
-/
import Derived.Test.YtffajooegiempaaDoorRows
import GoSem.ClaimSeven
namespace Go.Proofs.YtffajooegiempaaDoor
namespace Rows

/-- THE TIED CARD OF 'witnesslaw.Closes'. -/
def closesCard : Claim7 := { stood := { row := closesRow, standIns := [], harness := (true, "48ba155822ec4d25cf309c2d3a74a0b3a5b88a94a79e42150066c6b04bb26fe9"), looks := false }, kinds := [], alts := [], laidByText := true, laidKinds := [.data, .data], laidTests := true, laidLooks := .later }
def ClosesCardSaid : Prop := Claim7.holds Tryd.pinned (.plain (OpenSpec.ofChange closesSpec)) closesCard

/-- THE TIED CARD OF 'witnesslaw.Withins'. -/
def withinsCard : Claim7 := { stood := { row := withinsRow, standIns := [], harness := (true, "48ba155822ec4d25cf309c2d3a74a0b3a5b88a94a79e42150066c6b04bb26fe9"), looks := false }, kinds := [], alts := [], laidByText := true, laidKinds := [.data, .data], laidTests := true, laidLooks := .later }
def WithinsCardSaid : Prop := Claim7.holds Tryd.pinned (.plain (OpenSpec.ofChange withinsSpec)) withinsCard

/-- THE TIED CARD OF 'witnesslaw.Posts'. -/
def postsCard : Claim7 := { stood := { row := postsRow, standIns := [], harness := (true, "48ba155822ec4d25cf309c2d3a74a0b3a5b88a94a79e42150066c6b04bb26fe9"), looks := false }, kinds := [], alts := [], laidByText := true, laidKinds := [.data, .data], laidTests := true, laidLooks := .later }
def PostsCardSaid : Prop := Claim7.holds Tryd.pinned (.plain (OpenSpec.ofChange postsSpec)) postsCard

/-- THE TIED CARD OF 'witnesslaw.Safes'. -/
def safesCard : Claim7 := { stood := { row := safesRow, standIns := [], harness := (true, "48ba155822ec4d25cf309c2d3a74a0b3a5b88a94a79e42150066c6b04bb26fe9"), looks := false }, kinds := [], alts := [], laidByText := true, laidKinds := [.data, .data], laidTests := true, laidLooks := .later }
def SafesCardSaid : Prop := Claim7.holds Tryd.pinned (.plain (OpenSpec.ofChange safesSpec)) safesCard

/-- THE TIED CARD OF 'witnesslaw.Checks'. -/
def checksCard : Claim7 := { stood := { row := checksRow, standIns := [], harness := (true, "48ba155822ec4d25cf309c2d3a74a0b3a5b88a94a79e42150066c6b04bb26fe9"), looks := false }, kinds := [], alts := [], laidByText := true, laidKinds := [.data, .data], laidTests := true, laidLooks := .later }
def ChecksCardSaid : Prop := Claim7.holds Tryd.pinned (.plain (OpenSpec.ofChange checksSpec)) checksCard

/-- THE SECOND FORM's CARD OF 'witnesslaw.Closes'. -/
def closesUptoCard : Claim7 := { stood := { row := closesUptoRow, standIns := [], harness := (true, "48ba155822ec4d25cf309c2d3a74a0b3a5b88a94a79e42150066c6b04bb26fe9"), looks := false }, kinds := [], alts := [], laidByText := true, laidKinds := [.data, .data], laidTests := true, laidLooks := .later }
def ClosesUptoCardSaid : Prop := Claim7.holds Tryd.pinned (.plain (OpenSpec.upto closesSpec)) closesUptoCard

/-- THE SECOND FORM's CARD OF 'witnesslaw.Withins'. -/
def withinsUptoCard : Claim7 := { stood := { row := withinsUptoRow, standIns := [], harness := (true, "48ba155822ec4d25cf309c2d3a74a0b3a5b88a94a79e42150066c6b04bb26fe9"), looks := false }, kinds := [], alts := [], laidByText := true, laidKinds := [.data, .data], laidTests := true, laidLooks := .later }
def WithinsUptoCardSaid : Prop := Claim7.holds Tryd.pinned (.plain (OpenSpec.upto withinsSpec)) withinsUptoCard

/-- THE SECOND FORM's CARD OF 'witnesslaw.Posts'. -/
def postsUptoCard : Claim7 := { stood := { row := postsUptoRow, standIns := [], harness := (true, "48ba155822ec4d25cf309c2d3a74a0b3a5b88a94a79e42150066c6b04bb26fe9"), looks := false }, kinds := [], alts := [], laidByText := true, laidKinds := [.data, .data], laidTests := true, laidLooks := .later }
def PostsUptoCardSaid : Prop := Claim7.holds Tryd.pinned (.plain (OpenSpec.upto postsSpec)) postsUptoCard

/-- THE SECOND FORM's CARD OF 'witnesslaw.Safes'. -/
def safesUptoCard : Claim7 := { stood := { row := safesUptoRow, standIns := [], harness := (true, "48ba155822ec4d25cf309c2d3a74a0b3a5b88a94a79e42150066c6b04bb26fe9"), looks := false }, kinds := [], alts := [], laidByText := true, laidKinds := [.data, .data], laidTests := true, laidLooks := .later }
def SafesUptoCardSaid : Prop := Claim7.holds Tryd.pinned (.plain (OpenSpec.upto safesSpec)) safesUptoCard

/-- THE SECOND FORM's CARD OF 'witnesslaw.Checks'. -/
def checksUptoCard : Claim7 := { stood := { row := checksUptoRow, standIns := [], harness := (true, "48ba155822ec4d25cf309c2d3a74a0b3a5b88a94a79e42150066c6b04bb26fe9"), looks := false }, kinds := [], alts := [], laidByText := true, laidKinds := [.data, .data], laidTests := true, laidLooks := .later }
def ChecksUptoCardSaid : Prop := Claim7.holds Tryd.pinned (.plain (OpenSpec.upto checksSpec)) checksUptoCard
end Rows
end Go.Proofs.YtffajooegiempaaDoor
