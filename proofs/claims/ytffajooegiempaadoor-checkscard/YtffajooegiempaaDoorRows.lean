/-
  NARROWER THAN 'FOR EVERY INPUT', by the rows' own cells (each row's printed sentence says how): Closes: laid · Withins: laid · Posts: laid · Safes: laid · Checks: laid.
  DERIVED. THE GIVEN ROWS OF THIS SEAT. 5 by the template 'for every input the law returns true; each argument reads behind the call as it read before'; 0 by the template 'total and deterministic' (their statements: YtffajooegiempaaDoorTotals.lean).
  GIVEN WITH THE SEED: the statements are not yours to turn. If you find one false, say at which input.
  Laid BY PROGRAM, IN A SANDBOX (cutbox-rows.mjs): the forced cells as the released guide's own fill.sh prints them over the translation 98405e18c3ca15a3… (all of the seat's roots in one cut). By AI agents, Wed Nov 11 2026. No macro, syntax, notation, axiom, sorry.
-/
import Derived.Test.YtffajooegiempaaDoorChecked
import GoSem.Claim
import GoSem.ClaimJoined
import GoSem.ClaimMapViews
import Derived.JoinedTies
import Derived.KernelRfl
namespace Go.Proofs.YtffajooegiempaaDoor
/- THE CELL 'sum', in the pinned program and in every row, IS THE sha256 OF THE DUMP (.gsa) THAT YtffajooegiempaaDoorProg.lean LOADS. Nothing in Lean hashes anything: it is a label: what it is worth is what the hold of that sum in a sandbox is worth. -/
noncomputable def Tryd.pinned : Pinned := { name := "ytffajooegiempaadoor", sum := "98405e18c3ca15a30c2bfc792b5fce777230000abaeeacd295ec55548cf7c0c3", checked := Tryd.checked }
namespace Rows
def none {H : Type} : Left H := { results := [], args := [] }

/- WHAT THE LISTED PACKAGE-LEVEL VARIABLES READ AS WHEN THE CALL BEGINS. Each datum BY PROGRAM (the guide's laid-datum.mjs) off the statement by which the dump's own 'gosem.cut.vars' lays the variable. In a bare row this is a premise. The card (YtffajooegiempaaDoorCards.lean) ties it to the program's text. -/
def laid_witness_octagon_firstSide {H : Type} : DataW H := .agg [.lit (.int .i64 0), .lit (.int .i64 1), .lit (.int .i64 2), .lit (.int .i64 3), .lit (.int .i64 4), .lit (.int .i64 5), .lit (.int .i64 6), .lit (.int .i64 7), .lit (.int .i64 0), .lit (.int .i64 0), .lit (.int .i64 1), .lit (.int .i64 1), .lit (.int .i64 0), .lit (.int .i64 0), .lit (.int .i64 1), .lit (.int .i64 1), .lit (.int .i64 0), .lit (.int .i64 0), .lit (.int .i64 1), .lit (.int .i64 1), .lit (.int .i64 2), .lit (.int .i64 2), .lit (.int .i64 3), .lit (.int .i64 3), .lit (.int .i64 2), .lit (.int .i64 2), .lit (.int .i64 3), .lit (.int .i64 3), .lit (.int .i64 4), .lit (.int .i64 4), .lit (.int .i64 5), .lit (.int .i64 5)]
def laid_witness_octagon_secondSide {H : Type} : DataW H := .agg [.lit (.int .i64 0), .lit (.int .i64 1), .lit (.int .i64 2), .lit (.int .i64 3), .lit (.int .i64 4), .lit (.int .i64 5), .lit (.int .i64 6), .lit (.int .i64 7), .lit (.int .i64 2), .lit (.int .i64 3), .lit (.int .i64 2), .lit (.int .i64 3), .lit (.int .i64 4), .lit (.int .i64 5), .lit (.int .i64 4), .lit (.int .i64 5), .lit (.int .i64 6), .lit (.int .i64 7), .lit (.int .i64 6), .lit (.int .i64 7), .lit (.int .i64 4), .lit (.int .i64 5), .lit (.int .i64 4), .lit (.int .i64 5), .lit (.int .i64 6), .lit (.int .i64 7), .lit (.int .i64 6), .lit (.int .i64 7), .lit (.int .i64 6), .lit (.int .i64 7), .lit (.int .i64 6), .lit (.int .i64 7)]

/-- 'witnesslaw.Closes': WHATEVER THE INPUT: true; the input reads as it did. -/
def closesSpec : ChangeSpec := { name := "closes", fn := fun _ => fun
  | [d] => { results := [.lit (.bool true)], args := [d] }
  | _ => none }
def closesRow : OpenClaim := { program := "ytffajooegiempaadoor", sum := "98405e18c3ca15a30c2bfc792b5fce777230000abaeeacd295ec55548cf7c0c3", func := "witness/witnesslaw.Closes", spec := "closes", named := ["witness/octagon.firstSide", "witness/octagon.secondSide"], apart := false, laid := [("witness/octagon.firstSide", laid_witness_octagon_firstSide), ("witness/octagon.secondSide", laid_witness_octagon_secondSide)] }
def ClosesSaid : Prop := closesRow.holds Tryd.pinned (OpenSpec.ofChange closesSpec)

/-- ITS FALSE NEIGHBOUR: 'it returns false'. Refute it at one input. -/
def closesWrong : ChangeSpec := { name := "closes", fn := fun _ => fun
  | [d] => { results := [.lit (.bool false)], args := [d] }
  | _ => none }
def ClosesWrongFalsely : Prop := closesRow.holds Tryd.pinned (OpenSpec.ofChange closesWrong)

/-- 'witnesslaw.Withins': WHATEVER THE INPUT: true; the input reads as it did. -/
def withinsSpec : ChangeSpec := { name := "withins", fn := fun _ => fun
  | [d1, d2] => { results := [.lit (.bool true)], args := [d1, d2] }
  | _ => none }
def withinsRow : OpenClaim := { program := "ytffajooegiempaadoor", sum := "98405e18c3ca15a30c2bfc792b5fce777230000abaeeacd295ec55548cf7c0c3", func := "witness/witnesslaw.Withins", spec := "withins", named := ["witness/octagon.firstSide", "witness/octagon.secondSide"], apart := false, laid := [("witness/octagon.firstSide", laid_witness_octagon_firstSide), ("witness/octagon.secondSide", laid_witness_octagon_secondSide)] }
def WithinsSaid : Prop := withinsRow.holds Tryd.pinned (OpenSpec.ofChange withinsSpec)

/-- ITS FALSE NEIGHBOUR: 'it returns false'. Refute it at one input. -/
def withinsWrong : ChangeSpec := { name := "withins", fn := fun _ => fun
  | [d1, d2] => { results := [.lit (.bool false)], args := [d1, d2] }
  | _ => none }
def WithinsWrongFalsely : Prop := withinsRow.holds Tryd.pinned (OpenSpec.ofChange withinsWrong)

/-- 'witnesslaw.Posts': WHATEVER THE INPUT: true; the input reads as it did. -/
def postsSpec : ChangeSpec := { name := "posts", fn := fun _ => fun
  | [d1, d2, d3, d4] => { results := [.lit (.bool true)], args := [d1, d2, d3, d4] }
  | _ => none }
def postsRow : OpenClaim := { program := "ytffajooegiempaadoor", sum := "98405e18c3ca15a30c2bfc792b5fce777230000abaeeacd295ec55548cf7c0c3", func := "witness/witnesslaw.Posts", spec := "posts", recurses := true, named := ["witness/octagon.firstSide", "witness/octagon.secondSide"], apart := false, laid := [("witness/octagon.firstSide", laid_witness_octagon_firstSide), ("witness/octagon.secondSide", laid_witness_octagon_secondSide)] }
def PostsSaid : Prop := postsRow.holds Tryd.pinned (OpenSpec.ofChange postsSpec)

/-- ITS FALSE NEIGHBOUR: 'it returns false'. Refute it at one input. -/
def postsWrong : ChangeSpec := { name := "posts", fn := fun _ => fun
  | [d1, d2, d3, d4] => { results := [.lit (.bool false)], args := [d1, d2, d3, d4] }
  | _ => none }
def PostsWrongFalsely : Prop := postsRow.holds Tryd.pinned (OpenSpec.ofChange postsWrong)

/-- 'witnesslaw.Safes': WHATEVER THE INPUT: true; the input reads as it did. -/
def safesSpec : ChangeSpec := { name := "safes", fn := fun _ => fun
  | [d1, d2, d3] => { results := [.lit (.bool true)], args := [d1, d2, d3] }
  | _ => none }
def safesRow : OpenClaim := { program := "ytffajooegiempaadoor", sum := "98405e18c3ca15a30c2bfc792b5fce777230000abaeeacd295ec55548cf7c0c3", func := "witness/witnesslaw.Safes", spec := "safes", recurses := true, named := ["witness/octagon.firstSide", "witness/octagon.secondSide"], apart := false, laid := [("witness/octagon.firstSide", laid_witness_octagon_firstSide), ("witness/octagon.secondSide", laid_witness_octagon_secondSide)] }
def SafesSaid : Prop := safesRow.holds Tryd.pinned (OpenSpec.ofChange safesSpec)

/-- ITS FALSE NEIGHBOUR: 'it returns false'. Refute it at one input. -/
def safesWrong : ChangeSpec := { name := "safes", fn := fun _ => fun
  | [d1, d2, d3] => { results := [.lit (.bool false)], args := [d1, d2, d3] }
  | _ => none }
def SafesWrongFalsely : Prop := safesRow.holds Tryd.pinned (OpenSpec.ofChange safesWrong)

/-- 'witnesslaw.Checks': WHATEVER THE INPUT: true; the input reads as it did. -/
def checksSpec : ChangeSpec := { name := "checks", fn := fun _ => fun
  | [d1, d2] => { results := [.lit (.bool true)], args := [d1, d2] }
  | _ => none }
def checksRow : OpenClaim := { program := "ytffajooegiempaadoor", sum := "98405e18c3ca15a30c2bfc792b5fce777230000abaeeacd295ec55548cf7c0c3", func := "witness/witnesslaw.Checks", spec := "checks", recurses := true, named := ["witness/octagon.firstSide", "witness/octagon.secondSide"], apart := false, laid := [("witness/octagon.firstSide", laid_witness_octagon_firstSide), ("witness/octagon.secondSide", laid_witness_octagon_secondSide)] }
def ChecksSaid : Prop := checksRow.holds Tryd.pinned (OpenSpec.ofChange checksSpec)

/-- ITS FALSE NEIGHBOUR: 'it returns false'. Refute it at one input. -/
def checksWrong : ChangeSpec := { name := "checks", fn := fun _ => fun
  | [d1, d2] => { results := [.lit (.bool false)], args := [d1, d2] }
  | _ => none }
def ChecksWrongFalsely : Prop := checksRow.holds Tryd.pinned (OpenSpec.ofChange checksWrong)

/- THE SECOND FORM. 'bulk': how many values and letters a reading holds, each counted each time it is reached (what is shared counts as often as it is met; a slice's spare places count too). A statement '..UptoSaid' is the law's where the arguments, and the package variables that the reading takes, are together of bulk at most 1048576: NARROWER than '..Said'. Prove '..Said' where nothing that the law and all that it calls make is longer than what came in: it says more and counts as full. Else prove '..UptoSaid'. A law counts once. -/
mutual
def uptoBulk {H : Type} : DataW H → Nat
  | .lit (.string bytes) => bytes.length + 1
  | .lit _ => 1
  | .nil => 1
  | .ptr d => uptoBulk d + 1
  | .slice elems spare => uptoBulkAll elems + uptoBulkAll spare + 1
  | .agg parts => uptoBulkAll parts + 1
  | .iface _ d => uptoBulk d + 1
  | .map entries => uptoBulkEntries entries + 1
  | .held _ => 1
def uptoBulkAll {H : Type} : List (DataW H) → Nat
  | [] => 0
  | d :: r => uptoBulk d + uptoBulkAll r
def uptoBulkEntries {H : Type} : List (Lit × DataW H) → Nat
  | [] => 0
  | x :: r => uptoBulkEntry x + uptoBulkEntries r
def uptoBulkEntry {H : Type} : Lit × DataW H → Nat
  | (.string bytes, d) => bytes.length + uptoBulk d + 1
  | (_, d) => uptoBulk d + 1
 end
def uptoSmall : (H : Type) → List (DataW H) → Bool := fun _ ds => decide (uptoBulkAll ds ≤ 1048576)
def OpenSpec.upto (s : _root_.Go.ChangeSpec) : _root_.Go.OpenSpec := { _root_.Go.OpenSpec.ofChange s with cond := some uptoSmall }

/-- 'witnesslaw.Closes', WHERE WHAT IT READS IS OF BULK AT MOST 1048576: true; the input reads as it did. -/
def closesUptoRow : OpenClaim := { program := "ytffajooegiempaadoor", sum := "98405e18c3ca15a30c2bfc792b5fce777230000abaeeacd295ec55548cf7c0c3", func := "witness/witnesslaw.Closes", spec := "closes", named := ["witness/octagon.firstSide", "witness/octagon.secondSide"], apart := false, laid := [("witness/octagon.firstSide", laid_witness_octagon_firstSide), ("witness/octagon.secondSide", laid_witness_octagon_secondSide)], narrowed := true }
def ClosesUptoSaid : Prop := closesUptoRow.holds Tryd.pinned (OpenSpec.upto closesSpec)

/-- 'witnesslaw.Withins', WHERE WHAT IT READS IS OF BULK AT MOST 1048576: true; the input reads as it did. -/
def withinsUptoRow : OpenClaim := { program := "ytffajooegiempaadoor", sum := "98405e18c3ca15a30c2bfc792b5fce777230000abaeeacd295ec55548cf7c0c3", func := "witness/witnesslaw.Withins", spec := "withins", named := ["witness/octagon.firstSide", "witness/octagon.secondSide"], apart := false, laid := [("witness/octagon.firstSide", laid_witness_octagon_firstSide), ("witness/octagon.secondSide", laid_witness_octagon_secondSide)], narrowed := true }
def WithinsUptoSaid : Prop := withinsUptoRow.holds Tryd.pinned (OpenSpec.upto withinsSpec)

/-- 'witnesslaw.Posts', WHERE WHAT IT READS IS OF BULK AT MOST 1048576: true; the input reads as it did. -/
def postsUptoRow : OpenClaim := { program := "ytffajooegiempaadoor", sum := "98405e18c3ca15a30c2bfc792b5fce777230000abaeeacd295ec55548cf7c0c3", func := "witness/witnesslaw.Posts", spec := "posts", recurses := true, named := ["witness/octagon.firstSide", "witness/octagon.secondSide"], apart := false, laid := [("witness/octagon.firstSide", laid_witness_octagon_firstSide), ("witness/octagon.secondSide", laid_witness_octagon_secondSide)], narrowed := true }
def PostsUptoSaid : Prop := postsUptoRow.holds Tryd.pinned (OpenSpec.upto postsSpec)

/-- 'witnesslaw.Safes', WHERE WHAT IT READS IS OF BULK AT MOST 1048576: true; the input reads as it did. -/
def safesUptoRow : OpenClaim := { program := "ytffajooegiempaadoor", sum := "98405e18c3ca15a30c2bfc792b5fce777230000abaeeacd295ec55548cf7c0c3", func := "witness/witnesslaw.Safes", spec := "safes", recurses := true, named := ["witness/octagon.firstSide", "witness/octagon.secondSide"], apart := false, laid := [("witness/octagon.firstSide", laid_witness_octagon_firstSide), ("witness/octagon.secondSide", laid_witness_octagon_secondSide)], narrowed := true }
def SafesUptoSaid : Prop := safesUptoRow.holds Tryd.pinned (OpenSpec.upto safesSpec)

/-- 'witnesslaw.Checks', WHERE WHAT IT READS IS OF BULK AT MOST 1048576: true; the input reads as it did. -/
def checksUptoRow : OpenClaim := { program := "ytffajooegiempaadoor", sum := "98405e18c3ca15a30c2bfc792b5fce777230000abaeeacd295ec55548cf7c0c3", func := "witness/witnesslaw.Checks", spec := "checks", recurses := true, named := ["witness/octagon.firstSide", "witness/octagon.secondSide"], apart := false, laid := [("witness/octagon.firstSide", laid_witness_octagon_firstSide), ("witness/octagon.secondSide", laid_witness_octagon_secondSide)], narrowed := true }
def ChecksUptoSaid : Prop := checksUptoRow.holds Tryd.pinned (OpenSpec.upto checksSpec)

end Rows
end Go.Proofs.YtffajooegiempaaDoor
