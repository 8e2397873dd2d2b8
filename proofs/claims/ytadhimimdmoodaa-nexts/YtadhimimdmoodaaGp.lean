import Derived.Test.YtadhimimdmoodaaDh
/- The program's ways, plain. -/
namespace Go.Proofs.Ytadhimimdmoodaa

/-- The first statement of a block from a point on. -/
def firstGo (p b fr : Int) : List Ds → Nat → Int
  | [], _ => -1
  | x :: l, i => if fr ≤ i ∧ x.parent = p ∧ x.block = b then (i : Int) else firstGo p b fr l (i + 1)
def firstP (F : List Ds) (p b fr : Int) : Int := firstGo p b fr F 0
def isRepP (F : List Ds) (p : Int) : Bool := decide (0 ≤ p) && decide (p < F.length) && decide ((F.getD p.toNat (newDs 0 0)).kind = 3)
def followP (F : List Ds) : Nat → Int → Int
  | 0, _ => F.length
  | n + 1, pt => if pt < 0 ∨ (F.length : Int) ≤ pt then F.length else
    if firstP F (F.getD pt.toNat (newDs 0 0)).parent (F.getD pt.toNat (newDs 0 0)).block (pt + 1) ≠ -1 then firstP F (F.getD pt.toNat (newDs 0 0)).parent (F.getD pt.toNat (newDs 0 0)).block (pt + 1)
    else if isRepP F (F.getD pt.toNat (newDs 0 0)).parent = true then (F.getD pt.toNat (newDs 0 0)).parent
    else followP F n (F.getD pt.toNat (newDs 0 0)).parent

def waysP (k : Int) : Int := if k = 2 ∨ k = 3 then 2 else 1
/-- Where a way leads, and the error. -/
def nextP (F : List Ds) (pt way : Int) : Int × Int :=
  if pt < 0 ∨ (F.length : Int) ≤ pt then (0, 2)
  else if way < 0 ∨ waysP (F.getD pt.toNat (newDs 0 0)).kind ≤ way then (0, 2)
  else if blocksOf (F.getD pt.toNat (newDs 0 0)).kind ≤ way then (followP F 21 pt, 0)
  else if firstP F pt way (pt + 1) ≠ -1 then (firstP F pt way (pt + 1), 0)
  else if (F.getD pt.toNat (newDs 0 0)).kind = 3 then (pt, 0)
  else (followP F 21 pt, 0)

theorem firstGo_drop {p b fr : Int} {F : List Ds} {k : Nat} (hk : k < F.length) : firstGo p b fr (F.drop k) k = if fr ≤ k ∧ (F.getD k (newDs 0 0)).parent = p ∧ (F.getD k (newDs 0 0)).block = b then (k : Int) else firstGo p b fr (F.drop (k + 1)) (k + 1) := by
  have e : F.drop k = F.getD k (newDs 0 0) :: F.drop (k + 1) := by
    rw [List.drop_eq_getElem_cons hk, List.getD_eq_getElem?_getD, List.getElem?_eq_getElem hk]; rfl
  rw [e, firstGo]

end Go.Proofs.Ytadhimimdmoodaa
