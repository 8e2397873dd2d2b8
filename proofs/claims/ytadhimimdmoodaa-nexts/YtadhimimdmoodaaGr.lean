import Derived.Test.YtadhimimdmoodaaPm
/- The document's ways, plain. -/
namespace Go.Proofs.Ytadhimimdmoodaa

/-- The last statement ahead of i that ends behind it. -/
def lastOpen (S : List St) (i : Nat) : Nat → Int
  | 0 => -1
  | k + 1 => if i < (S.getD k noSt).fin then (k : Int) else lastOpen S i k
def endOf (u : St) (i : Nat) : Nat := if u.kind = 63 ∧ i < u.mid then u.mid else u.fin
def followR (S : List St) : Nat → Nat → Int
  | 0, _ => 0
  | n + 1, i => if lastOpen S i i < 0 then ((S.getD i noSt).fin : Int)
    else if (S.getD i noSt).fin < endOf (S.getD (lastOpen S i i).toNat noSt) i then ((S.getD i noSt).fin : Int)
    else if (S.getD (lastOpen S i i).toNat noSt).kind = 64 then lastOpen S i i
    else followR S n (lastOpen S i i).toNat

/-- How many ways lead out of a statement. -/
def waysR (u : St) : Int := if u.kind = 61 ∨ u.kind = 33 then 1 else 2
/-- Where a way leads. -/
def nextR (S : List St) (p : Nat) (way : Int) : Int :=
  let u := S.getD p noSt
  let f := followR S 21 p
  if u.kind = 61 ∨ u.kind = 33 ∨ (u.kind = 64 ∧ way = 1) then f
  else if u.kind = 64 ∧ u.fin = p + 1 then p
  else if u.kind = 64 then (p : Int) + 1
  else if way = 0 ∧ p + 1 < u.mid then (p : Int) + 1
  else if way = 1 ∧ u.mid < u.fin then u.mid
  else f

theorem lastOpen_lt (S : List St) (i : Nat) : ∀ k, -1 ≤ lastOpen S i k ∧ lastOpen S i k < k := by
  intro k
  induction k with
  | zero => unfold lastOpen; omega
  | succ k ih =>
    unfold lastOpen
    split
    · omega
    · omega

end Go.Proofs.Ytadhimimdmoodaa
