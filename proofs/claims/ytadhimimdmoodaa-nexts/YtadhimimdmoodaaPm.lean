/- The reader of the document's answer, as a plain machine: a step a byte. No Go in here. -/
namespace Go.Proofs.Ytadhimimdmoodaa

structure St where
  kind : Int
  var : Int
  star : Bool
  sg : List Int
  num : Int
  mid : Nat
  fin : Nat

structure Bk where
  of_ : Nat
  second : Bool

structure Rd where
  state : Int
  st : List St
  op : List Bk
  sign : Int
  neg : Bool
  dig : Int

def noSt : St := ⟨0, 0, false, [0, 0, 0, 0], 0, 0, 0⟩
def noBk : Bk := ⟨0, false⟩
def cur (m : Rd) : St := m.st.getD (m.st.length - 1) noSt
def setCur (m : Rd) (s : St) : Rd := { m with st := m.st.set (m.st.length - 1) s }
def top (m : Rd) : Bk := m.op.getD (m.op.length - 1) noBk
def behindOf (m : Rd) : Int := if (cur m).kind = 33 then 59 else 123

def beginStep (m : Rd) (k v nx : Int) : Option Rd :=
  if m.st.length = 20 then none else some { m with st := m.st ++ [⟨k, v, false, [0, 0, 0, 0], 0, 0, m.st.length + 1⟩], state := nx }

def shutStep (m : Rd) : Option Rd :=
  let b := top m
  let s := m.st.getD b.of_ noSt
  if s.kind = 63 ∧ b.second = false then some { m with st := m.st.set b.of_ { s with fin := m.st.length, mid := m.st.length }, state := 125 }
  else some { m with st := m.st.set b.of_ { s with fin := m.st.length }, op := m.op.take (m.op.length - 1) }

def startStep (m : Rd) (c : Int) : Option Rd :=
  if 97 ≤ c ∧ c ≤ 100 then beginStep m 61 (c - 97) 61
  else if c = 63 ∨ c = 64 then (if m.op.length < 4 then beginStep m c 0 99 else none)
  else if c = 33 then beginStep m c 0 99
  else if c = 125 ∧ 0 < m.op.length then shutStep m
  else none

def digitStep (m : Rd) (c : Int) (pos : Bool) (nx : Int) : Option Rd :=
  let d := if m.state = nx then m.dig else 0
  let u := if m.state = nx then (cur m).num else 0
  if c < 48 ∨ 57 < c ∨ d = 2 ∨ (d = 1 ∧ u = 0) ∨ (pos = true ∧ c = 48) then none
  else some { setCur m { cur m with num := 10 * u + (c - 48) } with dig := d + 1, state := nx }

def signTo (m : Rd) (v : Nat) (x : Int) (nx : Int) : Rd :=
  { setCur m { cur m with sg := (cur m).sg.set v x } with sign := x, state := nx }

def valueEnd (m : Rd) : Rd := { setCur m { cur m with num := m.sign * (cur m).num } with state := 115 }

def valueStep (m : Rd) (c : Int) : Option Rd :=
  if m.state = 118 then
    (if c = 42 then some { setCur m { cur m with star := true } with state := 59 }
     else if c = 45 then some { m with sign := -1, state := 86 }
     else if 97 ≤ c ∧ c ≤ 100 then some (signTo m (c - 97).toNat 1 120)
     else digitStep { m with sign := 1 } c false 110)
  else if m.state = 86 then
    (if 97 ≤ c ∧ c ≤ 100 then some (signTo m (c - 97).toNat m.sign 120)
     else digitStep m c true 110)
  else if m.state = 120 then
    (if c = 43 then some { m with sign := 1, state := 121 }
     else if c = 45 then some { m with sign := -1, state := 121 }
     else if c = 59 then some (valueEnd m)
     else none)
  else if m.state = 121 then digitStep m c false 110
  else (if c = 59 then some (valueEnd m) else digitStep m c false 110)

def plainStep (m : Rd) (c : Int) : Option Rd :=
  if m.state = 59 then (if c = 59 then some { m with state := 115 } else none)
  else if c ≠ 123 ∨ m.op.length = 4 then none
  else some { m with op := m.op ++ [⟨m.st.length - 1, false⟩], state := 115 }

def condStep (m : Rd) (c : Int) : Option Rd :=
  if m.state = 99 then
    (if c = 42 then some { setCur m { cur m with star := true } with state := behindOf m }
     else if c = 45 then some { m with sign := -1, state := 67 }
     else if 97 ≤ c ∧ c ≤ 100 then some (signTo m (c - 97).toNat 1 100)
     else none)
  else if m.state = 67 then
    (if 97 ≤ c ∧ c ≤ 100 then some (signTo m (c - 97).toNat m.sign 100) else none)
  else if m.state = 100 then
    (if c = 43 then some { m with sign := 1, state := 101 }
     else if c = 45 then some { m with sign := -1, state := 101 }
     else if c = 60 then some { m with state := 60 }
     else none)
  else if m.state = 101 then
    (if 97 ≤ c ∧ c ≤ 100 then (if (cur m).sg.getD (c - 97).toNat 0 = 0 then some (signTo m (c - 97).toNat m.sign 102) else none) else none)
  else if m.state = 102 then (if c = 60 then some { m with state := 60 } else none)
  else if m.state = 60 then (if c = 61 then some { m with neg := false, state := 98 } else none)
  else if m.state = 98 then (if c = 45 then some { m with neg := true, state := 66 } else digitStep m c false 109)
  else if m.state = 66 then digitStep m c true 109
  else if m.state = 109 then
    (if c = 59 ∨ c = 123 then plainStep { setCur m { cur m with num := if m.neg then -(cur m).num else (cur m).num } with state := behindOf m } c
     else digitStep m c false 109)
  else (if c = 123 then some { m with op := m.op.set (m.op.length - 1) { top m with second := true }, state := 115 } else none)

def byteStep (m : Rd) (c : Int) : Option Rd :=
  if m.state = 115 then startStep m c
  else if m.state = 61 then (if c = 61 then some { m with state := 118 } else none)
  else if m.state = 118 ∨ m.state = 86 ∨ m.state = 120 ∨ m.state = 121 ∨ m.state = 110 then valueStep m c
  else if m.state = 59 ∨ m.state = 123 then plainStep m c
  else condStep m c

/-- What the reader keeps to. -/
structure Ok (m : Rd) : Prop where
  states : m.state = 115 ∨ m.state = 61 ∨ (m.state = 118 ∨ m.state = 86 ∨ m.state = 120 ∨ m.state = 121 ∨ m.state = 110) ∨ (m.state = 59 ∨ m.state = 123) ∨
    (m.state = 99 ∨ m.state = 67 ∨ m.state = 100 ∨ m.state = 101 ∨ m.state = 102 ∨ m.state = 60 ∨ m.state = 98 ∨ m.state = 66 ∨ m.state = 109 ∨ m.state = 125)
  some_ : m.state ≠ 115 → 0 < m.st.length
  len : m.st.length ≤ 20
  oplen : m.op.length ≤ 4
  ofs : ∀ b, b ∈ m.op → b.of_ < m.st.length
  sgn : -1 ≤ m.sign ∧ m.sign ≤ 1
  digs : 0 ≤ m.dig ∧ m.dig ≤ 2
  nums : ∀ s, s ∈ m.st → -99 ≤ s.num ∧ s.num ≤ 99
  sgl : ∀ s, s ∈ m.st → s.sg.length = 4
  inNum : m.state = 110 ∨ m.state = 109 → (m.dig = 1 ∧ 0 ≤ (cur m).num ∧ (cur m).num ≤ 9) ∨ (m.dig = 2 ∧ 0 ≤ (cur m).num ∧ (cur m).num ≤ 99)
  open_ : m.state = 125 → 0 < m.op.length

end Go.Proofs.Ytadhimimdmoodaa
