import Derived.Test.YtadhimimdmoodabPn
namespace Go.Proofs.Ytadhimimdmoodab
variable {m m' : Rd}

def bytesOf (s : ByteArray) : List Int := s.data.toList.map fun b => (b.toNat : Int)
theorem bytesOf_len (s : ByteArray) : (bytesOf s).length = s.size := by simp [bytesOf]
theorem bytesOf_take (s : ByteArray) (k : Nat) (h : k < s.size) : (bytesOf s).take (k + 1) = (bytesOf s).take k ++ [((s[k]).toNat : Int)] := by
  rw [List.take_succ_eq_append_getElem (by rw [bytesOf_len]; exact h)]
  simp [bytesOf]; rfl
theorem bytesOf_get (s : ByteArray) (k : Nat) (h : k < s.size) : (bytesOf s)[k]? = some ((s[k]).toNat : Int) := by
  rw [List.getElem?_eq_getElem (by rw [bytesOf_len]; exact h)]
  simp [bytesOf]; rfl

/-- How many bytes can be read, and what the reader is behind them (none: it met one that cannot stand there). -/
def readFrom : Rd → List Int → Nat → Nat × Option Rd
  | m, [], n => (n, some m)
  | m, c :: l, n => match byteStep m c with
    | none => (n, none)
    | some m' => readFrom m' l (n + 1)

theorem readFrom_none {m0 m : Rd} {l : List Int} {k n : Nat} {c : Int} (h : feed m0 (l.take k) = some m) (hc : l[k]? = some c) (hb : byteStep m c = none) : readFrom m0 l n = (n + k, none) := by
  induction l generalizing m0 k n with
  | nil => simp at hc
  | cons a l ih =>
    cases k with
    | zero =>
      simp [feed] at h hc
      subst h; subst hc
      simp [readFrom, hb]
    | succ k =>
      simp only [List.take_succ_cons, feed] at h
      simp only [List.getElem?_cons_succ] at hc
      simp only [readFrom]
      split at h
      · cases h
      · rename_i m1 e
        rw [e]
        simp only
        rw [ih h hc]; congr 1; omega

theorem readFrom_some {m0 m : Rd} {l : List Int} {n : Nat} (h : feed m0 l = some m) : readFrom m0 l n = (n + l.length, some m) := by
  induction l generalizing m0 n with
  | nil => simp only [feed] at h; cases h; rfl
  | cons a l ih =>
    simp only [feed] at h
    simp only [readFrom]
    split at h
    · cases h
    · rename_i m1 e
      rw [e]
      simp only
      rw [ih h]; simp only [List.length_cons]; congr 1; omega

def isDone (m : Rd) : Bool := decide (m.state = 115) && decide (m.op.length = 0)

/-- The document's Scan, as numbers. -/
def scanOf (l : List Int) : Int × Int × Int :=
  if 160 < l.length then (0, 1, 0) else match readFrom init l 0 with
    | (n, none) => (0, 1, n)
    | (n, some m) => if isDone m then ((m.st.length : Int) + 1, 0, 0) else (0, 1, n)

theorem byte_value (hx : m.state = 118 ∨ m.state = 86 ∨ m.state = 120 ∨ m.state = 121 ∨ m.state = 110) (c : Int) : byteStep m c = valueStep m c := by
  unfold byteStep; rw [if_neg (by omega), if_neg (by omega), if_pos hx]
theorem byte_plain (hx : m.state = 59 ∨ m.state = 123) (c : Int) : byteStep m c = plainStep m c := by
  unfold byteStep; rw [if_neg (by omega), if_neg (by omega), if_neg (by omega), if_pos hx]
theorem byte_cond (hx : m.state = 99 ∨ m.state = 67 ∨ m.state = 100 ∨ m.state = 101 ∨ m.state = 102 ∨ m.state = 60 ∨ m.state = 98 ∨ m.state = 66 ∨ m.state = 109 ∨ m.state = 125) (c : Int) : byteStep m c = condStep m c := by
  unfold byteStep; rw [if_neg (by omega), if_neg (by omega), if_neg (by omega), if_neg (by omega)]

theorem behind_or (m : Rd) : behindOf m = 59 ∨ behindOf m = 123 := by
  unfold behindOf
  split
  · exact .inl rfl
  · exact .inr rfl

theorem setCur_cur (hn : 0 < m.st.length) : setCur m (cur m) = m := by
  have h := curs' hn
  unfold setCur
  have : m.st.set (m.st.length - 1) (cur m) = m.st := by
    apply List.ext_getElem?
    intro i
    rw [List.getElem?_set]
    split
    · rename_i e; subst e; rw [if_pos (by omega), h]
    · rfl
  rw [this]


end Go.Proofs.Ytadhimimdmoodab
