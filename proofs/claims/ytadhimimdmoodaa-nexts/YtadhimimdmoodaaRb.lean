import Derived.Test.YtadhimimdmoodaaPm
import Derived.Test.YtadhimimdmoodaaRa
namespace Go.Proofs.Ytadhimimdmoodaa
open Go.RowKit

def ptr (p : Nat) : Value := .pointer (some ⟨p, 0, none⟩)
def stCells (q : Nat) (s : St) : Array Value := #[.int .u8 s.kind, .int .i64 s.var, .bool s.star, .slice (some ⟨q, 0, none⟩) 4 4, .int .i64 s.num, .int .i64 s.mid, .int .i64 s.fin]
def rdCells (m : Rd) (vs vo : Value) : Array Value := #[.int .u8 m.state, vs, vo, .int .i64 m.sign, .bool m.neg, .int .i64 m.dig]
def sgCells (l : List Int) : Array Value := (l.map (Value.int .i64)).toArray
def bkCells (b : Bk) : Array Value := #[.int .i64 b.of_, .bool b.second]

/-- A block of cells, none of them frozen. -/
def At (w : World) (b : Nat) (c : Array Value) (t : TypeId) : Prop := w.heap[b]? = some (.cells c t (0, 0))

theorem At.cell {w : World} {b : Nat} {c : Array Value} {t : TypeId} (h : At w b c t) (i : Nat) : w.cell? ⟨b, i, none⟩ = c[i]? := by
  unfold At at h; simp [World.cell?, h]
theorem At.free {w : World} {b : Nat} {c : Array Value} {t : TypeId} (h : At w b c t) (i : Nat) : w.frozen? ⟨b, i, none⟩ = false := by
  unfold At at h; simp [World.frozen?, h]
theorem At.lt {w : World} {b : Nat} {c : Array Value} {t : TypeId} (h : At w b c t) : b < w.heap.size := lt_of_block h
theorem At.ne {w : World} {a b : Nat} {c d : Array Value} {t u : TypeId} (h : At w a c t) (k : At w b d u) (hn : t ≠ u) : a ≠ b := by
  intro e; subst e; unfold At at h k; rw [h] at k; simp at k; exact hn k.2
theorem At.same {w w' : World} {b : Nat} {c : Array Value} {t : TypeId} (h : At w b c t) (k : w'.heap[b]? = w.heap[b]?) : At w' b c t := by
  unfold At at *; rw [k]; exact h
theorem At.other {w : World} {b : Nat} {c : Array Value} {t : TypeId} (h : At w b c t) {a : Nat} (o : Nat) (u : Value) (hn : b ≠ a) : At (w.setCell ⟨a, o, none⟩ u) b c t :=
  h.same (Below.heap_setCell _ _ _ _ hn)
theorem At.put {w : World} {b : Nat} {c : Array Value} {t : TypeId} (h : At w b c t) (o : Nat) (u : Value) : At (w.setCell ⟨b, o, none⟩ u) b (c.setIfInBounds o u) t := by
  have hlt := h.lt
  unfold At at *
  have h' : w.heap[b] = .cells c t (0, 0) := by simpa [Array.getElem?_eq_getElem hlt] using h
  show (w.heap.modify b _)[b]? = _
  rw [Array.getElem?_eq_getElem (by simpa using hlt), Array.getElem_modify_self, h']
  rfl
theorem At.drewN {w : World} {b : Nat} {c : Array Value} {t : TypeId} (h : At w b c t) (k : Nat) : At (w.drewN k) b c t := h

abbrev tR : TypeId := 47
abbrev tS : TypeId := 70
abbrev tB : TypeId := 81
abbrev tPS : TypeId := 68
abbrev tPB : TypeId := 79
abbrev tI : TypeId := 3

/-- The reader's memory: its block, the two rows of pointers, each statement with its signs, each open block. -/
structure Rep (B : Nat) (w : World) (r : Nat) (m : Rd) (vs vo : Value) (P Q O : Nat → Nat) : Prop where
  rd : At w r (rdCells m vs vo) tR
  rs : w.ownsRow B tPS 1 vs m.st.length ((List.range m.st.length).map fun i => ptr (P i))
  ro : w.ownsRow B tPB 1 vo m.op.length ((List.range m.op.length).map fun i => ptr (O i))
  st : ∀ i s, m.st[i]? = some s → At w (P i) (stCells (Q i) s) tS ∧ At w (Q i) (sgCells s.sg) tI
  op : ∀ i b, m.op[i]? = some b → At w (O i) (bkCells b) tB
  injP : ∀ i j, i < m.st.length → j < m.st.length → P i = P j → i = j
  injQ : ∀ i j, i < m.st.length → j < m.st.length → Q i = Q j → i = j
  injO : ∀ i j, i < m.op.length → j < m.op.length → O i = O j → i = j
  geR : B ≤ r
  geP : ∀ i, i < m.st.length → B ≤ P i ∧ B ≤ Q i
  geO : ∀ i, i < m.op.length → B ≤ O i

variable {B : Nat} {w w' : World} {r : Nat} {m : Rd} {vs vo : Value} {P Q O : Nat → Nat}

theorem ownsRow_at {e : TypeId} {v : Value} {n : Nat} {xs : List Value} (h : w.ownsRow B e 1 v n xs) (hn : 0 < n) : ∃ g cap c, v = .slice (some ⟨g, 0, none⟩) n cap ∧ B ≤ g ∧ At w g c e ∧ n ≤ cap := by
  obtain ⟨h1, h2 | ⟨g, cap, c, hv, hg, hh, h3, h4, h5, h6⟩⟩ := h
  · omega
  · exact ⟨g, cap, c, hv, hg, hh, h3⟩

theorem ownsRow_same {e : TypeId} {v : Value} {n : Nat} {xs : List Value} (h : w.ownsRow B e 1 v n xs) (k : ∀ g, v.ownBlock = some g → w'.heap[g]? = w.heap[g]?) : w'.ownsRow B e 1 v n xs := by
  obtain ⟨h1, h2⟩ := h
  refine ⟨h1, ?_⟩
  rcases h2 with h2 | ⟨g, cap, c, hv, hg, hh, r⟩
  · exact .inl h2
  · subst hv; exact .inr ⟨g, cap, c, rfl, hg, by rw [k g rfl]; exact hh, r⟩

theorem ownsRow_type {e : TypeId} {v : Value} {n : Nat} {xs : List Value} (h : w.ownsRow B e 1 v n xs) {b : Nat} {c : Array Value} {t : TypeId} (k : At w b c t) (hn : e ≠ t) : v.ownBlock ≠ some b := by
  obtain ⟨h1, h2⟩ := h
  rcases h2 with ⟨rfl, _⟩ | ⟨g, cap, c', rfl, hg, hh, r⟩
  · simp [Value.ownBlock]
  · intro e'
    simp [Value.ownBlock] at e'
    exact (At.ne (show At w g c' e from hh) k hn) e'

theorem ownsRow_put {e : TypeId} {v : Value} {n : Nat} {xs : List Value} (h : w.ownsRow B e 1 v n xs) {b : Nat} {c : Array Value} {t : TypeId} (k : At w b c t) (hn : e ≠ t) (o : Nat) (u : Value) : (w.setCell ⟨b, o, none⟩ u).ownsRow B e 1 v n xs :=
  ownsRow_setCell_other h (ownsRow_type h k hn) u

theorem Rep.drewN (h : Rep B w r m vs vo P Q O) (k : Nat) : Rep B (w.drewN k) r m vs vo P Q O := ⟨h.rd, h.rs, h.ro, h.st, h.op, h.injP, h.injQ, h.injO, h.geR, h.geP, h.geO⟩

/-- A field of the reader is written. -/
theorem Rep.setRd (h : Rep B w r m vs vo P Q O) (o : Nat) (u : Value) (m' : Rd) (hc : (rdCells m vs vo).setIfInBounds o u = rdCells m' vs vo) (hs : m'.st = m.st) (ho : m'.op = m.op) :
    Rep B (w.setCell ⟨r, o, none⟩ u) r m' vs vo P Q O where
  rd := by rw [← hc]; exact h.rd.put o u
  rs := by rw [hs]; exact ownsRow_put h.rs h.rd (by decide) o u
  ro := by rw [ho]; exact ownsRow_put h.ro h.rd (by decide) o u
  st := by
    intro i s hi; rw [hs] at hi
    obtain ⟨a, b⟩ := h.st i s hi
    exact ⟨a.other o u (a.ne h.rd (by decide)), b.other o u (b.ne h.rd (by decide))⟩
  op := by
    intro i s hi; rw [ho] at hi
    have a := h.op i s hi
    exact a.other o u (a.ne h.rd (by decide))
  injP := by rw [hs]; exact h.injP
  injQ := by rw [hs]; exact h.injQ
  injO := by rw [ho]; exact h.injO
  geR := h.geR
  geP := by rw [hs]; exact h.geP
  geO := by rw [ho]; exact h.geO

/-- A field of a statement is written. -/
theorem Rep.setSt (h : Rep B w r m vs vo P Q O) (k : Nat) (s s' : St) (hk : m.st[k]? = some s) (o : Nat) (u : Value) (m' : Rd) (hc : (stCells (Q k) s).setIfInBounds o u = stCells (Q k) s') (hsg : s'.sg = s.sg) (hm : m' = { m with st := m.st.set k s' }) :
    Rep B (w.setCell ⟨P k, o, none⟩ u) r m' vs vo P Q O := by
  subst hm
  have hlt : k < m.st.length := by
    rcases Nat.lt_or_ge k m.st.length with h' | h'
    · exact h'
    · simp [List.getElem?_eq_none h'] at hk
  obtain ⟨ka, kb⟩ := h.st k s hk
  exact {
    rd := h.rd.other o u (h.rd.ne ka (by decide))
    rs := by simp only [List.length_set]; exact ownsRow_put h.rs ka (by decide) o u
    ro := ownsRow_put h.ro ka (by decide) o u
    st := by
      intro i x hi
      by_cases e : i = k
      · subst e
        simp [hlt] at hi
        subst hi
        exact ⟨by rw [← hc]; exact ka.put o u, by rw [hsg]; exact kb.other o u (kb.ne ka (by decide))⟩
      · simp only [List.getElem?_set, if_neg (Ne.symm e)] at hi
        have hil : i < m.st.length := by
          rcases Nat.lt_or_ge i m.st.length with h' | h'
          · exact h'
          · simp [List.getElem?_eq_none h'] at hi
        obtain ⟨a, b⟩ := h.st i x hi
        exact ⟨a.other o u (fun q => e (h.injP i k hil hlt q)), b.other o u (b.ne ka (by decide))⟩
    op := by
      intro i x hi
      have a := h.op i x hi
      exact a.other o u (a.ne ka (by decide))
    injP := by simp only [List.length_set]; exact h.injP
    injQ := by simp only [List.length_set]; exact h.injQ
    injO := h.injO
    geR := h.geR
    geP := by simp only [List.length_set]; exact h.geP
    geO := h.geO }

/-- A sign of a statement is written. -/
theorem Rep.setSg (h : Rep B w r m vs vo P Q O) (k : Nat) (s : St) (hk : m.st[k]? = some s) (o : Nat) (x : Int) (m' : Rd) (hm : m' = { m with st := m.st.set k { s with sg := s.sg.set o x } }) :
    Rep B (w.setCell ⟨Q k, o, none⟩ (.int .i64 x)) r m' vs vo P Q O := by
  subst hm
  have hlt : k < m.st.length := by
    rcases Nat.lt_or_ge k m.st.length with h' | h'
    · exact h'
    · simp [List.getElem?_eq_none h'] at hk
  obtain ⟨ka, kb⟩ := h.st k s hk
  have hsg : (sgCells s.sg).setIfInBounds o (.int .i64 x) = sgCells (s.sg.set o x) := by simp [sgCells, List.map_set]
  exact {
    rd := h.rd.other o _ (h.rd.ne kb (by decide))
    rs := by simp only [List.length_set]; exact ownsRow_put h.rs kb (by decide) o _
    ro := ownsRow_put h.ro kb (by decide) o _
    st := by
      intro i y hi
      by_cases e : i = k
      · subst e
        simp [hlt] at hi
        subst hi
        exact ⟨ka.other o _ (ka.ne kb (by decide)), by show At _ _ (sgCells (s.sg.set o x)) _; rw [← hsg]; exact kb.put o _⟩
      · simp only [List.getElem?_set, if_neg (Ne.symm e)] at hi
        have hil : i < m.st.length := by
          rcases Nat.lt_or_ge i m.st.length with h' | h'
          · exact h'
          · simp [List.getElem?_eq_none h'] at hi
        obtain ⟨a, b⟩ := h.st i y hi
        exact ⟨a.other o _ (a.ne kb (by decide)), b.other o _ (fun q => e (h.injQ i k hil hlt q))⟩
    op := by
      intro i y hi
      have a := h.op i y hi
      exact a.other o _ (a.ne kb (by decide))
    injP := by simp only [List.length_set]; exact h.injP
    injQ := by simp only [List.length_set]; exact h.injQ
    injO := h.injO
    geR := h.geR
    geP := by simp only [List.length_set]; exact h.geP
    geO := h.geO }

/-- An open block is written. -/
theorem Rep.setBk (h : Rep B w r m vs vo P Q O) (k : Nat) (b b' : Bk) (hk : m.op[k]? = some b) (o : Nat) (u : Value) (m' : Rd) (hc : (bkCells b).setIfInBounds o u = bkCells b') (hm : m' = { m with op := m.op.set k b' }) :
    Rep B (w.setCell ⟨O k, o, none⟩ u) r m' vs vo P Q O := by
  subst hm
  have hlt : k < m.op.length := by
    rcases Nat.lt_or_ge k m.op.length with h' | h'
    · exact h'
    · simp [List.getElem?_eq_none h'] at hk
  have ka := h.op k b hk
  exact {
    rd := h.rd.other o u (h.rd.ne ka (by decide))
    rs := ownsRow_put h.rs ka (by decide) o u
    ro := by simp only [List.length_set]; exact ownsRow_put h.ro ka (by decide) o u
    st := by
      intro i x hi
      obtain ⟨a, b⟩ := h.st i x hi
      exact ⟨a.other o u (a.ne ka (by decide)), b.other o u (b.ne ka (by decide))⟩
    op := by
      intro i x hi
      by_cases e : i = k
      · subst e
        simp [hlt] at hi
        subst hi
        rw [← hc]; exact ka.put o u
      · simp only [List.getElem?_set, if_neg (Ne.symm e)] at hi
        have hil : i < m.op.length := by
          rcases Nat.lt_or_ge i m.op.length with h' | h'
          · exact h'
          · simp [List.getElem?_eq_none h'] at hi
        exact (h.op i x hi).other o u (fun q => e (h.injO i k hil hlt q))
    injP := h.injP
    injQ := h.injQ
    injO := by simp only [List.length_set]; exact h.injO
    geR := h.geR
    geP := h.geP
    geO := by simp only [List.length_set]; exact h.geO }

/-- What a step answers and leaves. -/
def Post (B : Nat) (w : World) (r : Nat) (o : Option Rd) : Ending → World → Prop := fun e w' =>
  e = .returned (.bool o.isSome) ∧ Below B w w' ∧ ∀ m', o = some m' → ∃ vs vo P Q O, Rep B w' r m' vs vo P Q O

end Go.Proofs.Ytadhimimdmoodaa
