import Derived.Test.YtffajooegiempabDoorJ7
/- What the machine keeps to. No Go in here. -/
namespace Go.Proofs.YtffajooegiempabDoor
variable {m m' : Rd}

theorem setCur_len (m : Rd) (s : St) : (setCur m s).st.length = m.st.length := by simp [setCur]
theorem mem_setCur {s t : St} (h : t ∈ (setCur m s).st) : t ∈ m.st ∨ t = s := List.mem_or_eq_of_mem_set h
theorem curs' (hn : 0 < m.st.length) : m.st[m.st.length - 1]? = some (cur m) := by
  unfold cur
  rw [List.getD_eq_getElem?_getD, List.getElem?_eq_getElem (by omega)]; rfl
theorem cur_mem (hn : 0 < m.st.length) : cur m ∈ m.st := List.mem_of_getElem? (curs' hn)
theorem cur_setCur' (hn : 0 < m.st.length) (s : St) : cur (setCur m s) = s := by
  have h : (setCur m s).st[m.st.length - 1]? = some s := by simp [setCur, List.getElem?_set]; omega
  unfold cur
  rw [List.getD_eq_getElem?_getD, setCur_len, h]; rfl

/-- The states in which a statement is being read and a block is not yet awaited. -/
def inSt (x : Int) : Prop := x = 115 ∨ x = 61 ∨ (x = 118 ∨ x = 86 ∨ x = 120 ∨ x = 121 ∨ x = 110) ∨ (x = 59 ∨ x = 123) ∨ (x = 99 ∨ x = 67 ∨ x = 100 ∨ x = 101 ∨ x = 102 ∨ x = 60 ∨ x = 98 ∨ x = 66 ∨ x = 109)

theorem Ok.fields (ok : Ok m) (hn : 0 < m.st.length) (x sg : Int) (ng : Bool) (d : Int) (hs : inSt x) (h1 : -1 ≤ sg ∧ sg ≤ 1) (h2 : 0 ≤ d ∧ d ≤ 2)
    (h5 : x = 110 ∨ x = 109 → (d = 1 ∧ 0 ≤ (cur m).num ∧ (cur m).num ≤ 9) ∨ (d = 2 ∧ 0 ≤ (cur m).num ∧ (cur m).num ≤ 99)) : Ok { m with state := x, sign := sg, neg := ng, dig := d } where
  states := by unfold inSt at hs; show x = _ ∨ _; simp only; omega
  some_ := fun _ => hn
  len := ok.len
  oplen := ok.oplen
  ofs := ok.ofs
  sgn := h1
  digs := h2
  nums := ok.nums
  sgl := ok.sgl
  inNum := h5
  open_ := fun h => by exfalso; have h' : x = 125 := h; unfold inSt at hs; omega

theorem Ok.setC (ok : Ok m) (hn : 0 < m.st.length) (hx : m.state ≠ 110 ∧ m.state ≠ 109) (s : St) (h3 : -99 ≤ s.num ∧ s.num ≤ 99) (h4 : s.sg.length = 4) : Ok (setCur m s) where
  states := ok.states
  some_ := fun _ => by rw [setCur_len]; exact hn
  len := by rw [setCur_len]; exact ok.len
  oplen := ok.oplen
  ofs := fun b hb => by rw [setCur_len]; exact ok.ofs b hb
  sgn := ok.sgn
  digs := ok.digs
  nums := fun t ht => (mem_setCur ht).elim (fun h => ok.nums t h) (fun h => by rw [h]; exact h3)
  sgl := fun t ht => (mem_setCur ht).elim (fun h => ok.sgl t h) (fun h => by rw [h]; exact h4)
  inNum := fun h => by exfalso; have h' : m.state = 110 ∨ m.state = 109 := h; omega
  open_ := ok.open_

/-- The same, whatever the state was: it becomes x. -/
theorem Ok.put (ok : Ok m) (hn : 0 < m.st.length) (s : St) (x sg : Int) (ng : Bool) (d : Int) (hs : inSt x) (h1 : -1 ≤ sg ∧ sg ≤ 1) (h2 : 0 ≤ d ∧ d ≤ 2) (h3 : -99 ≤ s.num ∧ s.num ≤ 99) (h4 : s.sg.length = 4)
    (h5 : x = 110 ∨ x = 109 → (d = 1 ∧ 0 ≤ s.num ∧ s.num ≤ 9) ∨ (d = 2 ∧ 0 ≤ s.num ∧ s.num ≤ 99)) : Ok { setCur m s with state := x, sign := sg, neg := ng, dig := d } := by
  have o1 : Ok { m with state := 115 } := ok.fields hn 115 m.sign m.neg m.dig (.inl rfl) ok.sgn ok.digs (fun h => by omega)
  have o2 := o1.setC hn ⟨(by decide : (115 : Int) ≠ 110), (by decide : (115 : Int) ≠ 109)⟩ s h3 h4
  have hl : 0 < (setCur { m with state := 115 } s).st.length := by rw [setCur_len]; exact hn
  exact o2.fields hl x sg ng d hs h1 h2 (by rw [cur_setCur' (m := { m with state := 115 }) hn]; exact h5)

theorem Ok.push (ok : Ok m) (hl : m.st.length ≠ 20) (s : St) (x : Int) (hx : x = 61 ∨ x = 99) (h3 : -99 ≤ s.num ∧ s.num ≤ 99) (h4 : s.sg.length = 4) : Ok { m with st := m.st ++ [s], state := x } where
  states := by show x = _ ∨ _; simp only; omega
  some_ := fun _ => by simp
  len := by have := ok.len; simp; omega
  oplen := ok.oplen
  ofs := fun b hb => by have := ok.ofs b hb; simp; omega
  sgn := ok.sgn
  digs := ok.digs
  nums := fun t ht => by
    rcases List.mem_append.1 ht with h | h
    · exact ok.nums t h
    · rw [List.mem_singleton.1 h]; exact h3
  sgl := fun t ht => by
    rcases List.mem_append.1 ht with h | h
    · exact ok.sgl t h
    · rw [List.mem_singleton.1 h]; exact h4
  inNum := fun h => by exfalso; have h' : x = 110 ∨ x = 109 := h; omega
  open_ := fun h => by exfalso; have h' : x = 125 := h; omega

theorem Ok.begin_ (ok : Ok m) {k v x : Int} (hx : x = 61 ∨ x = 99) (h : beginStep m k v x = some m') : Ok m' := by
  unfold beginStep at h
  split at h
  · cases h
  · rename_i hl
    cases h
    exact ok.push hl _ x hx ⟨(by decide : (-99 : Int) ≤ 0), (by decide : (0 : Int) ≤ 99)⟩ rfl

theorem digit_inv {c x : Int} {pos : Bool} (h : digitStep m c pos x = some m') : ∃ d u, ((m.state = x ∧ d = m.dig ∧ u = (cur m).num) ∨ (m.state ≠ x ∧ d = 0 ∧ u = 0)) ∧
    ¬ (c < 48 ∨ 57 < c ∨ d = 2 ∨ (d = 1 ∧ u = 0) ∨ (pos = true ∧ c = 48)) ∧ m' = { setCur m { cur m with num := 10 * u + (c - 48) } with dig := d + 1, state := x } := by
  simp only [digitStep] at h
  by_cases e : m.state = x
  · rw [if_pos e, if_pos e] at h
    by_cases hc : c < 48 ∨ 57 < c ∨ m.dig = 2 ∨ (m.dig = 1 ∧ (cur m).num = 0) ∨ (pos = true ∧ c = 48)
    · rw [if_pos hc] at h; cases h
    · rw [if_neg hc] at h
      exact ⟨_, _, .inl ⟨e, rfl, rfl⟩, hc, (Option.some.inj h).symm⟩
  · rw [if_neg e, if_neg e] at h
    by_cases hc : c < 48 ∨ 57 < c ∨ (0 : Int) = 2 ∨ ((0 : Int) = 1 ∧ (0 : Int) = 0) ∨ (pos = true ∧ c = 48)
    · rw [if_pos hc] at h; cases h
    · rw [if_neg hc] at h
      exact ⟨_, _, .inr ⟨e, rfl, rfl⟩, hc, (Option.some.inj h).symm⟩

theorem Ok.digit (ok : Ok m) (hn : 0 < m.st.length) {c x : Int} {pos : Bool} (hx : x = 110 ∨ x = 109) (h : digitStep m c pos x = some m') : Ok m' := by
  obtain ⟨d, u, hdu, hc, rfl⟩ := digit_inv h
  have hin := ok.inNum
  have hnum := ok.nums (Go.Proofs.YtffajooegiempabDoor.cur m) (cur_mem hn)
  have hsg := ok.sgl (Go.Proofs.YtffajooegiempabDoor.cur m) (cur_mem hn)
  have hd := ok.digs
  have key : 0 ≤ d ∧ d ≤ 1 ∧ 0 ≤ u ∧ (d = 0 → u = 0) ∧ u ≤ 9 := by
    rcases hdu with ⟨e, rfl, rfl⟩ | ⟨_, rfl, rfl⟩
    · have := hin (by omega); omega
    · omega
  refine ok.put hn _ x m.sign m.neg (d + 1) (by unfold inSt; omega) ok.sgn (by omega) ?_ hsg ?_
  · show -99 ≤ 10 * u + (c - 48) ∧ 10 * u + (c - 48) ≤ 99
    omega
  · intro _
    show (d + 1 = 1 ∧ 0 ≤ 10 * u + (c - 48) ∧ 10 * u + (c - 48) ≤ 9) ∨ (d + 1 = 2 ∧ 0 ≤ 10 * u + (c - 48) ∧ 10 * u + (c - 48) ≤ 99)
    omega

theorem Ok.shut (ok : Ok m) (hs : m.state = 115) (ho : 0 < m.op.length) (h : shutStep m = some m') : Ok m' := by
  have htop : m.op[m.op.length - 1]? = some (top m) := by
    unfold top
    rw [List.getD_eq_getElem?_getD, List.getElem?_eq_getElem (by omega)]; rfl
  have hof : (top m).of_ < m.st.length := ok.ofs _ (List.mem_of_getElem? htop)
  have hmem : m.st.getD (top m).of_ noSt ∈ m.st := by rw [List.getD_eq_getElem?_getD, List.getElem?_eq_getElem hof]; exact List.getElem_mem hof
  have hn := ok.nums _ hmem
  have hg := ok.sgl _ hmem
  simp only [shutStep] at h
  split at h
  · cases h
    exact {
      states := .inr (.inr (.inr (.inr (.inr (.inr (.inr (.inr (.inr (.inr (.inr (.inr (.inr rfl))))))))))))
      some_ := fun _ => by show 0 < (m.st.set _ _).length; rw [List.length_set]; omega
      len := by show (m.st.set _ _).length ≤ 20; rw [List.length_set]; exact ok.len
      oplen := ok.oplen
      ofs := fun b hb => by show b.of_ < (m.st.set _ _).length; rw [List.length_set]; exact ok.ofs b hb
      sgn := ok.sgn
      digs := ok.digs
      nums := fun t ht => (List.mem_or_eq_of_mem_set ht).elim (fun h => ok.nums t h) (fun h => by rw [h]; exact hn)
      sgl := fun t ht => (List.mem_or_eq_of_mem_set ht).elim (fun h => ok.sgl t h) (fun h => by rw [h]; exact hg)
      inNum := fun h => by exfalso; have h' : (125 : Int) = 110 ∨ (125 : Int) = 109 := h; omega
      open_ := fun _ => ho }
  · cases h
    exact {
      states := .inl hs
      some_ := fun h => absurd hs h
      len := by show (m.st.set _ _).length ≤ 20; rw [List.length_set]; exact ok.len
      oplen := by show (m.op.take _).length ≤ 4; have := ok.oplen; simp; omega
      ofs := fun b hb => by show b.of_ < (m.st.set _ _).length; rw [List.length_set]; exact ok.ofs b (List.mem_of_mem_take hb)
      sgn := ok.sgn
      digs := ok.digs
      nums := fun t ht => (List.mem_or_eq_of_mem_set ht).elim (fun h => ok.nums t h) (fun h => by rw [h]; exact hn)
      sgl := fun t ht => (List.mem_or_eq_of_mem_set ht).elim (fun h => ok.sgl t h) (fun h => by rw [h]; exact hg)
      inNum := fun h => by exfalso; have h' : m.state = 110 ∨ m.state = 109 := h; omega
      open_ := fun h => by exfalso; have h' : m.state = 125 := h; omega }

theorem Ok.plain (ok : Ok m) (hn : 0 < m.st.length) {c : Int} (h : plainStep m c = some m') : Ok m' := by
  unfold plainStep at h
  split at h
  · split at h
    · cases h; exact ok.fields hn 115 m.sign m.neg m.dig (.inl rfl) ok.sgn ok.digs (fun h => by omega)
    · cases h
  · split at h
    · cases h
    · rename_i hc
      cases h
      have o := ok.fields hn 115 m.sign m.neg m.dig (.inl rfl) ok.sgn ok.digs (fun h => by omega)
      exact { o with
        oplen := by have := ok.oplen; simp; omega
        ofs := fun b hb => by
          rcases List.mem_append.1 hb with h | h
          · exact ok.ofs b h
          · rw [List.mem_singleton.1 h]; show m.st.length - 1 < m.st.length; omega
        open_ := fun h => by exfalso; have h' : (115 : Int) = 125 := h; omega }

theorem Ok.signTo (ok : Ok m) (hn : 0 < m.st.length) (v : Nat) (y x : Int) (hy : -1 ≤ y ∧ y ≤ 1) (hx : inSt x) (h5 : x ≠ 110 ∧ x ≠ 109) : Ok (signTo m v y x) :=
  ok.put hn _ x y m.neg m.dig hx hy ok.digs (ok.nums (Go.Proofs.YtffajooegiempabDoor.cur m) (cur_mem hn)) (by show ((cur m).sg.set v y).length = 4; rw [List.length_set]; exact ok.sgl _ (cur_mem hn)) (fun h => by omega)

theorem Ok.value (ok : Ok m) (hn : 0 < m.st.length) {c : Int} (_hx : m.state = 118 ∨ m.state = 86 ∨ m.state = 120 ∨ m.state = 121 ∨ m.state = 110) (h : valueStep m c = some m') : Ok m' := by
  have hnum := ok.nums _ (cur_mem hn)
  have hsg := ok.sgl _ (cur_mem hn)
  have hs := ok.sgn
  have hd := ok.digs
  have ve : Ok (valueEnd m) := by
    refine ok.put hn _ 115 m.sign m.neg m.dig (.inl rfl) hs hd ?_ hsg (fun h => by omega)
    show -99 ≤ m.sign * (Go.Proofs.YtffajooegiempabDoor.cur m).num ∧ m.sign * (Go.Proofs.YtffajooegiempabDoor.cur m).num ≤ 99
    generalize (Go.Proofs.YtffajooegiempabDoor.cur m).num = u at *
    rcases (show m.sign = -1 ∨ m.sign = 0 ∨ m.sign = 1 by omega) with e | e | e <;> rw [e] <;> omega
  unfold valueStep at h
  split at h
  · split at h
    · cases h; exact ok.put hn _ 59 m.sign m.neg m.dig (by unfold inSt; omega) hs hd hnum hsg (fun h => by omega)
    split at h
    · cases h; exact ok.fields hn 86 (-1) m.neg m.dig (by unfold inSt; omega) (by omega) hd (fun h => by omega)
    split at h
    · cases h; exact ok.signTo hn _ 1 120 (by omega) (by unfold inSt; omega) (by omega)
    · rename_i e _ _ _
      exact Ok.digit (ok.fields hn m.state 1 m.neg m.dig (by unfold inSt; omega) (by omega) hd (fun h => by omega)) hn (.inl rfl) h
  split at h
  · split at h
    · cases h; exact ok.signTo hn _ m.sign 120 hs (by unfold inSt; omega) (by omega)
    · exact ok.digit hn (.inl rfl) h
  split at h
  · split at h
    · cases h; exact ok.fields hn 121 1 m.neg m.dig (by unfold inSt; omega) (by omega) hd (fun h => by omega)
    split at h
    · cases h; exact ok.fields hn 121 (-1) m.neg m.dig (by unfold inSt; omega) (by omega) hd (fun h => by omega)
    split at h
    · cases h; exact ve
    · cases h
  split at h
  · exact ok.digit hn (.inl rfl) h
  · split at h
    · cases h; exact ve
    · exact ok.digit hn (.inl rfl) h

theorem behind_in (m : Rd) : inSt (behindOf m) ∧ behindOf m ≠ 110 ∧ behindOf m ≠ 109 := by
  unfold behindOf inSt
  split <;> omega

theorem Ok.cond (ok : Ok m) (hn : 0 < m.st.length) {c : Int} (h : condStep m c = some m') (hx : m.state = 99 ∨ m.state = 67 ∨ m.state = 100 ∨ m.state = 101 ∨ m.state = 102 ∨ m.state = 60 ∨ m.state = 98 ∨ m.state = 66 ∨ m.state = 109 ∨ m.state = 125) : Ok m' := by
  have hnum := ok.nums _ (cur_mem hn)
  have hsg := ok.sgl _ (cur_mem hn)
  have hs := ok.sgn
  have hd := ok.digs
  have hbi := behind_in m
  unfold condStep at h
  rcases hx with hx | hx | hx | hx | hx | hx | hx | hx | hx | hx
  · rw [hx, if_pos rfl] at h
    split at h
    · cases h; exact ok.put hn _ (behindOf m) m.sign m.neg m.dig hbi.1 hs hd hnum hsg (fun h => by omega)
    split at h
    · cases h; exact ok.fields hn 67 (-1) m.neg m.dig (by unfold inSt; omega) (by omega) hd (fun h => by omega)
    split at h
    · cases h; exact ok.signTo hn _ 1 100 (by omega) (by unfold inSt; omega) (by omega)
    · cases h
  · rw [hx, if_neg (by decide), if_pos rfl] at h
    split at h
    · cases h; exact ok.signTo hn _ m.sign 100 hs (by unfold inSt; omega) (by omega)
    · cases h
  · rw [hx, if_neg (by decide), if_neg (by decide), if_pos rfl] at h
    split at h
    · cases h; exact ok.fields hn 101 1 m.neg m.dig (by unfold inSt; omega) (by omega) hd (fun h => by omega)
    split at h
    · cases h; exact ok.fields hn 101 (-1) m.neg m.dig (by unfold inSt; omega) (by omega) hd (fun h => by omega)
    split at h
    · cases h; exact ok.fields hn 60 m.sign m.neg m.dig (by unfold inSt; omega) hs hd (fun h => by omega)
    · cases h
  · rw [hx, if_neg (by decide), if_neg (by decide), if_neg (by decide), if_pos rfl] at h
    split at h
    · split at h
      · cases h; exact ok.signTo hn _ m.sign 102 hs (by unfold inSt; omega) (by omega)
      · cases h
    · cases h
  · rw [hx, if_neg (by decide), if_neg (by decide), if_neg (by decide), if_neg (by decide), if_pos rfl] at h
    split at h
    · cases h; exact ok.fields hn 60 m.sign m.neg m.dig (by unfold inSt; omega) hs hd (fun h => by omega)
    · cases h
  · rw [hx, if_neg (by decide), if_neg (by decide), if_neg (by decide), if_neg (by decide), if_neg (by decide), if_pos rfl] at h
    split at h
    · cases h; exact ok.fields hn 98 m.sign false m.dig (by unfold inSt; omega) hs hd (fun h => by omega)
    · cases h
  · rw [hx, if_neg (by decide), if_neg (by decide), if_neg (by decide), if_neg (by decide), if_neg (by decide), if_neg (by decide), if_pos rfl] at h
    split at h
    · cases h; exact ok.fields hn 66 m.sign true m.dig (by unfold inSt; omega) hs hd (fun h => by omega)
    · exact ok.digit hn (.inr rfl) h
  · rw [hx, if_neg (by decide), if_neg (by decide), if_neg (by decide), if_neg (by decide), if_neg (by decide), if_neg (by decide), if_neg (by decide), if_pos rfl] at h
    exact ok.digit hn (.inr rfl) h
  · rw [hx, if_neg (by decide), if_neg (by decide), if_neg (by decide), if_neg (by decide), if_neg (by decide), if_neg (by decide), if_neg (by decide), if_neg (by decide), if_pos rfl] at h
    split at h
    · refine Ok.plain (m := { setCur m { Go.Proofs.YtffajooegiempabDoor.cur m with num := if m.neg then -(Go.Proofs.YtffajooegiempabDoor.cur m).num else (Go.Proofs.YtffajooegiempabDoor.cur m).num } with state := behindOf m }) ?_ (by show 0 < (setCur _ _).st.length; rw [setCur_len]; exact hn) h
      refine ok.put hn _ (behindOf m) m.sign m.neg m.dig hbi.1 hs hd ?_ hsg (fun h => by omega)
      show -99 ≤ (if m.neg then _ else _) ∧ (if m.neg then _ else _) ≤ 99
      split <;> omega
    · exact ok.digit hn (.inr rfl) h
  · rw [hx, if_neg (by decide), if_neg (by decide), if_neg (by decide), if_neg (by decide), if_neg (by decide), if_neg (by decide), if_neg (by decide), if_neg (by decide), if_neg (by decide)] at h
    split at h
    · cases h
      have o := ok.fields hn 115 m.sign m.neg m.dig (.inl rfl) hs hd (fun h => by omega)
      have hop : 0 < m.op.length := ok.open_ hx
      have htop : m.op[m.op.length - 1]? = some (top m) := by
        unfold top
        rw [List.getD_eq_getElem?_getD, List.getElem?_eq_getElem (by omega)]; rfl
      exact { o with
        oplen := by show (m.op.set _ _).length ≤ 4; rw [List.length_set]; exact ok.oplen
        ofs := fun b hb => by
          rcases List.mem_or_eq_of_mem_set hb with h | h
          · exact ok.ofs b h
          · rw [h]; exact ok.ofs (top m) (List.mem_of_getElem? htop)
        open_ := fun h => by exfalso; have h' : (115 : Int) = 125 := h; omega }
    · cases h

theorem Ok.byte (ok : Ok m) {c : Int} (h : byteStep m c = some m') : Ok m' := by
  have hst := ok.states
  unfold byteStep at h
  split at h
  · rename_i hs
    unfold startStep at h
    split at h
    · exact ok.begin_ (.inl rfl) h
    split at h
    · split at h
      · exact ok.begin_ (.inr rfl) h
      · cases h
    split at h
    · exact ok.begin_ (.inr rfl) h
    split at h
    · rename_i ho
      exact ok.shut hs ho.2 h
    · cases h
  rename_i h115
  have hn := ok.some_ h115
  split at h
  · split at h
    · cases h; exact ok.fields hn 118 m.sign m.neg m.dig (by unfold inSt; omega) ok.sgn ok.digs (fun h => by omega)
    · cases h
  split at h
  · rename_i hv
    exact ok.value hn hv h
  split at h
  · exact ok.plain hn h
  · exact ok.cond hn h (by omega)

def init : Rd := ⟨115, [], [], 0, false, 0⟩
theorem Ok.init : Ok init where
  states := .inl rfl
  some_ := fun h => absurd rfl h
  len := by decide
  oplen := by decide
  ofs := fun b hb => by cases hb
  sgn := ⟨by decide, by decide⟩
  digs := ⟨by decide, by decide⟩
  nums := fun b hb => by cases hb
  sgl := fun b hb => by cases hb
  inNum := fun h => by exfalso; have h' : (115 : Int) = 110 ∨ (115 : Int) = 109 := h; omega
  open_ := fun h => by exfalso; have h' : (115 : Int) = 125 := h; omega

/-- All bytes of a list, one behind the other. -/
def feed : Rd → List Int → Option Rd
  | m, [] => some m
  | m, c :: l => match byteStep m c with
    | none => none
    | some m' => feed m' l

theorem feed_snoc (m : Rd) (l : List Int) (c : Int) : feed m (l ++ [c]) = (feed m l).bind fun m' => byteStep m' c := by
  induction l generalizing m with
  | nil =>
    simp only [List.nil_append, feed, Option.bind_some]
    cases h : byteStep m c <;> simp
  | cons a l ih =>
    simp only [List.cons_append, feed]
    cases h : byteStep m a with
    | none => simp
    | some m' => simpa using ih m'

theorem Ok.feed (ok : Ok m) {l : List Int} (h : Go.Proofs.YtffajooegiempabDoor.feed m l = some m') : Ok m' := by
  induction l generalizing m with
  | nil => simp only [Go.Proofs.YtffajooegiempabDoor.feed] at h; cases h; exact ok
  | cons a l ih =>
    simp only [Go.Proofs.YtffajooegiempabDoor.feed] at h
    split at h
    · cases h
    · rename_i m1 e
      exact ih (ok.byte e) h

end Go.Proofs.YtffajooegiempabDoor

namespace Go.Proofs.YtffajooegiempabDoor
variable {m m' : Rd}


/-- How many bytes can be read, and what the reader is behind them (none: it met one that cannot stand there). -/
def readFrom : Rd → List Int → Nat → Nat × Option Rd
  | m, [], n => (n, some m)
  | m, c :: l, n => match byteStep m c with
    | none => (n, none)
    | some m' => readFrom m' l (n + 1)

theorem readFrom_none {m0 m : Rd} {l : List Int} {k n : Nat} {c : Int} (h : feed m0 (l.take k) = some m) (hc : l[k]? = some c) (hb : byteStep m c = none) : readFrom m0 l n = (n + k, none) := by
  induction l generalizing m0 k n with
  | nil => simp at hc
  | cons a l ih =>
    cases k with
    | zero =>
      simp [feed] at h hc
      subst h; subst hc
      simp [readFrom, hb]
    | succ k =>
      simp only [List.take_succ_cons, feed] at h
      simp only [List.getElem?_cons_succ] at hc
      simp only [readFrom]
      split at h
      · cases h
      · rename_i m1 e
        try rw [e]
        try simp only
        rw [ih h hc]; congr 1; omega

theorem readFrom_some {m0 m : Rd} {l : List Int} {n : Nat} (h : feed m0 l = some m) : readFrom m0 l n = (n + l.length, some m) := by
  induction l generalizing m0 n with
  | nil => simp only [feed] at h; cases h; rfl
  | cons a l ih =>
    simp only [feed] at h
    simp only [readFrom]
    split at h
    · cases h
    · rename_i m1 e
      try rw [e]
      try simp only
      rw [ih h]; simp only [List.length_cons]; congr 1; omega

def isDone (m : Rd) : Bool := decide (m.state = 115) && decide (m.op.length = 0)

/-- The document's Scan, as numbers. -/
def scanOf (l : List Int) : Int × Int × Int :=
  if 160 < l.length then (0, 1, 0) else match readFrom init l 0 with
    | (n, none) => (0, 1, n)
    | (n, some m) => if isDone m then ((m.st.length : Int) + 1, 0, 0) else (0, 1, n)

theorem byte_value (hx : m.state = 118 ∨ m.state = 86 ∨ m.state = 120 ∨ m.state = 121 ∨ m.state = 110) (c : Int) : byteStep m c = valueStep m c := by
  unfold byteStep; rw [if_neg (by omega), if_neg (by omega), if_pos hx]
theorem byte_plain (hx : m.state = 59 ∨ m.state = 123) (c : Int) : byteStep m c = plainStep m c := by
  unfold byteStep; rw [if_neg (by omega), if_neg (by omega), if_neg (by omega), if_pos hx]
theorem byte_cond (hx : m.state = 99 ∨ m.state = 67 ∨ m.state = 100 ∨ m.state = 101 ∨ m.state = 102 ∨ m.state = 60 ∨ m.state = 98 ∨ m.state = 66 ∨ m.state = 109 ∨ m.state = 125) (c : Int) : byteStep m c = condStep m c := by
  unfold byteStep; rw [if_neg (by omega), if_neg (by omega), if_neg (by omega), if_neg (by omega)]

theorem behind_or (m : Rd) : behindOf m = 59 ∨ behindOf m = 123 := by
  unfold behindOf
  split
  · exact .inl rfl
  · exact .inr rfl

theorem setCur_cur (hn : 0 < m.st.length) : setCur m (cur m) = m := by
  have h := curs' hn
  unfold setCur
  have : m.st.set (m.st.length - 1) (cur m) = m.st := by
    apply List.ext_getElem?
    intro i
    rw [List.getElem?_set]
    split
    · rename_i e; subst e; rw [if_pos (by omega), h]
    · rfl
  rw [this]


end Go.Proofs.YtffajooegiempabDoor

namespace Go.Proofs.YtffajooegiempabDoor
open Go.RowKit

abbrev tD : TypeId := 85
abbrev tDs : TypeId := 73

/-- The program's reader: the text, the place, is it stuck, what was found. -/
def Dat (w : World) (r : Nat) (s : ByteArray) (d : Nat × Bool) (vf : Value) : Prop := At w r #[.string s, .int .i64 d.1, .bool d.2, vf] tD

/-- Nothing but block r has turned, and no block has come. -/
structure Tch (r : Nat) (w w' : World) : Prop where
  os : w'.os = w.os
  tape : w'.tape = w.tape
  output : w'.output = w.output
  size : w'.heap.size = w.heap.size
  block : ∀ k, k ≠ r → w'.heap[k]? = w.heap[k]?

theorem Tch.refl (r : Nat) (w : World) : Tch r w w := ⟨rfl, rfl, rfl, rfl, fun _ _ => rfl⟩
theorem Tch.trans {r : Nat} {a b c : World} (h : Tch r a b) (k : Tch r b c) : Tch r a c := ⟨k.os.trans h.os, k.tape.trans h.tape, k.output.trans h.output, k.size.trans h.size, fun i hi => (k.block i hi).trans (h.block i hi)⟩
theorem Tch.drewN {r : Nat} {a w : World} (h : Tch r a w) (n : Nat) : Tch r a (w.drewN n) := ⟨h.os, h.tape, h.output, h.size, h.block⟩
theorem Tch.setCell {r : Nat} {a w : World} (h : Tch r a w) (o : Nat) (u : Value) : Tch r a (w.setCell ⟨r, o, none⟩ u) :=
  h.trans ⟨rfl, rfl, rfl, by simp [World.setCell], fun k hk => Below.heap_setCell _ _ _ _ hk⟩
theorem Tch.at_ {r q : Nat} {w w' : World} {c : Array Value} {t : TypeId} (h : Tch r w w') (ha : At w q c t) (hn : q ≠ r) : At w' q c t := ha.same (h.block q hn)

theorem Dat.cells {w : World} {r : Nat} {s : ByteArray} {d : Nat × Bool} {vf : Value} (h : Dat w r s d vf) : w.cell? ⟨r, 0, none⟩ = some (.string s) ∧ w.cell? ⟨r, 1, none⟩ = some (.int .i64 d.1) ∧ w.cell? ⟨r, 2, none⟩ = some (.bool d.2) ∧ w.cell? ⟨r, 3, none⟩ = some vf ∧ ∀ i, w.frozen? ⟨r, i, none⟩ = false :=
  ⟨h.cell 0, h.cell 1, h.cell 2, h.cell 3, h.free⟩
theorem Dat.drewN {w : World} {r : Nat} {s : ByteArray} {d : Nat × Bool} {vf : Value} (h : Dat w r s d vf) (k : Nat) : Dat (w.drewN k) r s d vf := h
theorem Dat.step {w : World} {r : Nat} {s : ByteArray} {d : Nat × Bool} {vf : Value} (h : Dat w r s d vf) : Dat (w.setCell ⟨r, 1, none⟩ (.int .i64 ((d.1 : Int) + 1))) r s (d.1 + 1, d.2) vf := by
  have := At.put h 1 (.int .i64 ((d.1 : Int) + 1))
  exact this
theorem Dat.stick {w : World} {r : Nat} {s : ByteArray} {d : Nat × Bool} {vf : Value} (h : Dat w r s d vf) : Dat (w.setCell ⟨r, 2, none⟩ (.bool true)) r s (d.1, true) vf := by
  have := At.put h 2 (.bool true)
  exact this

/-- The next byte; 0 where there is none. -/
def pk (s : ByteArray) (d : Nat × Bool) : Int := if d.2 then 0 else (bytesOf s).getD d.1 0
theorem pk_range (s : ByteArray) (d : Nat × Bool) : 0 ≤ pk s d ∧ pk s d ≤ 255 := by
  unfold pk
  split
  · omega
  · by_cases h : d.1 < s.size
    · rw [List.getD_eq_getElem?_getD, bytesOf_get s d.1 h]
      have := (s[d.1]).toNat_lt
      simp only [Option.getD_some]
      omega
    · rw [List.getD_eq_getElem?_getD, List.getElem?_eq_none (by rw [bytesOf_len]; omega)]
      simp

variable {w : World} {r : Nat} {s : ByteArray} {d : Nat × Bool} {vf : Value}

set_option maxRecDepth 100000 in
set_option maxHeartbeats 800000 in
theorem d_peek (h : Dat w r s d vf) (_hs : s.size ≤ 160) (hd : d.1 ≤ 160) :
    Calls Tryd.prog 72 #[.pointer (some ⟨r, 0, none⟩)] w fun e w' => e = .returned (.int .u8 (pk s d)) ∧ ∃ k, w' = w.drewN k := by
  obtain ⟨c0, c1, c2, c3, cf⟩ := h.cells
  obtain ⟨a, b⟩ := d
  simp only at c0 c1 c2 c3 hd
  have a0 : decide (((a : Nat) : Int) < 0) = false := decide_eq_false (by omega)
  cases b
  · by_cases hl : a < s.size
    · have HP : Hid (pk s (a, false) = ((s[a]).toNat : Int)) := by show pk s (a, false) = _; unfold pk; simp only [Bool.false_eq_true, if_false]; rw [List.getD_eq_getElem?_getD, bytesOf_get s a hl]; rfl
      have a1 : decide (((s.size : Nat) : Int) ≤ (a : Int)) = false := decide_eq_false (by omega)
      have i1 : ((a : Nat) : Int) < ((s.size : Nat) : Int) := by omega
      clear h
      go_enter Tryd.func72, Tryd.ntmps72
      go_wp2
      go_quiet (fail)
      go_wp2
      go_quiet (fail)
      go_wp2
      go_ret
      exact ⟨by rw [HP.out]; rfl, _, World.drewN_drewN _ _ _⟩
    · have HP : Hid (pk s (a, false) = 0) := by show pk s (a, false) = _; unfold pk; simp only [Bool.false_eq_true, if_false]; rw [List.getD_eq_getElem?_getD, List.getElem?_eq_none (by rw [bytesOf_len]; omega)]; rfl
      have a1 : decide (((s.size : Nat) : Int) ≤ (a : Int)) = true := decide_eq_true (by omega)
      clear h
      go_enter Tryd.func72, Tryd.ntmps72
      go_wp2
      go_quiet (fail)
      go_wp2
      go_ret
      exact ⟨by rw [HP.out]; rfl, _, rfl⟩
  · clear h
    go_enter Tryd.func72, Tryd.ntmps72
    go_wp2
    go_quiet (fail)
    go_wp2
    go_ret
    exact ⟨rfl, _, rfl⟩

/-- What a small step leaves. -/
def DPost (w : World) (r : Nat) (s : ByteArray) (vf : Value) (d' : Nat × Bool) (v : Value) : Ending → World → Prop := fun e w' => e = .returned v ∧ Dat w' r s d' vf ∧ Tch r w w'

def tk (s : ByteArray) (d : Nat × Bool) (c : Int) : Bool × (Nat × Bool) := if pk s d = c then (true, (d.1 + 1, d.2)) else (false, d)
def nd (s : ByteArray) (d : Nat × Bool) (c : Int) : Nat × Bool := if pk s d = c then (d.1 + 1, d.2) else (d.1, true)

set_option maxRecDepth 100000 in
set_option maxHeartbeats 800000 in
theorem d_take (h : Dat w r s d vf) (hs : s.size ≤ 160) (hd : d.1 ≤ 160) (c : Int) :
    Calls Tryd.prog 105 #[.pointer (some ⟨r, 0, none⟩), .int .u8 c] w (DPost w r s vf (tk s d c).2 (.bool (tk s d c).1)) := by
  have hp := d_peek h hs hd
  obtain ⟨c0, c1, c2, c3, cf⟩ := h.cells
  have HD : Hid (Dat _ _ _ _ _) := h
  clear h
  by_cases hc : pk s d = c
  · have HT : Hid (tk s d c = (true, (d.1 + 1, d.2))) := if_pos hc
    subst hc
    go_enter Tryd.func105, Tryd.ntmps105
    go_wp2_with (go_at_call 72; refine hp.mono ?_; rintro e w' ⟨rfl, k, rfl⟩)
    go_ret
    rw [HT.out]
    exact ⟨rfl, (HD.out.drewN k).step, ((Tch.refl _ _).drewN _).setCell _ _⟩
  · have HT : Hid (tk s d c = (false, d)) := if_neg hc
    have bc : (pk s d != c) = true := by simpa using hc
    clear hc
    go_enter Tryd.func105, Tryd.ntmps105
    go_wp2_with (go_at_call 72; refine hp.mono ?_; rintro e w' ⟨rfl, k, rfl⟩)
    go_ret
    rw [HT.out]
    exact ⟨rfl, HD.out.drewN k, (Tch.refl _ _).drewN _⟩

set_option maxRecDepth 100000 in
set_option maxHeartbeats 800000 in
theorem d_need (h : Dat w r s d vf) (hs : s.size ≤ 160) (hd : d.1 ≤ 160) (c : Int) :
    Calls Tryd.prog 96 #[.pointer (some ⟨r, 0, none⟩), .int .u8 c] w (DPost w r s vf (nd s d c) (.tuple #[])) := by
  have hp := d_take h hs hd c
  clear h
  by_cases hc : pk s d = c
  · have HT : Hid (nd s d c = (d.1 + 1, d.2)) := if_pos hc
    have hk : tk s d c = (true, (d.1 + 1, d.2)) := if_pos hc
    rw [hk] at hp
    clear hc hk
    go_enter Tryd.func96, Tryd.ntmps96
    go_wp2_with (go_at_call 105; refine hp.mono ?_; rintro e w' ⟨rfl, hD, hT⟩)
    go_end0
    rw [HT.out]
    exact ⟨rfl, hD, hT⟩
  · have HT : Hid (nd s d c = (d.1, true)) := if_neg hc
    have hk : tk s d c = (false, d) := if_neg hc
    rw [hk] at hp
    clear hc hk
    go_enter Tryd.func96, Tryd.ntmps96
    go_wp2_with (go_at_call 105; refine hp.mono ?_; rintro e w' ⟨rfl, hD, hT⟩; obtain ⟨c0, c1, c2, c3, cf⟩ := hD.cells; have HD : Hid (Dat _ _ _ _ _) := hD; clear hD)
    go_end0
    rw [HT.out]
    exact ⟨rfl, HD.out.stick, hT.setCell _ _⟩

end Go.Proofs.YtffajooegiempabDoor

namespace Go.Proofs.YtffajooegiempabDoor
open Go.RowKit
variable {w : World} {r : Nat} {s : ByteArray} {d : Nat × Bool} {vf : Value}

theorem pk_lt {c : Int} (h : pk s d = c) (hc : c ≠ 0) : d.1 < s.size ∧ d.2 = false := by
  unfold pk at h
  split at h
  · exact absurd h.symm hc
  · rename_i hb
    refine ⟨?_, by simpa using hb⟩
    rcases Nat.lt_or_ge d.1 s.size with h' | h'
    · exact h'
    · rw [List.getD_eq_getElem?_getD, List.getElem?_eq_none (by rw [bytesOf_len]; omega)] at h
      exact absurd h.symm hc

def adv (d : Nat × Bool) : Nat × Bool := (d.1 + 1, d.2)
def stk (d : Nat × Bool) : Nat × Bool := (d.1, true)

def rSign (s : ByteArray) (d : Nat × Bool) : Int × (Nat × Bool) := if pk s d = 45 then (-1, adv d) else (1, d)
def rVar (s : ByteArray) (d : Nat × Bool) (not : Int) : Int × (Nat × Bool) := if varOf (pk s d) = -1 ∨ varOf (pk s d) = not then (0, stk d) else (varOf (pk s d), adv d)
def rNum (s : ByteArray) (d : Nat × Bool) (sg : Int) : Int × (Nat × Bool) :=
  if pk s d = 48 ∧ 0 < sg then (0, adv d)
  else if pk s d < 49 ∨ 57 < pk s d then (0, stk d)
  else if 48 ≤ pk s (adv d) ∧ pk s (adv d) ≤ 57 then (sg * (10 * (pk s d - 48) + (pk s (adv d) - 48)), adv (adv d))
  else (sg * (pk s d - 48), adv d)
def rSummand (s : ByteArray) (d : Nat × Bool) : Int × (Nat × Bool) :=
  if pk s d = 43 then rNum s (adv d) 1
  else if pk s d = 45 then (-(rNum s (adv d) 1).1, (rNum s (adv d) 1).2)
  else (0, d)

theorem rSign_le (hd : d.1 ≤ s.size) : (rSign s d).2.1 ≤ s.size := by
  unfold rSign
  split
  · rename_i h; have := (pk_lt h (by decide)).1; show d.1 + 1 ≤ _; omega
  · exact hd
theorem varOf_ne {c : Int} (h : varOf c ≠ -1) : 97 ≤ c ∧ c ≤ 100 := by
  unfold varOf at h
  split at h
  · assumption
  · exact absurd rfl h
theorem rVar_le (hd : d.1 ≤ s.size) (x : Int) : (rVar s d x).2.1 ≤ s.size := by
  unfold rVar
  split
  · exact hd
  · rename_i h
    have h1 := varOf_ne (fun e => h (.inl e))
    have := (pk_lt (s := s) (d := d) rfl (by omega)).1
    show d.1 + 1 ≤ _; omega
theorem rVar_range (x : Int) : 0 ≤ (rVar s d x).1 ∧ (rVar s d x).1 ≤ 3 := by
  unfold rVar
  split
  · exact ⟨by simp, by simp⟩
  · rename_i h
    have h1 := varOf_ne (fun e => h (.inl e))
    show 0 ≤ varOf _ ∧ varOf _ ≤ 3
    unfold varOf
    rw [if_pos h1]; omega
theorem rNum_le (hd : d.1 ≤ s.size) (x : Int) : (rNum s d x).2.1 ≤ s.size := by
  unfold rNum
  split
  · rename_i h; have := (pk_lt h.1 (by decide)).1; show d.1 + 1 ≤ _; omega
  split
  · exact hd
  rename_i h1
  have h2 := (pk_lt (s := s) (d := d) rfl (by omega)).1
  split
  · rename_i h3
    have := (pk_lt (s := s) (d := adv d) rfl (by omega)).1
    show (adv d).1 + 1 ≤ _; omega
  · show d.1 + 1 ≤ _; omega
theorem rNum_range (x : Int) (hx : x = 1 ∨ x = -1) : -99 ≤ (rNum s d x).1 ∧ (rNum s d x).1 ≤ 99 := by
  have p1 := pk_range s d
  have p2 := pk_range s (adv d)
  unfold rNum
  split
  · exact ⟨by simp, by simp⟩
  split
  · exact ⟨by simp, by simp⟩
  split
  · show -99 ≤ x * _ ∧ x * _ ≤ 99
    rcases hx with rfl | rfl <;> omega
  · show -99 ≤ x * _ ∧ x * _ ≤ 99
    rcases hx with rfl | rfl <;> omega

set_option maxRecDepth 100000 in
set_option maxHeartbeats 800000 in
theorem d_readSign (h : Dat w r s d vf) (hs : s.size ≤ 160) (hd : d.1 ≤ s.size) :
    Calls Tryd.prog 106 #[.pointer (some ⟨r, 0, none⟩)] w (DPost w r s vf (rSign s d).2 (.int .i64 (rSign s d).1)) := by
  have hp := d_take h hs (by omega) 45
  clear h
  by_cases hc : pk s d = 45
  · have HT : Hid (rSign s d = (-1, adv d)) := if_pos hc
    have hk : tk s d 45 = (true, adv d) := if_pos hc
    rw [hk] at hp
    clear hc hk
    go_enter Tryd.func106, Tryd.ntmps106
    go_wp2_with (go_at_call 105; refine hp.mono ?_; rintro e w' ⟨rfl, hD, hT⟩)
    go_ret
    rw [HT.out]
    exact ⟨rfl, hD, hT⟩
  · have HT : Hid (rSign s d = (1, d)) := if_neg hc
    have hk : tk s d 45 = (false, d) := if_neg hc
    rw [hk] at hp
    clear hc hk
    go_enter Tryd.func106, Tryd.ntmps106
    go_wp2_with (go_at_call 105; refine hp.mono ?_; rintro e w' ⟨rfl, hD, hT⟩)
    go_ret
    rw [HT.out]
    exact ⟨rfl, hD, hT⟩

set_option maxHeartbeats 400000 in
theorem d_variableOf (c : Int) (w : World) (h0 : 0 ≤ c) (h1 : c ≤ 255) :
    Calls Tryd.prog 107 #[.int .u8 c] w fun e w' => e = .returned (.int .i64 (varOf c)) ∧ w' = w := by
  unfold varOf
  by_cases ha : 97 ≤ c
  · by_cases hb : c ≤ 100
    · go_enter Tryd.func107, Tryd.ntmps107
      go_wp2
      go_ret
      exact ⟨rfl, rfl⟩
    · go_enter Tryd.func107, Tryd.ntmps107
      go_wp2
      go_ret
      exact ⟨rfl, rfl⟩
  · go_enter Tryd.func107, Tryd.ntmps107
    go_wp2
    go_ret
    exact ⟨rfl, rfl⟩

set_option maxRecDepth 100000 in
set_option maxHeartbeats 800000 in
theorem d_readVariable (h : Dat w r s d vf) (hs : s.size ≤ 160) (hd : d.1 ≤ s.size) (x : Int) :
    Calls Tryd.prog 104 #[.pointer (some ⟨r, 0, none⟩), .int .i64 x] w (DPost w r s vf (rVar s d x).2 (.int .i64 (rVar s d x).1)) := by
  have hp := d_peek h hs (by omega)
  obtain ⟨p0, p1⟩ := pk_range s d
  obtain ⟨c0, c1, c2, c3, cf⟩ := h.cells
  have HD : Hid (Dat _ _ _ _ _) := h
  clear h
  by_cases hv : varOf (pk s d) = -1
  · have HT : Hid (rVar s d x = (0, stk d)) := if_pos (.inl hv)
    have hvo := fun w => d_variableOf (pk s d) w p0 p1
    rw [hv] at hvo
    clear hv
    go_enter Tryd.func104, Tryd.ntmps104
    go_wp2_with (first | (go_at_call 72; refine hp.mono ?_; rintro e w' ⟨rfl, k, rfl⟩) | (go_at_call 107; refine (hvo _).mono ?_; rintro e w' ⟨rfl, rfl⟩))
    go_ret
    rw [HT.out]
    exact ⟨rfl, (HD.out.drewN k).stick, ((Tch.refl _ _).drewN _).setCell _ _⟩
  · have bv : (varOf (pk s d) == -1) = false := by simpa using hv
    have hvo := fun w => d_variableOf (pk s d) w p0 p1
    by_cases hx : varOf (pk s d) = x
    · have HT : Hid (rVar s d x = (0, stk d)) := if_pos (.inr hx)
      have bx : (varOf (pk s d) == x) = true := by simpa using hx
      clear hv hx
      generalize varOf (pk s d) = v at *
      go_enter Tryd.func104, Tryd.ntmps104
      go_wp2_with (first | (go_at_call 72; refine hp.mono ?_; rintro e w' ⟨rfl, k, rfl⟩) | (go_at_call 107; refine (hvo _).mono ?_; rintro e w' ⟨rfl, rfl⟩))
      go_ret
      rw [HT.out]
      exact ⟨rfl, (HD.out.drewN k).stick, ((Tch.refl _ _).drewN _).setCell _ _⟩
    · have HT : Hid (rVar s d x = (varOf (pk s d), adv d)) := if_neg (fun e => e.elim hv hx)
      have bx : (varOf (pk s d) == x) = false := by simpa using hx
      clear hv hx
      generalize varOf (pk s d) = v at *
      go_enter Tryd.func104, Tryd.ntmps104
      go_wp2_with (first | (go_at_call 72; refine hp.mono ?_; rintro e w' ⟨rfl, k, rfl⟩) | (go_at_call 107; refine (hvo _).mono ?_; rintro e w' ⟨rfl, rfl⟩))
      go_ret
      rw [HT.out]
      exact ⟨rfl, (HD.out.drewN k).step, ((Tch.refl _ _).drewN _).setCell _ _⟩

end Go.Proofs.YtffajooegiempabDoor

namespace Go.Proofs.YtffajooegiempabDoor
open Go.RowKit
variable {w : World} {r : Nat} {s : ByteArray} {d : Nat × Bool} {vf : Value}

theorem Dat.steps (h : Dat w r s d vf) : Dat (w.setCell ⟨r, 1, none⟩ (.int .i64 ((d.1 : Int) + 1))) r s (adv d) vf := h.step

set_option maxRecDepth 100000 in
set_option maxHeartbeats 1600000 in
theorem d_readNumber (h : Dat w r s d vf) (hs : s.size ≤ 160) (hd : d.1 ≤ s.size) (x : Int) (hx : x = 1 ∨ x = -1) :
    Calls Tryd.prog 108 #[.pointer (some ⟨r, 0, none⟩), .int .i64 x] w (DPost w r s vf (rNum s d x).2 (.int .i64 (rNum s d x).1)) := by
  have hp := d_peek h hs (by omega)
  obtain ⟨p0, p1⟩ := pk_range s d
  obtain ⟨q0, q1⟩ := pk_range s (adv d)
  obtain ⟨c0, c1, c2, c3, cf⟩ := h.cells
  have x0 : -1 ≤ x := by omega
  have x1 : x ≤ 1 := by omega
  have HD : Hid (Dat _ _ _ _ _) := h
  clear h
  by_cases hz : pk s d = 48 ∧ 0 < x
  · have HT : Hid (rNum s d x = (0, adv d)) := if_pos hz
    obtain ⟨hz, hx0⟩ := hz
    rw [hz] at hp
    clear hz hx
    go_enter Tryd.func108, Tryd.ntmps108
    go_wp2_with (go_at_call 72; refine hp.mono ?_; rintro e w' ⟨rfl, k, rfl⟩)
    go_ret
    rw [HT.out]
    exact ⟨rfl, (HD.out.drewN k).step, ((Tch.refl _ _).drewN _).setCell _ _⟩
  by_cases hn : pk s d < 49 ∨ 57 < pk s d
  · have HT : Hid (rNum s d x = (0, stk d)) := by show rNum s d x = _; unfold rNum; rw [if_neg hz, if_pos hn]
    by_cases h48 : pk s d = 48
    · have hx1 : x = -1 := by
        rcases hx with e | e
        · exact absurd ⟨h48, by omega⟩ hz
        · exact e
      subst hx1
      rw [h48] at hp
      clear hz hn h48 hx
      go_enter Tryd.func108, Tryd.ntmps108
      go_wp2_with (go_at_call 72; refine hp.mono ?_; rintro e w' ⟨rfl, k, rfl⟩)
      go_ret
      rw [HT.out]
      exact ⟨rfl, (HD.out.drewN k).stick, ((Tch.refl _ _).drewN _).setCell _ _⟩
    · have b48 : (pk s d == 48) = false := by simpa using h48
      clear hz h48 hx
      generalize pk s d = c at *
      rcases hn with hn | hn
      · go_enter Tryd.func108, Tryd.ntmps108
        go_wp2_with (go_at_call 72; refine hp.mono ?_; rintro e w' ⟨rfl, k, rfl⟩)
        go_ret
        rw [HT.out]
        exact ⟨rfl, (HD.out.drewN k).stick, ((Tch.refl _ _).drewN _).setCell _ _⟩
      · go_enter Tryd.func108, Tryd.ntmps108
        go_wp2_with (go_at_call 72; refine hp.mono ?_; rintro e w' ⟨rfl, k, rfl⟩)
        go_ret
        rw [HT.out]
        exact ⟨rfl, (HD.out.drewN k).stick, ((Tch.refl _ _).drewN _).setCell _ _⟩
  · have n49 : 49 ≤ pk s d := by omega
    have n57 : pk s d ≤ 57 := by omega
    have b48 : (pk s d == 48) = false := by simp; omega
    have hlt := (pk_lt (s := s) (d := d) rfl (by omega)).1
    by_cases h2 : 48 ≤ pk s (adv d) ∧ pk s (adv d) ≤ 57
    · have HT : Hid (rNum s d x = (x * (10 * (pk s d - 48) + (pk s (adv d) - 48)), adv (adv d))) := by show rNum s d x = _; unfold rNum; rw [if_neg hz, if_neg hn, if_pos h2]
      obtain ⟨m0, m1⟩ := h2
      have HW : Hid (_ = _) := (show wrap64 (x * (10 * (pk s d - 48) + (pk s (adv d) - 48))) = x * (10 * (pk s d - 48) + (pk s (adv d) - 48)) from mul_wrap _ _ x0 x1 (by omega) (by omega))
      have hp2 := fun k => d_peek (d := adv d) (HD.out.drewN k).steps hs (by show d.1 + 1 ≤ 160; omega)
      clear hz hn hx
      generalize pk s (adv d) = c2 at *
      generalize pk s d = c at *
      go_enter Tryd.func108, Tryd.ntmps108
      go_wp2_with fail
      refine hp.mono ?_
      rintro e w' ⟨rfl, k, rfl⟩
      go_wp2_with fail
      refine (hp2 k).mono ?_
      rintro e w' ⟨rfl, k2, rfl⟩
      go_wp2
      go_ret
      rw [HT.out]
      exact ⟨congrArg (fun z => Ending.returned (Value.int IntKind.i64 z)) HW.out, (((HD.out.drewN k).steps).drewN k2).step, ((((Tch.refl _ _).drewN _).setCell _ _).drewN _).setCell _ _⟩
    · have HT : Hid (rNum s d x = (x * (pk s d - 48), adv d)) := by show rNum s d x = _; unfold rNum; rw [if_neg hz, if_neg hn, if_neg h2]
      have HW : Hid (_ = _) := (show wrap64 (x * (pk s d - 48)) = x * (pk s d - 48) from mul_wrap _ _ x0 x1 (by omega) (by omega))
      have hp2 := fun k => d_peek (d := adv d) (HD.out.drewN k).steps hs (by show d.1 + 1 ≤ 160; omega)
      clear hz hn hx
      generalize pk s (adv d) = c2 at *
      generalize pk s d = c at *
      by_cases m0 : 48 ≤ c2
      · have m1 : 57 < c2 := by omega
        go_enter Tryd.func108, Tryd.ntmps108
        go_wp2_with fail
        refine hp.mono ?_
        rintro e w' ⟨rfl, k, rfl⟩
        go_wp2_with fail
        refine (hp2 k).mono ?_
        rintro e w' ⟨rfl, k2, rfl⟩
        go_wp2
        go_ret
        rw [HT.out]
        exact ⟨congrArg (fun z => Ending.returned (Value.int IntKind.i64 z)) HW.out, ((HD.out.drewN k).steps).drewN k2, (((Tch.refl _ _).drewN _).setCell _ _).drewN _⟩
      · go_enter Tryd.func108, Tryd.ntmps108
        go_wp2_with fail
        refine hp.mono ?_
        rintro e w' ⟨rfl, k, rfl⟩
        go_wp2_with fail
        refine (hp2 k).mono ?_
        rintro e w' ⟨rfl, k2, rfl⟩
        go_wp2
        go_ret
        rw [HT.out]
        exact ⟨congrArg (fun z => Ending.returned (Value.int IntKind.i64 z)) HW.out, ((HD.out.drewN k).steps).drewN k2, (((Tch.refl _ _).drewN _).setCell _ _).drewN _⟩

end Go.Proofs.YtffajooegiempabDoor

