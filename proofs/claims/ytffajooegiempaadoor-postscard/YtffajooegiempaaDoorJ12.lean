import Derived.Test.YtffajooegiempaaDoorJ11
/- What every statement of a program keeps to: its variable, its signs. No Go in here. -/
namespace Go.Proofs.YtffajooegiempaaDoor
variable {m m' : Rd}

def Gd (s : St) : Prop := 0 ≤ s.var ∧ s.var ≤ 3 ∧ ∀ x, x ∈ s.sg → -1 ≤ x ∧ x ≤ 1
def AllGd (m : Rd) : Prop := ∀ s, s ∈ m.st → Gd s
theorem gd_no : Gd noSt := ⟨by decide, by decide, fun x hx => by simp [noSt] at hx; omega⟩
theorem AllGd.get (h : AllGd m) (k : Nat) : Gd (m.st.getD k noSt) := by
  rw [List.getD_eq_getElem?_getD]
  cases e : m.st[k]? with
  | none => exact gd_no
  | some s => exact h s (List.mem_of_getElem? e)
theorem AllGd.cur (h : AllGd m) : Gd (cur m) := h.get _
theorem AllGd.setC (h : AllGd m) {s : St} (hs : Gd s) : AllGd (setCur m s) := fun t ht => (mem_setCur ht).elim (h t) (fun e => e ▸ hs)
theorem AllGd.of {m1 : Rd} (h : AllGd m1) (e : m'.st = m1.st) : AllGd m' := fun s hs => h s (e ▸ hs)

theorem AllGd.begin_ (h : AllGd m) {k v x : Int} (h0 : 0 ≤ v) (h3 : v ≤ 3) (e : beginStep m k v x = some m') : AllGd m' := by
  unfold beginStep at e
  split at e
  · cases e
  · cases e
    intro s hs
    rcases List.mem_append.1 hs with hs | hs
    · exact h s hs
    · rw [List.mem_singleton.1 hs]
      exact ⟨h0, h3, fun x hx => by simp at hx; omega⟩
theorem AllGd.shut (h : AllGd m) (e : shutStep m = some m') : AllGd m' := by
  have hg := h.get (top m).of_
  simp only [shutStep] at e
  split at e
  · cases e; exact fun t ht => (List.mem_or_eq_of_mem_set ht).elim (h t) (fun e => e ▸ hg)
  · cases e; exact fun t ht => (List.mem_or_eq_of_mem_set ht).elim (h t) (fun e => e ▸ hg)
theorem AllGd.digit (h : AllGd m) {c x : Int} {pos : Bool} (e : digitStep m c pos x = some m') : AllGd m' := by
  obtain ⟨d, u, _, _, rfl⟩ := digit_inv e
  exact (h.setC (s := { Go.Proofs.YtffajooegiempaaDoor.cur m with num := 10 * u + (c - 48) }) h.cur).of rfl
theorem AllGd.signTo (h : AllGd m) (v : Nat) (y x : Int) (hy : -1 ≤ y ∧ y ≤ 1) : AllGd (signTo m v y x) := by
  have hc := h.cur
  refine (h.setC (s := { Go.Proofs.YtffajooegiempaaDoor.cur m with sg := (Go.Proofs.YtffajooegiempaaDoor.cur m).sg.set v y }) ⟨hc.1, hc.2.1, fun z hz => ?_⟩).of rfl
  rcases List.mem_or_eq_of_mem_set hz with hz | hz
  · exact hc.2.2 z hz
  · rw [hz]; exact hy
theorem AllGd.plain (h : AllGd m) {c : Int} (e : plainStep m c = some m') : AllGd m' := by
  unfold plainStep at e
  split at e
  · split at e
    · cases e; exact h.of rfl
    · cases e
  · split at e
    · cases e
    · cases e; exact h.of rfl

theorem AllGd.value (h : AllGd m) (ok : Ok m) {c : Int} (e : valueStep m c = some m') : AllGd m' := by
  have hs := ok.sgn
  have ve : AllGd (valueEnd m) := (h.setC (s := { Go.Proofs.YtffajooegiempaaDoor.cur m with num := m.sign * (Go.Proofs.YtffajooegiempaaDoor.cur m).num }) h.cur).of rfl
  unfold valueStep at e
  split at e
  · split at e
    · cases e; exact (h.setC (s := { Go.Proofs.YtffajooegiempaaDoor.cur m with star := true }) h.cur).of rfl
    split at e
    · cases e; exact h.of rfl
    split at e
    · cases e; exact h.signTo _ 1 120 (by omega)
    · exact AllGd.digit (m := { m with sign := 1 }) (h.of rfl) e
  split at e
  · split at e
    · cases e; exact h.signTo _ m.sign 120 hs
    · exact h.digit e
  split at e
  · split at e
    · cases e; exact h.of rfl
    split at e
    · cases e; exact h.of rfl
    split at e
    · cases e; exact ve
    · cases e
  split at e
  · exact h.digit e
  · split at e
    · cases e; exact ve
    · exact h.digit e

theorem AllGd.cond (h : AllGd m) (ok : Ok m) {c : Int} (e : condStep m c = some m') : AllGd m' := by
  have hs := ok.sgn
  unfold condStep at e
  by_cases x1 : m.state = 99
  · rw [if_pos x1] at e
    split at e
    · cases e; exact (h.setC (s := { Go.Proofs.YtffajooegiempaaDoor.cur m with star := true }) h.cur).of rfl
    split at e
    · cases e; exact h.of rfl
    split at e
    · cases e; exact h.signTo _ 1 100 (by omega)
    · cases e
  rw [if_neg x1] at e
  by_cases x2 : m.state = 67
  · rw [if_pos x2] at e
    split at e
    · cases e; exact h.signTo _ m.sign 100 hs
    · cases e
  rw [if_neg x2] at e
  by_cases x3 : m.state = 100
  · rw [if_pos x3] at e
    split at e
    · cases e; exact h.of rfl
    split at e
    · cases e; exact h.of rfl
    split at e
    · cases e; exact h.of rfl
    · cases e
  rw [if_neg x3] at e
  by_cases x4 : m.state = 101
  · rw [if_pos x4] at e
    split at e
    · split at e
      · cases e; exact h.signTo _ m.sign 102 hs
      · cases e
    · cases e
  rw [if_neg x4] at e
  by_cases x5 : m.state = 102
  · rw [if_pos x5] at e
    split at e
    · cases e; exact h.of rfl
    · cases e
  rw [if_neg x5] at e
  by_cases x6 : m.state = 60
  · rw [if_pos x6] at e
    split at e
    · cases e; exact h.of rfl
    · cases e
  rw [if_neg x6] at e
  by_cases x7 : m.state = 98
  · rw [if_pos x7] at e
    split at e
    · cases e; exact h.of rfl
    · exact h.digit e
  rw [if_neg x7] at e
  by_cases x8 : m.state = 66
  · rw [if_pos x8] at e
    exact h.digit e
  rw [if_neg x8] at e
  by_cases x9 : m.state = 109
  · rw [if_pos x9] at e
    split at e
    · exact AllGd.plain (m := { setCur m { Go.Proofs.YtffajooegiempaaDoor.cur m with num := if m.neg then -(Go.Proofs.YtffajooegiempaaDoor.cur m).num else (Go.Proofs.YtffajooegiempaaDoor.cur m).num } with state := behindOf m }) ((h.setC (s := { Go.Proofs.YtffajooegiempaaDoor.cur m with num := if m.neg then -(Go.Proofs.YtffajooegiempaaDoor.cur m).num else (Go.Proofs.YtffajooegiempaaDoor.cur m).num }) h.cur).of rfl) e
    · exact h.digit e
  rw [if_neg x9] at e
  split at e
  · cases e; exact h.of rfl
  · cases e

theorem AllGd.byte (h : AllGd m) (ok : Ok m) {c : Int} (e : byteStep m c = some m') : AllGd m' := by
  unfold byteStep at e
  split at e
  · unfold startStep at e
    split at e
    · exact h.begin_ (by omega) (by omega) e
    split at e
    · split at e
      · exact h.begin_ (by omega) (by omega) e
      · cases e
    split at e
    · exact h.begin_ (by omega) (by omega) e
    split at e
    · exact h.shut e
    · cases e
  split at e
  · split at e
    · cases e; exact h.of rfl
    · cases e
  split at e
  · exact h.value ok e
  split at e
  · exact h.plain e
  · exact h.cond ok e

theorem gd_from {l : List Int} : ∀ {m : Rd} {n k : Nat}, AllGd m → Ok m → readFrom m l n = (k, some m') → AllGd m' ∧ Ok m' := by
  induction l with
  | nil => intro m n k h ok e; simp [readFrom] at e; rw [← e.2]; exact ⟨h, ok⟩
  | cons c l ih =>
    intro m n k h ok e
    simp only [readFrom] at e
    split at e
    · cases e
    · rename_i m1 e1
      exact ih (h.byte ok e1) (ok.byte e1) e

end Go.Proofs.YtffajooegiempaaDoor

/- How many variables stand in a statement. No Go in here. -/
namespace Go.Proofs.YtffajooegiempaaDoor
variable {m m' : Rd}

/-- How many signs are not 0. -/
def nz (l : List Int) : Nat := l.countP fun x => decide (x ≠ 0)
theorem nz_cons (a : Int) (l : List Int) : nz (a :: l) = nz l + if a = 0 then 0 else 1 := by
  unfold nz
  rw [List.countP_cons]
  by_cases h : a = 0
  · rw [if_pos h, if_neg (by simpa using h)]
  · rw [if_neg h, if_pos (by simpa using h)]
theorem nz_set : ∀ (l : List Int) (v : Nat) (x : Int), nz (l.set v x) ≤ nz l + 1 := by
  intro l
  induction l with
  | nil => intro v x; simp
  | cons a l ih =>
    intro v x
    cases v with
    | zero =>
      rw [List.set_cons_zero, nz_cons, nz_cons]
      split <;> split <;> omega
    | succ v =>
      rw [List.set_cons_succ, nz_cons, nz_cons]
      have := ih v x
      omega
/-- How many may stand in the statement that is being read. -/
def lim (x : Int) : Nat := if x = 61 ∨ x = 118 ∨ x = 86 ∨ x = 99 ∨ x = 67 then 0 else if x = 100 ∨ x = 101 then 1 else 2
structure Cn (m : Rd) : Prop where
  all : ∀ s, s ∈ m.st → nz s.sg ≤ 2
  cur : nz (cur m).sg ≤ lim m.state
theorem lim_le (x : Int) : lim x ≤ 2 := by unfold lim; split <;> (try split) <;> omega
theorem cur_set (m : Rd) (s : St) (x : Int) (dg : Int) (sn : Int) (ng : Bool) (op : List Bk) (h : 0 < m.st.length) : Go.Proofs.YtffajooegiempaaDoor.cur { setCur m s with state := x, dig := dg, sign := sn, neg := ng, op := op } = s := by
  unfold Go.Proofs.YtffajooegiempaaDoor.cur setCur
  simp [List.getD, show m.st.length - 1 < m.st.length by omega]
theorem Cn.of (h : Cn m) (e : m'.st = m.st) (hl : lim m.state ≤ lim m'.state) : Cn m' := by
  refine ⟨fun s hs => h.all s (e ▸ hs), ?_⟩
  have : Go.Proofs.YtffajooegiempaaDoor.cur m' = Go.Proofs.YtffajooegiempaaDoor.cur m := by unfold Go.Proofs.YtffajooegiempaaDoor.cur; rw [e]
  rw [this]
  exact Nat.le_trans h.cur hl
/-- The statement that is being read is turned. -/
theorem Cn.setC (h : Cn m) {s : St} {n : Nat} (hs : nz s.sg ≤ n) (hn : n ≤ 2) (ok : m.state ≠ 115) (ok' : Ok m) (e : m'.st = (setCur m s).st) (hl : n ≤ lim m'.state) : Cn m' := by
  have hp := ok'.some_ ok
  refine ⟨fun t ht => ?_, ?_⟩
  · rw [e] at ht
    rcases mem_setCur ht with q | q
    · exact h.all t q
    · rw [q]; omega
  · have : Go.Proofs.YtffajooegiempaaDoor.cur m' = s := by
      unfold Go.Proofs.YtffajooegiempaaDoor.cur
      rw [e]
      unfold setCur
      simp [List.getD, show m.st.length - 1 < m.st.length by omega]
    rw [this]
    omega
theorem Cn.begin_ (h : Cn m) {k v x : Int} (hx : lim x = 0) (e : beginStep m k v x = some m') : Cn m' := by
  unfold beginStep at e
  split at e
  · cases e
  · cases e
    refine ⟨fun s hs => ?_, ?_⟩
    · rcases List.mem_append.1 hs with hs | hs
      · exact h.all s hs
      · rw [List.mem_singleton.1 hs]; show nz [0, 0, 0, 0] ≤ 2; decide
    · show nz (Go.Proofs.YtffajooegiempaaDoor.cur _).sg ≤ lim x
      rw [hx]
      unfold Go.Proofs.YtffajooegiempaaDoor.cur
      simp [List.getD]
      decide
theorem Cn.shut (h : Cn m) (hs : m.state = 115) (e : shutStep m = some m') : Cn m' := by
  have key : ∀ (s : St), s.sg = (m.st.getD (top m).of_ noSt).sg → ∀ t, t ∈ m.st.set (top m).of_ s → nz t.sg ≤ 2 := by
    intro s hsg t ht
    rcases List.mem_or_eq_of_mem_set ht with q | q
    · exact h.all t q
    · rw [q, hsg, List.getD_eq_getElem?_getD]
      cases e : m.st[(top m).of_]? with
      | none => decide
      | some u => exact h.all u (List.mem_of_getElem? e)
  have cu : ∀ (s : St) (m2 : Rd), m2.st = m.st.set (top m).of_ s → s.sg = (m.st.getD (top m).of_ noSt).sg → nz (Go.Proofs.YtffajooegiempaaDoor.cur m2).sg ≤ 2 := by
    intro s m2 e2 hsg
    unfold Go.Proofs.YtffajooegiempaaDoor.cur
    rw [e2, List.getD_eq_getElem?_getD]
    cases e3 : (m.st.set (top m).of_ s)[(m.st.set (top m).of_ s).length - 1]? with
    | none => decide
    | some u => exact key s hsg u (List.mem_of_getElem? e3)
  simp only [shutStep] at e
  split at e
  · cases e
    exact ⟨key _ rfl, cu _ _ rfl rfl⟩
  · cases e
    refine ⟨key _ rfl, ?_⟩
    show _ ≤ lim m.state
    rw [hs]
    exact cu _ _ rfl rfl
theorem Cn.digit (h : Cn m) (ok : Ok m) (h0 : m.state ≠ 115) {c x : Int} {pos : Bool} (e : digitStep m c pos x = some m') (hl : lim m.state ≤ lim x) : Cn m' := by
  obtain ⟨d, u, _, _, rfl⟩ := digit_inv e
  exact h.setC (s := { Go.Proofs.YtffajooegiempaaDoor.cur m with num := 10 * u + (c - 48) }) (n := lim m.state) h.cur (lim_le _) h0 ok rfl hl
theorem Cn.signTo (h : Cn m) (ok : Ok m) (h0 : m.state ≠ 115) (v : Nat) (y x : Int) (hl : lim m.state + 1 ≤ lim x) : Cn (signTo m v y x) := by
  have := lim_le x
  have hc := h.cur
  have hn := nz_set (Go.Proofs.YtffajooegiempaaDoor.cur m).sg v y
  exact h.setC (s := { Go.Proofs.YtffajooegiempaaDoor.cur m with sg := (Go.Proofs.YtffajooegiempaaDoor.cur m).sg.set v y }) (n := lim m.state + 1) (by show nz ((Go.Proofs.YtffajooegiempaaDoor.cur m).sg.set v y) ≤ _; omega) (by omega) h0 ok rfl hl
theorem Cn.plain (h : Cn m) (hl : lim m.state ≤ 2) {c : Int} (e : plainStep m c = some m') : Cn m' := by
  unfold plainStep at e
  split at e
  · split at e
    · cases e; exact h.of rfl hl
    · cases e
  · split at e
    · cases e
    · cases e; exact h.of rfl hl
theorem Cn.value (h : Cn m) (ok : Ok m) {c : Int} (hst : m.state = 118 ∨ m.state = 86 ∨ m.state = 120 ∨ m.state = 121 ∨ m.state = 110) (e : valueStep m c = some m') : Cn m' := by
  have h0 : m.state ≠ 115 := by omega
  have l2 := lim_le m.state
  have ve : Cn (valueEnd m) := h.setC (s := { Go.Proofs.YtffajooegiempaaDoor.cur m with num := m.sign * (Go.Proofs.YtffajooegiempaaDoor.cur m).num }) (n := lim m.state) h.cur l2 h0 ok rfl l2
  unfold valueStep at e
  split at e
  · rename_i x1
    have hz : lim m.state = 0 := by rw [x1]; rfl
    split at e
    · cases e; exact h.setC (s := { Go.Proofs.YtffajooegiempaaDoor.cur m with star := true }) (n := lim m.state) h.cur l2 h0 ok rfl l2
    split at e
    · cases e; exact h.of rfl (by omega)
    split at e
    · cases e; exact h.signTo ok h0 _ 1 120 (by rw [hz]; decide)
    · exact Cn.digit (m := { m with sign := 1 }) (h.of rfl (Nat.le_refl _)) ⟨ok.states, ok.some_, ok.len, ok.oplen, ok.ofs, by show -1 ≤ (1 : Int) ∧ (1 : Int) ≤ 1; omega, ok.digs, ok.nums, ok.sgl, ok.inNum, ok.open_⟩ h0 e l2
  split at e
  · rename_i x1 x2
    have hz : lim m.state = 0 := by rw [x2]; rfl
    split at e
    · cases e; exact h.signTo ok h0 _ m.sign 120 (by rw [hz]; decide)
    · exact h.digit ok h0 e l2
  split at e
  · split at e
    · cases e; exact h.of rfl l2
    split at e
    · cases e; exact h.of rfl l2
    split at e
    · cases e; exact ve
    · cases e
  split at e
  · exact h.digit ok h0 e l2
  · split at e
    · cases e; exact ve
    · exact h.digit ok h0 e l2
theorem lim_beh (m : Rd) : lim (behindOf m) = 2 := by unfold behindOf; split <;> rfl
theorem Cn.cond (h : Cn m) (ok : Ok m) (h0 : m.state ≠ 115) {c : Int} (e : condStep m c = some m') : Cn m' := by
  have l2 := lim_le m.state
  unfold condStep at e
  by_cases x1 : m.state = 99
  · rw [if_pos x1] at e
    have hz : lim m.state = 0 := by rw [x1]; rfl
    split at e
    · cases e; exact h.setC (s := { Go.Proofs.YtffajooegiempaaDoor.cur m with star := true }) (n := lim m.state) h.cur l2 h0 ok rfl (by show _ ≤ lim (behindOf m); rw [lim_beh]; exact l2)
    split at e
    · cases e; exact h.of rfl (by omega)
    split at e
    · cases e; exact h.signTo ok h0 _ 1 100 (by rw [hz]; decide)
    · cases e
  rw [if_neg x1] at e
  by_cases x2 : m.state = 67
  · rw [if_pos x2] at e
    have hz : lim m.state = 0 := by rw [x2]; rfl
    split at e
    · cases e; exact h.signTo ok h0 _ m.sign 100 (by rw [hz]; decide)
    · cases e
  rw [if_neg x2] at e
  by_cases x3 : m.state = 100
  · rw [if_pos x3] at e
    have hz : lim m.state = 1 := by rw [x3]; rfl
    split at e
    · cases e; exact h.of rfl (by rw [hz]; show 1 ≤ lim 101; decide)
    split at e
    · cases e; exact h.of rfl (by rw [hz]; show 1 ≤ lim 101; decide)
    split at e
    · cases e; exact h.of rfl (by rw [hz]; show 1 ≤ lim 60; decide)
    · cases e
  rw [if_neg x3] at e
  by_cases x4 : m.state = 101
  · rw [if_pos x4] at e
    have hz : lim m.state = 1 := by rw [x4]; rfl
    split at e
    · split at e
      · cases e; exact h.signTo ok h0 _ m.sign 102 (by rw [hz]; decide)
      · cases e
    · cases e
  rw [if_neg x4] at e
  by_cases x5 : m.state = 102
  · rw [if_pos x5] at e
    split at e
    · cases e; exact h.of rfl l2
    · cases e
  rw [if_neg x5] at e
  by_cases x6 : m.state = 60
  · rw [if_pos x6] at e
    split at e
    · cases e; exact h.of rfl l2
    · cases e
  rw [if_neg x6] at e
  by_cases x7 : m.state = 98
  · rw [if_pos x7] at e
    split at e
    · cases e; exact h.of rfl l2
    · exact h.digit ok h0 e l2
  rw [if_neg x7] at e
  by_cases x8 : m.state = 66
  · rw [if_pos x8] at e
    exact h.digit ok h0 e l2
  rw [if_neg x8] at e
  by_cases x9 : m.state = 109
  · rw [if_pos x9] at e
    split at e
    · refine Cn.plain (m := { setCur m { Go.Proofs.YtffajooegiempaaDoor.cur m with num := if m.neg then -(Go.Proofs.YtffajooegiempaaDoor.cur m).num else (Go.Proofs.YtffajooegiempaaDoor.cur m).num } with state := behindOf m }) ?_ (lim_le _) e
      exact h.setC (s := { Go.Proofs.YtffajooegiempaaDoor.cur m with num := if m.neg then -(Go.Proofs.YtffajooegiempaaDoor.cur m).num else (Go.Proofs.YtffajooegiempaaDoor.cur m).num }) (n := lim m.state) h.cur l2 h0 ok rfl (by show _ ≤ lim (behindOf m); rw [lim_beh]; exact l2)
    · exact h.digit ok h0 e l2
  rw [if_neg x9] at e
  split at e
  · cases e; exact h.of rfl l2
  · cases e
theorem Cn.byte (h : Cn m) (ok : Ok m) {c : Int} (e : byteStep m c = some m') : Cn m' := by
  unfold byteStep at e
  split at e
  · rename_i hs
    unfold startStep at e
    split at e
    · exact h.begin_ rfl e
    split at e
    · split at e
      · exact h.begin_ rfl e
      · cases e
    split at e
    · exact h.begin_ rfl e
    split at e
    · exact h.shut hs e
    · cases e
  split at e
  · rename_i h1 h2
    split at e
    · cases e; exact h.of rfl (by rw [h2]; show lim 61 ≤ lim 118; decide)
    · cases e
  split at e
  · rename_i hv; exact h.value ok hv e
  split at e
  · exact h.plain (lim_le _) e
  · rename_i h1 _ _ _; exact h.cond ok h1 e
theorem cn_from {l : List Int} : ∀ {m : Rd} {n k : Nat}, Cn m → Ok m → readFrom m l n = (k, some m') → Cn m' := by
  induction l with
  | nil => intro m n k h ok e; simp [readFrom] at e; rw [← e.2]; exact h
  | cons c l ih =>
    intro m n k h ok e
    simp only [readFrom] at e
    split at e
    · cases e
    · rename_i m1 e1
      exact ih (h.byte ok e1) (ok.byte e1) e

end Go.Proofs.YtffajooegiempaaDoor

namespace Go.Proofs.YtffajooegiempaaDoor
open Go.RowKit
variable {w : World}

/- The signs of a sum of at most two: its number by the document, its sides by the program. -/
def sg3 : List Int := [-1, 0, 1]
def tabS (l : List Int) : Bool := decide (2 < nz l) || (if nz l = 0 then decide (numV l = -1) && decide (sd1 l = 0) && decide (sd2 l = 1)
  else decide (0 ≤ numV l) && decide (numV l < 32) && decide (sd1 l = fs (numV l).toNat) && decide (sd2 l = ss (numV l).toNat))
theorem tabS_all : (sg3.all fun a => sg3.all fun b => sg3.all fun c => sg3.all fun d => tabS [a, b, c, d]) = true := by decide +kernel
theorem mem_sg3 {a : Int} (h : -1 ≤ a ∧ a ≤ 1) : a ∈ sg3 := by
  rcases (show a = -1 ∨ a = 0 ∨ a = 1 by omega) with rfl | rfl | rfl <;> decide
theorem tabS_of {l : List Int} (hl : l.length = 4) (h : ∀ i, -1 ≤ gAt l i ∧ gAt l i ≤ 1) : tabS l = true := by
  obtain ⟨a, b, c, d, rfl⟩ := four_of hl
  have t := tabS_all
  simp only [List.all_eq_true] at t
  exact t a (mem_sg3 (h 0)) b (mem_sg3 (h 1)) c (mem_sg3 (h 2)) d (mem_sg3 (h 3))
/-- The greatest of a sum, by the document. -/
def grD (C : Nat → Int) (l : List Int) : Int := if nz l = 0 then 0 else bd C (numV l).toNat
theorem grP_grD {C : Nat → Int} (hC : C (0 * 8 + 1) = 0) {l : List Int} (hl : l.length = 4) (h : ∀ i, -1 ≤ gAt l i ∧ gAt l i ≤ 1) (h2 : nz l ≤ 2) :
    mo C (sd1 l) (sd2 l) = grD C l ∧ (nz l = 0 → numV l = -1) ∧ (nz l ≠ 0 → ∃ f : Nat, f < 32 ∧ numV l = (f : Int) ∧ grD C l = bd C f) := by
  have t := tabS_of hl h
  unfold tabS at t
  rw [decide_eq_false (by omega : ¬ 2 < nz l), Bool.false_or] at t
  by_cases e : nz l = 0
  · rw [if_pos e] at t
    simp only [Bool.and_eq_true, decide_eq_true_eq] at t
    refine ⟨?_, fun _ => t.1.1, fun q => absurd e q⟩
    unfold grD
    rw [if_pos e, t.1.2, t.2]
    unfold mo
    rw [if_neg (fun z => absurd z.1 (by decide))]
    exact hC
  · rw [if_neg e] at t
    simp only [Bool.and_eq_true, decide_eq_true_eq] at t
    refine ⟨?_, fun q => absurd q e, fun _ => ⟨(numV l).toNat, by omega, by omega, ?_⟩⟩
    · unfold grD
      rw [if_neg e, t.1.2, t.2]
      rfl
    · unfold grD
      rw [if_neg e]
theorem nz_four (a b c d : Int) : nz [a, b, c, d] = (if a = 0 then 0 else 1) + (if b = 0 then 0 else 1) + (if c = 0 then 0 else 1) + (if d = 0 then 0 else 1) := by
  rw [nz_cons, nz_cons, nz_cons, nz_cons]
  have : nz [] = 0 := rfl
  omega
theorem nz_ngL {l : List Int} (hl : l.length = 4) : nz (ngL l) = nz l := by
  obtain ⟨a, b, c, d, rfl⟩ := four_of hl
  show nz [-a, -b, -c, -d] = _
  rw [nz_four, nz_four]
  have h : ∀ x : Int, (if -x = 0 then 0 else 1 : Nat) = if x = 0 then 0 else 1 := fun x => by
    by_cases e : x = 0
    · rw [if_pos e, if_pos (by omega)]
    · rw [if_neg e, if_neg (by omega)]
  rw [h, h, h, h]

theorem nz_zero {l : List Int} (hl : l.length = 4) (h : nz l = 0) : ∀ i, i < 4 → gAt l i = 0 := by
  obtain ⟨a, b, c, d, rfl⟩ := four_of hl
  rw [nz_four] at h
  intro i hi
  have z : ∀ x : Int, (if x = 0 then 0 else 1 : Nat) = 0 → x = 0 := fun x hx => by
    by_cases e : x = 0
    · exact e
    · rw [if_neg e] at hx; cases hx
  rcases (show i = 0 ∨ i = 1 ∨ i = 2 ∨ i = 3 by omega) with rfl | rfl | rfl | rfl
  · exact z a (by omega)
  · exact z b (by omega)
  · exact z c (by omega)
  · exact z d (by omega)
theorem z4_set : ∀ j : Nat, j < 4 → ([0, 0, 0, 0] : List Int).set j 0 = [0, 0, 0, 0] := by decide

set_option maxRecDepth 100000 in
set_option maxHeartbeats 3200000 in
theorem r_greatest (C : Nat → Int) (u v : Value) (l : List Int) (hl : l.length = 4) (hv : ∀ i, -1 ≤ gAt l i ∧ gAt l i ≤ 1) (h2 : nz l ≤ 2) (hC0 : C (0 * 8 + 1) = 0) (hu : Reads w u (bdL C)) (hr : Reads w v l) :
    Calls Tryd.prog 65 #[u, v] w fun e w' => e = .returned (.int .i64 (grD C l)) ∧ Below w.heap.size w w' := by
  have hmk : ∀ w, (Instr.makeSlice 22 (.int .i64 4) (.int .i64 4)).run Tryd.prog w = .ok (.slice (some ⟨w.heap.size, 0, none⟩) 4 4) (w.alloc (.cells #[.int .i64 0, .int .i64 0, .int .i64 0, .int .i64 0] tNk)) := fun _ => by kernel_rfl
  obtain ⟨_, hz, hnz⟩ := grP_grD hC0 hl hv h2
  have hn := r_number v l hl hr (fun i _ => by have := hv i; omega)
  have hbl : (bdL C).length = 32 := by simp [bdL]
  have HL : Hid (l.length = 4) := hl
  obtain ⟨bu, cu, rfl, -, h0u⟩ := hu
  obtain ⟨q, ofq, rfl, hq, hcq⟩ := h0u (by omega)
  obtain ⟨au, ca, rfl, -, h0⟩ := id hr
  obtain ⟨p, off, rfl, hp, hcell⟩ := h0 (by omega)
  have HC : Hid (∀ i, i < 4 → w.cell? ⟨p, off + i, none⟩ = some (.int .i64 (gAt l i))) := fun i hi => hcell i (by omega)
  have HCq : Hid (∀ i, i < 32 → w.cell? ⟨q, ofq + i, none⟩ = some (.int .i64 (bd C i))) := fun i hi => by rw [hcq i (by omega)]; exact congrArg (fun z => some (Value.int .i64 z)) (bdL_get C i hi)
  rw [hbl]
  rw [hl] at hn ⊢
  clear h0 h0u hcell hcq hr
  by_cases e : nz l = 0
  · have HE : Hid (grD C l = 0) := if_pos e
    rw [hz e] at hn
    have HZ : Hid (∀ i, i < 4 → w.cell? ⟨p, off + i, none⟩ = some (.int .i64 0)) := fun i hi => by rw [HC.out i hi, nz_zero HL.out e i hi]
    clear hz hnz hC0 e HCq HC
    go_enter Tryd.func65, Tryd.ntmps65
    go_wp2_with fail
    refine hn.mono ?_
    rintro e w1 ⟨rfl, hb1⟩
    have HB1 : Hid (Below w.heap.size w w1) := hb1
    have hs1 := hb1.size
    have HA : Hid (At (w1.alloc (.cells #[.int .i64 0, .int .i64 0, .int .i64 0, .int .i64 0] tNk)) w1.heap.size (ic [0, 0, 0, 0]) tNk ∧ Below w.heap.size w (w1.alloc (.cells #[.int .i64 0, .int .i64 0, .int .i64 0, .int .i64 0] tNk))) := ⟨At.new _ _ _, hb1.alloc hb1.size _⟩
    clear hb1 hn
    go_wp2_with fail
    go_loopw [7, 8] (fun zv iv wr => ∃ (j : Nat), j ≤ 4 ∧ iv = .int .i64 j ∧ zv = .bool true ∧ Hid (At wr w1.heap.size (ic [0, 0, 0, 0]) tNk ∧ Below w.heap.size w wr)) (fun _ iv _ => 4 - (intOf iv).toNat)
    case atStart => exact ⟨0, by omega, rfl, rfl, HA.out⟩
    case round =>
      obtain ⟨j, hj, rfl, rfl, HR⟩ := hrel
      by_cases hlt : j < 4
      · have hji : (j : Int) < 4 := by omega
        have ca : wr.cell? ⟨p, off + j, none⟩ = some (.int .i64 0) := (HR.out.2.cell (p := ⟨p, off + j, none⟩) hp).trans (HZ.out j hlt)
        have cb : wr.cell? ⟨w1.heap.size, j, none⟩ = some (.int .i64 0) := by
          rw [HR.out.1.cell, ic_get _ _ (by exact hlt)]
          rcases (show j = 0 ∨ j = 1 ∨ j = 2 ∨ j = 3 by omega) with rfl | rfl | rfl | rfl <;> rfl
        have cf := HR.out.1.free
        have hbl := HR.out.1.lt
        have ne1 : p ≠ w1.heap.size := by omega
        go_wp2_with fail
        go_roundw
        case rel =>
          refine ⟨j + 1, by omega, by go_num, rfl, ?_, HR.out.2.setCell hs1 _⟩
          have := HR.out.1.put j (.int .i64 0)
          rw [ic_set, z4_set j hlt] at this
          exact this
        case measure => simp [intOf]; omega
      · have hj4 : j = 4 := by omega
        subst hj4
        go_wp2_with fail
        go_ret
        exact ⟨by rw [HE.out]; rfl, HR.out.2⟩
  · obtain ⟨f, hf, hnf, hg⟩ := hnz e
    rw [hnf] at hn
    have HE : Hid (grD C l = bd C f) := hg
    have hfi : (f : Int) < 32 := by omega
    have HCf : Hid (w.cell? ⟨q, ofq + f, none⟩ = some (.int .i64 (bd C f))) := HCq.out f hf
    clear hz hnz hg hnf hC0 e
    generalize bd C f = g at *
    go_enter Tryd.func65, Tryd.ntmps65
    go_wp2_with fail
    refine hn.mono ?_
    rintro e w1 ⟨rfl, hb1⟩
    have cq : w1.cell? ⟨q, ofq + f, none⟩ = some (.int .i64 g) := (hb1.cell (p := ⟨q, ofq + f, none⟩) hq).trans HCf.out
    have HB1 : Hid (Below w.heap.size w w1) := hb1
    clear hb1 hn
    go_wp2_with fail
    go_ret
    exact ⟨by rw [HE.out]; rfl, HB1.out⟩

end Go.Proofs.YtffajooegiempaaDoor

namespace Go.Proofs.YtffajooegiempaaDoor
open Go.RowKit

abbrev tD : TypeId := 85
abbrev tDs : TypeId := 58

/-- The program's reader: the text, the place, is it stuck, what was found. -/
def Dat (w : World) (r : Nat) (s : ByteArray) (d : Nat × Bool) (vf : Value) : Prop := At w r #[.string s, .int .i64 d.1, .bool d.2, vf] tD

/-- Nothing but block r has turned, and no block has come. -/
structure Tch (r : Nat) (w w' : World) : Prop where
  os : w'.os = w.os
  tape : w'.tape = w.tape
  output : w'.output = w.output
  size : w'.heap.size = w.heap.size
  block : ∀ k, k ≠ r → w'.heap[k]? = w.heap[k]?

theorem Tch.refl (r : Nat) (w : World) : Tch r w w := ⟨rfl, rfl, rfl, rfl, fun _ _ => rfl⟩
theorem Tch.trans {r : Nat} {a b c : World} (h : Tch r a b) (k : Tch r b c) : Tch r a c := ⟨k.os.trans h.os, k.tape.trans h.tape, k.output.trans h.output, k.size.trans h.size, fun i hi => (k.block i hi).trans (h.block i hi)⟩
theorem Tch.drewN {r : Nat} {a w : World} (h : Tch r a w) (n : Nat) : Tch r a (w.drewN n) := ⟨h.os, h.tape, h.output, h.size, h.block⟩
theorem Tch.setCell {r : Nat} {a w : World} (h : Tch r a w) (o : Nat) (u : Value) : Tch r a (w.setCell ⟨r, o, none⟩ u) :=
  h.trans ⟨rfl, rfl, rfl, by simp [World.setCell], fun k hk => Below.heap_setCell _ _ _ _ hk⟩
theorem Tch.below {r B : Nat} {w w' : World} (h : Tch r w w') (hB : B ≤ r) : Below B w w' := ⟨h.os, h.tape, h.output, by have := h.size; omega, fun k hk => h.block k (by omega)⟩
theorem Tch.at_ {r q : Nat} {w w' : World} {c : Array Value} {t : TypeId} (h : Tch r w w') (ha : At w q c t) (hn : q ≠ r) : At w' q c t := ha.same (h.block q hn)

theorem Dat.cells {w : World} {r : Nat} {s : ByteArray} {d : Nat × Bool} {vf : Value} (h : Dat w r s d vf) : w.cell? ⟨r, 0, none⟩ = some (.string s) ∧ w.cell? ⟨r, 1, none⟩ = some (.int .i64 d.1) ∧ w.cell? ⟨r, 2, none⟩ = some (.bool d.2) ∧ w.cell? ⟨r, 3, none⟩ = some vf ∧ ∀ i, w.frozen? ⟨r, i, none⟩ = false :=
  ⟨h.cell 0, h.cell 1, h.cell 2, h.cell 3, h.free⟩
theorem Dat.drewN {w : World} {r : Nat} {s : ByteArray} {d : Nat × Bool} {vf : Value} (h : Dat w r s d vf) (k : Nat) : Dat (w.drewN k) r s d vf := h
theorem Dat.step {w : World} {r : Nat} {s : ByteArray} {d : Nat × Bool} {vf : Value} (h : Dat w r s d vf) : Dat (w.setCell ⟨r, 1, none⟩ (.int .i64 ((d.1 : Int) + 1))) r s (d.1 + 1, d.2) vf := by
  have := At.put h 1 (.int .i64 ((d.1 : Int) + 1))
  exact this
theorem Dat.stick {w : World} {r : Nat} {s : ByteArray} {d : Nat × Bool} {vf : Value} (h : Dat w r s d vf) : Dat (w.setCell ⟨r, 2, none⟩ (.bool true)) r s (d.1, true) vf := by
  have := At.put h 2 (.bool true)
  exact this

/-- The next byte; 0 where there is none. -/
def pk (s : ByteArray) (d : Nat × Bool) : Int := if d.2 then 0 else (bytesOf s).getD d.1 0
theorem pk_range (s : ByteArray) (d : Nat × Bool) : 0 ≤ pk s d ∧ pk s d ≤ 255 := by
  unfold pk
  split
  · omega
  · by_cases h : d.1 < s.size
    · rw [List.getD_eq_getElem?_getD, bytesOf_get s d.1 h]
      have := (s[d.1]).toNat_lt
      simp only [Option.getD_some]
      omega
    · rw [List.getD_eq_getElem?_getD, List.getElem?_eq_none (by rw [bytesOf_len]; omega)]
      simp

/-- Three numbers that come out. -/
def three (x : Int × Int × Int) : Ending := .returned (.tuple #[.int .i64 x.1, .int .i64 x.2.1, .int .i64 x.2.2])

variable {w : World} {r : Nat} {s : ByteArray} {d : Nat × Bool} {vf : Value}

set_option maxRecDepth 100000 in
set_option maxHeartbeats 800000 in
theorem d_peek (h : Dat w r s d vf) (_hs : s.size ≤ 160) (hd : d.1 ≤ 160) :
    Calls Tryd.prog 84 #[.pointer (some ⟨r, 0, none⟩)] w fun e w' => e = .returned (.int .u8 (pk s d)) ∧ ∃ k, w' = w.drewN k := by
  obtain ⟨c0, c1, c2, c3, cf⟩ := h.cells
  obtain ⟨a, b⟩ := d
  simp only at c0 c1 c2 c3 hd
  have a0 : decide (((a : Nat) : Int) < 0) = false := decide_eq_false (by omega)
  cases b
  · by_cases hl : a < s.size
    · have HP : Hid (pk s (a, false) = ((s[a]).toNat : Int)) := by show pk s (a, false) = _; unfold pk; simp only [Bool.false_eq_true, if_false]; rw [List.getD_eq_getElem?_getD, bytesOf_get s a hl]; rfl
      have a1 : decide (((s.size : Nat) : Int) ≤ (a : Int)) = false := decide_eq_false (by omega)
      have i1 : ((a : Nat) : Int) < ((s.size : Nat) : Int) := by omega
      clear h
      go_enter Tryd.func84, Tryd.ntmps84
      go_wp2
      go_quiet (fail)
      go_wp2
      go_quiet (fail)
      go_wp2
      go_ret
      exact ⟨by rw [HP.out]; rfl, _, World.drewN_drewN _ _ _⟩
    · have HP : Hid (pk s (a, false) = 0) := by show pk s (a, false) = _; unfold pk; simp only [Bool.false_eq_true, if_false]; rw [List.getD_eq_getElem?_getD, List.getElem?_eq_none (by rw [bytesOf_len]; omega)]; rfl
      have a1 : decide (((s.size : Nat) : Int) ≤ (a : Int)) = true := decide_eq_true (by omega)
      clear h
      go_enter Tryd.func84, Tryd.ntmps84
      go_wp2
      go_quiet (fail)
      go_wp2
      go_ret
      exact ⟨by rw [HP.out]; rfl, _, rfl⟩
  · clear h
    go_enter Tryd.func84, Tryd.ntmps84
    go_wp2
    go_quiet (fail)
    go_wp2
    go_ret
    exact ⟨rfl, _, rfl⟩

/-- What a small step leaves. -/
def DPost (w : World) (r : Nat) (s : ByteArray) (vf : Value) (d' : Nat × Bool) (v : Value) : Ending → World → Prop := fun e w' => e = .returned v ∧ Dat w' r s d' vf ∧ Tch r w w'

def tk (s : ByteArray) (d : Nat × Bool) (c : Int) : Bool × (Nat × Bool) := if pk s d = c then (true, (d.1 + 1, d.2)) else (false, d)
def nd (s : ByteArray) (d : Nat × Bool) (c : Int) : Nat × Bool := if pk s d = c then (d.1 + 1, d.2) else (d.1, true)

set_option maxRecDepth 100000 in
set_option maxHeartbeats 800000 in
theorem d_take (h : Dat w r s d vf) (hs : s.size ≤ 160) (hd : d.1 ≤ 160) (c : Int) :
    Calls Tryd.prog 121 #[.pointer (some ⟨r, 0, none⟩), .int .u8 c] w (DPost w r s vf (tk s d c).2 (.bool (tk s d c).1)) := by
  have hp := d_peek h hs hd
  obtain ⟨c0, c1, c2, c3, cf⟩ := h.cells
  have HD : Hid (Dat _ _ _ _ _) := h
  clear h
  by_cases hc : pk s d = c
  · have HT : Hid (tk s d c = (true, (d.1 + 1, d.2))) := if_pos hc
    subst hc
    go_enter Tryd.func121, Tryd.ntmps121
    go_wp2_with (go_at_call 84; refine hp.mono ?_; rintro e w' ⟨rfl, k, rfl⟩)
    go_ret
    rw [HT.out]
    exact ⟨rfl, (HD.out.drewN k).step, ((Tch.refl _ _).drewN _).setCell _ _⟩
  · have HT : Hid (tk s d c = (false, d)) := if_neg hc
    have bc : (pk s d != c) = true := by simpa using hc
    clear hc
    go_enter Tryd.func121, Tryd.ntmps121
    go_wp2_with (go_at_call 84; refine hp.mono ?_; rintro e w' ⟨rfl, k, rfl⟩)
    go_ret
    rw [HT.out]
    exact ⟨rfl, HD.out.drewN k, (Tch.refl _ _).drewN _⟩

set_option maxRecDepth 100000 in
set_option maxHeartbeats 800000 in
theorem d_need (h : Dat w r s d vf) (hs : s.size ≤ 160) (hd : d.1 ≤ 160) (c : Int) :
    Calls Tryd.prog 114 #[.pointer (some ⟨r, 0, none⟩), .int .u8 c] w (DPost w r s vf (nd s d c) (.tuple #[])) := by
  have hp := d_take h hs hd c
  clear h
  by_cases hc : pk s d = c
  · have HT : Hid (nd s d c = (d.1 + 1, d.2)) := if_pos hc
    have hk : tk s d c = (true, (d.1 + 1, d.2)) := if_pos hc
    rw [hk] at hp
    clear hc hk
    go_enter Tryd.func114, Tryd.ntmps114
    go_wp2_with (go_at_call 121; refine hp.mono ?_; rintro e w' ⟨rfl, hD, hT⟩)
    go_end0
    rw [HT.out]
    exact ⟨rfl, hD, hT⟩
  · have HT : Hid (nd s d c = (d.1, true)) := if_neg hc
    have hk : tk s d c = (false, d) := if_neg hc
    rw [hk] at hp
    clear hc hk
    go_enter Tryd.func114, Tryd.ntmps114
    go_wp2_with (go_at_call 121; refine hp.mono ?_; rintro e w' ⟨rfl, hD, hT⟩; obtain ⟨c0, c1, c2, c3, cf⟩ := hD.cells; have HD : Hid (Dat _ _ _ _ _) := hD; clear hD)
    go_end0
    rw [HT.out]
    exact ⟨rfl, HD.out.stick, hT.setCell _ _⟩

end Go.Proofs.YtffajooegiempaaDoor

namespace Go.Proofs.YtffajooegiempaaDoor
open Go.RowKit
variable {w : World} {r : Nat} {s : ByteArray} {d : Nat × Bool} {vf : Value}

theorem pk_lt {c : Int} (h : pk s d = c) (hc : c ≠ 0) : d.1 < s.size ∧ d.2 = false := by
  unfold pk at h
  split at h
  · exact absurd h.symm hc
  · rename_i hb
    refine ⟨?_, by simpa using hb⟩
    rcases Nat.lt_or_ge d.1 s.size with h' | h'
    · exact h'
    · rw [List.getD_eq_getElem?_getD, List.getElem?_eq_none (by rw [bytesOf_len]; omega)] at h
      exact absurd h.symm hc

def adv (d : Nat × Bool) : Nat × Bool := (d.1 + 1, d.2)
def stk (d : Nat × Bool) : Nat × Bool := (d.1, true)

def rSign (s : ByteArray) (d : Nat × Bool) : Int × (Nat × Bool) := if pk s d = 45 then (-1, adv d) else (1, d)
def rVar (s : ByteArray) (d : Nat × Bool) (not : Int) : Int × (Nat × Bool) := if varOf (pk s d) = -1 ∨ varOf (pk s d) = not then (0, stk d) else (varOf (pk s d), adv d)
def rNum (s : ByteArray) (d : Nat × Bool) (sg : Int) : Int × (Nat × Bool) :=
  if pk s d = 48 ∧ 0 < sg then (0, adv d)
  else if pk s d < 49 ∨ 57 < pk s d then (0, stk d)
  else if 48 ≤ pk s (adv d) ∧ pk s (adv d) ≤ 57 then (sg * (10 * (pk s d - 48) + (pk s (adv d) - 48)), adv (adv d))
  else (sg * (pk s d - 48), adv d)
def rSummand (s : ByteArray) (d : Nat × Bool) : Int × (Nat × Bool) :=
  if pk s d = 43 then rNum s (adv d) 1
  else if pk s d = 45 then (-(rNum s (adv d) 1).1, (rNum s (adv d) 1).2)
  else (0, d)

theorem rSign_le (hd : d.1 ≤ s.size) : (rSign s d).2.1 ≤ s.size := by
  unfold rSign
  split
  · rename_i h; have := (pk_lt h (by decide)).1; show d.1 + 1 ≤ _; omega
  · exact hd
theorem varOf_ne {c : Int} (h : varOf c ≠ -1) : 97 ≤ c ∧ c ≤ 100 := by
  unfold varOf at h
  split at h
  · assumption
  · exact absurd rfl h
theorem rVar_le (hd : d.1 ≤ s.size) (x : Int) : (rVar s d x).2.1 ≤ s.size := by
  unfold rVar
  split
  · exact hd
  · rename_i h
    have h1 := varOf_ne (fun e => h (.inl e))
    have := (pk_lt (s := s) (d := d) rfl (by omega)).1
    show d.1 + 1 ≤ _; omega
theorem rVar_range (x : Int) : 0 ≤ (rVar s d x).1 ∧ (rVar s d x).1 ≤ 3 := by
  unfold rVar
  split
  · exact ⟨by simp, by simp⟩
  · rename_i h
    have h1 := varOf_ne (fun e => h (.inl e))
    show 0 ≤ varOf _ ∧ varOf _ ≤ 3
    unfold varOf
    rw [if_pos h1]; omega
theorem rNum_le (hd : d.1 ≤ s.size) (x : Int) : (rNum s d x).2.1 ≤ s.size := by
  unfold rNum
  split
  · rename_i h; have := (pk_lt h.1 (by decide)).1; show d.1 + 1 ≤ _; omega
  split
  · exact hd
  rename_i h1
  have h2 := (pk_lt (s := s) (d := d) rfl (by omega)).1
  split
  · rename_i h3
    have := (pk_lt (s := s) (d := adv d) rfl (by omega)).1
    show (adv d).1 + 1 ≤ _; omega
  · show d.1 + 1 ≤ _; omega
theorem rNum_range (x : Int) (hx : x = 1 ∨ x = -1) : -99 ≤ (rNum s d x).1 ∧ (rNum s d x).1 ≤ 99 := by
  have p1 := pk_range s d
  have p2 := pk_range s (adv d)
  unfold rNum
  split
  · exact ⟨by simp, by simp⟩
  split
  · exact ⟨by simp, by simp⟩
  split
  · show -99 ≤ x * _ ∧ x * _ ≤ 99
    rcases hx with rfl | rfl <;> omega
  · show -99 ≤ x * _ ∧ x * _ ≤ 99
    rcases hx with rfl | rfl <;> omega

set_option maxRecDepth 100000 in
set_option maxHeartbeats 800000 in
theorem d_readSign (h : Dat w r s d vf) (hs : s.size ≤ 160) (hd : d.1 ≤ s.size) :
    Calls Tryd.prog 122 #[.pointer (some ⟨r, 0, none⟩)] w (DPost w r s vf (rSign s d).2 (.int .i64 (rSign s d).1)) := by
  have hp := d_take h hs (by omega) 45
  clear h
  by_cases hc : pk s d = 45
  · have HT : Hid (rSign s d = (-1, adv d)) := if_pos hc
    have hk : tk s d 45 = (true, adv d) := if_pos hc
    rw [hk] at hp
    clear hc hk
    go_enter Tryd.func122, Tryd.ntmps122
    go_wp2_with (go_at_call 121; refine hp.mono ?_; rintro e w' ⟨rfl, hD, hT⟩)
    go_ret
    rw [HT.out]
    exact ⟨rfl, hD, hT⟩
  · have HT : Hid (rSign s d = (1, d)) := if_neg hc
    have hk : tk s d 45 = (false, d) := if_neg hc
    rw [hk] at hp
    clear hc hk
    go_enter Tryd.func122, Tryd.ntmps122
    go_wp2_with (go_at_call 121; refine hp.mono ?_; rintro e w' ⟨rfl, hD, hT⟩)
    go_ret
    rw [HT.out]
    exact ⟨rfl, hD, hT⟩

set_option maxHeartbeats 400000 in
theorem d_variableOf (c : Int) (w : World) (h0 : 0 ≤ c) (h1 : c ≤ 255) :
    Calls Tryd.prog 123 #[.int .u8 c] w fun e w' => e = .returned (.int .i64 (varOf c)) ∧ w' = w := by
  unfold varOf
  by_cases ha : 97 ≤ c
  · by_cases hb : c ≤ 100
    · go_enter Tryd.func123, Tryd.ntmps123
      go_wp2
      go_ret
      exact ⟨rfl, rfl⟩
    · go_enter Tryd.func123, Tryd.ntmps123
      go_wp2
      go_ret
      exact ⟨rfl, rfl⟩
  · go_enter Tryd.func123, Tryd.ntmps123
    go_wp2
    go_ret
    exact ⟨rfl, rfl⟩

set_option maxRecDepth 100000 in
set_option maxHeartbeats 800000 in
theorem d_readVariable (h : Dat w r s d vf) (hs : s.size ≤ 160) (hd : d.1 ≤ s.size) (x : Int) :
    Calls Tryd.prog 120 #[.pointer (some ⟨r, 0, none⟩), .int .i64 x] w (DPost w r s vf (rVar s d x).2 (.int .i64 (rVar s d x).1)) := by
  have hp := d_peek h hs (by omega)
  obtain ⟨p0, p1⟩ := pk_range s d
  obtain ⟨c0, c1, c2, c3, cf⟩ := h.cells
  have HD : Hid (Dat _ _ _ _ _) := h
  clear h
  by_cases hv : varOf (pk s d) = -1
  · have HT : Hid (rVar s d x = (0, stk d)) := if_pos (.inl hv)
    have hvo := fun w => d_variableOf (pk s d) w p0 p1
    rw [hv] at hvo
    clear hv
    go_enter Tryd.func120, Tryd.ntmps120
    go_wp2_with (first | (go_at_call 84; refine hp.mono ?_; rintro e w' ⟨rfl, k, rfl⟩) | (go_at_call 123; refine (hvo _).mono ?_; rintro e w' ⟨rfl, rfl⟩))
    go_ret
    rw [HT.out]
    exact ⟨rfl, (HD.out.drewN k).stick, ((Tch.refl _ _).drewN _).setCell _ _⟩
  · have bv : (varOf (pk s d) == -1) = false := by simpa using hv
    have hvo := fun w => d_variableOf (pk s d) w p0 p1
    by_cases hx : varOf (pk s d) = x
    · have HT : Hid (rVar s d x = (0, stk d)) := if_pos (.inr hx)
      have bx : (varOf (pk s d) == x) = true := by simpa using hx
      clear hv hx
      generalize varOf (pk s d) = v at *
      go_enter Tryd.func120, Tryd.ntmps120
      go_wp2_with (first | (go_at_call 84; refine hp.mono ?_; rintro e w' ⟨rfl, k, rfl⟩) | (go_at_call 123; refine (hvo _).mono ?_; rintro e w' ⟨rfl, rfl⟩))
      go_ret
      rw [HT.out]
      exact ⟨rfl, (HD.out.drewN k).stick, ((Tch.refl _ _).drewN _).setCell _ _⟩
    · have HT : Hid (rVar s d x = (varOf (pk s d), adv d)) := if_neg (fun e => e.elim hv hx)
      have bx : (varOf (pk s d) == x) = false := by simpa using hx
      clear hv hx
      generalize varOf (pk s d) = v at *
      go_enter Tryd.func120, Tryd.ntmps120
      go_wp2_with (first | (go_at_call 84; refine hp.mono ?_; rintro e w' ⟨rfl, k, rfl⟩) | (go_at_call 123; refine (hvo _).mono ?_; rintro e w' ⟨rfl, rfl⟩))
      go_ret
      rw [HT.out]
      exact ⟨rfl, (HD.out.drewN k).step, ((Tch.refl _ _).drewN _).setCell _ _⟩

end Go.Proofs.YtffajooegiempaaDoor

