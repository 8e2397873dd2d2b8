import Derived.Test.YtffajooegiempabDoorJ12
import Derived.Deep.RegionLaw
import Derived.BigRegion
/- What every statement of a program keeps to: its variable, its signs. No Go in here. -/
namespace Go.Proofs.YtffajooegiempabDoor
variable {m m' : Rd}

def Gd (s : St) : Prop := 0 ≤ s.var ∧ s.var ≤ 3 ∧ ∀ x, x ∈ s.sg → -1 ≤ x ∧ x ≤ 1
def AllGd (m : Rd) : Prop := ∀ s, s ∈ m.st → Gd s
theorem gd_no : Gd noSt := ⟨by decide, by decide, fun x hx => by simp [noSt] at hx; omega⟩
theorem AllGd.get (h : AllGd m) (k : Nat) : Gd (m.st.getD k noSt) := by
  rw [List.getD_eq_getElem?_getD]
  cases e : m.st[k]? with
  | none => exact gd_no
  | some s => exact h s (List.mem_of_getElem? e)
theorem AllGd.cur (h : AllGd m) : Gd (cur m) := h.get _
theorem AllGd.setC (h : AllGd m) {s : St} (hs : Gd s) : AllGd (setCur m s) := fun t ht => (mem_setCur ht).elim (h t) (fun e => e ▸ hs)
theorem AllGd.of {m1 : Rd} (h : AllGd m1) (e : m'.st = m1.st) : AllGd m' := fun s hs => h s (e ▸ hs)

theorem AllGd.begin_ (h : AllGd m) {k v x : Int} (h0 : 0 ≤ v) (h3 : v ≤ 3) (e : beginStep m k v x = some m') : AllGd m' := by
  unfold beginStep at e
  split at e
  · cases e
  · cases e
    intro s hs
    rcases List.mem_append.1 hs with hs | hs
    · exact h s hs
    · rw [List.mem_singleton.1 hs]
      exact ⟨h0, h3, fun x hx => by simp at hx; omega⟩
theorem AllGd.shut (h : AllGd m) (e : shutStep m = some m') : AllGd m' := by
  have hg := h.get (top m).of_
  simp only [shutStep] at e
  split at e
  · cases e; exact fun t ht => (List.mem_or_eq_of_mem_set ht).elim (h t) (fun e => e ▸ hg)
  · cases e; exact fun t ht => (List.mem_or_eq_of_mem_set ht).elim (h t) (fun e => e ▸ hg)
theorem AllGd.digit (h : AllGd m) {c x : Int} {pos : Bool} (e : digitStep m c pos x = some m') : AllGd m' := by
  obtain ⟨d, u, _, _, rfl⟩ := digit_inv e
  exact (h.setC (s := { Go.Proofs.YtffajooegiempabDoor.cur m with num := 10 * u + (c - 48) }) h.cur).of rfl
theorem AllGd.signTo (h : AllGd m) (v : Nat) (y x : Int) (hy : -1 ≤ y ∧ y ≤ 1) : AllGd (signTo m v y x) := by
  have hc := h.cur
  refine (h.setC (s := { Go.Proofs.YtffajooegiempabDoor.cur m with sg := (Go.Proofs.YtffajooegiempabDoor.cur m).sg.set v y }) ⟨hc.1, hc.2.1, fun z hz => ?_⟩).of rfl
  rcases List.mem_or_eq_of_mem_set hz with hz | hz
  · exact hc.2.2 z hz
  · rw [hz]; exact hy
theorem AllGd.plain (h : AllGd m) {c : Int} (e : plainStep m c = some m') : AllGd m' := by
  unfold plainStep at e
  split at e
  · split at e
    · cases e; exact h.of rfl
    · cases e
  · split at e
    · cases e
    · cases e; exact h.of rfl

theorem AllGd.value (h : AllGd m) (ok : Ok m) {c : Int} (e : valueStep m c = some m') : AllGd m' := by
  have hs := ok.sgn
  have ve : AllGd (valueEnd m) := (h.setC (s := { Go.Proofs.YtffajooegiempabDoor.cur m with num := m.sign * (Go.Proofs.YtffajooegiempabDoor.cur m).num }) h.cur).of rfl
  unfold valueStep at e
  split at e
  · split at e
    · cases e; exact (h.setC (s := { Go.Proofs.YtffajooegiempabDoor.cur m with star := true }) h.cur).of rfl
    split at e
    · cases e; exact h.of rfl
    split at e
    · cases e; exact h.signTo _ 1 120 (by omega)
    · exact AllGd.digit (m := { m with sign := 1 }) (h.of rfl) e
  split at e
  · split at e
    · cases e; exact h.signTo _ m.sign 120 hs
    · exact h.digit e
  split at e
  · split at e
    · cases e; exact h.of rfl
    split at e
    · cases e; exact h.of rfl
    split at e
    · cases e; exact ve
    · cases e
  split at e
  · exact h.digit e
  · split at e
    · cases e; exact ve
    · exact h.digit e

theorem AllGd.cond (h : AllGd m) (ok : Ok m) {c : Int} (e : condStep m c = some m') : AllGd m' := by
  have hs := ok.sgn
  unfold condStep at e
  by_cases x1 : m.state = 99
  · rw [if_pos x1] at e
    split at e
    · cases e; exact (h.setC (s := { Go.Proofs.YtffajooegiempabDoor.cur m with star := true }) h.cur).of rfl
    split at e
    · cases e; exact h.of rfl
    split at e
    · cases e; exact h.signTo _ 1 100 (by omega)
    · cases e
  rw [if_neg x1] at e
  by_cases x2 : m.state = 67
  · rw [if_pos x2] at e
    split at e
    · cases e; exact h.signTo _ m.sign 100 hs
    · cases e
  rw [if_neg x2] at e
  by_cases x3 : m.state = 100
  · rw [if_pos x3] at e
    split at e
    · cases e; exact h.of rfl
    split at e
    · cases e; exact h.of rfl
    split at e
    · cases e; exact h.of rfl
    · cases e
  rw [if_neg x3] at e
  by_cases x4 : m.state = 101
  · rw [if_pos x4] at e
    split at e
    · split at e
      · cases e; exact h.signTo _ m.sign 102 hs
      · cases e
    · cases e
  rw [if_neg x4] at e
  by_cases x5 : m.state = 102
  · rw [if_pos x5] at e
    split at e
    · cases e; exact h.of rfl
    · cases e
  rw [if_neg x5] at e
  by_cases x6 : m.state = 60
  · rw [if_pos x6] at e
    split at e
    · cases e; exact h.of rfl
    · cases e
  rw [if_neg x6] at e
  by_cases x7 : m.state = 98
  · rw [if_pos x7] at e
    split at e
    · cases e; exact h.of rfl
    · exact h.digit e
  rw [if_neg x7] at e
  by_cases x8 : m.state = 66
  · rw [if_pos x8] at e
    exact h.digit e
  rw [if_neg x8] at e
  by_cases x9 : m.state = 109
  · rw [if_pos x9] at e
    split at e
    · exact AllGd.plain (m := { setCur m { Go.Proofs.YtffajooegiempabDoor.cur m with num := if m.neg then -(Go.Proofs.YtffajooegiempabDoor.cur m).num else (Go.Proofs.YtffajooegiempabDoor.cur m).num } with state := behindOf m }) ((h.setC (s := { Go.Proofs.YtffajooegiempabDoor.cur m with num := if m.neg then -(Go.Proofs.YtffajooegiempabDoor.cur m).num else (Go.Proofs.YtffajooegiempabDoor.cur m).num }) h.cur).of rfl) e
    · exact h.digit e
  rw [if_neg x9] at e
  split at e
  · cases e; exact h.of rfl
  · cases e

theorem AllGd.byte (h : AllGd m) (ok : Ok m) {c : Int} (e : byteStep m c = some m') : AllGd m' := by
  unfold byteStep at e
  split at e
  · unfold startStep at e
    split at e
    · exact h.begin_ (by omega) (by omega) e
    split at e
    · split at e
      · exact h.begin_ (by omega) (by omega) e
      · cases e
    split at e
    · exact h.begin_ (by omega) (by omega) e
    split at e
    · exact h.shut e
    · cases e
  split at e
  · split at e
    · cases e; exact h.of rfl
    · cases e
  split at e
  · exact h.value ok e
  split at e
  · exact h.plain e
  · exact h.cond ok e

theorem gd_from {l : List Int} : ∀ {m : Rd} {n k : Nat}, AllGd m → Ok m → readFrom m l n = (k, some m') → AllGd m' ∧ Ok m' := by
  induction l with
  | nil => intro m n k h ok e; simp [readFrom] at e; rw [← e.2]; exact ⟨h, ok⟩
  | cons c l ih =>
    intro m n k h ok e
    simp only [readFrom] at e
    split at e
    · cases e
    · rename_i m1 e1
      exact ih (h.byte ok e1) (ok.byte e1) e

end Go.Proofs.YtffajooegiempabDoor

/- How many variables stand in a statement. No Go in here. -/
namespace Go.Proofs.YtffajooegiempabDoor
variable {m m' : Rd}

/-- How many signs are not 0. -/
def nz (l : List Int) : Nat := l.countP fun x => decide (x ≠ 0)
theorem nz_cons (a : Int) (l : List Int) : nz (a :: l) = nz l + if a = 0 then 0 else 1 := by
  unfold nz
  rw [List.countP_cons]
  by_cases h : a = 0
  · rw [if_pos h, if_neg (by simpa using h)]
  · rw [if_neg h, if_pos (by simpa using h)]
theorem nz_set : ∀ (l : List Int) (v : Nat) (x : Int), nz (l.set v x) ≤ nz l + 1 := by
  intro l
  induction l with
  | nil => intro v x; simp
  | cons a l ih =>
    intro v x
    cases v with
    | zero =>
      rw [List.set_cons_zero, nz_cons, nz_cons]
      split <;> split <;> omega
    | succ v =>
      rw [List.set_cons_succ, nz_cons, nz_cons]
      have := ih v x
      omega
/-- How many may stand in the statement that is being read. -/
def lim (x : Int) : Nat := if x = 61 ∨ x = 118 ∨ x = 86 ∨ x = 99 ∨ x = 67 then 0 else if x = 100 ∨ x = 101 then 1 else 2
structure Cn (m : Rd) : Prop where
  all : ∀ s, s ∈ m.st → nz s.sg ≤ 2
  cur : nz (cur m).sg ≤ lim m.state
theorem lim_le (x : Int) : lim x ≤ 2 := by unfold lim; split <;> (try split) <;> omega
theorem Cn.of (h : Cn m) (e : m'.st = m.st) (hl : lim m.state ≤ lim m'.state) : Cn m' := by
  refine ⟨fun s hs => h.all s (e ▸ hs), ?_⟩
  have : Go.Proofs.YtffajooegiempabDoor.cur m' = Go.Proofs.YtffajooegiempabDoor.cur m := by unfold Go.Proofs.YtffajooegiempabDoor.cur; rw [e]
  rw [this]
  exact Nat.le_trans h.cur hl
/-- The statement that is being read is turned. -/
theorem Cn.setC (h : Cn m) {s : St} {n : Nat} (hs : nz s.sg ≤ n) (hn : n ≤ 2) (ok : m.state ≠ 115) (ok' : Ok m) (e : m'.st = (setCur m s).st) (hl : n ≤ lim m'.state) : Cn m' := by
  have hp := ok'.some_ ok
  refine ⟨fun t ht => ?_, ?_⟩
  · rw [e] at ht
    rcases mem_setCur ht with q | q
    · exact h.all t q
    · rw [q]; omega
  · have : Go.Proofs.YtffajooegiempabDoor.cur m' = s := by
      unfold Go.Proofs.YtffajooegiempabDoor.cur
      rw [e]
      unfold setCur
      simp [List.getD, show m.st.length - 1 < m.st.length by omega]
    rw [this]
    omega
theorem Cn.begin_ (h : Cn m) {k v x : Int} (hx : lim x = 0) (e : beginStep m k v x = some m') : Cn m' := by
  unfold beginStep at e
  split at e
  · cases e
  · cases e
    refine ⟨fun s hs => ?_, ?_⟩
    · rcases List.mem_append.1 hs with hs | hs
      · exact h.all s hs
      · rw [List.mem_singleton.1 hs]; show nz [0, 0, 0, 0] ≤ 2; decide
    · show nz (Go.Proofs.YtffajooegiempabDoor.cur _).sg ≤ lim x
      rw [hx]
      unfold Go.Proofs.YtffajooegiempabDoor.cur
      simp [List.getD]
      decide
theorem Cn.shut (h : Cn m) (hs : m.state = 115) (e : shutStep m = some m') : Cn m' := by
  have key : ∀ (s : St), s.sg = (m.st.getD (top m).of_ noSt).sg → ∀ t, t ∈ m.st.set (top m).of_ s → nz t.sg ≤ 2 := by
    intro s hsg t ht
    rcases List.mem_or_eq_of_mem_set ht with q | q
    · exact h.all t q
    · rw [q, hsg, List.getD_eq_getElem?_getD]
      cases e : m.st[(top m).of_]? with
      | none => decide
      | some u => exact h.all u (List.mem_of_getElem? e)
  have cu : ∀ (s : St) (m2 : Rd), m2.st = m.st.set (top m).of_ s → s.sg = (m.st.getD (top m).of_ noSt).sg → nz (Go.Proofs.YtffajooegiempabDoor.cur m2).sg ≤ 2 := by
    intro s m2 e2 hsg
    unfold Go.Proofs.YtffajooegiempabDoor.cur
    rw [e2, List.getD_eq_getElem?_getD]
    cases e3 : (m.st.set (top m).of_ s)[(m.st.set (top m).of_ s).length - 1]? with
    | none => decide
    | some u => exact key s hsg u (List.mem_of_getElem? e3)
  simp only [shutStep] at e
  split at e
  · cases e
    exact ⟨key _ rfl, cu _ _ rfl rfl⟩
  · cases e
    refine ⟨key _ rfl, ?_⟩
    show _ ≤ lim m.state
    rw [hs]
    exact cu _ _ rfl rfl
theorem Cn.digit (h : Cn m) (ok : Ok m) (h0 : m.state ≠ 115) {c x : Int} {pos : Bool} (e : digitStep m c pos x = some m') (hl : lim m.state ≤ lim x) : Cn m' := by
  obtain ⟨d, u, _, _, rfl⟩ := digit_inv e
  exact h.setC (s := { Go.Proofs.YtffajooegiempabDoor.cur m with num := 10 * u + (c - 48) }) (n := lim m.state) h.cur (lim_le _) h0 ok rfl hl
theorem Cn.signTo (h : Cn m) (ok : Ok m) (h0 : m.state ≠ 115) (v : Nat) (y x : Int) (hl : lim m.state + 1 ≤ lim x) : Cn (signTo m v y x) := by
  have := lim_le x
  have hc := h.cur
  have hn := nz_set (Go.Proofs.YtffajooegiempabDoor.cur m).sg v y
  exact h.setC (s := { Go.Proofs.YtffajooegiempabDoor.cur m with sg := (Go.Proofs.YtffajooegiempabDoor.cur m).sg.set v y }) (n := lim m.state + 1) (by show nz ((Go.Proofs.YtffajooegiempabDoor.cur m).sg.set v y) ≤ _; omega) (by omega) h0 ok rfl hl
theorem Cn.plain (h : Cn m) (hl : lim m.state ≤ 2) {c : Int} (e : plainStep m c = some m') : Cn m' := by
  unfold plainStep at e
  split at e
  · split at e
    · cases e; exact h.of rfl hl
    · cases e
  · split at e
    · cases e
    · cases e; exact h.of rfl hl
theorem Cn.value (h : Cn m) (ok : Ok m) {c : Int} (hst : m.state = 118 ∨ m.state = 86 ∨ m.state = 120 ∨ m.state = 121 ∨ m.state = 110) (e : valueStep m c = some m') : Cn m' := by
  have h0 : m.state ≠ 115 := by omega
  have l2 := lim_le m.state
  have ve : Cn (valueEnd m) := h.setC (s := { Go.Proofs.YtffajooegiempabDoor.cur m with num := m.sign * (Go.Proofs.YtffajooegiempabDoor.cur m).num }) (n := lim m.state) h.cur l2 h0 ok rfl l2
  unfold valueStep at e
  split at e
  · rename_i x1
    have hz : lim m.state = 0 := by rw [x1]; rfl
    split at e
    · cases e; exact h.setC (s := { Go.Proofs.YtffajooegiempabDoor.cur m with star := true }) (n := lim m.state) h.cur l2 h0 ok rfl l2
    split at e
    · cases e; exact h.of rfl (by omega)
    split at e
    · cases e; exact h.signTo ok h0 _ 1 120 (by rw [hz]; decide)
    · exact Cn.digit (m := { m with sign := 1 }) (h.of rfl (Nat.le_refl _)) ⟨ok.states, ok.some_, ok.len, ok.oplen, ok.ofs, by show -1 ≤ (1 : Int) ∧ (1 : Int) ≤ 1; omega, ok.digs, ok.nums, ok.sgl, ok.inNum, ok.open_⟩ h0 e l2
  split at e
  · rename_i x1 x2
    have hz : lim m.state = 0 := by rw [x2]; rfl
    split at e
    · cases e; exact h.signTo ok h0 _ m.sign 120 (by rw [hz]; decide)
    · exact h.digit ok h0 e l2
  split at e
  · split at e
    · cases e; exact h.of rfl l2
    split at e
    · cases e; exact h.of rfl l2
    split at e
    · cases e; exact ve
    · cases e
  split at e
  · exact h.digit ok h0 e l2
  · split at e
    · cases e; exact ve
    · exact h.digit ok h0 e l2
theorem lim_beh (m : Rd) : lim (behindOf m) = 2 := by unfold behindOf; split <;> rfl
theorem Cn.cond (h : Cn m) (ok : Ok m) (h0 : m.state ≠ 115) {c : Int} (e : condStep m c = some m') : Cn m' := by
  have l2 := lim_le m.state
  unfold condStep at e
  by_cases x1 : m.state = 99
  · rw [if_pos x1] at e
    have hz : lim m.state = 0 := by rw [x1]; rfl
    split at e
    · cases e; exact h.setC (s := { Go.Proofs.YtffajooegiempabDoor.cur m with star := true }) (n := lim m.state) h.cur l2 h0 ok rfl (by show _ ≤ lim (behindOf m); rw [lim_beh]; exact l2)
    split at e
    · cases e; exact h.of rfl (by omega)
    split at e
    · cases e; exact h.signTo ok h0 _ 1 100 (by rw [hz]; decide)
    · cases e
  rw [if_neg x1] at e
  by_cases x2 : m.state = 67
  · rw [if_pos x2] at e
    have hz : lim m.state = 0 := by rw [x2]; rfl
    split at e
    · cases e; exact h.signTo ok h0 _ m.sign 100 (by rw [hz]; decide)
    · cases e
  rw [if_neg x2] at e
  by_cases x3 : m.state = 100
  · rw [if_pos x3] at e
    have hz : lim m.state = 1 := by rw [x3]; rfl
    split at e
    · cases e; exact h.of rfl (by rw [hz]; show 1 ≤ lim 101; decide)
    split at e
    · cases e; exact h.of rfl (by rw [hz]; show 1 ≤ lim 101; decide)
    split at e
    · cases e; exact h.of rfl (by rw [hz]; show 1 ≤ lim 60; decide)
    · cases e
  rw [if_neg x3] at e
  by_cases x4 : m.state = 101
  · rw [if_pos x4] at e
    have hz : lim m.state = 1 := by rw [x4]; rfl
    split at e
    · split at e
      · cases e; exact h.signTo ok h0 _ m.sign 102 (by rw [hz]; decide)
      · cases e
    · cases e
  rw [if_neg x4] at e
  by_cases x5 : m.state = 102
  · rw [if_pos x5] at e
    split at e
    · cases e; exact h.of rfl l2
    · cases e
  rw [if_neg x5] at e
  by_cases x6 : m.state = 60
  · rw [if_pos x6] at e
    split at e
    · cases e; exact h.of rfl l2
    · cases e
  rw [if_neg x6] at e
  by_cases x7 : m.state = 98
  · rw [if_pos x7] at e
    split at e
    · cases e; exact h.of rfl l2
    · exact h.digit ok h0 e l2
  rw [if_neg x7] at e
  by_cases x8 : m.state = 66
  · rw [if_pos x8] at e
    exact h.digit ok h0 e l2
  rw [if_neg x8] at e
  by_cases x9 : m.state = 109
  · rw [if_pos x9] at e
    split at e
    · refine Cn.plain (m := { setCur m { Go.Proofs.YtffajooegiempabDoor.cur m with num := if m.neg then -(Go.Proofs.YtffajooegiempabDoor.cur m).num else (Go.Proofs.YtffajooegiempabDoor.cur m).num } with state := behindOf m }) ?_ (lim_le _) e
      exact h.setC (s := { Go.Proofs.YtffajooegiempabDoor.cur m with num := if m.neg then -(Go.Proofs.YtffajooegiempabDoor.cur m).num else (Go.Proofs.YtffajooegiempabDoor.cur m).num }) (n := lim m.state) h.cur l2 h0 ok rfl (by show _ ≤ lim (behindOf m); rw [lim_beh]; exact l2)
    · exact h.digit ok h0 e l2
  rw [if_neg x9] at e
  split at e
  · cases e; exact h.of rfl l2
  · cases e
theorem Cn.byte (h : Cn m) (ok : Ok m) {c : Int} (e : byteStep m c = some m') : Cn m' := by
  unfold byteStep at e
  split at e
  · rename_i hs
    unfold startStep at e
    split at e
    · exact h.begin_ rfl e
    split at e
    · split at e
      · exact h.begin_ rfl e
      · cases e
    split at e
    · exact h.begin_ rfl e
    split at e
    · exact h.shut hs e
    · cases e
  split at e
  · rename_i h1 h2
    split at e
    · cases e; exact h.of rfl (by rw [h2]; show lim 61 ≤ lim 118; decide)
    · cases e
  split at e
  · rename_i hv; exact h.value ok hv e
  split at e
  · exact h.plain (lim_le _) e
  · rename_i h1 _ _ _; exact h.cond ok h1 e
theorem cn_from {l : List Int} : ∀ {m : Rd} {n k : Nat}, Cn m → Ok m → readFrom m l n = (k, some m') → Cn m' := by
  induction l with
  | nil => intro m n k h ok e; simp [readFrom] at e; rw [← e.2]; exact h
  | cons c l ih =>
    intro m n k h ok e
    simp only [readFrom] at e
    split at e
    · cases e
    · rename_i m1 e1
      exact ih (h.byte ok e1) (ok.byte e1) e

end Go.Proofs.YtffajooegiempabDoor

namespace Go.Proofs.YtffajooegiempabDoor
open Go.RowKit
variable {w : World}

/- The signs of a sum of at most two: its number by the document, its sides by the program. -/
def sg3 : List Int := [-1, 0, 1]
def tabS (l : List Int) : Bool := decide (2 < nz l) || (if nz l = 0 then decide (numV l = -1) && decide (sd1 l = 0) && decide (sd2 l = 1)
  else decide (0 ≤ numV l) && decide (numV l < 32) && decide (sd1 l = fs (numV l).toNat) && decide (sd2 l = ss (numV l).toNat))
theorem tabS_all : (sg3.all fun a => sg3.all fun b => sg3.all fun c => sg3.all fun d => tabS [a, b, c, d]) = true := by decide +kernel
theorem mem_sg3 {a : Int} (h : -1 ≤ a ∧ a ≤ 1) : a ∈ sg3 := by
  rcases (show a = -1 ∨ a = 0 ∨ a = 1 by omega) with rfl | rfl | rfl <;> decide
theorem tabS_of {l : List Int} (hl : l.length = 4) (h : ∀ i, -1 ≤ gAt l i ∧ gAt l i ≤ 1) : tabS l = true := by
  obtain ⟨a, b, c, d, rfl⟩ := four_of hl
  have t := tabS_all
  simp only [List.all_eq_true] at t
  exact t a (mem_sg3 (h 0)) b (mem_sg3 (h 1)) c (mem_sg3 (h 2)) d (mem_sg3 (h 3))
theorem nz_four (a b c d : Int) : nz [a, b, c, d] = (if a = 0 then 0 else 1) + (if b = 0 then 0 else 1) + (if c = 0 then 0 else 1) + (if d = 0 then 0 else 1) := by
  rw [nz_cons, nz_cons, nz_cons, nz_cons]
  have : nz [] = 0 := rfl
  omega
theorem nz_ngL {l : List Int} (hl : l.length = 4) : nz (ngL l) = nz l := by
  obtain ⟨a, b, c, d, rfl⟩ := four_of hl
  show nz [-a, -b, -c, -d] = _
  rw [nz_four, nz_four]
  have h : ∀ x : Int, (if -x = 0 then 0 else 1 : Nat) = if x = 0 then 0 else 1 := fun x => by
    by_cases e : x = 0
    · rw [if_pos e, if_pos (by omega)]
    · rw [if_neg e, if_neg (by omega)]
  rw [h, h, h, h]

end Go.Proofs.YtffajooegiempabDoor

namespace Go.Proofs.YtffajooegiempabDoor
end Go.Proofs.YtffajooegiempabDoor

namespace Go.Proofs.YtffajooegiempabDoor
end Go.Proofs.YtffajooegiempabDoor

namespace Go.Proofs.YtffajooegiempabDoor
end Go.Proofs.YtffajooegiempabDoor

namespace Go.Proofs.YtffajooegiempabDoor
end Go.Proofs.YtffajooegiempabDoor

namespace Go.Proofs.YtffajooegiempabDoor
end Go.Proofs.YtffajooegiempabDoor

namespace Go.Proofs.YtffajooegiempabDoor
end Go.Proofs.YtffajooegiempabDoor

namespace Go.Proofs.YtffajooegiempabDoor
end Go.Proofs.YtffajooegiempabDoor

namespace Go.Proofs.YtffajooegiempabDoor
end Go.Proofs.YtffajooegiempabDoor

namespace Go.Proofs.YtffajooegiempabDoor
end Go.Proofs.YtffajooegiempabDoor

namespace Go.Proofs.YtffajooegiempabDoor
end Go.Proofs.YtffajooegiempabDoor

namespace Go
end Go
namespace Go.Proofs.YtffajooegiempabDoor
end Go.Proofs.YtffajooegiempabDoor

namespace Go.Proofs.YtffajooegiempabDoor
end Go.Proofs.YtffajooegiempabDoor

namespace Go.Proofs.YtffajooegiempabDoor
end Go.Proofs.YtffajooegiempabDoor

namespace Go.Proofs.YtffajooegiempabDoor
end Go.Proofs.YtffajooegiempabDoor

namespace Go.Proofs.YtffajooegiempabDoor
end Go.Proofs.YtffajooegiempabDoor

namespace Go.Proofs.YtffajooegiempabDoor
end Go.Proofs.YtffajooegiempabDoor

namespace Go.Proofs.YtffajooegiempabDoor
end Go.Proofs.YtffajooegiempabDoor

namespace Go.Proofs.YtffajooegiempabDoor
end Go.Proofs.YtffajooegiempabDoor

namespace Go.Proofs.YtffajooegiempabDoor
end Go.Proofs.YtffajooegiempabDoor

namespace Go.Proofs.YtffajooegiempabDoor
end Go.Proofs.YtffajooegiempabDoor

/- The document's ways, plain. -/
namespace Go.Proofs.YtffajooegiempabDoor
end Go.Proofs.YtffajooegiempabDoor

namespace Go.Proofs.YtffajooegiempabDoor
end Go.Proofs.YtffajooegiempabDoor

namespace Go.Proofs.YtffajooegiempabDoor
open Go.RowKit

/-- The machine behind a text that is a program. -/
def progOf (l : List Int) : Option Rd :=
  if 160 < l.length then none else match (readFrom init l 0).2 with
    | none => none
    | some m => if isDone m then some m else none

theorem progOf_none {l : List Int} (h : progOf l = none) : (scanOf l).2.1 = 1 := by
  unfold progOf at h
  unfold scanOf
  split at h
  · rename_i e; rw [if_pos e]
  · rename_i e
    rw [if_neg e]
    rcases hr : readFrom init l 0 with ⟨n, _ | m⟩
    · rfl
    · rw [hr] at h
      simp only at h ⊢
      cases hd : isDone m
      · simp
      · rw [hd] at h; simp at h
theorem progOf_some {l : List Int} {m : Rd} (h : progOf l = some m) : l.length ≤ 160 ∧ (∃ n, readFrom init l 0 = (n, some m)) ∧ isDone m = true ∧ scanOf l = ((m.st.length : Int) + 1, 0, 0) := by
  unfold progOf at h
  split at h
  · cases h
  · rename_i e
    rcases hr : readFrom init l 0 with ⟨n, _ | m'⟩
    · rw [hr] at h; cases h
    · rw [hr] at h
      simp only at h
      cases hd : isDone m'
      · rw [hd] at h; simp at h
      · rw [hd] at h
        simp at h
        subst h
        refine ⟨by omega, ⟨n, rfl⟩, hd, ?_⟩
        unfold scanOf
        rw [if_neg e, hr]
        simp [hd]

def two (x : Int × Int) : Ending := .returned (.tuple #[.int .i64 x.1, .int .i64 x.2])

end Go.Proofs.YtffajooegiempabDoor

namespace Go.Proofs.YtffajooegiempabDoor
end Go.Proofs.YtffajooegiempabDoor

namespace Go.Proofs.YtffajooegiempabDoor
open Go.RowKit
variable {w : World} {e0 : Bool} {M : Nat → Int} {b : Nat}

/-- Is it safe: the program. -/
def sfP (e : Bool) (M : Nat → Int) (x : Ds) : Bool :=
  if e = true then true else if x.kind = 0 then x.any || ftB M x.sg x.num else if x.kind = 1 then !x.any && decide (grP M x.sg ≤ x.num) else true

end Go.Proofs.YtffajooegiempabDoor

namespace Go.Proofs.YtffajooegiempabDoor
open Go.RowKit
variable {w : World} {e0 : Bool} {M : Nat → Int} {b : Nat}

set_option maxRecDepth 100000 in
set_option maxHeartbeats 3200000 in
theorem e_safe_t (x : Ds) (k1 : x.kind = 1) (ha : x.any = true) :
    Calls Tryd.prog 33 #[dsv x, .agg (oc false M)] w fun e w' => e = .returned (.bool (sfP false M x)) ∧ Below w.heap.size w w' := by
  obtain ⟨e0, he0⟩ : ∃ e0 : Bool, e0 = false := ⟨_, rfl⟩
  rw [← he0]
  obtain ⟨w0, hw0⟩ : ∃ w0, w0 = (w.alloc (.cells (dsCells x) tDs)).alloc (.cells (oc e0 M) tO) := ⟨_, rfl⟩
  have H0 : Hid (At w0 w.heap.size (dsCells x) tDs ∧ OAt w0 (w.heap.size + 1) e0 M ∧ Below w.heap.size w w0 ∧ w0.heap.size = w.heap.size + 2) := by
    refine ⟨by rw [hw0]; exact At.allocH (At.new _ _ _) _, ?_, by rw [hw0]; exact ((Below.refl _ _).alloc (Nat.le_refl _) _).alloc (by simp) _, by rw [hw0]; simp⟩
    have := At.new (w.alloc (.cells (dsCells x) tDs)) (oc e0 M) tO
    rw [show (w.alloc (.cells (dsCells x) tDs)).heap.size = w.heap.size + 1 by simp] at this
    rw [hw0]; exact this
  have z0 : w0.cell? ⟨w.heap.size + 1, 0, none⟩ = some (.bool e0) := by rw [At.cell H0.out.2.1]; exact oc_0 _ _
  have HB0 := H0.out.2.2.1
  have HA0 := H0.out.2.1
  subst he0
  have HE0 : Hid (sfP false M x = (!x.any && decide (grP M x.sg ≤ x.num))) := by show sfP false M x = _; unfold sfP; rw [if_neg (by decide), if_neg (by omega), if_pos k1]
  have HE : Hid (sfP false M x = false) := by show _ = false; rw [HE0.out, ha]; rfl
  have d2 : w0.drew.cell? ⟨w.heap.size, 2, none⟩ = some (.bool true) := by rw [← ha]; exact H0.out.1.cell 2
  have HB1 : Hid (Below w.heap.size w w0.drew) := H0.out.2.2.1.drew
  rw [hw0] at d2 HB1
  clear H0 HE0
  rw [hw0] at z0 HB0 HA0
  unfold dsCells at z0 HB0 HA0
  unfold dsv
  unfold dsCells at d2 HB1
  rw [k1, ha] at z0 HB0 d2 HB1 ⊢
  clear hw0
  go_enter Tryd.func33, Tryd.ntmps33
  go_wp2_with fail
  go_region
  all_goals
    go_wp2_with fail
    go_ret
    exact ⟨ret_b' HE.out, HB1.out⟩

end Go.Proofs.YtffajooegiempabDoor

namespace Go.Proofs.YtffajooegiempabDoor
open Go.RowKit
variable {w : World} {e0 : Bool} {M : Nat → Int} {b : Nat}

set_option maxRecDepth 100000 in
set_option maxHeartbeats 3200000 in
theorem e_safe_f (x : Ds) (hx : DsG x) (k1 : x.kind = 1) (ha : x.any = false) (hS : Sm M) :
    Calls Tryd.prog 33 #[dsv x, .agg (oc false M)] w fun e w' => e = .returned (.bool (sfP false M x)) ∧ Below w.heap.size w w' := by
  obtain ⟨e0, he0⟩ : ∃ e0 : Bool, e0 = false := ⟨_, rfl⟩
  rw [← he0]
  obtain ⟨w0, hw0⟩ : ∃ w0, w0 = (w.alloc (.cells (dsCells x) tDs)).alloc (.cells (oc e0 M) tO) := ⟨_, rfl⟩
  have H0 : Hid (At w0 w.heap.size (dsCells x) tDs ∧ OAt w0 (w.heap.size + 1) e0 M ∧ Below w.heap.size w w0 ∧ w0.heap.size = w.heap.size + 2) := by
    refine ⟨by rw [hw0]; exact At.allocH (At.new _ _ _) _, ?_, by rw [hw0]; exact ((Below.refl _ _).alloc (Nat.le_refl _) _).alloc (by simp) _, by rw [hw0]; simp⟩
    have := At.new (w.alloc (.cells (dsCells x) tDs)) (oc e0 M) tO
    rw [show (w.alloc (.cells (dsCells x) tDs)).heap.size = w.heap.size + 1 by simp] at this
    rw [hw0]; exact this
  have z0 : w0.cell? ⟨w.heap.size + 1, 0, none⟩ = some (.bool e0) := by rw [At.cell H0.out.2.1]; exact oc_0 _ _
  have HB0 := H0.out.2.2.1
  have HA0 := H0.out.2.1
  subst he0
  have HE0 : Hid (sfP false M x = (!x.any && decide (grP M x.sg ≤ x.num))) := by show sfP false M x = _; unfold sfP; rw [if_neg (by decide), if_neg (by omega), if_pos k1]
  have HE : Hid (sfP false M x = decide (grP M x.sg ≤ x.num)) := by show _ = decide (grP M x.sg ≤ x.num); rw [HE0.out, ha]; rfl
  have HGr : Hid (∀ w1, Calls Tryd.prog 47 #[.agg (oc false M), v4 x.sg] w1 fun e w' => e = .returned (.int .i64 (grP M x.sg)) ∧ Below w1.heap.size w1 w') := fun w1 => o_greatest x.sg hx.sg hS
  have H2 : Hid (At w0.drew w.heap.size (dsCells x) tDs ∧ OAt w0.drew (w.heap.size + 1) false M ∧ Below w.heap.size w w0.drew) := ⟨H0.out.1, H0.out.2.1, H0.out.2.2.1.drew⟩
  have d2 : w0.drew.cell? ⟨w.heap.size, 2, none⟩ = some (.bool false) := by rw [← ha]; exact H0.out.1.cell 2
  have d3 : w0.drew.cell? ⟨w.heap.size, 3, none⟩ = some (.int .i64 (gAt x.sg 0)) := H0.out.1.cell 3
  have d4 : w0.drew.cell? ⟨w.heap.size, 4, none⟩ = some (.int .i64 (gAt x.sg 1)) := H0.out.1.cell 4
  have d5 : w0.drew.cell? ⟨w.heap.size, 5, none⟩ = some (.int .i64 (gAt x.sg 2)) := H0.out.1.cell 5
  have d6 : w0.drew.cell? ⟨w.heap.size, 6, none⟩ = some (.int .i64 (gAt x.sg 3)) := H0.out.1.cell 6
  have d7 : w0.drew.cell? ⟨w.heap.size, 7, none⟩ = some (.int .i64 x.num) := H0.out.1.cell 7
  have hl2 : w.heap.size < w0.drew.heap.size := by have := H0.out.1.lt; exact this
  clear H0 HE0 hS
  rw [hw0] at z0 HB0 HA0
  unfold dsCells at z0 HB0 HA0
  unfold dsv
  rw [k1, ha] at z0 HB0 ⊢
  unfold dsCells at hw0
  rw [k1, ha] at hw0
  generalize grP M x.sg = gr at *
  go_enter Tryd.func33, Tryd.ntmps33
  go_wp2_with fail
  refine wp_region_any (by kernel_rfl) ?_
  change wpAny _ _ _ _ _ _ _ (World.drew _)
  rw [← hw0]
  clear hw0 z0 HB0 HA0
  generalize w0.drew = w2 at *
  refine wpAny_take (i := 0) (v := .pointer (some ⟨w.heap.size, 2, none⟩)) rfl (by kernel_rfl) (by kernel_rfl) (by kernel_rfl) (fun _ _ _ h => h) (Or.inl ⟨by kernel_rfl, by intro w; go_simp⟩) ?_
  refine wpAny_ready (rs := [1]) (by kernel_rfl) (by simp) ?_
  refine AllReady.cons rfl (fun K hK => ?_) AllReady.nil
  go_simp
  refine hK _ _ ?_
  clear hK K
  refine wpAny_take (i := 2) (v := .bool true) rfl (by kernel_rfl) (by kernel_rfl) (by kernel_rfl) (fun _ _ _ h => h) (Or.inl ⟨by kernel_rfl, by intro w; go_simp⟩) ?_
  refine wpAny_take (i := 3) (v := .bool true) rfl (by kernel_rfl) (by kernel_rfl) (by kernel_rfl) (fun _ _ _ h => h) (Or.inl ⟨by kernel_rfl, by intro w; go_simp⟩) ?_
  refine wpAny_take (i := 5) (v := .pointer (some ⟨w.heap.size, 3, none⟩)) rfl (by kernel_rfl) (by kernel_rfl) (by kernel_rfl) (fun _ _ _ h => h) (Or.inl ⟨by kernel_rfl, by intro w; go_simp⟩) ?_
  refine wpAny_take (i := 8) (v := .pointer (some ⟨w.heap.size, 7, none⟩)) rfl (by kernel_rfl) (by kernel_rfl) (by kernel_rfl) (fun _ _ _ h => h) (Or.inl ⟨by kernel_rfl, by intro w; go_simp⟩) ?_
  refine wpAny_ready (rs := [4, 6, 9]) (by kernel_rfl) (by simp) ?_
  refine AllReady.cons rfl (fun K hK => ?_) (AllReady.cons rfl (fun K hK => ?_) (AllReady.cons rfl (fun K hK => ?_) AllReady.nil))
  · refine step_load_ow (by first | rfl | simp [Region.wanted, yielded]) (.tmp 3) rfl rfl H2.out.2.1 ?_
    refine hK _ _ ?_
    clear hK K
    refine wpAny_ready (rs := [6, 9]) (by kernel_rfl) (by simp) ?_
    refine AllReady.cons rfl (fun K hK => ?_) (AllReady.cons rfl (fun K hK => ?_) AllReady.nil)
    · go_simp
      refine hK _ _ ?_
      clear hK K
      refine wpAny_ready (rs := [7, 9]) (by kernel_rfl) (by simp) ?_
      refine AllReady.cons rfl (fun K hK => ?_) (AllReady.cons rfl (fun K hK => ?_) AllReady.nil)
      · go_simp
        go_wp2_with (go_at_call 47; refine (HGr.out _).mono ?_; rintro e w3 ⟨rfl, hb3⟩)
        have H3 : Hid (Below w.heap.size w w3) := H2.out.2.2.trans (hb3.mono H2.out.2.2.size)
        have f7 : w3.cell? ⟨w.heap.size, 7, none⟩ = some (.int .i64 x.num) := (hb3.cell (p := ⟨w.heap.size, 7, none⟩) hl2).trans d7
        clear hb3
        refine wpAny_ready (rs := [9]) (by kernel_rfl) (by simp) ?_
        refine AllReady.cons rfl (fun K hK => ?_) AllReady.nil
        go_simp
        refine hK _ _ ?_
        clear hK K
        refine wpAny_take (i := 10) (v := .bool (decide (gr ≤ x.num))) rfl (by kernel_rfl) (by kernel_rfl) (by kernel_rfl) (fun _ _ _ h => h) (Or.inl ⟨by kernel_rfl, by intro w; go_simp⟩) ?_
        refine wpAny_take (i := 11) (v := .bool (decide (gr ≤ x.num))) rfl (by kernel_rfl) (by kernel_rfl) (by kernel_rfl) (fun _ _ _ h => h) (Or.inl ⟨by kernel_rfl, by intro w; go_simp⟩) ?_
        refine wpAny_take (i := 12) (v := .bool (decide (gr ≤ x.num))) rfl (by kernel_rfl) (by kernel_rfl) (by kernel_rfl) (fun _ _ _ h => h) (Or.inl ⟨by kernel_rfl, by intro w; go_simp⟩) ?_
        refine wpAny_done (by kernel_rfl) ?_ _
        go_wp2_with fail
        go_ret
        exact ⟨ret_b' HE.out, H3.out⟩
      · go_simp
        refine hK _ _ ?_
        clear hK K
        refine wpAny_ready (rs := [7]) (by kernel_rfl) (by simp) ?_
        refine AllReady.cons rfl (fun K hK => ?_) AllReady.nil
        go_simp
        go_wp2_with (go_at_call 47; refine (HGr.out _).mono ?_; rintro e w3 ⟨rfl, hb3⟩)
        have H3 : Hid (Below w.heap.size w w3) := H2.out.2.2.trans (hb3.mono H2.out.2.2.size)
        have f7 : w3.cell? ⟨w.heap.size, 7, none⟩ = some (.int .i64 x.num) := (hb3.cell (p := ⟨w.heap.size, 7, none⟩) hl2).trans d7
        clear hb3
        refine wpAny_take (i := 10) (v := .bool (decide (gr ≤ x.num))) rfl (by kernel_rfl) (by kernel_rfl) (by kernel_rfl) (fun _ _ _ h => h) (Or.inl ⟨by kernel_rfl, by intro w; go_simp⟩) ?_
        refine wpAny_take (i := 11) (v := .bool (decide (gr ≤ x.num))) rfl (by kernel_rfl) (by kernel_rfl) (by kernel_rfl) (fun _ _ _ h => h) (Or.inl ⟨by kernel_rfl, by intro w; go_simp⟩) ?_
        refine wpAny_take (i := 12) (v := .bool (decide (gr ≤ x.num))) rfl (by kernel_rfl) (by kernel_rfl) (by kernel_rfl) (fun _ _ _ h => h) (Or.inl ⟨by kernel_rfl, by intro w; go_simp⟩) ?_
        refine wpAny_done (by kernel_rfl) ?_ _
        go_wp2_with fail
        go_ret
        exact ⟨ret_b' HE.out, H3.out⟩
    · go_simp
      refine hK _ _ ?_
      clear hK K
      refine wpAny_ready (rs := [6]) (by kernel_rfl) (by simp) ?_
      refine AllReady.cons rfl (fun K hK => ?_) AllReady.nil
      go_simp
      refine hK _ _ ?_
      clear hK K
      refine wpAny_ready (rs := [7]) (by kernel_rfl) (by simp) ?_
      refine AllReady.cons rfl (fun K hK => ?_) AllReady.nil
      go_simp
      go_wp2_with (go_at_call 47; refine (HGr.out _).mono ?_; rintro e w3 ⟨rfl, hb3⟩)
      have H3 : Hid (Below w.heap.size w w3) := H2.out.2.2.trans (hb3.mono H2.out.2.2.size)
      have f7 : w3.cell? ⟨w.heap.size, 7, none⟩ = some (.int .i64 x.num) := (hb3.cell (p := ⟨w.heap.size, 7, none⟩) hl2).trans d7
      clear hb3
      refine wpAny_take (i := 10) (v := .bool (decide (gr ≤ x.num))) rfl (by kernel_rfl) (by kernel_rfl) (by kernel_rfl) (fun _ _ _ h => h) (Or.inl ⟨by kernel_rfl, by intro w; go_simp⟩) ?_
      refine wpAny_take (i := 11) (v := .bool (decide (gr ≤ x.num))) rfl (by kernel_rfl) (by kernel_rfl) (by kernel_rfl) (fun _ _ _ h => h) (Or.inl ⟨by kernel_rfl, by intro w; go_simp⟩) ?_
      refine wpAny_take (i := 12) (v := .bool (decide (gr ≤ x.num))) rfl (by kernel_rfl) (by kernel_rfl) (by kernel_rfl) (fun _ _ _ h => h) (Or.inl ⟨by kernel_rfl, by intro w; go_simp⟩) ?_
      refine wpAny_done (by kernel_rfl) ?_ _
      go_wp2_with fail
      go_ret
      exact ⟨ret_b' HE.out, H3.out⟩
  · go_simp
    refine hK _ _ ?_
    clear hK K
    refine wpAny_ready (rs := [4, 9]) (by kernel_rfl) (by simp) ?_
    refine AllReady.cons rfl (fun K hK => ?_) (AllReady.cons rfl (fun K hK => ?_) AllReady.nil)
    · refine step_load_ow (by first | rfl | simp [Region.wanted, yielded]) (.tmp 3) rfl rfl H2.out.2.1 ?_
      refine hK _ _ ?_
      clear hK K
      refine wpAny_ready (rs := [7, 9]) (by kernel_rfl) (by simp) ?_
      refine AllReady.cons rfl (fun K hK => ?_) (AllReady.cons rfl (fun K hK => ?_) AllReady.nil)
      · go_simp
        go_wp2_with (go_at_call 47; refine (HGr.out _).mono ?_; rintro e w3 ⟨rfl, hb3⟩)
        have H3 : Hid (Below w.heap.size w w3) := H2.out.2.2.trans (hb3.mono H2.out.2.2.size)
        have f7 : w3.cell? ⟨w.heap.size, 7, none⟩ = some (.int .i64 x.num) := (hb3.cell (p := ⟨w.heap.size, 7, none⟩) hl2).trans d7
        clear hb3
        refine wpAny_ready (rs := [9]) (by kernel_rfl) (by simp) ?_
        refine AllReady.cons rfl (fun K hK => ?_) AllReady.nil
        go_simp
        refine hK _ _ ?_
        clear hK K
        refine wpAny_take (i := 10) (v := .bool (decide (gr ≤ x.num))) rfl (by kernel_rfl) (by kernel_rfl) (by kernel_rfl) (fun _ _ _ h => h) (Or.inl ⟨by kernel_rfl, by intro w; go_simp⟩) ?_
        refine wpAny_take (i := 11) (v := .bool (decide (gr ≤ x.num))) rfl (by kernel_rfl) (by kernel_rfl) (by kernel_rfl) (fun _ _ _ h => h) (Or.inl ⟨by kernel_rfl, by intro w; go_simp⟩) ?_
        refine wpAny_take (i := 12) (v := .bool (decide (gr ≤ x.num))) rfl (by kernel_rfl) (by kernel_rfl) (by kernel_rfl) (fun _ _ _ h => h) (Or.inl ⟨by kernel_rfl, by intro w; go_simp⟩) ?_
        refine wpAny_done (by kernel_rfl) ?_ _
        go_wp2_with fail
        go_ret
        exact ⟨ret_b' HE.out, H3.out⟩
      · go_simp
        refine hK _ _ ?_
        clear hK K
        refine wpAny_ready (rs := [7]) (by kernel_rfl) (by simp) ?_
        refine AllReady.cons rfl (fun K hK => ?_) AllReady.nil
        go_simp
        go_wp2_with (go_at_call 47; refine (HGr.out _).mono ?_; rintro e w3 ⟨rfl, hb3⟩)
        have H3 : Hid (Below w.heap.size w w3) := H2.out.2.2.trans (hb3.mono H2.out.2.2.size)
        have f7 : w3.cell? ⟨w.heap.size, 7, none⟩ = some (.int .i64 x.num) := (hb3.cell (p := ⟨w.heap.size, 7, none⟩) hl2).trans d7
        clear hb3
        refine wpAny_take (i := 10) (v := .bool (decide (gr ≤ x.num))) rfl (by kernel_rfl) (by kernel_rfl) (by kernel_rfl) (fun _ _ _ h => h) (Or.inl ⟨by kernel_rfl, by intro w; go_simp⟩) ?_
        refine wpAny_take (i := 11) (v := .bool (decide (gr ≤ x.num))) rfl (by kernel_rfl) (by kernel_rfl) (by kernel_rfl) (fun _ _ _ h => h) (Or.inl ⟨by kernel_rfl, by intro w; go_simp⟩) ?_
        refine wpAny_take (i := 12) (v := .bool (decide (gr ≤ x.num))) rfl (by kernel_rfl) (by kernel_rfl) (by kernel_rfl) (fun _ _ _ h => h) (Or.inl ⟨by kernel_rfl, by intro w; go_simp⟩) ?_
        refine wpAny_done (by kernel_rfl) ?_ _
        go_wp2_with fail
        go_ret
        exact ⟨ret_b' HE.out, H3.out⟩
    · go_simp
      refine hK _ _ ?_
      clear hK K
      refine wpAny_ready (rs := [4]) (by kernel_rfl) (by simp) ?_
      refine AllReady.cons rfl (fun K hK => ?_) AllReady.nil
      refine step_load_ow (by first | rfl | simp [Region.wanted, yielded]) (.tmp 3) rfl rfl H2.out.2.1 ?_
      refine hK _ _ ?_
      clear hK K
      refine wpAny_ready (rs := [7]) (by kernel_rfl) (by simp) ?_
      refine AllReady.cons rfl (fun K hK => ?_) AllReady.nil
      go_simp
      go_wp2_with (go_at_call 47; refine (HGr.out _).mono ?_; rintro e w3 ⟨rfl, hb3⟩)
      have H3 : Hid (Below w.heap.size w w3) := H2.out.2.2.trans (hb3.mono H2.out.2.2.size)
      have f7 : w3.cell? ⟨w.heap.size, 7, none⟩ = some (.int .i64 x.num) := (hb3.cell (p := ⟨w.heap.size, 7, none⟩) hl2).trans d7
      clear hb3
      refine wpAny_take (i := 10) (v := .bool (decide (gr ≤ x.num))) rfl (by kernel_rfl) (by kernel_rfl) (by kernel_rfl) (fun _ _ _ h => h) (Or.inl ⟨by kernel_rfl, by intro w; go_simp⟩) ?_
      refine wpAny_take (i := 11) (v := .bool (decide (gr ≤ x.num))) rfl (by kernel_rfl) (by kernel_rfl) (by kernel_rfl) (fun _ _ _ h => h) (Or.inl ⟨by kernel_rfl, by intro w; go_simp⟩) ?_
      refine wpAny_take (i := 12) (v := .bool (decide (gr ≤ x.num))) rfl (by kernel_rfl) (by kernel_rfl) (by kernel_rfl) (fun _ _ _ h => h) (Or.inl ⟨by kernel_rfl, by intro w; go_simp⟩) ?_
      refine wpAny_done (by kernel_rfl) ?_ _
      go_wp2_with fail
      go_ret
      exact ⟨ret_b' HE.out, H3.out⟩
  · go_simp
    refine hK _ _ ?_
    clear hK K
    refine wpAny_ready (rs := [4, 6]) (by kernel_rfl) (by simp) ?_
    refine AllReady.cons rfl (fun K hK => ?_) (AllReady.cons rfl (fun K hK => ?_) AllReady.nil)
    · refine step_load_ow (by first | rfl | simp [Region.wanted, yielded]) (.tmp 3) rfl rfl H2.out.2.1 ?_
      refine hK _ _ ?_
      clear hK K
      refine wpAny_ready (rs := [6]) (by kernel_rfl) (by simp) ?_
      refine AllReady.cons rfl (fun K hK => ?_) AllReady.nil
      go_simp
      refine hK _ _ ?_
      clear hK K
      refine wpAny_ready (rs := [7]) (by kernel_rfl) (by simp) ?_
      refine AllReady.cons rfl (fun K hK => ?_) AllReady.nil
      go_simp
      go_wp2_with (go_at_call 47; refine (HGr.out _).mono ?_; rintro e w3 ⟨rfl, hb3⟩)
      have H3 : Hid (Below w.heap.size w w3) := H2.out.2.2.trans (hb3.mono H2.out.2.2.size)
      have f7 : w3.cell? ⟨w.heap.size, 7, none⟩ = some (.int .i64 x.num) := (hb3.cell (p := ⟨w.heap.size, 7, none⟩) hl2).trans d7
      clear hb3
      refine wpAny_take (i := 10) (v := .bool (decide (gr ≤ x.num))) rfl (by kernel_rfl) (by kernel_rfl) (by kernel_rfl) (fun _ _ _ h => h) (Or.inl ⟨by kernel_rfl, by intro w; go_simp⟩) ?_
      refine wpAny_take (i := 11) (v := .bool (decide (gr ≤ x.num))) rfl (by kernel_rfl) (by kernel_rfl) (by kernel_rfl) (fun _ _ _ h => h) (Or.inl ⟨by kernel_rfl, by intro w; go_simp⟩) ?_
      refine wpAny_take (i := 12) (v := .bool (decide (gr ≤ x.num))) rfl (by kernel_rfl) (by kernel_rfl) (by kernel_rfl) (fun _ _ _ h => h) (Or.inl ⟨by kernel_rfl, by intro w; go_simp⟩) ?_
      refine wpAny_done (by kernel_rfl) ?_ _
      go_wp2_with fail
      go_ret
      exact ⟨ret_b' HE.out, H3.out⟩
    · go_simp
      refine hK _ _ ?_
      clear hK K
      refine wpAny_ready (rs := [4]) (by kernel_rfl) (by simp) ?_
      refine AllReady.cons rfl (fun K hK => ?_) AllReady.nil
      refine step_load_ow (by first | rfl | simp [Region.wanted, yielded]) (.tmp 3) rfl rfl H2.out.2.1 ?_
      refine hK _ _ ?_
      clear hK K
      refine wpAny_ready (rs := [7]) (by kernel_rfl) (by simp) ?_
      refine AllReady.cons rfl (fun K hK => ?_) AllReady.nil
      go_simp
      go_wp2_with (go_at_call 47; refine (HGr.out _).mono ?_; rintro e w3 ⟨rfl, hb3⟩)
      have H3 : Hid (Below w.heap.size w w3) := H2.out.2.2.trans (hb3.mono H2.out.2.2.size)
      have f7 : w3.cell? ⟨w.heap.size, 7, none⟩ = some (.int .i64 x.num) := (hb3.cell (p := ⟨w.heap.size, 7, none⟩) hl2).trans d7
      clear hb3
      refine wpAny_take (i := 10) (v := .bool (decide (gr ≤ x.num))) rfl (by kernel_rfl) (by kernel_rfl) (by kernel_rfl) (fun _ _ _ h => h) (Or.inl ⟨by kernel_rfl, by intro w; go_simp⟩) ?_
      refine wpAny_take (i := 11) (v := .bool (decide (gr ≤ x.num))) rfl (by kernel_rfl) (by kernel_rfl) (by kernel_rfl) (fun _ _ _ h => h) (Or.inl ⟨by kernel_rfl, by intro w; go_simp⟩) ?_
      refine wpAny_take (i := 12) (v := .bool (decide (gr ≤ x.num))) rfl (by kernel_rfl) (by kernel_rfl) (by kernel_rfl) (fun _ _ _ h => h) (Or.inl ⟨by kernel_rfl, by intro w; go_simp⟩) ?_
      refine wpAny_done (by kernel_rfl) ?_ _
      go_wp2_with fail
      go_ret
      exact ⟨ret_b' HE.out, H3.out⟩

end Go.Proofs.YtffajooegiempabDoor

