import Derived.Test.YtffajooegiempaaGreatDoorJ18
/- How many variables stand in a statement. No Go in here. -/
namespace Go.Proofs.YtffajooegiempaaGreatDoor
variable {m m' : Rd}

/-- How many signs are not 0. -/
def nz (l : List Int) : Nat := l.countP fun x => decide (x ≠ 0)
theorem nz_cons (a : Int) (l : List Int) : nz (a :: l) = nz l + if a = 0 then 0 else 1 := by
  unfold nz
  rw [List.countP_cons]
  by_cases h : a = 0
  · rw [if_pos h, if_neg (by simpa using h)]
  · rw [if_neg h, if_pos (by simpa using h)]
theorem nz_set : ∀ (l : List Int) (v : Nat) (x : Int), nz (l.set v x) ≤ nz l + 1 := by
  intro l
  induction l with
  | nil => intro v x; simp
  | cons a l ih =>
    intro v x
    cases v with
    | zero =>
      rw [List.set_cons_zero, nz_cons, nz_cons]
      split <;> split <;> omega
    | succ v =>
      rw [List.set_cons_succ, nz_cons, nz_cons]
      have := ih v x
      omega
/-- How many may stand in the statement that is being read. -/
def lim (x : Int) : Nat := if x = 61 ∨ x = 118 ∨ x = 86 ∨ x = 99 ∨ x = 67 then 0 else if x = 100 ∨ x = 101 then 1 else 2
structure Cn (m : Rd) : Prop where
  all : ∀ s, s ∈ m.st → nz s.sg ≤ 2
  cur : nz (cur m).sg ≤ lim m.state
theorem lim_le (x : Int) : lim x ≤ 2 := by unfold lim; split <;> (try split) <;> omega
theorem Cn.of (h : Cn m) (e : m'.st = m.st) (hl : lim m.state ≤ lim m'.state) : Cn m' := by
  refine ⟨fun s hs => h.all s (e ▸ hs), ?_⟩
  have : Go.Proofs.YtffajooegiempaaGreatDoor.cur m' = Go.Proofs.YtffajooegiempaaGreatDoor.cur m := by unfold Go.Proofs.YtffajooegiempaaGreatDoor.cur; rw [e]
  rw [this]
  exact Nat.le_trans h.cur hl
/-- The statement that is being read is turned. -/
theorem Cn.setC (h : Cn m) {s : St} {n : Nat} (hs : nz s.sg ≤ n) (hn : n ≤ 2) (ok : m.state ≠ 115) (ok' : Ok m) (e : m'.st = (setCur m s).st) (hl : n ≤ lim m'.state) : Cn m' := by
  have hp := ok'.some_ ok
  refine ⟨fun t ht => ?_, ?_⟩
  · rw [e] at ht
    rcases mem_setCur ht with q | q
    · exact h.all t q
    · rw [q]; omega
  · have : Go.Proofs.YtffajooegiempaaGreatDoor.cur m' = s := by
      unfold Go.Proofs.YtffajooegiempaaGreatDoor.cur
      rw [e]
      unfold setCur
      simp [List.getD, show m.st.length - 1 < m.st.length by omega]
    rw [this]
    omega
theorem Cn.begin_ (h : Cn m) {k v x : Int} (hx : lim x = 0) (e : beginStep m k v x = some m') : Cn m' := by
  unfold beginStep at e
  split at e
  · cases e
  · cases e
    refine ⟨fun s hs => ?_, ?_⟩
    · rcases List.mem_append.1 hs with hs | hs
      · exact h.all s hs
      · rw [List.mem_singleton.1 hs]; show nz [0, 0, 0, 0] ≤ 2; decide
    · show nz (Go.Proofs.YtffajooegiempaaGreatDoor.cur _).sg ≤ lim x
      rw [hx]
      unfold Go.Proofs.YtffajooegiempaaGreatDoor.cur
      simp [List.getD]
      decide
theorem Cn.shut (h : Cn m) (hs : m.state = 115) (e : shutStep m = some m') : Cn m' := by
  have key : ∀ (s : St), s.sg = (m.st.getD (top m).of_ noSt).sg → ∀ t, t ∈ m.st.set (top m).of_ s → nz t.sg ≤ 2 := by
    intro s hsg t ht
    rcases List.mem_or_eq_of_mem_set ht with q | q
    · exact h.all t q
    · rw [q, hsg, List.getD_eq_getElem?_getD]
      cases e : m.st[(top m).of_]? with
      | none => decide
      | some u => exact h.all u (List.mem_of_getElem? e)
  have cu : ∀ (s : St) (m2 : Rd), m2.st = m.st.set (top m).of_ s → s.sg = (m.st.getD (top m).of_ noSt).sg → nz (Go.Proofs.YtffajooegiempaaGreatDoor.cur m2).sg ≤ 2 := by
    intro s m2 e2 hsg
    unfold Go.Proofs.YtffajooegiempaaGreatDoor.cur
    rw [e2, List.getD_eq_getElem?_getD]
    cases e3 : (m.st.set (top m).of_ s)[(m.st.set (top m).of_ s).length - 1]? with
    | none => decide
    | some u => exact key s hsg u (List.mem_of_getElem? e3)
  simp only [shutStep] at e
  split at e
  · cases e
    exact ⟨key _ rfl, cu _ _ rfl rfl⟩
  · cases e
    refine ⟨key _ rfl, ?_⟩
    show _ ≤ lim m.state
    rw [hs]
    exact cu _ _ rfl rfl
theorem Cn.digit (h : Cn m) (ok : Ok m) (h0 : m.state ≠ 115) {c x : Int} {pos : Bool} (e : digitStep m c pos x = some m') (hl : lim m.state ≤ lim x) : Cn m' := by
  obtain ⟨d, u, _, _, rfl⟩ := digit_inv e
  exact h.setC (s := { Go.Proofs.YtffajooegiempaaGreatDoor.cur m with num := 10 * u + (c - 48) }) (n := lim m.state) h.cur (lim_le _) h0 ok rfl hl
theorem Cn.signTo (h : Cn m) (ok : Ok m) (h0 : m.state ≠ 115) (v : Nat) (y x : Int) (hl : lim m.state + 1 ≤ lim x) : Cn (signTo m v y x) := by
  have := lim_le x
  have hc := h.cur
  have hn := nz_set (Go.Proofs.YtffajooegiempaaGreatDoor.cur m).sg v y
  exact h.setC (s := { Go.Proofs.YtffajooegiempaaGreatDoor.cur m with sg := (Go.Proofs.YtffajooegiempaaGreatDoor.cur m).sg.set v y }) (n := lim m.state + 1) (by show nz ((Go.Proofs.YtffajooegiempaaGreatDoor.cur m).sg.set v y) ≤ _; omega) (by omega) h0 ok rfl hl
theorem Cn.plain (h : Cn m) (hl : lim m.state ≤ 2) {c : Int} (e : plainStep m c = some m') : Cn m' := by
  unfold plainStep at e
  split at e
  · split at e
    · cases e; exact h.of rfl hl
    · cases e
  · split at e
    · cases e
    · cases e; exact h.of rfl hl
theorem Cn.value (h : Cn m) (ok : Ok m) {c : Int} (hst : m.state = 118 ∨ m.state = 86 ∨ m.state = 120 ∨ m.state = 121 ∨ m.state = 110) (e : valueStep m c = some m') : Cn m' := by
  have h0 : m.state ≠ 115 := by omega
  have l2 := lim_le m.state
  have ve : Cn (valueEnd m) := h.setC (s := { Go.Proofs.YtffajooegiempaaGreatDoor.cur m with num := m.sign * (Go.Proofs.YtffajooegiempaaGreatDoor.cur m).num }) (n := lim m.state) h.cur l2 h0 ok rfl l2
  unfold valueStep at e
  split at e
  · rename_i x1
    have hz : lim m.state = 0 := by rw [x1]; rfl
    split at e
    · cases e; exact h.setC (s := { Go.Proofs.YtffajooegiempaaGreatDoor.cur m with star := true }) (n := lim m.state) h.cur l2 h0 ok rfl l2
    split at e
    · cases e; exact h.of rfl (by omega)
    split at e
    · cases e; exact h.signTo ok h0 _ 1 120 (by rw [hz]; decide)
    · exact Cn.digit (m := { m with sign := 1 }) (h.of rfl (Nat.le_refl _)) ⟨ok.states, ok.some_, ok.len, ok.oplen, ok.ofs, by show -1 ≤ (1 : Int) ∧ (1 : Int) ≤ 1; omega, ok.digs, ok.nums, ok.sgl, ok.inNum, ok.open_⟩ h0 e l2
  split at e
  · rename_i x1 x2
    have hz : lim m.state = 0 := by rw [x2]; rfl
    split at e
    · cases e; exact h.signTo ok h0 _ m.sign 120 (by rw [hz]; decide)
    · exact h.digit ok h0 e l2
  split at e
  · split at e
    · cases e; exact h.of rfl l2
    split at e
    · cases e; exact h.of rfl l2
    split at e
    · cases e; exact ve
    · cases e
  split at e
  · exact h.digit ok h0 e l2
  · split at e
    · cases e; exact ve
    · exact h.digit ok h0 e l2
theorem lim_beh (m : Rd) : lim (behindOf m) = 2 := by unfold behindOf; split <;> rfl
theorem Cn.cond (h : Cn m) (ok : Ok m) (h0 : m.state ≠ 115) {c : Int} (e : condStep m c = some m') : Cn m' := by
  have l2 := lim_le m.state
  unfold condStep at e
  by_cases x1 : m.state = 99
  · rw [if_pos x1] at e
    have hz : lim m.state = 0 := by rw [x1]; rfl
    split at e
    · cases e; exact h.setC (s := { Go.Proofs.YtffajooegiempaaGreatDoor.cur m with star := true }) (n := lim m.state) h.cur l2 h0 ok rfl (by show _ ≤ lim (behindOf m); rw [lim_beh]; exact l2)
    split at e
    · cases e; exact h.of rfl (by omega)
    split at e
    · cases e; exact h.signTo ok h0 _ 1 100 (by rw [hz]; decide)
    · cases e
  rw [if_neg x1] at e
  by_cases x2 : m.state = 67
  · rw [if_pos x2] at e
    have hz : lim m.state = 0 := by rw [x2]; rfl
    split at e
    · cases e; exact h.signTo ok h0 _ m.sign 100 (by rw [hz]; decide)
    · cases e
  rw [if_neg x2] at e
  by_cases x3 : m.state = 100
  · rw [if_pos x3] at e
    have hz : lim m.state = 1 := by rw [x3]; rfl
    split at e
    · cases e; exact h.of rfl (by rw [hz]; show 1 ≤ lim 101; decide)
    split at e
    · cases e; exact h.of rfl (by rw [hz]; show 1 ≤ lim 101; decide)
    split at e
    · cases e; exact h.of rfl (by rw [hz]; show 1 ≤ lim 60; decide)
    · cases e
  rw [if_neg x3] at e
  by_cases x4 : m.state = 101
  · rw [if_pos x4] at e
    have hz : lim m.state = 1 := by rw [x4]; rfl
    split at e
    · split at e
      · cases e; exact h.signTo ok h0 _ m.sign 102 (by rw [hz]; decide)
      · cases e
    · cases e
  rw [if_neg x4] at e
  by_cases x5 : m.state = 102
  · rw [if_pos x5] at e
    split at e
    · cases e; exact h.of rfl l2
    · cases e
  rw [if_neg x5] at e
  by_cases x6 : m.state = 60
  · rw [if_pos x6] at e
    split at e
    · cases e; exact h.of rfl l2
    · cases e
  rw [if_neg x6] at e
  by_cases x7 : m.state = 98
  · rw [if_pos x7] at e
    split at e
    · cases e; exact h.of rfl l2
    · exact h.digit ok h0 e l2
  rw [if_neg x7] at e
  by_cases x8 : m.state = 66
  · rw [if_pos x8] at e
    exact h.digit ok h0 e l2
  rw [if_neg x8] at e
  by_cases x9 : m.state = 109
  · rw [if_pos x9] at e
    split at e
    · refine Cn.plain (m := { setCur m { Go.Proofs.YtffajooegiempaaGreatDoor.cur m with num := if m.neg then -(Go.Proofs.YtffajooegiempaaGreatDoor.cur m).num else (Go.Proofs.YtffajooegiempaaGreatDoor.cur m).num } with state := behindOf m }) ?_ (lim_le _) e
      exact h.setC (s := { Go.Proofs.YtffajooegiempaaGreatDoor.cur m with num := if m.neg then -(Go.Proofs.YtffajooegiempaaGreatDoor.cur m).num else (Go.Proofs.YtffajooegiempaaGreatDoor.cur m).num }) (n := lim m.state) h.cur l2 h0 ok rfl (by show _ ≤ lim (behindOf m); rw [lim_beh]; exact l2)
    · exact h.digit ok h0 e l2
  rw [if_neg x9] at e
  split at e
  · cases e; exact h.of rfl l2
  · cases e
theorem Cn.byte (h : Cn m) (ok : Ok m) {c : Int} (e : byteStep m c = some m') : Cn m' := by
  unfold byteStep at e
  split at e
  · rename_i hs
    unfold startStep at e
    split at e
    · exact h.begin_ rfl e
    split at e
    · split at e
      · exact h.begin_ rfl e
      · cases e
    split at e
    · exact h.begin_ rfl e
    split at e
    · exact h.shut hs e
    · cases e
  split at e
  · rename_i h1 h2
    split at e
    · cases e; exact h.of rfl (by rw [h2]; show lim 61 ≤ lim 118; decide)
    · cases e
  split at e
  · rename_i hv; exact h.value ok hv e
  split at e
  · exact h.plain (lim_le _) e
  · rename_i h1 _ _ _; exact h.cond ok h1 e
theorem cn_from {l : List Int} : ∀ {m : Rd} {n k : Nat}, Cn m → Ok m → readFrom m l n = (k, some m') → Cn m' := by
  induction l with
  | nil => intro m n k h ok e; simp [readFrom] at e; rw [← e.2]; exact h
  | cons c l ih =>
    intro m n k h ok e
    simp only [readFrom] at e
    split at e
    · cases e
    · rename_i m1 e1
      exact ih (h.byte ok e1) (ok.byte e1) e

end Go.Proofs.YtffajooegiempaaGreatDoor

namespace Go.Proofs.YtffajooegiempaaGreatDoor
open Go.RowKit
variable {w : World}

/- The signs of a sum of at most two: its number by the document, its sides by the program. -/
def sg3 : List Int := [-1, 0, 1]
def tabS (l : List Int) : Bool := decide (2 < nz l) || (if nz l = 0 then decide (numV l = -1) && decide (sd1 l = 0) && decide (sd2 l = 1)
  else decide (0 ≤ numV l) && decide (numV l < 32) && decide (sd1 l = fs (numV l).toNat) && decide (sd2 l = ss (numV l).toNat))
theorem tabS_all : (sg3.all fun a => sg3.all fun b => sg3.all fun c => sg3.all fun d => tabS [a, b, c, d]) = true := by decide +kernel
theorem mem_sg3 {a : Int} (h : -1 ≤ a ∧ a ≤ 1) : a ∈ sg3 := by
  rcases (show a = -1 ∨ a = 0 ∨ a = 1 by omega) with rfl | rfl | rfl <;> decide
theorem tabS_of {l : List Int} (hl : l.length = 4) (h : ∀ i, -1 ≤ gAt l i ∧ gAt l i ≤ 1) : tabS l = true := by
  obtain ⟨a, b, c, d, rfl⟩ := four_of hl
  have t := tabS_all
  simp only [List.all_eq_true] at t
  exact t a (mem_sg3 (h 0)) b (mem_sg3 (h 1)) c (mem_sg3 (h 2)) d (mem_sg3 (h 3))
/-- The greatest of a sum, by the document. -/
def grD (C : Nat → Int) (l : List Int) : Int := if nz l = 0 then 0 else bd C (numV l).toNat
theorem grP_grD {C : Nat → Int} (hC : C (0 * 8 + 1) = 0) {l : List Int} (hl : l.length = 4) (h : ∀ i, -1 ≤ gAt l i ∧ gAt l i ≤ 1) (h2 : nz l ≤ 2) :
    mo C (sd1 l) (sd2 l) = grD C l ∧ (nz l = 0 → numV l = -1) ∧ (nz l ≠ 0 → ∃ f : Nat, f < 32 ∧ numV l = (f : Int) ∧ grD C l = bd C f) := by
  have t := tabS_of hl h
  unfold tabS at t
  rw [decide_eq_false (by omega : ¬ 2 < nz l), Bool.false_or] at t
  by_cases e : nz l = 0
  · rw [if_pos e] at t
    simp only [Bool.and_eq_true, decide_eq_true_eq] at t
    refine ⟨?_, fun _ => t.1.1, fun q => absurd e q⟩
    unfold grD
    rw [if_pos e, t.1.2, t.2]
    unfold mo
    rw [if_neg (fun z => absurd z.1 (by decide))]
    exact hC
  · rw [if_neg e] at t
    simp only [Bool.and_eq_true, decide_eq_true_eq] at t
    refine ⟨?_, fun q => absurd q e, fun _ => ⟨(numV l).toNat, by omega, by omega, ?_⟩⟩
    · unfold grD
      rw [if_neg e, t.1.2, t.2]
      rfl
    · unfold grD
      rw [if_neg e]
theorem nz_four (a b c d : Int) : nz [a, b, c, d] = (if a = 0 then 0 else 1) + (if b = 0 then 0 else 1) + (if c = 0 then 0 else 1) + (if d = 0 then 0 else 1) := by
  rw [nz_cons, nz_cons, nz_cons, nz_cons]
  have : nz [] = 0 := rfl
  omega
theorem nz_ngL {l : List Int} (hl : l.length = 4) : nz (ngL l) = nz l := by
  obtain ⟨a, b, c, d, rfl⟩ := four_of hl
  show nz [-a, -b, -c, -d] = _
  rw [nz_four, nz_four]
  have h : ∀ x : Int, (if -x = 0 then 0 else 1 : Nat) = if x = 0 then 0 else 1 := fun x => by
    by_cases e : x = 0
    · rw [if_pos e, if_pos (by omega)]
    · rw [if_neg e, if_neg (by omega)]
  rw [h, h, h, h]

theorem nz_zero {l : List Int} (hl : l.length = 4) (h : nz l = 0) : ∀ i, i < 4 → gAt l i = 0 := by
  obtain ⟨a, b, c, d, rfl⟩ := four_of hl
  rw [nz_four] at h
  intro i hi
  have z : ∀ x : Int, (if x = 0 then 0 else 1 : Nat) = 0 → x = 0 := fun x hx => by
    by_cases e : x = 0
    · exact e
    · rw [if_neg e] at hx; cases hx
  rcases (show i = 0 ∨ i = 1 ∨ i = 2 ∨ i = 3 by omega) with rfl | rfl | rfl | rfl
  · exact z a (by omega)
  · exact z b (by omega)
  · exact z c (by omega)
  · exact z d (by omega)
theorem z4_set : ∀ j : Nat, j < 4 → ([0, 0, 0, 0] : List Int).set j 0 = [0, 0, 0, 0] := by decide

set_option maxRecDepth 100000 in
set_option maxHeartbeats 3200000 in
theorem r_greatest (C : Nat → Int) (u v : Value) (l : List Int) (hl : l.length = 4) (hv : ∀ i, -1 ≤ gAt l i ∧ gAt l i ≤ 1) (h2 : nz l ≤ 2) (hC0 : C (0 * 8 + 1) = 0) (hu : Reads w u (bdL C)) (hr : Reads w v l) :
    Calls Tryz.prog 97 #[u, v] w fun e w' => e = .returned (.int .i64 (grD C l)) ∧ Below w.heap.size w w' := by
  have hmk : ∀ w, (Instr.makeSlice 32 (.int .i64 4) (.int .i64 4)).run Tryz.prog w = .ok (.slice (some ⟨w.heap.size, 0, none⟩) 4 4) (w.alloc (.cells #[.int .i64 0, .int .i64 0, .int .i64 0, .int .i64 0] tNk)) := fun _ => by kernel_rfl
  obtain ⟨_, hz, hnz⟩ := grP_grD hC0 hl hv h2
  have hn := r_number v l hl hr (fun i _ => by have := hv i; omega)
  have hbl : (bdL C).length = 32 := by simp [bdL]
  have HL : Hid (l.length = 4) := hl
  obtain ⟨bu, cu, rfl, -, h0u⟩ := hu
  obtain ⟨q, ofq, rfl, hq, hcq⟩ := h0u (by omega)
  obtain ⟨au, ca, rfl, -, h0⟩ := id hr
  obtain ⟨p, off, rfl, hp, hcell⟩ := h0 (by omega)
  have HC : Hid (∀ i, i < 4 → w.cell? ⟨p, off + i, none⟩ = some (.int .i64 (gAt l i))) := fun i hi => hcell i (by omega)
  have HCq : Hid (∀ i, i < 32 → w.cell? ⟨q, ofq + i, none⟩ = some (.int .i64 (bd C i))) := fun i hi => by rw [hcq i (by omega)]; exact congrArg (fun z => some (Value.int .i64 z)) (bdL_get C i hi)
  rw [hbl]
  rw [hl] at hn ⊢
  clear h0 h0u hcell hcq hr
  by_cases e : nz l = 0
  · have HE : Hid (grD C l = 0) := if_pos e
    rw [hz e] at hn
    have HZ : Hid (∀ i, i < 4 → w.cell? ⟨p, off + i, none⟩ = some (.int .i64 0)) := fun i hi => by rw [HC.out i hi, nz_zero HL.out e i hi]
    clear hz hnz hC0 e HCq HC
    go_enter Tryz.func97, Tryz.ntmps97
    go_wp2_with fail
    refine hn.mono ?_
    rintro e w1 ⟨rfl, hb1⟩
    have HB1 : Hid (Below w.heap.size w w1) := hb1
    have hs1 := hb1.size
    have HA : Hid (At (w1.alloc (.cells #[.int .i64 0, .int .i64 0, .int .i64 0, .int .i64 0] tNk)) w1.heap.size (ic [0, 0, 0, 0]) tNk ∧ Below w.heap.size w (w1.alloc (.cells #[.int .i64 0, .int .i64 0, .int .i64 0, .int .i64 0] tNk))) := ⟨At.new _ _ _, hb1.alloc hb1.size _⟩
    clear hb1 hn
    go_wp2_with fail
    go_loopw [7, 8] (fun zv iv wr => ∃ (j : Nat), j ≤ 4 ∧ iv = .int .i64 j ∧ zv = .bool true ∧ Hid (At wr w1.heap.size (ic [0, 0, 0, 0]) tNk ∧ Below w.heap.size w wr)) (fun _ iv _ => 4 - (intOf iv).toNat)
    case atStart => exact ⟨0, by omega, rfl, rfl, HA.out⟩
    case round =>
      obtain ⟨j, hj, rfl, rfl, HR⟩ := hrel
      by_cases hlt : j < 4
      · have hji : (j : Int) < 4 := by omega
        have ca : wr.cell? ⟨p, off + j, none⟩ = some (.int .i64 0) := (HR.out.2.cell (p := ⟨p, off + j, none⟩) hp).trans (HZ.out j hlt)
        have cb : wr.cell? ⟨w1.heap.size, j, none⟩ = some (.int .i64 0) := by
          rw [HR.out.1.cell, ic_get _ _ (by exact hlt)]
          rcases (show j = 0 ∨ j = 1 ∨ j = 2 ∨ j = 3 by omega) with rfl | rfl | rfl | rfl <;> rfl
        have cf := HR.out.1.free
        have hbl := HR.out.1.lt
        have ne1 : p ≠ w1.heap.size := by omega
        go_wp2_with fail
        go_roundw
        case rel =>
          refine ⟨j + 1, by omega, by go_num, rfl, ?_, HR.out.2.setCell hs1 _⟩
          have := HR.out.1.put j (.int .i64 0)
          rw [ic_set, z4_set j hlt] at this
          exact this
        case measure => simp [intOf]; omega
      · have hj4 : j = 4 := by omega
        subst hj4
        go_wp2_with fail
        go_ret
        exact ⟨by rw [HE.out]; rfl, HR.out.2⟩
  · obtain ⟨f, hf, hnf, hg⟩ := hnz e
    rw [hnf] at hn
    have HE : Hid (grD C l = bd C f) := hg
    have hfi : (f : Int) < 32 := by omega
    have HCf : Hid (w.cell? ⟨q, ofq + f, none⟩ = some (.int .i64 (bd C f))) := HCq.out f hf
    clear hz hnz hg hnf hC0 e
    generalize bd C f = g at *
    go_enter Tryz.func97, Tryz.ntmps97
    go_wp2_with fail
    refine hn.mono ?_
    rintro e w1 ⟨rfl, hb1⟩
    have cq : w1.cell? ⟨q, ofq + f, none⟩ = some (.int .i64 g) := (hb1.cell (p := ⟨q, ofq + f, none⟩) hq).trans HCf.out
    have HB1 : Hid (Below w.heap.size w w1) := hb1
    clear hb1 hn
    go_wp2_with fail
    go_ret
    exact ⟨by rw [HE.out]; rfl, HB1.out⟩
end Go.Proofs.YtffajooegiempaaGreatDoor

namespace Go.Proofs.YtffajooegiempaaGreatDoor
open Go.RowKit

set_option maxHeartbeats 400000 in
theorem variable_any (c : Int) (w : World) (h0 : 0 ≤ c) (h1 : c ≤ 255) :
    Calls Tryz.prog 123 #[.int .u8 c] w fun e w' => e = .returned (.int .i64 (varOf c)) ∧ w' = w := by
  unfold varOf
  by_cases ha : 97 ≤ c
  · by_cases hb : c ≤ 100
    · go_enter Tryz.func123, Tryz.ntmps123
      go_wp2
      go_ret
      exact ⟨rfl, rfl⟩
    · go_enter Tryz.func123, Tryz.ntmps123
      go_wp2
      go_ret
      exact ⟨rfl, rfl⟩
  · go_enter Tryz.func123, Tryz.ntmps123
    go_wp2
    go_ret
    exact ⟨rfl, rfl⟩

set_option maxHeartbeats 400000 in
theorem now_any (r g p : Nat) (n cap : Nat) (w : World) (hn : 0 < n) (hcap : n ≤ 20)
    (hs : w.cell? ⟨r, 1, none⟩ = some (.slice (some ⟨g, 0, none⟩) n cap))
    (hp : w.cell? ⟨g, n - 1, none⟩ = some (.pointer (some ⟨p, 0, none⟩))) :
    Calls Tryz.prog 126 #[.pointer (some ⟨r, 0, none⟩)] w fun e w' => e = .returned (.pointer (some ⟨p, 0, none⟩)) ∧ ∃ k, w' = w.drewN k := by
  go_enter Tryz.func126, Tryz.ntmps126
  go_wp2
  go_quiet (fail)
  go_wp2
  go_ret
  exact ⟨rfl, _, rfl⟩

end Go.Proofs.YtffajooegiempaaGreatDoor

namespace Go.Proofs.YtffajooegiempaaGreatDoor
open Go.RowKit

def ptr (p : Nat) : Value := .pointer (some ⟨p, 0, none⟩)
def stCells (q : Nat) (s : St) : Array Value := #[.int .u8 s.kind, .int .i64 s.var, .bool s.star, .slice (some ⟨q, 0, none⟩) 4 4, .int .i64 s.num, .int .i64 s.mid, .int .i64 s.fin]
def rdCells (m : Rd) (vs vo : Value) : Array Value := #[.int .u8 m.state, vs, vo, .int .i64 m.sign, .bool m.neg, .int .i64 m.dig]
def sgCells (l : List Int) : Array Value := (l.map (Value.int .i64)).toArray
def bkCells (b : Bk) : Array Value := #[.int .i64 b.of_, .bool b.second]

abbrev tR : TypeId := 53
abbrev tS : TypeId := 56
abbrev tB : TypeId := 139
abbrev tPS : TypeId := 57
abbrev tPB : TypeId := 137
abbrev tI : TypeId := 3

/-- The reader's memory: its block, the two rows of pointers, each statement with its signs, each open block. -/
structure Rep (B : Nat) (w : World) (r : Nat) (m : Rd) (vs vo : Value) (P Q O : Nat → Nat) : Prop where
  rd : At w r (rdCells m vs vo) tR
  rs : w.ownsRow B tPS 1 vs m.st.length ((List.range m.st.length).map fun i => ptr (P i))
  ro : w.ownsRow B tPB 1 vo m.op.length ((List.range m.op.length).map fun i => ptr (O i))
  st : ∀ i s, m.st[i]? = some s → At w (P i) (stCells (Q i) s) tS ∧ At w (Q i) (sgCells s.sg) tI
  op : ∀ i b, m.op[i]? = some b → At w (O i) (bkCells b) tB
  injP : ∀ i j, i < m.st.length → j < m.st.length → P i = P j → i = j
  injQ : ∀ i j, i < m.st.length → j < m.st.length → Q i = Q j → i = j
  injO : ∀ i j, i < m.op.length → j < m.op.length → O i = O j → i = j
  geR : B ≤ r
  geP : ∀ i, i < m.st.length → B ≤ P i ∧ B ≤ Q i
  geO : ∀ i, i < m.op.length → B ≤ O i

variable {B : Nat} {w w' : World} {r : Nat} {m : Rd} {vs vo : Value} {P Q O : Nat → Nat}

theorem ownsRow_at {e : TypeId} {v : Value} {n : Nat} {xs : List Value} (h : w.ownsRow B e 1 v n xs) (hn : 0 < n) : ∃ g cap c, v = .slice (some ⟨g, 0, none⟩) n cap ∧ B ≤ g ∧ At w g c e ∧ n ≤ cap := by
  obtain ⟨h1, h2 | ⟨g, cap, c, hv, hg, hh, h3, h4, h5, h6⟩⟩ := h
  · omega
  · exact ⟨g, cap, c, hv, hg, hh, h3⟩

theorem ownsRow_same {e : TypeId} {v : Value} {n : Nat} {xs : List Value} (h : w.ownsRow B e 1 v n xs) (k : ∀ g, v.ownBlock = some g → w'.heap[g]? = w.heap[g]?) : w'.ownsRow B e 1 v n xs := by
  obtain ⟨h1, h2⟩ := h
  refine ⟨h1, ?_⟩
  rcases h2 with h2 | ⟨g, cap, c, hv, hg, hh, r⟩
  · exact .inl h2
  · subst hv; exact .inr ⟨g, cap, c, rfl, hg, by rw [k g rfl]; exact hh, r⟩

theorem ownsRow_type {e : TypeId} {v : Value} {n : Nat} {xs : List Value} (h : w.ownsRow B e 1 v n xs) {b : Nat} {c : Array Value} {t : TypeId} (k : At w b c t) (hn : e ≠ t) : v.ownBlock ≠ some b := by
  obtain ⟨h1, h2⟩ := h
  rcases h2 with ⟨rfl, _⟩ | ⟨g, cap, c', rfl, hg, hh, r⟩
  · simp [Value.ownBlock]
  · intro e'
    simp [Value.ownBlock] at e'
    exact (At.ne (show At w g c' e from hh) k hn) e'

theorem ownsRow_put {e : TypeId} {v : Value} {n : Nat} {xs : List Value} (h : w.ownsRow B e 1 v n xs) {b : Nat} {c : Array Value} {t : TypeId} (k : At w b c t) (hn : e ≠ t) (o : Nat) (u : Value) : (w.setCell ⟨b, o, none⟩ u).ownsRow B e 1 v n xs :=
  ownsRow_setCell_other h (ownsRow_type h k hn) u

theorem Rep.drewN (h : Rep B w r m vs vo P Q O) (k : Nat) : Rep B (w.drewN k) r m vs vo P Q O := ⟨h.rd, h.rs, h.ro, h.st, h.op, h.injP, h.injQ, h.injO, h.geR, h.geP, h.geO⟩

/-- A field of the reader is written. -/
theorem Rep.setRd (h : Rep B w r m vs vo P Q O) (o : Nat) (u : Value) (m' : Rd) (hc : (rdCells m vs vo).setIfInBounds o u = rdCells m' vs vo) (hs : m'.st = m.st) (ho : m'.op = m.op) :
    Rep B (w.setCell ⟨r, o, none⟩ u) r m' vs vo P Q O where
  rd := by rw [← hc]; exact h.rd.put o u
  rs := by rw [hs]; exact ownsRow_put h.rs h.rd (by decide) o u
  ro := by rw [ho]; exact ownsRow_put h.ro h.rd (by decide) o u
  st := by
    intro i s hi; rw [hs] at hi
    obtain ⟨a, b⟩ := h.st i s hi
    exact ⟨a.other o u (a.ne h.rd (by decide)), b.other o u (b.ne h.rd (by decide))⟩
  op := by
    intro i s hi; rw [ho] at hi
    have a := h.op i s hi
    exact a.other o u (a.ne h.rd (by decide))
  injP := by rw [hs]; exact h.injP
  injQ := by rw [hs]; exact h.injQ
  injO := by rw [ho]; exact h.injO
  geR := h.geR
  geP := by rw [hs]; exact h.geP
  geO := by rw [ho]; exact h.geO

/-- A field of a statement is written. -/
theorem Rep.setSt (h : Rep B w r m vs vo P Q O) (k : Nat) (s s' : St) (hk : m.st[k]? = some s) (o : Nat) (u : Value) (m' : Rd) (hc : (stCells (Q k) s).setIfInBounds o u = stCells (Q k) s') (hsg : s'.sg = s.sg) (hm : m' = { m with st := m.st.set k s' }) :
    Rep B (w.setCell ⟨P k, o, none⟩ u) r m' vs vo P Q O := by
  subst hm
  have hlt : k < m.st.length := by
    rcases Nat.lt_or_ge k m.st.length with h' | h'
    · exact h'
    · simp [List.getElem?_eq_none h'] at hk
  obtain ⟨ka, kb⟩ := h.st k s hk
  exact {
    rd := h.rd.other o u (h.rd.ne ka (by decide))
    rs := by simp only [List.length_set]; exact ownsRow_put h.rs ka (by decide) o u
    ro := ownsRow_put h.ro ka (by decide) o u
    st := by
      intro i x hi
      by_cases e : i = k
      · subst e
        simp [hlt] at hi
        subst hi
        exact ⟨by rw [← hc]; exact ka.put o u, by rw [hsg]; exact kb.other o u (kb.ne ka (by decide))⟩
      · simp only [List.getElem?_set, if_neg (Ne.symm e)] at hi
        have hil : i < m.st.length := by
          rcases Nat.lt_or_ge i m.st.length with h' | h'
          · exact h'
          · simp [List.getElem?_eq_none h'] at hi
        obtain ⟨a, b⟩ := h.st i x hi
        exact ⟨a.other o u (fun q => e (h.injP i k hil hlt q)), b.other o u (b.ne ka (by decide))⟩
    op := by
      intro i x hi
      have a := h.op i x hi
      exact a.other o u (a.ne ka (by decide))
    injP := by simp only [List.length_set]; exact h.injP
    injQ := by simp only [List.length_set]; exact h.injQ
    injO := h.injO
    geR := h.geR
    geP := by simp only [List.length_set]; exact h.geP
    geO := h.geO }

/-- A sign of a statement is written. -/
theorem Rep.setSg (h : Rep B w r m vs vo P Q O) (k : Nat) (s : St) (hk : m.st[k]? = some s) (o : Nat) (x : Int) (m' : Rd) (hm : m' = { m with st := m.st.set k { s with sg := s.sg.set o x } }) :
    Rep B (w.setCell ⟨Q k, o, none⟩ (.int .i64 x)) r m' vs vo P Q O := by
  subst hm
  have hlt : k < m.st.length := by
    rcases Nat.lt_or_ge k m.st.length with h' | h'
    · exact h'
    · simp [List.getElem?_eq_none h'] at hk
  obtain ⟨ka, kb⟩ := h.st k s hk
  have hsg : (sgCells s.sg).setIfInBounds o (.int .i64 x) = sgCells (s.sg.set o x) := by simp [sgCells, List.map_set]
  exact {
    rd := h.rd.other o _ (h.rd.ne kb (by decide))
    rs := by simp only [List.length_set]; exact ownsRow_put h.rs kb (by decide) o _
    ro := ownsRow_put h.ro kb (by decide) o _
    st := by
      intro i y hi
      by_cases e : i = k
      · subst e
        simp [hlt] at hi
        subst hi
        exact ⟨ka.other o _ (ka.ne kb (by decide)), by show At _ _ (sgCells (s.sg.set o x)) _; rw [← hsg]; exact kb.put o _⟩
      · simp only [List.getElem?_set, if_neg (Ne.symm e)] at hi
        have hil : i < m.st.length := by
          rcases Nat.lt_or_ge i m.st.length with h' | h'
          · exact h'
          · simp [List.getElem?_eq_none h'] at hi
        obtain ⟨a, b⟩ := h.st i y hi
        exact ⟨a.other o _ (a.ne kb (by decide)), b.other o _ (fun q => e (h.injQ i k hil hlt q))⟩
    op := by
      intro i y hi
      have a := h.op i y hi
      exact a.other o _ (a.ne kb (by decide))
    injP := by simp only [List.length_set]; exact h.injP
    injQ := by simp only [List.length_set]; exact h.injQ
    injO := h.injO
    geR := h.geR
    geP := by simp only [List.length_set]; exact h.geP
    geO := h.geO }

/-- An open block is written. -/
theorem Rep.setBk (h : Rep B w r m vs vo P Q O) (k : Nat) (b b' : Bk) (hk : m.op[k]? = some b) (o : Nat) (u : Value) (m' : Rd) (hc : (bkCells b).setIfInBounds o u = bkCells b') (hm : m' = { m with op := m.op.set k b' }) :
    Rep B (w.setCell ⟨O k, o, none⟩ u) r m' vs vo P Q O := by
  subst hm
  have hlt : k < m.op.length := by
    rcases Nat.lt_or_ge k m.op.length with h' | h'
    · exact h'
    · simp [List.getElem?_eq_none h'] at hk
  have ka := h.op k b hk
  exact {
    rd := h.rd.other o u (h.rd.ne ka (by decide))
    rs := ownsRow_put h.rs ka (by decide) o u
    ro := by simp only [List.length_set]; exact ownsRow_put h.ro ka (by decide) o u
    st := by
      intro i x hi
      obtain ⟨a, b⟩ := h.st i x hi
      exact ⟨a.other o u (a.ne ka (by decide)), b.other o u (b.ne ka (by decide))⟩
    op := by
      intro i x hi
      by_cases e : i = k
      · subst e
        simp [hlt] at hi
        subst hi
        rw [← hc]; exact ka.put o u
      · simp only [List.getElem?_set, if_neg (Ne.symm e)] at hi
        have hil : i < m.op.length := by
          rcases Nat.lt_or_ge i m.op.length with h' | h'
          · exact h'
          · simp [List.getElem?_eq_none h'] at hi
        exact (h.op i x hi).other o u (fun q => e (h.injO i k hil hlt q))
    injP := h.injP
    injQ := h.injQ
    injO := by simp only [List.length_set]; exact h.injO
    geR := h.geR
    geP := h.geP
    geO := by simp only [List.length_set]; exact h.geO }

/-- What a step answers and leaves. -/
def Post (B : Nat) (w : World) (r : Nat) (o : Option Rd) : Ending → World → Prop := fun e w' =>
  e = .returned (.bool o.isSome) ∧ Below B w w' ∧ ∀ m', o = some m' → ∃ vs vo P Q O, Rep B w' r m' vs vo P Q O

end Go.Proofs.YtffajooegiempaaGreatDoor

namespace Go.Proofs.YtffajooegiempaaGreatDoor
open Go.RowKit
variable {B : Nat} {w w' : World} {r : Nat} {m : Rd} {vs vo : Value} {P Q O : Nat → Nat}

theorem Rep.rdc (h : Rep B w r m vs vo P Q O) : w.cell? ⟨r, 0, none⟩ = some (.int .u8 m.state) ∧ w.cell? ⟨r, 1, none⟩ = some vs ∧ w.cell? ⟨r, 2, none⟩ = some vo ∧ w.cell? ⟨r, 3, none⟩ = some (.int .i64 m.sign) ∧ w.cell? ⟨r, 4, none⟩ = some (.bool m.neg) ∧ w.cell? ⟨r, 5, none⟩ = some (.int .i64 m.dig) ∧ ∀ i, w.frozen? ⟨r, i, none⟩ = false :=
  ⟨h.rd.cell 0, h.rd.cell 1, h.rd.cell 2, h.rd.cell 3, h.rd.cell 4, h.rd.cell 5, h.rd.free⟩

theorem Rep.curs (hn : 0 < m.st.length) : m.st[m.st.length - 1]? = some (cur m) := by
  unfold cur
  rw [List.getD_eq_getElem?_getD, List.getElem?_eq_getElem (by omega)]; rfl

theorem Rep.stc (h : Rep B w r m vs vo P Q O) (k : Nat) (s : St) (hk : m.st[k]? = some s) : w.cell? ⟨P k, 0, none⟩ = some (.int .u8 s.kind) ∧ w.cell? ⟨P k, 1, none⟩ = some (.int .i64 s.var) ∧ w.cell? ⟨P k, 2, none⟩ = some (.bool s.star) ∧ w.cell? ⟨P k, 3, none⟩ = some (.slice (some ⟨Q k, 0, none⟩) 4 4) ∧ w.cell? ⟨P k, 4, none⟩ = some (.int .i64 s.num) ∧ w.cell? ⟨P k, 5, none⟩ = some (.int .i64 s.mid) ∧ w.cell? ⟨P k, 6, none⟩ = some (.int .i64 s.fin) ∧ (∀ i, w.frozen? ⟨P k, i, none⟩ = false) ∧ (∀ i, w.frozen? ⟨Q k, i, none⟩ = false) ∧ P k ≠ r ∧ Q k ≠ r ∧ Q k ≠ P k := by
  obtain ⟨a, b⟩ := h.st k s hk
  exact ⟨a.cell 0, a.cell 1, a.cell 2, a.cell 3, a.cell 4, a.cell 5, a.cell 6, a.free, b.free, a.ne h.rd (by decide), b.ne h.rd (by decide), b.ne a (by decide)⟩

/-- The row of the statements' pointers. -/
theorem Rep.row (h : Rep B w r m vs vo P Q O) (hn : 0 < m.st.length) : ∃ g cap, vs = .slice (some ⟨g, 0, none⟩) m.st.length cap ∧ (∀ i, i < m.st.length → w.cell? ⟨g, i, none⟩ = some (ptr (P i))) ∧ g ≠ r ∧ m.st.length ≤ cap ∧ ∀ k s, m.st[k]? = some s → g ≠ P k ∧ g ≠ Q k := by
  obtain ⟨g, cap, c, hv, hg, ha, hc⟩ := ownsRow_at h.rs hn
  refine ⟨g, cap, hv, ?_, ha.ne h.rd (by decide), hc, fun k s hk => ?_⟩
  · intro i hi
    have := h.rs
    rw [hv] at this
    rw [this.cellAt i (by omega)]
    simp [hi]
  · obtain ⟨a, b⟩ := h.st k s hk
    exact ⟨ha.ne a (by decide), ha.ne b (by decide)⟩

theorem Rep.now (h : Rep B w r m vs vo P Q O) (hn : 0 < m.st.length) (hl : m.st.length ≤ 20) :
    Calls Tryz.prog 126 #[.pointer (some ⟨r, 0, none⟩)] w fun e w' => e = .returned (.pointer (some ⟨P (m.st.length - 1), 0, none⟩)) ∧ ∃ k, w' = w.drewN k := by
  obtain ⟨g, cap, rfl, hrow, _⟩ := h.row hn
  exact now_any r g (P (m.st.length - 1)) m.st.length cap w hn hl h.rdc.2.1 (hrow _ (by omega))

set_option maxHeartbeats 400000 in
theorem Rep.behind (h : Rep B w r m vs vo P Q O) (hn : 0 < m.st.length) (hl : m.st.length ≤ 20) :
    Calls Tryz.prog 128 #[.pointer (some ⟨r, 0, none⟩)] w fun e w' => e = .returned (.int .u8 (behindOf m)) ∧ ∃ k, w' = w.drewN k := by
  have hc := h.now hn hl
  obtain ⟨c0, -⟩ := h.stc _ _ (Rep.curs hn)
  unfold behindOf
  generalize P (m.st.length - 1) = p at *
  generalize (cur m).kind = kd at *
  clear h
  by_cases hk : kd = 33
  · subst hk
    go_enter Tryz.func128, Tryz.ntmps128
    go_wp2_with (go_at_call 126; refine hc.mono ?_; rintro e w' ⟨rfl, k, rfl⟩)
    go_ret
    exact ⟨rfl, _, rfl⟩
  · have hk' : (kd == 33) = false := by simpa using hk
    go_enter Tryz.func128, Tryz.ntmps128
    go_wp2_with (go_at_call 126; refine hc.mono ?_; rintro e w' ⟨rfl, k, rfl⟩)
    go_ret
    exact ⟨by simp, _, rfl⟩

end Go.Proofs.YtffajooegiempaaGreatDoor

