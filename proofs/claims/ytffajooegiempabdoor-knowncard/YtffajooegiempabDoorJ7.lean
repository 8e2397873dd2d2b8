import Derived.Test.YtffajooegiempabDoorJ6
/- Within and Join: what the document says against what the program says. No Go in here. -/
namespace Go.Proofs.YtffajooegiempabDoor

/-- Bounds from which nothing follows, below others: they stay below whatever follows from those. -/
theorem TC.below_rd {C T : Nat → Int} (hC : TC C) (h : Le C T) (hi : ∀ a, a < 64 → T a ≤ NB) : Le C (rdF T 8) := by
  intro a ha
  rw [rdF_at]
  have h1 := h a ha
  split
  · rename_i q
    have e : a = a / 9 * 8 + a / 9 := by omega
    have h3 := hi a ha
    rcases hC.even (a / 9) q.2.1 with z | z
    · rw [← e] at z
      have := q.2.2
      omega
    · rw [← e] at z
      omega
  · exact h1
theorem TC.below_ah {C T : Nat → Int} (hC : TC C) (h : Le C T) (hi : ∀ a, a < 64 → T a ≤ NB) : ∀ k, k ≤ 64 → Le C (ahF T k) := by
  intro k
  induction k with
  | zero => intro _; exact h
  | succ k ih =>
    intro hk
    have h1 := ih (by omega)
    have hi1 : ∀ a, a < 64 → ahF T k a ≤ NB := fun a ha => Int.le_trans (ahF_le T k a) (hi a ha)
    rw [ahF]
    generalize ahF T k = S at h1 hi1
    intro a ha
    unfold ah1
    split
    · rename_i q
      unfold upd
      split
      · rename_i e
        obtain ⟨q1, q2, q3⟩ := pl_fin q.1
        have i8 : k / 8 < 8 := by omega
        have j8 : k % 8 < 8 := by omega
        have l1 := h1 (k / 8 * 8 + k / 8) (by omega)
        have l2 := h1 (k % 8 * 8 + k % 8) (by omega)
        have u1 := hi1 (k / 8 * 8 + k / 8) (by omega)
        have u2 := hi1 (k % 8 * 8 + k % 8) (by omega)
        have hh := (hC.half (k / 8) (k % 8) i8 j8 (by omega) (by omega)).2
        rw [show k / 8 * 8 + k % 8 = k by omega] at hh
        rw [e, q3]
        have t := tdiv2 (S (k / 8 * 8 + k / 8) + S (k % 8 * 8 + k % 8))
        rcases Int.lt_or_le (S (k / 8 * 8 + k / 8) + S (k % 8 * 8 + k % 8)) 0 with c | c
        · rw [t.2 c]; omega
        · rw [t.1 c]; omega
      · exact h1 a ha
    · exact h1 a ha
theorem TC.below_sharp {C M : Nat → Int} (hC : TC C) (h : Le C M) (hi : ∀ a, a < 64 → M a ≤ NB) : Le C (sharp M) := by
  have h1 := below_fw hC.tri h hi 8 (Nat.le_refl _)
  have i1 : ∀ a, a < 64 → fw M 8 a ≤ NB := fun a ha => Int.le_trans (fw_le M 8 a) (hi a ha)
  have h2 := hC.below_rd h1 i1
  exact hC.below_ah h2 (fun a ha => Int.le_trans (rdF_le _ 8 a) (i1 a ha)) 64 (Nat.le_refl _)

theorem leF_iff {M N : Nat → Int} : ∀ {n : Nat}, leF M N n = true ↔ ∀ k, k < n → M k ≤ N k := by
  intro n
  induction n with
  | zero => exact ⟨fun _ k hk => absurd hk (by omega), fun _ => rfl⟩
  | succ n ih =>
    show (leF M N n && decide (M n ≤ N n)) = true ↔ _
    rw [Bool.and_eq_true, ih, decide_eq_true_eq]
    constructor
    · rintro ⟨h1, h2⟩ k hk
      rcases Nat.lt_or_eq_of_le (Nat.lt_succ_iff.1 hk) with e | e
      · exact h1 k e
      · rw [e]; exact h2
    · intro h
      exact ⟨fun k hk => h k (by omega), h n (by omega)⟩
theorem conF_no {M : Nat → Int} : ∀ {n : Nat}, (∀ i, i < n → 0 ≤ M (i * 8 + opp i)) → conF M n = false := by
  intro n
  induction n with
  | zero => intro _; rfl
  | succ n ih =>
    intro h
    rw [conF, ih (fun i hi => h i (by omega))]
    have := h n (by omega)
    rw [decide_eq_false (by omega)]
    rfl
/-- The document's bounds below those of a list. -/
theorem lay_above {C : Nat → Int} {p : List Int} (hC : TC C) (hp : okL p) (h : ∀ f, f < 32 → bd C f ≤ p.getD f 0) : Le C (lay p 32) := by
  intro a ha
  have e : a = a / 8 * 8 + a % 8 := by omega
  have hi : a / 8 < 8 := by omega
  have hj : a % 8 < 8 := by omega
  rw [e]
  generalize a / 8 = i at hi
  generalize a % 8 = j at hj
  by_cases e1 : j = opp i
  · rw [e1, lay_opp p i hi, hC.zero i hi]; exact Int.le_refl _
  · rw [lay_nf p hi hj e1]
    have top : ∀ k, k < 64 → C k ≤ NB := fun k hk => by
      rcases hC.top k hk with q | q
      · omega
      · unfold NB; omega
    by_cases e2 : i = j
    · subst e2
      rw [nf_self]
      have b := bv_lo p hi
      by_cases q : p.getD i 0 = NB
      · rw [b.1 q]; exact top _ (by omega)
      · rw [b.2 q]
        have h1 := h i (by omega)
        have h2 := (isB_or (hp.2 i (by omega))).resolve_left q
        by_cases z : C (i * 8 + i) = NB
        · rw [(hC.lo hi).1 z] at h1
          unfold NB at h1
          omega
        · have := ((hC.lo hi).2 z).1
          omega
    · rw [bv_hi p hi hj e2 e1]
      have h1 := h (nf i j) (nf_ok i hi j hj e1).1
      rw [bd_nf hC.sym hi hj e2 e1] at h1
      exact h1
theorem lay_top {p : List Int} (hp : okL p) : ∀ a, a < 64 → lay p 32 a ≤ NB := fun a _ => (lay_range p 32 hp.2 a).2
theorem bd_below {C : Nat → Int} {p : List Int} (hp : okL p) (h : Le C (lay p 32)) : ∀ f, f < 32 → bd C f ≤ p.getD f 0 := by
  intro f hf
  have a := fs_lt f hf
  have b := ss_lt f hf
  have := bd_le (o := p) (M := fun k => if k < 64 then C k else lay p 32 k) hp.2 (fun k => by
    show (if k < 64 then C k else lay p 32 k) ≤ _
    split
    · rename_i hk; exact h k hk
    · exact Int.le_refl _) f hf
  have e : bd (fun k => if k < 64 then C k else lay p 32 k) f = bd C f := by
    unfold bd
    simp only [if_pos (show fs f * 8 + ss f < 64 by omega)]
  rw [e] at this
  exact this
theorem jF_eq (M N : Nat → Int) : ∀ k a, jF M N k a = if a < k ∧ M a < N a then N a else M a := by
  intro k
  induction k with
  | zero => intro a; rw [if_neg (by omega)]; rfl
  | succ k ih =>
    intro a
    rw [jF]
    have hk : jF M N k k = M k := by rw [ih, if_neg (by omega)]
    rw [hk]
    by_cases e : a = k
    · subst e
      by_cases c : M a < N a
      · rw [if_pos c, upd_same, if_pos ⟨by omega, c⟩]
      · rw [if_neg c, ih, if_neg (by omega), if_neg (fun z => c z.2)]
    · have : (if M k < N k then upd (jF M N k) k (N k) else jF M N k) a = jF M N k a := by
        split
        · exact upd_other _ _ e
        · rfl
      rw [this, ih]
      by_cases q : a < k ∧ M a < N a
      · rw [if_pos q, if_pos ⟨by omega, q.2⟩]
      · rw [if_neg q, if_neg (fun z => q ⟨by omega, z.2⟩)]
end Go.Proofs.YtffajooegiempabDoor

/- A closed octagon, and one bound of it lowered: a state of it, if there is one; what the document's rounds come to. No Go in here. -/
namespace Go.Proofs.YtffajooegiempabDoor
end Go.Proofs.YtffajooegiempabDoor

/- What the document's rounds come to from bounds that follow the program's. No Go in here. -/
namespace Go.Proofs.YtffajooegiempabDoor
/- Of a closed octagon itself. -/
theorem TC.hi {C : Nat → Int} (h : TC C) : ∀ a, a < 64 → C a ≤ NB := by
  intro a ha
  rcases h.top a ha with q | q
  · omega
  · unfold NB; omega
/- One bound lowered. -/
theorem sb_at (C : Nat → Int) {f : Nat} (hf : f < 32) {c : Int} (hc : c ≠ NB) {i j : Nat} (_hi : i < 8) (hj : j < 8) : sb C f c (i * 8 + j) = if (i = fs f ∧ j = ss f) ∨ (i = ss f ∧ j = fs f) then (if f < 8 then 2 * c else c) else C (i * 8 + j) := by
  obtain ⟨a1, a2, a3, a4, a5, a6⟩ := nf_fs f hf
  have e : (if fs f = ss f ∧ c ≠ NB then 2 * c else c) = if f < 8 then 2 * c else c := by
    by_cases q : f < 8
    · rw [if_pos q, if_pos ⟨by rw [(a5 q).1, (a5 q).2], hc⟩]
    · rw [if_neg q, if_neg (fun z => a6 (by omega) z.1)]
  unfold sb
  rw [e]
  generalize (if f < 8 then 2 * c else c) = y
  unfold upd
  by_cases q1 : i * 8 + j = ss f * 8 + fs f
  · rw [if_pos q1, if_pos (.inr (by omega))]
  · rw [if_neg q1]
    by_cases q2 : i * 8 + j = fs f * 8 + ss f
    · rw [if_pos q2, if_pos (.inl (by omega))]
    · rw [if_neg q2, if_neg (by omega)]
theorem opp_sides {f : Nat} (hf : f < 32) {i : Nat} (hi : i < 8) : ¬ ((i = fs f ∧ opp i = ss f) ∨ (i = ss f ∧ opp i = fs f)) := by
  obtain ⟨a1, a2, a3, a4, a5, a6⟩ := nf_fs f hf
  rintro (⟨e1, e2⟩ | ⟨e1, e2⟩)
  · exact a4 (by rw [← e1]; exact e2.symm)
  · exact a4 (by rw [← e2, opp_opp i hi]; exact e1.symm)
variable {C : Nat → Int} {f : Nat} {c : Int}
theorem sb_raw (h : TC C) (hb : Bd 60000 C) (hf : f < 32) (hc : c ≤ 1000) : Raw (sb C f c) := by
  have hn : c ≠ NB := by unfold NB; omega
  refine ⟨fun a ha => ?_, fun i j hi hj => ?_, fun i hi => ?_⟩
  · rw [show a = a / 8 * 8 + a % 8 by omega, sb_at C hf hn (by omega) (by omega)]
    split
    · split
      · exact .inr (by omega)
      · exact .inr (by omega)
    · exact hb _ (by omega)
  · rw [sb_at C hf hn hi hj, sb_at C hf hn hj hi]
    generalize (if f < 8 then 2 * c else c) = y
    by_cases q : (i = fs f ∧ j = ss f) ∨ (i = ss f ∧ j = fs f)
    · rw [if_pos q, if_pos (by omega)]
    · rw [if_neg q, if_neg (by omega)]
      exact h.sym i j hi hj
  · rw [sb_at C hf hn hi (opp_lt hi), if_neg (opp_sides hf hi)]
    exact h.zero i hi
theorem sb_le (h : TC C) (hf : f < 32) (hc : c ≤ 1000) : ∀ a, a < 64 → sb C f c a ≤ NB := by
  have hn : c ≠ NB := by unfold NB; omega
  intro a ha
  rw [show a = a / 8 * 8 + a % 8 by omega, sb_at C hf hn (by omega) (by omega)]
  split
  · split <;> (unfold NB; omega)
  · exact h.hi _ (by omega)
/-- A state of the lowered one. -/
theorem sat_sb {v : Nat → Int} (hv : Sat v C) (hf : f < 32) (hc : c ≤ 1000) (hl : fval v f ≤ c) : Sat v (sb C f c) := by
  have hn : c ≠ NB := by unfold NB; omega
  obtain ⟨a1, a2, a3, a4, a5, a6⟩ := nf_fs f hf
  intro i j hi hj
  rw [sb_at C hf hn hi hj]
  unfold fval at hl
  split
  · rename_i e
    right
    by_cases q8 : f < 8
    · rw [if_pos q8] at hl ⊢
      have := a5 q8
      have e1 : i = f := by omega
      have e2 : j = f := by omega
      rw [e1, e2]
      omega
    · rw [if_neg q8] at hl ⊢
      rcases e with ⟨e1, e2⟩ | ⟨e1, e2⟩
      · rw [e1, e2]; exact hl
      · rw [e1, e2]; omega
  · exact hv i j hi hj
end Go.Proofs.YtffajooegiempabDoor

namespace Go.Proofs.YtffajooegiempabDoor
open Go.RowKit
variable {w : World}
end Go.Proofs.YtffajooegiempabDoor

namespace Go.Proofs.YtffajooegiempabDoor
open Go.RowKit
variable {w : World} {e0 : Bool} {M : Nat → Int}

abbrev tV4 : TypeId := 71
/-- Four signs as a value. -/
def v4 (l : List Int) : Value := .agg #[.int .i64 (gAt l 0), .int .i64 (gAt l 1), .int .i64 (gAt l 2), .int .i64 (gAt l 3)]
def c4 (l : List Int) : Array Value := #[.int .i64 (gAt l 0), .int .i64 (gAt l 1), .int .i64 (gAt l 2), .int .i64 (gAt l 3)]
/-- The two sides of a sum, as far as it is looked at. -/
def sdS (l : List Int) : Nat → Nat × Nat × Bool
  | 0 => (0, 1, false)
  | v + 1 => if gAt l v = 0 then sdS l v else
      (if (sdS l v).2.2 = true then (sdS l v).1 else 2 * v + (if gAt l v < 0 then 1 else 0), 2 * v + (if gAt l v < 0 then 1 else 0), true)
def sd1 (l : List Int) : Nat := (sdS l 4).1
def sd2 (l : List Int) : Nat := (sdS l 4).2.1
theorem sdS_lt (l : List Int) : ∀ v, v ≤ 4 → (sdS l v).1 < 8 ∧ (sdS l v).2.1 < 8 := by
  intro v
  induction v with
  | zero => intro _; exact ⟨by show (0 : Nat) < 8; omega, by show (1 : Nat) < 8; omega⟩
  | succ v ih =>
    intro hv
    have h := ih (by omega)
    rw [sdS]
    split
    · exact h
    · refine ⟨?_, ?_⟩
      · dsimp only
        split
        · exact h.1
        · split <;> omega
      · dsimp only
        split <;> omega

theorem c4_get (l : List Int) {i : Nat} (h : i < 4) : (c4 l)[i]? = some (.int .i64 (gAt l i)) := by
  rcases (show i = 0 ∨ i = 1 ∨ i = 2 ∨ i = 3 by omega) with rfl | rfl | rfl | rfl <;> rfl
set_option maxRecDepth 100000 in
set_option maxHeartbeats 1600000 in
theorem o_sides (l : List Int) (hl : ∀ i, -1 ≤ gAt l i ∧ gAt l i ≤ 1) :
    Calls Tryd.prog 77 #[v4 l] w fun e w' => e = .returned (.tuple #[.int .i64 ((sd1 l : Nat) : Int), .int .i64 ((sd2 l : Nat) : Int)]) ∧ Below w.heap.size w w' := by
  have h0 := o_opposite 0 (by omega) (w.alloc (.cells (c4 l) tV4))
  have HC0 : Hid (At (w.alloc (.cells (c4 l) tV4)) w.heap.size (c4 l) tV4 ∧ Below w.heap.size w (w.alloc (.cells (c4 l) tV4))) := ⟨At.new _ _ _, (Below.refl _ _).alloc (Nat.le_refl _) _⟩
  have HO : Hid (∀ (v : Nat) w1, v < 4 → Calls Tryd.prog 85 #[.int .i64 (2 * (v : Int))] w1 fun e w' => e = .returned (.int .i64 (2 * (v : Int) + 1)) ∧ w' = w1) := by
    intro v w1 hv
    have h := o_opposite (2 * v) (by omega) w1
    have e1 : ((2 * v : Nat) : Int) = 2 * (v : Int) := by omega
    have e2 : ((opp (2 * v) : Nat) : Int) = 2 * (v : Int) + 1 := by unfold opp; rw [if_pos (by omega)]; omega
    rw [e1, e2] at h
    exact h
  unfold v4
  rw [show ((0 : Nat) : Int) = 0 from rfl, show ((opp 0 : Nat) : Int) = 1 from rfl] at h0
  obtain ⟨w0, hw0⟩ : ∃ w0, w0 = w.alloc (.cells (c4 l) tV4) := ⟨_, rfl⟩
  rw [← hw0] at HC0
  have hw0' := hw0
  unfold c4 at h0 hw0
  go_enter Tryd.func77, Tryd.ntmps77
  go_wp2_with fail
  refine h0.mono ?_
  rintro e w1 ⟨rfl, hw1⟩
  subst hw1
  rw [← hw0]
  clear h0 hw0 hw0'
  go_wp2_with fail
  go_loopw [4, 5, 6, 7] (fun fv sv bv iv wr => ∃ (v a b : Nat) (f : Bool), v ≤ 4 ∧ iv = .int .i64 v ∧ fv = .int .i64 a ∧ sv = .int .i64 b ∧ bv = .bool f ∧ Hid (sdS l v = (a, b, f)) ∧ Hid (At wr w.heap.size (c4 l) tV4 ∧ Below w.heap.size w wr)) (fun _ _ _ iv _ => 4 - (intOf iv).toNat)
  case atStart => exact ⟨0, 0, 1, false, by omega, rfl, rfl, rfl, rfl, rfl, HC0.out⟩
  case round =>
    obtain ⟨v, a, b, f, hv, rfl, rfl, rfl, rfl, HA, HR⟩ := hrel
    by_cases hlt : v < 4
    · have hvi : (v : Int) < 4 := by omega
      have cx : wr.cell? ⟨w.heap.size, v, none⟩ = some (.int .i64 (gAt l v)) := by rw [HR.out.1.cell]; exact c4_get l hlt
      have hx := hl v
      have HS0 : Hid (sdS l (v + 1) = if gAt l v = 0 then (a, b, f) else (if f = true then a else 2 * v + (if gAt l v < 0 then 1 else 0), 2 * v + (if gAt l v < 0 then 1 else 0), true)) := by
        show sdS l (v + 1) = _
        rw [sdS, HA.out]
      have hop := HO.out v wr hlt
      generalize gAt l v = x at *
      rcases (show x = 0 ∨ x = 1 ∨ x = -1 by omega) with rfl | rfl | rfl
      · have HS : Hid (sdS l (v + 1) = (a, b, f)) := HS0.out
        clear HS0
        go_wp2_with fail
        go_roundw
        case rel => exact ⟨v + 1, a, b, f, by omega, by go_num, rfl, rfl, rfl, HS.out, HR.out⟩
        case measure => simp [intOf]; omega
      · cases f with
        | false =>
          have HS : Hid (sdS l (v + 1) = (2 * v, 2 * v, true)) := HS0.out
          clear HS0
          go_wp2_with fail
          go_roundw
          case rel => exact ⟨v + 1, 2 * v, 2 * v, true, by omega, by go_num, by first | rfl | (congr 1), by first | rfl | (congr 1), rfl, HS.out, HR.out⟩
          case measure => simp [intOf]; omega
        | true =>
          have HS : Hid (sdS l (v + 1) = (a, 2 * v, true)) := HS0.out
          clear HS0
          go_wp2_with fail
          go_roundw
          case rel => exact ⟨v + 1, a, 2 * v, true, by omega, by go_num, rfl, by first | rfl | (congr 1), rfl, HS.out, HR.out⟩
          case measure => simp [intOf]; omega
      · cases f with
        | false =>
          have HS : Hid (sdS l (v + 1) = (2 * v + 1, 2 * v + 1, true)) := HS0.out
          clear HS0
          go_wp2_with fail
          refine hop.mono ?_
          rintro e w2 ⟨rfl, hw2⟩
          subst hw2
          go_wp2_with fail
          go_roundw
          case rel => exact ⟨v + 1, 2 * v + 1, 2 * v + 1, true, by omega, by go_num, by first | rfl | (congr 1), by first | rfl | (congr 1), rfl, HS.out, HR.out⟩
          case measure => simp [intOf]; omega
        | true =>
          have HS : Hid (sdS l (v + 1) = (a, 2 * v + 1, true)) := HS0.out
          clear HS0
          go_wp2_with fail
          refine hop.mono ?_
          rintro e w2 ⟨rfl, hw2⟩
          subst hw2
          go_wp2_with fail
          go_roundw
          case rel => exact ⟨v + 1, a, 2 * v + 1, true, by omega, by go_num, rfl, by first | rfl | (congr 1), rfl, HS.out, HR.out⟩
          case measure => simp [intOf]; omega
    · have hv4 : v = 4 := by omega
      subst hv4
      have HE : Hid (sd1 l = a ∧ sd2 l = b) := ⟨by unfold sd1; rw [HA.out], by unfold sd2; rw [HA.out]⟩
      go_wp2_with fail
      go_ret2
      exact ⟨by rw [HE.out.1, HE.out.2]; rfl, HR.out.2⟩

set_option maxRecDepth 100000 in
set_option maxHeartbeats 1600000 in
theorem o_greatest (l : List Int) (hl : ∀ i, -1 ≤ gAt l i ∧ gAt l i ≤ 1) (hS : Sm M) :
    Calls Tryd.prog 47 #[.agg (oc e0 M), v4 l] w fun e w' => e = .returned (.int .i64 (mo M (sd1 l) (sd2 l))) ∧ Below w.heap.size w w' := by
  have hz := o_zero
  have h8 := sdS_lt l 4 (Nat.le_refl _)
  have HSd : Hid (∀ w1, Calls Tryd.prog 77 #[v4 l] w1 fun e w' => e = .returned (.tuple #[.int .i64 ((sd1 l : Nat) : Int), .int .i64 ((sd2 l : Nat) : Int)]) ∧ Below w1.heap.size w1 w') := fun w1 => o_sides l hl
  have HMo : Hid (∀ w1, Calls Tryd.prog 71 #[.agg (oc e0 M), .int .i64 ((sd1 l : Nat) : Int), .int .i64 ((sd2 l : Nat) : Int)] w1 fun e w' => e = .returned (.int .i64 (mo M (sd1 l) (sd2 l))) ∧ Below w1.heap.size w1 w') := fun w1 => o_most _ _ h8.1 h8.2 (by have := hS (sd1 l * 8 + sd2 l) (by have h1 : sd1 l < 8 := h8.1; have h2 : sd2 l < 8 := h8.2; omega); omega)
  obtain ⟨w0, hw0⟩ : ∃ w0, w0 = (w.alloc (.cells (oc e0 M) tO)).alloc (.cells (c4 l) tV4) := ⟨_, rfl⟩
  have H0 : Hid (OAt w0 w.heap.size e0 M ∧ Below w.heap.size w w0 ∧ w0.heap.size = w.heap.size + 2) := by
    refine ⟨by rw [hw0]; exact At.allocH (At.new _ _ _) _, by rw [hw0]; exact ((Below.refl _ _).alloc (Nat.le_refl _) _).alloc (by simp) _, by rw [hw0]; simp⟩
  have hsd := HSd.out w0
  rw [hw0] at hsd
  generalize mo M (sd1 l) (sd2 l) = g at *
  generalize sd1 l = i at *
  generalize sd2 l = j at *
  obtain ⟨BW, hBW⟩ : ∃ BW : World → Prop, BW = fun w' => Below w0.heap.size w0 w' := ⟨_, rfl⟩
  have hsd' : Calls Tryd.prog 77 #[v4 l] w0 fun e w' => e = .returned (.tuple #[.int .i64 (i : Int), .int .i64 (j : Int)]) ∧ BW w' := by rw [hBW]; exact HSd.out w0
  rw [hw0] at hsd'
  clear hS h8 hsd
  unfold v4 c4 at hsd'
  unfold v4
  go_enter Tryd.func47, Tryd.ntmps47
  go_wp2_with fail
  refine hsd'.mono ?_
  rintro e w1 ⟨rfl, hb1⟩
  rw [hBW] at hb1
  have s0 := H0.out.2.2
  have s1 := hb1.size
  have H1 : Hid (OAt w1 w.heap.size e0 M ∧ Below w.heap.size w w1) := ⟨At.keep H0.out.1 hb1 (by omega), H0.out.2.1.trans (hb1.mono (by omega))⟩
  have hmo := HMo.out w1
  clear hb1 hsd'
  go_wp2_with (refine wpList_load_o rfl (.tmp 2) rfl rfl H1.out.1 ?_)
  refine hmo.mono ?_
  rintro e w2 ⟨rfl, hb2⟩
  go_wp2_with fail
  go_ret
  exact ⟨rfl, H1.out.2.trans (hb2.mono H1.out.2.size)⟩

def ngL (l : List Int) : List Int := [-gAt l 0, -gAt l 1, -gAt l 2, -gAt l 3]
/-- Some signs are turned. -/
def tuP (l : List Int) : Nat → List Int
  | 0 => [gAt l 0, gAt l 1, gAt l 2, gAt l 3]
  | j + 1 => (tuP l j).set j (-gAt l j)
theorem results_v4 {fn : Func} {t : Tmp} {b : Nat} {l : List Int} (h : fn.results = #[.cell t tV4]) (tmps : Array Value) (hp : tmps.getD t undef = .pointer (some ⟨b, 0, none⟩)) (hat : At w b (c4 l) tV4) :
    (results fn tmps).run Tryd.prog w = .ok (v4 l) w := by
  have hp' : tmps[t]?.getD undef = .pointer (some ⟨b, 0, none⟩) := by simpa using hp
  have hl : (loadVar tV4 ⟨b, 0, none⟩).run Tryd.prog w = .ok (v4 l) w := run_loadVar_row w b tV4 tV4 (c4 l) (0, 0) _ hat Tryd.underlying71 rfl (by kernel_rfl)
  simp [results, h, hp', asAddr, hl]
theorem v4_storeAt {b : Nat} {c : Array Value} (h : At w b c tV4) (hc : c.size = 4) (l : List Int) : ∃ w1, (Instr.storeAt tV4 (.pointer (some ⟨b, 0, none⟩)) (v4 l)).run Tryd.prog w = .ok () w1 ∧ At w1 b (c4 l) tV4 ∧ Onl b w w1 := by
  refine ⟨w.setRow b (c4 l), ?_, setRow_heap w b c (c4 l) tV4 (0, 0) h, ⟨rfl, rfl, rfl, by simp [World.setRow], fun k _ hk => setRow_other w b k _ (fun e => hk e)⟩⟩
  simp only [Instr.storeAt, Instr.sureAddr, Sem.run_bind, Sem.run_pure, Result.andThen]
  exact run_storeVar_row w b tV4 tV4 c (c4 l) h (by kernel_rfl) (by rw [hc]; rfl) (by simp [c4, Value.oneCell'])
theorem wpList_store_v4 {ops : Array Oper} {rest : List Oper} {o : Oper} {a : Act} {Q : Exit → Act → World → Prop} {b : Nat} {c : Array Value} (hg : o.guard = none) (p x : Operand) (hop : o.op = Op.store tV4 p x) (hp : a.eval p = .pointer (some ⟨b, 0, none⟩)) (l : List Int) (hx : a.eval x = v4 l) (hat : At w b c tV4) (hc : c.size = 4)
    (hK : ∀ w1, At w1 b (c4 l) tV4 → Onl b w w1 → wpList Tryd.prog ops Q rest (a.put o.dst undef) w1) : wpList Tryd.prog ops Q (o :: rest) a w := by
  refine wpList_plain hg fun K hK' => ?_
  obtain ⟨w1, h1, h2, h3⟩ := v4_storeAt hat hc l
  unfold Oper.wp
  simp [execOp, hop, hp, hx, h1, Result.andThen, Oper.upon]
  exact hK' _ _ (hK w1 h2 h3)
theorem tuP_at (l : List Int) : ∀ j, j < 4 → (c4 (tuP l j))[j]? = some (.int .i64 (gAt l j))
  | 0, _ => rfl
  | 1, _ => rfl
  | 2, _ => rfl
  | 3, _ => rfl
  | n + 4, h => absurd h (by omega)
theorem tuP_set (l : List Int) : ∀ j, j < 4 → (c4 (tuP l j)).setIfInBounds j (.int .i64 (-gAt l j)) = c4 (tuP l (j + 1))
  | 0, _ => rfl
  | 1, _ => rfl
  | 2, _ => rfl
  | 3, _ => rfl
  | n + 4, h => absurd h (by omega)

set_option maxRecDepth 100000 in
set_option maxHeartbeats 1600000 in
theorem e_turned (l : List Int) (hl : ∀ i, -1 ≤ gAt l i ∧ gAt l i ≤ 1) :
    Calls Tryd.prog 54 #[v4 l] w fun e w' => e = .returned (v4 (ngL l)) ∧ Below w.heap.size w w' := by
  obtain ⟨w0, hw0⟩ : ∃ w0, w0 = (w.alloc (.cells (c4 l) tV4)).alloc (.cells (c4 [0, 0, 0, 0]) tV4) := ⟨_, rfl⟩
  have H0 : Hid (At w0 w.heap.size (c4 (tuP l 0)) tV4 ∧ At w0 (w.heap.size + 1) (c4 [0, 0, 0, 0]) tV4 ∧ Below w.heap.size w w0) := by
    refine ⟨by rw [hw0]; exact At.allocH (At.new _ _ _) _, ?_, by rw [hw0]; exact ((Below.refl _ _).alloc (Nat.le_refl _) _).alloc (by simp) _⟩
    have := At.new (w.alloc (.cells (c4 l) tV4)) (c4 [0, 0, 0, 0]) tV4
    rw [show (w.alloc (.cells (c4 l) tV4)).heap.size = w.heap.size + 1 by simp] at this
    rw [hw0]; exact this
  unfold c4 at hw0
  unfold v4
  go_enter Tryd.func54, Tryd.ntmps54
  go_wp2_with fail
  go_loopw [3] (fun iv wr => ∃ (v : Nat), v ≤ 4 ∧ iv = .int .i64 v ∧ Hid (At wr w.heap.size (c4 (tuP l v)) tV4 ∧ At wr (w.heap.size + 1) (c4 [0, 0, 0, 0]) tV4 ∧ Below w.heap.size w wr)) (fun iv _ => 4 - (intOf iv).toNat)
  case atStart => exact ⟨0, by omega, rfl, by have := H0.out; rw [hw0] at this; exact this⟩
  case round =>
    obtain ⟨v, hv, rfl, HR⟩ := hrel
    clear H0 hw0
    by_cases hlt : v < 4
    · have hvi : (v : Int) < 4 := by omega
      have cx : wr.cell? ⟨w.heap.size, v, none⟩ = some (.int .i64 (gAt l v)) := by rw [HR.out.1.cell]; exact tuP_at l v hlt
      have cf := HR.out.1.free
      have hl1 := HR.out.1.lt
      have hx := hl v
      have HT : Hid (_ = _) := tuP_set l v hlt
      generalize gAt l v = x at *
      go_wp2_with fail
      go_roundw
      case rel =>
        refine ⟨v + 1, by omega, by go_num, ?_, HR.out.2.1.other _ _ (by omega), HR.out.2.2.setCell (Nat.le_refl _) _⟩
        rw [← HT.out]
        exact HR.out.1.put v _
      case measure => simp [intOf]; omega
    · have hv4 : v = 4 := by omega
      subst hv4
      have y0 := HR.out.1.cell 0
      have y1 := HR.out.1.cell 1
      have y2 := HR.out.1.cell 2
      have y3 := HR.out.1.cell 3
      have HN : Hid (v4 (ngL l) = .agg #[.int .i64 (-gAt l 0), .int .i64 (-gAt l 1), .int .i64 (-gAt l 2), .int .i64 (-gAt l 3)]) := rfl
      have z0 : wr.cell? ⟨w.heap.size, 0, none⟩ = some (.int .i64 (-gAt l 0)) := y0
      have z1 : wr.cell? ⟨w.heap.size, 1, none⟩ = some (.int .i64 (-gAt l 1)) := y1
      have z2 : wr.cell? ⟨w.heap.size, 2, none⟩ = some (.int .i64 (-gAt l 2)) := y2
      have z3 : wr.cell? ⟨w.heap.size, 3, none⟩ = some (.int .i64 (-gAt l 3)) := y3
      clear y0 y1 y2 y3
      go_wp2_with (refine wpList_store_v4 (b := w.heap.size + 1) (c := c4 [0, 0, 0, 0]) rfl (.tmp 2) (.tmp 14) rfl rfl (ngL l) rfl HR.out.2.1 rfl ?_; intro w5 h5a h5b)
      try simp only [Exit.inBlock, Exit.then]
      refine bodyPost_ret (results_v4 (b := w.heap.size + 1) (l := ngL l) rfl _ rfl h5a) rfl ?_
      exact ⟨rfl, HR.out.2.2.trans (h5b.below (by omega) HR.out.2.2.size)⟩

end Go.Proofs.YtffajooegiempabDoor

/- The reader of the document's answer, as a plain machine: a step a byte. No Go in here. -/
namespace Go.Proofs.YtffajooegiempabDoor

structure St where
  kind : Int
  var : Int
  star : Bool
  sg : List Int
  num : Int
  mid : Nat
  fin : Nat

structure Bk where
  of_ : Nat
  second : Bool

structure Rd where
  state : Int
  st : List St
  op : List Bk
  sign : Int
  neg : Bool
  dig : Int

def noSt : St := ⟨0, 0, false, [0, 0, 0, 0], 0, 0, 0⟩
def noBk : Bk := ⟨0, false⟩
def cur (m : Rd) : St := m.st.getD (m.st.length - 1) noSt
def setCur (m : Rd) (s : St) : Rd := { m with st := m.st.set (m.st.length - 1) s }
def top (m : Rd) : Bk := m.op.getD (m.op.length - 1) noBk
def behindOf (m : Rd) : Int := if (cur m).kind = 33 then 59 else 123

def beginStep (m : Rd) (k v nx : Int) : Option Rd :=
  if m.st.length = 20 then none else some { m with st := m.st ++ [⟨k, v, false, [0, 0, 0, 0], 0, 0, m.st.length + 1⟩], state := nx }

def shutStep (m : Rd) : Option Rd :=
  let b := top m
  let s := m.st.getD b.of_ noSt
  if s.kind = 63 ∧ b.second = false then some { m with st := m.st.set b.of_ { s with fin := m.st.length, mid := m.st.length }, state := 125 }
  else some { m with st := m.st.set b.of_ { s with fin := m.st.length }, op := m.op.take (m.op.length - 1) }

def startStep (m : Rd) (c : Int) : Option Rd :=
  if 97 ≤ c ∧ c ≤ 100 then beginStep m 61 (c - 97) 61
  else if c = 63 ∨ c = 64 then (if m.op.length < 4 then beginStep m c 0 99 else none)
  else if c = 33 then beginStep m c 0 99
  else if c = 125 ∧ 0 < m.op.length then shutStep m
  else none

def digitStep (m : Rd) (c : Int) (pos : Bool) (nx : Int) : Option Rd :=
  let d := if m.state = nx then m.dig else 0
  let u := if m.state = nx then (cur m).num else 0
  if c < 48 ∨ 57 < c ∨ d = 2 ∨ (d = 1 ∧ u = 0) ∨ (pos = true ∧ c = 48) then none
  else some { setCur m { cur m with num := 10 * u + (c - 48) } with dig := d + 1, state := nx }

def signTo (m : Rd) (v : Nat) (x : Int) (nx : Int) : Rd :=
  { setCur m { cur m with sg := (cur m).sg.set v x } with sign := x, state := nx }

def valueEnd (m : Rd) : Rd := { setCur m { cur m with num := m.sign * (cur m).num } with state := 115 }

def valueStep (m : Rd) (c : Int) : Option Rd :=
  if m.state = 118 then
    (if c = 42 then some { setCur m { cur m with star := true } with state := 59 }
     else if c = 45 then some { m with sign := -1, state := 86 }
     else if 97 ≤ c ∧ c ≤ 100 then some (signTo m (c - 97).toNat 1 120)
     else digitStep { m with sign := 1 } c false 110)
  else if m.state = 86 then
    (if 97 ≤ c ∧ c ≤ 100 then some (signTo m (c - 97).toNat m.sign 120)
     else digitStep m c true 110)
  else if m.state = 120 then
    (if c = 43 then some { m with sign := 1, state := 121 }
     else if c = 45 then some { m with sign := -1, state := 121 }
     else if c = 59 then some (valueEnd m)
     else none)
  else if m.state = 121 then digitStep m c false 110
  else (if c = 59 then some (valueEnd m) else digitStep m c false 110)

def plainStep (m : Rd) (c : Int) : Option Rd :=
  if m.state = 59 then (if c = 59 then some { m with state := 115 } else none)
  else if c ≠ 123 ∨ m.op.length = 4 then none
  else some { m with op := m.op ++ [⟨m.st.length - 1, false⟩], state := 115 }

def condStep (m : Rd) (c : Int) : Option Rd :=
  if m.state = 99 then
    (if c = 42 then some { setCur m { cur m with star := true } with state := behindOf m }
     else if c = 45 then some { m with sign := -1, state := 67 }
     else if 97 ≤ c ∧ c ≤ 100 then some (signTo m (c - 97).toNat 1 100)
     else none)
  else if m.state = 67 then
    (if 97 ≤ c ∧ c ≤ 100 then some (signTo m (c - 97).toNat m.sign 100) else none)
  else if m.state = 100 then
    (if c = 43 then some { m with sign := 1, state := 101 }
     else if c = 45 then some { m with sign := -1, state := 101 }
     else if c = 60 then some { m with state := 60 }
     else none)
  else if m.state = 101 then
    (if 97 ≤ c ∧ c ≤ 100 then (if (cur m).sg.getD (c - 97).toNat 0 = 0 then some (signTo m (c - 97).toNat m.sign 102) else none) else none)
  else if m.state = 102 then (if c = 60 then some { m with state := 60 } else none)
  else if m.state = 60 then (if c = 61 then some { m with neg := false, state := 98 } else none)
  else if m.state = 98 then (if c = 45 then some { m with neg := true, state := 66 } else digitStep m c false 109)
  else if m.state = 66 then digitStep m c true 109
  else if m.state = 109 then
    (if c = 59 ∨ c = 123 then plainStep { setCur m { cur m with num := if m.neg then -(cur m).num else (cur m).num } with state := behindOf m } c
     else digitStep m c false 109)
  else (if c = 123 then some { m with op := m.op.set (m.op.length - 1) { top m with second := true }, state := 115 } else none)

def byteStep (m : Rd) (c : Int) : Option Rd :=
  if m.state = 115 then startStep m c
  else if m.state = 61 then (if c = 61 then some { m with state := 118 } else none)
  else if m.state = 118 ∨ m.state = 86 ∨ m.state = 120 ∨ m.state = 121 ∨ m.state = 110 then valueStep m c
  else if m.state = 59 ∨ m.state = 123 then plainStep m c
  else condStep m c

/-- What the reader keeps to. -/
structure Ok (m : Rd) : Prop where
  states : m.state = 115 ∨ m.state = 61 ∨ (m.state = 118 ∨ m.state = 86 ∨ m.state = 120 ∨ m.state = 121 ∨ m.state = 110) ∨ (m.state = 59 ∨ m.state = 123) ∨
    (m.state = 99 ∨ m.state = 67 ∨ m.state = 100 ∨ m.state = 101 ∨ m.state = 102 ∨ m.state = 60 ∨ m.state = 98 ∨ m.state = 66 ∨ m.state = 109 ∨ m.state = 125)
  some_ : m.state ≠ 115 → 0 < m.st.length
  len : m.st.length ≤ 20
  oplen : m.op.length ≤ 4
  ofs : ∀ b, b ∈ m.op → b.of_ < m.st.length
  sgn : -1 ≤ m.sign ∧ m.sign ≤ 1
  digs : 0 ≤ m.dig ∧ m.dig ≤ 2
  nums : ∀ s, s ∈ m.st → -99 ≤ s.num ∧ s.num ≤ 99
  sgl : ∀ s, s ∈ m.st → s.sg.length = 4
  inNum : m.state = 110 ∨ m.state = 109 → (m.dig = 1 ∧ 0 ≤ (cur m).num ∧ (cur m).num ≤ 9) ∨ (m.dig = 2 ∧ 0 ≤ (cur m).num ∧ (cur m).num ≤ 99)
  open_ : m.state = 125 → 0 < m.op.length

end Go.Proofs.YtffajooegiempabDoor

