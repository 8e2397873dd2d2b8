import Derived.Test.YtffajooegiempaaGreatDoorJ7
/- Bounds from which nothing follows: the document's rounds stay above them. No Go in here. -/
namespace Go.Proofs.YtffajooegiempaaGreatDoor

/-- All that two forms may come to, said by sides. -/
inductive Tab (f g : Nat) : Prop
  | no : kdT f g = 0 → Tab f g
  | z11 : f < 8 → g < 8 → g = opp f → kdT f g = 1 → Tab f g
  | d11 : f < 8 → g < 8 → g = f → kdT f g = 2 → nmT f g = f → Tab f g
  | s11 : f < 8 → g < 8 → g ≠ f → g ≠ opp f → kdT f g = 3 → nmT f g = nf f g → Tab f g
  | s12 (a b : Nat) : f < 8 → 8 ≤ g → kdT f g = 3 → (fs g = a ∧ ss g = b) ∨ (ss g = a ∧ fs g = b) → a = opp f → nmT f g = b → Tab f g
  | s21 (a b : Nat) : 8 ≤ f → g < 8 → kdT f g = 3 → (fs f = a ∧ ss f = b) ∨ (ss f = a ∧ fs f = b) → a = opp g → nmT f g = b → Tab f g
  | t22 (i p s j : Nat) : 8 ≤ f → 8 ≤ g → (fs f = i ∧ ss f = p) ∨ (ss f = i ∧ fs f = p) → (fs g = s ∧ ss g = j) ∨ (ss g = s ∧ fs g = j) → p = opp s →
      (kdT f g = 1 ∧ j = opp i) ∨ (kdT f g = 2 ∧ j = i ∧ nmT f g = i) ∨ (kdT f g = 3 ∧ j ≠ i ∧ j ≠ opp i ∧ nmT f g = nf i j) → Tab f g
theorem tab_is {f g : Nat} (hf : f < 32) (hg : g < 32) : Tab f g := by
  have h := tab_all f hf g hg
  unfold tabB at h
  simp only [Bool.or_eq_true, Bool.and_eq_true, decide_eq_true_eq, List.any_eq_true] at h
  rcases h with (((h | ⟨⟨h1, h2⟩, h3⟩) | ⟨⟨⟨h1, h2⟩, h3⟩, h4⟩) | ⟨⟨⟨h1, h2⟩, h3⟩, h4⟩) | ⟨⟨h1, h2⟩, h3⟩
  · exact .no h
  · rcases h3 with (⟨e, k⟩ | ⟨⟨e, k⟩, n⟩) | ⟨⟨⟨e1, e2⟩, k⟩, n⟩
    · exact .z11 h1 h2 e k
    · exact .d11 h1 h2 e k n
    · exact .s11 h1 h2 e1 e2 k n
  · rcases h4 with ⟨e, n⟩ | ⟨e, n⟩
    · exact .s12 (fs g) (ss g) h1 h2 h3 (.inl ⟨rfl, rfl⟩) e n
    · exact .s12 (ss g) (fs g) h1 h2 h3 (.inr ⟨rfl, rfl⟩) e n
  · rcases h4 with ⟨e, n⟩ | ⟨e, n⟩
    · exact .s21 (fs f) (ss f) h1 h2 h3 (.inl ⟨rfl, rfl⟩) e n
    · exact .s21 (ss f) (fs f) h1 h2 h3 (.inr ⟨rfl, rfl⟩) e n
  · obtain ⟨b1, _, b2, _, e, t⟩ := h3
    refine .t22 (if b1 = true then fs f else ss f) (if b1 = true then ss f else fs f) (if b2 = true then fs g else ss g) (if b2 = true then ss g else fs g) h1 h2 ?_ ?_ e ?_
    · cases b1
      · exact .inr ⟨rfl, rfl⟩
      · exact .inl ⟨rfl, rfl⟩
    · cases b2
      · exact .inr ⟨rfl, rfl⟩
      · exact .inl ⟨rfl, rfl⟩
    · rcases t with (⟨k, e⟩ | ⟨⟨k, e⟩, n⟩) | ⟨⟨⟨k, e1⟩, e2⟩, n⟩
      · exact .inl ⟨k, e⟩
      · exact .inr (.inl ⟨k, e, n⟩)
      · exact .inr (.inr ⟨k, e1, e2, n⟩)

theorem TC.lo {C : Nat → Int} (h : TC C) {f : Nat} (hf : f < 8) : (C (f * 8 + f) = NB → bd C f = NB) ∧ (C (f * 8 + f) ≠ NB → 2 * bd C f = C (f * 8 + f) ∧ bd C f ≠ NB) := by
  obtain ⟨_, _, _, _, e, _⟩ := nf_fs f (by omega)
  obtain ⟨e1, e2⟩ := e hf
  unfold bd
  rw [e1, e2]
  refine ⟨fun q => ?_, fun q => ?_⟩
  · rw [if_neg (fun z => z.2 q), q]
  · rw [if_pos ⟨rfl, q⟩]
    have := tdiv_even ((h.even f hf).resolve_left q)
    have := (h.top (f * 8 + f) (by omega)).resolve_left q
    exact ⟨by omega, by unfold NB; omega⟩
theorem bd_hi {C : Nat → Int} (hS : Sym C) {f i j : Nat} (hf : f < 32) (h8 : 8 ≤ f) (h : (fs f = i ∧ ss f = j) ∨ (ss f = i ∧ fs f = j)) : bd C f = C (i * 8 + j) ∧ i < 8 ∧ j < 8 := by
  obtain ⟨l1, l2, _, _, _, e⟩ := nf_fs f hf
  unfold bd
  rw [if_neg (fun z => e h8 z.1)]
  rcases h with ⟨a, b⟩ | ⟨a, b⟩
  · rw [← a, ← b]; exact ⟨rfl, l1, l2⟩
  · rw [← a, ← b]; exact ⟨hS _ _ l1 l2, l2, l1⟩
theorem nf_ge : ∀ i : Nat, i < 8 → ∀ j, j < 8 → (i ≠ j ∧ j ≠ opp i) → 8 ≤ nf i j := by decide +kernel
theorem bd_nf {C : Nat → Int} (hS : Sym C) {i j : Nat} (hi : i < 8) (hj : j < 8) (h1 : i ≠ j) (h2 : j ≠ opp i) : bd C (nf i j) = C (i * 8 + j) := by
  obtain ⟨a, b⟩ := nf_ok i hi j hj h2
  have g := nf_ge i hi j hj ⟨h1, h2⟩
  refine (bd_hi hS (i := i) (j := j) a g ?_).1
  rcases b with b | b
  · exact .inl b
  · exact .inr ⟨b.2, b.1⟩
theorem TC.single {C : Nat → Int} (h : TC C) {i b : Nat} (hi : i < 8) (hb : b < 8) (h1 : C (opp i * 8 + b) ≠ NB) (h2 : C (i * 8 + i) ≠ NB) : C (b * 8 + b) ≠ NB ∧ C (b * 8 + b) ≤ 2 * C (opp i * 8 + b) + C (i * 8 + i) := by
  have ho := opp_lt hi
  have a := h.tri (opp i) ho i b hi hb
  rw [opp_opp i hi] at a
  obtain ⟨a1, a2⟩ := (a.resolve_left h2).resolve_left h1
  have c := h.tri i hi b b hb hb
  rw [h.sym b (opp i) hb ho] at c
  obtain ⟨c1, c2⟩ := (c.resolve_left h1).resolve_left a1
  exact ⟨c1, by omega⟩
/-- Of bounds from which nothing follows nothing follows. -/
theorem TC.sum {C : Nat → Int} (h : TC C) {f g : Nat} (hf : f < 32) (hg : g < 32) (q1 : bd C f ≠ NB) (q2 : bd C g ≠ NB) :
    (kdT f g = 1 → 0 ≤ bd C f + bd C g) ∧ (kdT f g = 2 → 2 * bd C (nmT f g) ≤ bd C f + bd C g) ∧ (kdT f g = 3 → bd C (nmT f g) ≤ bd C f + bd C g) := by
  have lo : ∀ i, i < 8 → bd C i ≠ NB → C (i * 8 + i) ≠ NB ∧ 2 * bd C i = C (i * 8 + i) := by
    intro i hi q
    by_cases e : C (i * 8 + i) = NB
    · exact absurd ((h.lo hi).1 e) q
    · exact ⟨e, ((h.lo hi).2 e).1⟩
  cases tab_is hf hg with
  | no k => exact ⟨fun z => absurd (k.symm.trans z) (by decide), fun z => absurd (k.symm.trans z) (by decide), fun z => absurd (k.symm.trans z) (by decide)⟩
  | z11 f8 g8 e k =>
    refine ⟨fun _ => ?_, fun z => absurd (k.symm.trans z) (by decide), fun z => absurd (k.symm.trans z) (by decide)⟩
    subst e
    obtain ⟨a1, a2⟩ := lo f f8 q1
    obtain ⟨b1, b2⟩ := lo _ g8 q2
    have := (h.half f (opp f) f8 g8 a1 b1).2
    rw [h.zero f f8] at this
    omega
  | d11 f8 g8 e k n =>
    refine ⟨fun z => absurd (k.symm.trans z) (by decide), fun _ => ?_, fun z => absurd (k.symm.trans z) (by decide)⟩
    rw [n, e]
    omega
  | s11 f8 g8 e1 e2 k n =>
    refine ⟨fun z => absurd (k.symm.trans z) (by decide), fun z => absurd (k.symm.trans z) (by decide), fun _ => ?_⟩
    rw [n, bd_nf h.sym f8 g8 (fun e => e1 e.symm) e2]
    obtain ⟨a1, a2⟩ := lo f f8 q1
    obtain ⟨b1, b2⟩ := lo _ g8 q2
    have := (h.half f g f8 g8 a1 b1).2
    omega
  | s12 a b f8 g8 k s e n =>
    refine ⟨fun z => absurd (k.symm.trans z) (by decide), fun z => absurd (k.symm.trans z) (by decide), fun _ => ?_⟩
    obtain ⟨x, la, lb⟩ := bd_hi h.sym hg g8 s
    rw [x] at q2 ⊢
    rw [n]
    subst e
    obtain ⟨a1, a2⟩ := lo f f8 q1
    obtain ⟨c1, c2⟩ := h.single f8 lb q2 a1
    have := ((h.lo lb).2 c1).1
    omega
  | s21 a b f8 g8 k s e n =>
    refine ⟨fun z => absurd (k.symm.trans z) (by decide), fun z => absurd (k.symm.trans z) (by decide), fun _ => ?_⟩
    obtain ⟨x, la, lb⟩ := bd_hi h.sym hf f8 s
    rw [x] at q1 ⊢
    rw [n]
    subst e
    obtain ⟨a1, a2⟩ := lo g g8 q2
    obtain ⟨c1, c2⟩ := h.single g8 lb q1 a1
    have := ((h.lo lb).2 c1).1
    omega
  | t22 i p s j f8 g8 x y e t =>
    obtain ⟨u, li, lp⟩ := bd_hi h.sym hf f8 x
    obtain ⟨v, ls, lj⟩ := bd_hi h.sym hg g8 y
    rw [u] at q1 ⊢
    rw [v] at q2 ⊢
    subst e
    obtain ⟨c1, c2⟩ := ((h.tri s ls i j li lj).resolve_left q1).resolve_left q2
    rcases t with ⟨k, e⟩ | ⟨k, e, n⟩ | ⟨k, e1, e2, n⟩
    · refine ⟨fun _ => ?_, fun z => absurd (k.symm.trans z) (by decide), fun z => absurd (k.symm.trans z) (by decide)⟩
      rw [e, h.zero i li] at c2
      rw [e]
      exact c2
    · refine ⟨fun z => absurd (k.symm.trans z) (by decide), fun _ => ?_, fun z => absurd (k.symm.trans z) (by decide)⟩
      rw [n]
      rw [e] at c1 c2 ⊢
      have := ((h.lo li).2 c1).1
      omega
    · refine ⟨fun z => absurd (k.symm.trans z) (by decide), fun z => absurd (k.symm.trans z) (by decide), fun _ => ?_⟩
      rw [n, bd_nf h.sym li lj (fun z => e1 z.symm) e2]
      exact c2

/-- The bounds stay above. -/
def Ab (C R : Nat → Int) : Prop := ∀ f, f < 32 → bd C f ≤ R f
theorem rs1_ab {C R : Nat → Int} (h : TC C) (hA : Ab C R) (hR : ∀ f, f < 32 → R f ≤ NB) (b : Bool) {f g : Nat} (hf : f < 32) (hg : g < 32) : ∃ R' b', rs1 R b f g = some (R', b') ∧ Ab C R' ∧ ∀ f, f < 32 → R' f ≤ NB := by
  have s := rs1_is R b hf hg
  generalize rs1 R b f g = o at s
  have fin : ∀ f, f < 32 → R f ≠ NB → bd C f ≠ NB := by
    intro f hf q
    have := hA f hf
    have := hR f hf
    omega
  cases s with
  | none q1 q2 k c =>
    exfalso
    have := (h.sum hf hg (fin f hf q1) (fin g hg q2)).1 k
    have := hA f hf
    have := hA g hg
    omega
  | same _ => exact ⟨R, b, rfl, hA, hR⟩
  | put n c q1 q2 hn en hc hk =>
    refine ⟨upd R n c, true, rfl, fun x hx => ?_, fun x hx => ?_⟩
    · unfold upd
      split
      · rename_i e
        subst e
        have a1 := hA f hf
        have a2 := hA g hg
        have hs := h.sum hf hg (fin f hf q1) (fin g hg q2)
        rw [← en] at hs
        rcases hk with ⟨k, e⟩ | ⟨k, e⟩
        · have := hs.2.1 k; omega
        · have := hs.2.2 k; omega
      · exact hA x hx
    · unfold upd
      split
      · rename_i e
        subst e
        have := hR x hx
        omega
      · exact hR x hx
theorem rF_ab {C R : Nat → Int} (h : TC C) (hA : Ab C R) (hR : ∀ f, f < 32 → R f ≤ NB) : ∀ k, k ≤ 1024 → ∃ R' b', rF R k = some (R', b') ∧ Ab C R' ∧ ∀ f, f < 32 → R' f ≤ NB := by
  intro k
  induction k with
  | zero => intro _; exact ⟨R, false, rfl, hA, hR⟩
  | succ k ih =>
    intro hk
    obtain ⟨R1, b1, e, h1, h2⟩ := ih (by omega)
    rw [rF, e]
    exact rs1_ab h h1 h2 b1 (by omega) (by omega)

/-- Rounds, one after the other. -/
def rnd (R : Nat → Int) : Option ((Nat → Int) × Bool) := rF R 1024
def itF (R : Nat → Int) : Nat → Option (Nat → Int)
  | 0 => some R
  | n + 1 => match itF R n with
    | none => none
    | some R' => (rnd R').map fun x => x.1
theorem itF_none {R : Nat → Int} {n : Nat} (h : itF R n = none) : ∀ k, itF R (n + k) = none
  | 0 => h
  | k + 1 => by
    show (match itF R (n + k) with | none => none | some R' => (rnd R').map fun x => x.1) = none
    rw [itF_none h k]
theorem itF_succ {R R' : Nat → Int} {n : Nat} (h : itF R (n + 1) = some R') : ∃ R1 b, itF R n = some R1 ∧ rnd R1 = some (R', b) := by
  rw [itF] at h
  cases e : itF R n with
  | none => rw [e] at h; cases h
  | some R1 =>
    rw [e] at h
    cases e2 : rnd R1 with
    | none =>
      replace h : (rnd R1).map (fun x => x.1) = some R' := h
      rw [e2] at h; cases h
    | some x =>
      replace h : (rnd R1).map (fun x => x.1) = some R' := h
      rw [e2] at h
      obtain ⟨R2, b⟩ := x
      have : R2 = R' := Option.some.inj h
      subst this
      exact ⟨R1, b, rfl, e2⟩
theorem itF_hi {R : Nat → Int} (hR : ∀ f, f < 32 → R f ≤ NB) : ∀ n R', itF R n = some R' → ∀ f, f < 32 → R' f ≤ NB := by
  intro n
  induction n with
  | zero => intro R' h; cases h; exact hR
  | succ n ih =>
    intro R' h f hf
    obtain ⟨R1, b, e, e2⟩ := itF_succ h
    have h1 := ih R1 e
    exact Int.le_trans ((rF_inv h1 1024 (Nat.le_refl _) _ b e2).le f hf) (h1 f hf)
theorem itF_rd {R : Nat → Int} (hR : ∀ f, f < 32 → R f ≤ NB) {n : Nat} {R1 R2 : Nat → Int} (h1 : itF R n = some R1) (h2 : itF R (n + 1) = some R2) : RdO R1 R2 := by
  obtain ⟨R3, b, e, e2⟩ := itF_succ h2
  rw [h1] at e
  have : R1 = R3 := Option.some.inj e
  subst this
  exact rF_rd (itF_hi hR n R1 h1) e2
theorem Un.eqs {C R : Nat → Int} (hT : TC C) (h : Un R C) (hA : Ab C R) (hR : ∀ f, f < 32 → R f ≤ NB) : ∀ f, f < 32 → R f = bd C f := by
  intro f hf
  have a := hA f hf
  by_cases q : bd C f = NB
  · have := hR f hf
    omega
  · obtain ⟨l1, l2, e, e2, e3, e4⟩ := nf_fs f hf
    by_cases f8 : f < 8
    · have q' : C (f * 8 + f) ≠ NB := fun z => q ((hT.lo f8).1 z)
      have := h.dia f f8 q'
      have := ((hT.lo f8).2 q').1
      omega
    · have b := bd_hi hT.sym hf (by omega) (.inl ⟨rfl, rfl⟩)
      rw [b.1] at q a ⊢
      have := h.off (fs f) (ss f) l1 l2 (e4 (by omega)) e2 q
      rw [e] at this
      omega
/-- Where there are states: no round finds none, and one that changes nothing has come to the program's bounds; the eighteenth does. -/
theorem itF_ab {C R : Nat → Int} (h : TC C) (hR : ∀ f, f < 32 → R f ≤ NB) (hA : Ab C R) : ∀ n, ∃ R', itF R n = some R' ∧ Ab C R' ∧ ∀ f, f < 32 → R' f ≤ NB := by
  intro n
  induction n with
  | zero => exact ⟨R, rfl, hA, hR⟩
  | succ n ih =>
    obtain ⟨R1, e, h1, h2⟩ := ih
    obtain ⟨R2, b, e2, h3, h4⟩ := rF_ab h h1 h2 1024 (Nat.le_refl _)
    exact ⟨R2, by rw [itF, e]; show (rnd R1).map _ = _; rw [show rnd R1 = some (R2, b) from e2]; rfl, h3, h4⟩
theorem RdO.un {M R : Nat → Int} (h : Raw M) (hr : RdO R R) (h0 : Un R M) : Un R (sharp M) := h.rounds17 (R := fun _ => R) (fun _ _ => hr) h0

end Go.Proofs.YtffajooegiempaaGreatDoor

/- A list of bounds: where the program and the document start. No Go in here. -/
namespace Go.Proofs.YtffajooegiempaaGreatDoor

theorem lay_nf (l : List Int) {i j : Nat} (hi : i < 8) (hj : j < 8) (h : j ≠ opp i) : lay l 32 (i * 8 + j) = bv l (nf i j) := by
  obtain ⟨a, b⟩ := nf_ok i hi j hj h
  have c := lay_form l (nf i j) a
  rcases b with ⟨b1, b2⟩ | ⟨b1, b2⟩
  · rw [b1, b2] at c; exact c.1
  · rw [b1, b2] at c; exact c.2
theorem bv_lo (l : List Int) {i : Nat} (hi : i < 8) : (l.getD i 0 = NB → bv l i = NB) ∧ (l.getD i 0 ≠ NB → bv l i = 2 * l.getD i 0) := by
  obtain ⟨_, _, _, _, e, _⟩ := nf_fs i (by omega)
  obtain ⟨e1, e2⟩ := e hi
  unfold bv
  rw [e1, e2]
  exact ⟨fun q => by rw [if_neg (fun z => z.2 q), q], fun q => if_pos ⟨rfl, q⟩⟩
theorem bv_hi (l : List Int) {i j : Nat} (hi : i < 8) (hj : j < 8) (h1 : i ≠ j) (h2 : j ≠ opp i) : bv l (nf i j) = l.getD (nf i j) 0 := by
  obtain ⟨_, _, _, _, _, e⟩ := nf_fs (nf i j) (nf_ok i hi j hj h2).1
  unfold bv
  rw [if_neg (fun z => e (nf_ge i hi j hj ⟨h1, h2⟩) z.1)]
theorem isB_or {n : Int} (h : isB n = true) : n = NB ∨ (-4000 ≤ n ∧ n ≤ 4000) := of_decide_eq_true h
theorem bd_lay {l : List Int} (hl : okL l) : Bd 8000 (lay l 32) := by
  have hz := lay_opp l
  intro a ha
  have hi : a / 8 < 8 := by omega
  have hj : a % 8 < 8 := by omega
  rw [show a = a / 8 * 8 + a % 8 by omega]
  generalize a / 8 = i at hi
  generalize a % 8 = j at hj
  by_cases e : j = opp i
  · rw [e, hz i hi]; exact .inr (by decide)
  · by_cases hn : i = j
    · subst hn
      have q := isB_or (hl.2 i (by omega))
      rw [lay_nf l hi hi (fun e => opp_ne i e.symm), nf_self]
      have b := bv_lo l hi
      by_cases e : l.getD i 0 = NB
      · exact .inl (b.1 e)
      · rw [b.2 e]
        have := q.resolve_left e
        exact .inr (by omega)
    · have q := isB_or (hl.2 (nf i j) (nf_ok i hi j hj e).1)
      rw [lay_nf l hi hj e, bv_hi l hi hj hn e]
      rcases q with q | q
      · exact .inl q
      · exact .inr (by omega)
theorem raw_lay {l : List Int} (hl : okL l) : Raw (lay l 32) := by
  have hz := lay_opp l
  refine ⟨(bd_lay hl).mono (by decide), fun i j hi hj => ?_, hz⟩
  by_cases e : j = opp i
  · rw [e, hz i hi]
    have := hz (opp i) (opp_lt hi)
    rw [opp_opp i hi] at this
    exact this.symm
  · obtain ⟨a, b⟩ := nf_ok i hi j hj e
    have c := lay_form l (nf i j) a
    rcases b with ⟨b1, b2⟩ | ⟨b1, b2⟩
    · rw [b1, b2] at c; rw [c.1, c.2]
    · rw [b1, b2] at c; rw [c.1, c.2]
theorem un_lay (l : List Int) : Un (fun f => l.getD f 0) (lay l 32) := by
  refine ⟨fun i hi q => ?_, fun i j hi hj h1 h2 _ => ?_, fun i hi => ?_⟩
  · rw [lay_nf l hi hi (fun e => opp_ne i e.symm), nf_self] at q ⊢
    have b := bv_lo l hi
    by_cases e : l.getD i 0 = NB
    · exact absurd (b.1 e) q
    · rw [b.2 e]; exact Int.le_refl _
  · rw [lay_nf l hi hj h2, bv_hi l hi hj h1 h2]
    exact Int.le_refl _
  · rw [lay_opp l i hi]; exact Int.le_refl _
theorem ab_lay {l : List Int} (hl : okL l) : Ab (sharp (lay l 32)) (fun f => l.getD f 0) := fun f hf => bd_le hl.2 (fun k => sharp_le _ k) f hf
theorem hi_lay {l : List Int} (hl : okL l) : ∀ f, f < 32 → (fun f => l.getD f 0) f ≤ NB := by
  intro f hf
  show l.getD f 0 ≤ NB
  rcases isB_or (hl.2 f hf) with q | q
  · omega
  · unfold NB; omega

/-- .. else no round finds none, .. -/
theorem doc_some {l : List Int} (hl : okL l) (he : ovE l = false) (n : Nat) : ∃ R', itF (fun f => l.getD f 0) n = some R' ∧ Ab (ovM l) R' ∧ ∀ f, f < 32 → R' f ≤ NB := itF_ab ((raw_lay hl).tc he) (hi_lay hl) (ab_lay hl) n
/-- .. and where a round changes nothing the bounds are the program's. -/
theorem doc_done {l : List Int} (hl : okL l) {n : Nat} {R R' : Nat → Int} (h : itF (fun f => l.getD f 0) n = some R) (h2 : rnd R = some (R', false)) : ovE l = false ∧ ∀ f, f < 32 → R' f = bd (ovM l) f := by
  have hiR := itF_hi (hi_lay hl) n R h
  have hI := rF_inv hiR 1024 (Nat.le_refl _) R' false h2
  have hs := hI.same rfl
  have hd := rF_rd hiR h2
  have hrd : RdO R R := ⟨fun f _ => Int.le_refl _, hd.zer, fun f g hf hg k q1 q2 => by rw [← hs _ (nm_lt hf hg (.inl k))]; exact hd.dou f g hf hg k q1 q2, fun f g hf hg k q1 q2 => by rw [← hs _ (nm_lt hf hg (.inr k))]; exact hd.sum f g hf hg k q1 q2⟩
  have hle : ∀ m R1, itF (fun f => l.getD f 0) m = some R1 → ∀ f, f < 32 → R1 f ≤ l.getD f 0 := by
    intro m
    induction m with
    | zero => intro R1 e f _; cases e; exact Int.le_refl _
    | succ m ih =>
      intro R1 e f hf
      obtain ⟨R0, b, e1, e2⟩ := itF_succ e
      have hi0 := itF_hi (hi_lay hl) m R0 e1
      exact Int.le_trans ((rF_inv hi0 1024 (Nat.le_refl _) _ b e2).le f hf) (ih R0 e1 f hf)
  have h0 : Un R (lay l 32) := by
    have u := un_lay l
    refine ⟨fun i hi q => ?_, fun i j hi hj h1 h2' q => ?_, u.zer⟩
    · have a := u.dia i hi q
      have b := hle n R h i (by omega)
      have a' : 2 * l.getD i 0 ≤ lay l 32 (i * 8 + i) := a
      omega
    · have a : l.getD (nf i j) 0 ≤ lay l 32 (i * 8 + j) := u.off i j hi hj h1 h2' q
      have b := hle n R h (nf i j) (nf_ok i hi j hj h2').1
      omega
  have hu := hrd.un (raw_lay hl) h0
  cases he : ovE l with
  | true =>
    obtain ⟨i, hi, q⟩ := conF_true he
    have : 0 ≤ ovM l (i * 8 + opp i) := hu.zer i hi
    omega
  | false =>
    obtain ⟨R1, e, a, hi⟩ := doc_some hl he n
    have : R1 = R := Option.some.inj (e.symm.trans h)
    subst this
    refine ⟨rfl, fun f hf => ?_⟩
    rw [hs f hf]
    exact hu.eqs ((raw_lay hl).tc he) a hi f hf

end Go.Proofs.YtffajooegiempaaGreatDoor

/- Where four rounds go well there is a state: one variable after the other is picked. No Go in here. -/
namespace Go.Proofs.YtffajooegiempaaGreatDoor

theorem nf_symm : ∀ i : Nat, i < 8 → ∀ j, j < 8 → nf i j = nf j i := by decide +kernel
/-- The greatest of some numbers, the least of some. -/
theorem most_of (L : Nat → Option Int) : ∀ n : Nat, (∀ i, i < n → L i = none) ∨ ∃ m, (∃ i, i < n ∧ L i = some m) ∧ ∀ i, i < n → ∀ l, L i = some l → l ≤ m := by
  intro n
  induction n with
  | zero => exact .inl fun i hi => absurd hi (by omega)
  | succ n ih =>
    cases e : L n with
    | none =>
      rcases ih with h | ⟨m, ⟨i, hi, q⟩, h⟩
      · refine .inl fun i hi => ?_
        rcases Nat.lt_or_eq_of_le (Nat.lt_succ_iff.1 hi) with a | a
        · exact h i a
        · rw [a]; exact e
      · refine .inr ⟨m, ⟨i, by omega, q⟩, fun j hj l hl => ?_⟩
        rcases Nat.lt_or_eq_of_le (Nat.lt_succ_iff.1 hj) with a | a
        · exact h j a l hl
        · rw [a, e] at hl; cases hl
    | some x =>
      rcases ih with h | ⟨m, ⟨i, hi, q⟩, h⟩
      · refine .inr ⟨x, ⟨n, by omega, e⟩, fun j hj l hl => ?_⟩
        rcases Nat.lt_or_eq_of_le (Nat.lt_succ_iff.1 hj) with a | a
        · rw [h j a] at hl; cases hl
        · rw [a, e] at hl; cases hl; exact Int.le_refl _
      · by_cases c : m ≤ x
        · refine .inr ⟨x, ⟨n, by omega, e⟩, fun j hj l hl => ?_⟩
          rcases Nat.lt_or_eq_of_le (Nat.lt_succ_iff.1 hj) with a | a
          · exact Int.le_trans (h j a l hl) c
          · rw [a, e] at hl; cases hl; exact Int.le_refl _
        · refine .inr ⟨m, ⟨i, by omega, q⟩, fun j hj l hl => ?_⟩
          rcases Nat.lt_or_eq_of_le (Nat.lt_succ_iff.1 hj) with a | a
          · exact h j a l hl
          · rw [a, e] at hl; cases hl; omega
theorem between (L U : Nat → Option Int) (n : Nat) (h : ∀ i j, i < n → j < n → ∀ l u, L i = some l → U j = some u → l ≤ u) : ∃ t : Int, (∀ i, i < n → ∀ l, L i = some l → l ≤ t) ∧ (∀ j, j < n → ∀ u, U j = some u → t ≤ u) := by
  rcases most_of L n with a | ⟨m, ⟨i, hi, q⟩, a⟩
  · rcases most_of (fun j => (U j).map fun x => -x) n with b | ⟨m, ⟨j, hj, q⟩, b⟩
    · refine ⟨0, fun i hi l hl => (by rw [a i hi] at hl; cases hl), fun j hj u hu => ?_⟩
      have := b j hj
      rw [hu] at this
      cases this
    · refine ⟨-m, fun i hi l hl => (by rw [a i hi] at hl; cases hl), fun k hk u hu => ?_⟩
      have := b k hk (-u) (by rw [hu]; rfl)
      omega
  · exact ⟨m, a, fun j hj u hu => h i j hi hj m u q hu⟩

/-- The first variables keep to the bounds of their forms. -/
structure SK (P v : Nat → Int) (k : Nat) : Prop where
  one : ∀ i, i < 2 * k → P i = NB ∨ sd v i ≤ P i
  two : ∀ i j, i < 2 * k → j < 2 * k → i ≠ j → j ≠ opp i → P (nf i j) = NB ∨ sd v i + sd v j ≤ P (nf i j)
def setV (v : Nat → Int) (k : Nat) (t : Int) : Nat → Int := fun i => if i = k then t else v i
theorem opp_even (k : Nat) : opp (2 * k) = 2 * k + 1 := by unfold opp; rw [if_pos (by omega)]
theorem opp_odd (k : Nat) : opp (2 * k + 1) = 2 * k := by unfold opp; rw [if_neg (by omega)]; omega
theorem sd_setV_lt (v : Nat → Int) (t : Int) {i k : Nat} (h : i < 2 * k) : sd (setV v k t) i = sd v i := by
  unfold sd setV
  rw [if_neg (show ¬ i / 2 = k by omega)]
theorem sd_setV_e (v : Nat → Int) (t : Int) (k : Nat) : sd (setV v k t) (2 * k) = t := by
  unfold sd setV
  rw [if_pos (by omega), if_pos (by omega)]
theorem sd_setV_o (v : Nat → Int) (t : Int) (k : Nat) : sd (setV v k t) (2 * k + 1) = -t := by
  unfold sd setV
  rw [if_neg (by omega), if_pos (by omega)]
/-- One more variable. -/
theorem elim {P P' v : Nat → Int} {U : Int} {k : Nat} (hk : k < 4) (hU : 2 * U < NB) (hU0 : 0 ≤ U) (hP : ∀ f, f < 32 → P f = NB ∨ P f ≤ U) (hr : RdO P P') (hv : SK P' v k) : ∃ t, SK P (setV v k t) (k + 1) := by
  have hs : 2 * k < 8 := by omega
  have ho : 2 * k + 1 < 8 := by omega
  have oe := opp_even k
  have oo := opp_odd k
  have fin : ∀ f, f < 32 → P f ≠ NB → P f ≤ U := fun f hf q => (hP f hf).resolve_left q
  have v1 : ∀ i, i < 2 * k → ∀ c, c < NB → P' i ≤ c → sd v i ≤ c := by
    intro i hi c hc hl
    have := (hv.one i hi).resolve_left (by omega)
    omega
  have v2 : ∀ i j, i < 2 * k → j < 2 * k → i ≠ j → j ≠ opp i → ∀ c, c < NB → P' (nf i j) ≤ c → sd v i + sd v j ≤ c := by
    intro i j hi hj e1 e2 c hc hl
    have := (hv.two i j hi hj e1 e2).resolve_left (by omega)
    omega
  have key : ∀ i j, i < 2 * k + 1 → j < 2 * k + 1 → P (if i = 2 * k then 2 * k else nf (2 * k) i) ≠ NB → P (if j = 2 * k then 2 * k + 1 else nf (2 * k + 1) j) ≠ NB →
      (if i = 2 * k then 0 else sd v i) + (if j = 2 * k then 0 else sd v j) ≤ P (if i = 2 * k then 2 * k else nf (2 * k) i) + P (if j = 2 * k then 2 * k + 1 else nf (2 * k + 1) j) := by
    intro i j hi hj q1 q2
    by_cases ei : i = 2 * k
    · rw [if_pos ei] at q1 ⊢
      rw [if_pos ei]
      by_cases ej : j = 2 * k
      · rw [if_pos ej] at q2 ⊢
        rw [if_pos ej]
        have z := hr.zer (2 * k) (2 * k + 1) (by omega) (by omega) ((tab3 (2 * k) hs (2 * k + 1) ho).1 oe.symm) q1 q2
        omega
      · rw [if_neg ej] at q2 ⊢
        rw [if_neg ej]
        have t := tab2 (2 * k + 1) ho j (by omega) ⟨by omega, by rw [oo]; omega⟩
        rw [oo] at t
        have n := (nf_ok (2 * k + 1) ho j (by omega) (by rw [oo]; omega)).1
        have x := hr.sum (2 * k) (nf (2 * k + 1) j) (by omega) n t.1 q1 q2
        rw [t.2.1] at x
        have a := fin _ (by omega) q1
        have b := fin _ n q2
        have := v1 j (by omega) _ (by omega) x
        omega
    · rw [if_neg ei] at q1 ⊢
      rw [if_neg ei]
      have n1 := (nf_ok (2 * k) hs i (by omega) (by rw [oe]; omega)).1
      have a := fin _ n1 q1
      by_cases ej : j = 2 * k
      · rw [if_pos ej] at q2 ⊢
        rw [if_pos ej]
        have t := tab2 (2 * k) hs i (by omega) ⟨by omega, by rw [oe]; omega⟩
        rw [oe] at t
        have x := hr.sum (2 * k + 1) (nf (2 * k) i) (by omega) n1 t.1 q2 q1
        rw [t.2.1] at x
        have b := fin _ (by omega) q2
        have := v1 i (by omega) _ (by omega) x
        omega
      · rw [if_neg ej] at q2 ⊢
        rw [if_neg ej]
        have n2 := (nf_ok (2 * k + 1) ho j (by omega) (by rw [oo]; omega)).1
        have b := fin _ n2 q2
        have t := tab1 i (by omega) (2 * k + 1) ho j (by omega) ⟨by omega, by rw [oo]; omega, by omega, by rw [oo]; omega⟩
        rw [oo, nf_symm i (by omega) (2 * k) hs] at t
        by_cases e : j = opp i
        · have z := hr.zer _ _ n1 n2 (t.1 e) q1 q2
          rw [e, sd_opp]
          rw [e] at z
          omega
        · by_cases e' : j = i
          · have x := hr.dou _ _ n1 n2 (t.2.1 e').1 q1 q2
            rw [(t.2.1 e').2] at x
            have := v1 i (by omega) _ (by omega) x
            rw [e'] at this ⊢
            omega
          · have x := hr.sum _ _ n1 n2 (t.2.2 ⟨e', e⟩).1 q1 q2
            rw [(t.2.2 ⟨e', e⟩).2] at x
            exact v2 i j (by omega) (by omega) (fun z => e' z.symm) e _ (by omega) x
  obtain ⟨t, hL, hH⟩ := between (fun j => if P (if j = 2 * k then 2 * k + 1 else nf (2 * k + 1) j) = NB then none else some ((if j = 2 * k then 0 else sd v j) - P (if j = 2 * k then 2 * k + 1 else nf (2 * k + 1) j)))
    (fun i => if P (if i = 2 * k then 2 * k else nf (2 * k) i) = NB then none else some (P (if i = 2 * k then 2 * k else nf (2 * k) i) - (if i = 2 * k then 0 else sd v i))) (2 * k + 1) (by
      intro j i hj hi l u hl hu
      by_cases q2 : P (if j = 2 * k then 2 * k + 1 else nf (2 * k + 1) j) = NB
      · rw [if_pos q2] at hl; cases hl
      · by_cases q1 : P (if i = 2 * k then 2 * k else nf (2 * k) i) = NB
        · rw [if_pos q1] at hu; cases hu
        · rw [if_neg q2] at hl
          rw [if_neg q1] at hu
          have := key i j hi hj q1 q2
          have := Option.some.inj hl
          have := Option.some.inj hu
          omega)
  have lo : ∀ j, j < 2 * k → P (nf (2 * k + 1) j) = NB ∨ -t + sd v j ≤ P (nf (2 * k + 1) j) := by
    intro j hj
    by_cases q : P (nf (2 * k + 1) j) = NB
    · exact .inl q
    · have ne : ¬ j = 2 * k := by omega
      have := hL j (by omega) (sd v j - P (nf (2 * k + 1) j)) (by simp only [if_neg ne, if_neg q])
      exact .inr (by omega)
  have hi : ∀ j, j < 2 * k → P (nf (2 * k) j) = NB ∨ t + sd v j ≤ P (nf (2 * k) j) := by
    intro j hj
    by_cases q : P (nf (2 * k) j) = NB
    · exact .inl q
    · have ne : ¬ j = 2 * k := by omega
      have := hH j (by omega) (P (nf (2 * k) j) - sd v j) (by simp only [if_neg ne, if_neg q])
      exact .inr (by omega)
  refine ⟨t, ⟨fun i hi' => ?_, fun i j hi' hj' e1 e2 => ?_⟩⟩
  · by_cases c : i < 2 * k
    · rw [sd_setV_lt v t c]
      by_cases q : P i = NB
      · exact .inl q
      · have := fin i (by omega) q
        exact .inr (v1 i c _ (by omega) (hr.le i (by omega)))
    · by_cases c2 : i = 2 * k
      · rw [c2, sd_setV_e]
        by_cases q : P (2 * k) = NB
        · exact .inl q
        · have := hH (2 * k) (by omega) (P (2 * k) - 0) (by simp only [if_true, if_neg q])
          exact .inr (by omega)
      · rw [show i = 2 * k + 1 by omega, sd_setV_o]
        by_cases q : P (2 * k + 1) = NB
        · exact .inl q
        · have := hL (2 * k) (by omega) (0 - P (2 * k + 1)) (by simp only [if_true, if_neg q])
          exact .inr (by omega)
  · by_cases c : i < 2 * k
    · rw [sd_setV_lt v t c]
      by_cases d : j < 2 * k
      · rw [sd_setV_lt v t d]
        by_cases q : P (nf i j) = NB
        · exact .inl q
        · have n := (nf_ok i (by omega) j (by omega) e2).1
          have := fin _ n q
          exact .inr (v2 i j c d e1 e2 _ (by omega) (hr.le _ n))
      · rw [nf_symm i (by omega) j (by omega), Int.add_comm]
        by_cases d2 : j = 2 * k
        · rw [d2, sd_setV_e]; exact hi i c
        · rw [show j = 2 * k + 1 by omega, sd_setV_o]; exact lo i c
    · have d : j < 2 * k := by
        rcases Nat.lt_or_ge j (2 * k) with d | d
        · exact d
        · exfalso
          by_cases c2 : i = 2 * k
          · rw [c2, oe] at e2; omega
          · rw [show i = 2 * k + 1 by omega, oo] at e2; omega
      rw [sd_setV_lt v t d]
      by_cases c2 : i = 2 * k
      · rw [c2, sd_setV_e]; exact hi j d
      · rw [show i = 2 * k + 1 by omega, sd_setV_o]; exact lo j d

/-- A round that reads the old bounds alone. -/
def qqs (P Q : Nat → Int) (f g : Nat) : Nat → Int :=
  if P f = NB ∨ P g = NB then Q
  else if kdT f g = 2 then (if (P f + P g) / 2 < Q (nmT f g) then upd Q (nmT f g) ((P f + P g) / 2) else Q)
  else if kdT f g = 3 then (if P f + P g < Q (nmT f g) then upd Q (nmT f g) (P f + P g) else Q)
  else Q
def qqF (P : Nat → Int) : Nat → Nat → Int
  | 0 => P
  | m + 1 => qqs P (qqF P m) (m / 32) (m % 32)
theorem low_le {Q : Nat → Int} {n : Nat} {c : Int} (x : Nat) : (if c < Q n then upd Q n c else Q) x ≤ Q x := by
  split
  · unfold upd
    split
    · rename_i h e; subst e; omega
    · exact Int.le_refl _
  · exact Int.le_refl _
theorem low_at {Q : Nat → Int} {n : Nat} {c : Int} : (if c < Q n then upd Q n c else Q) n ≤ c := by
  split
  · rw [upd_same]; exact Int.le_refl _
  · omega
theorem low_cas {Q : Nat → Int} {n : Nat} {c : Int} (x : Nat) : (if c < Q n then upd Q n c else Q) x = Q x ∨ (x = n ∧ (if c < Q n then upd Q n c else Q) x = c) := by
  split
  · unfold upd
    split
    · rename_i e; exact .inr ⟨e, rfl⟩
    · exact .inl rfl
  · exact .inl rfl
theorem qqs_le (P Q : Nat → Int) (f g x : Nat) : qqs P Q f g x ≤ Q x := by
  unfold qqs
  split
  · exact Int.le_refl _
  · split
    · exact low_le x
    · split
      · exact low_le x
      · exact Int.le_refl _
theorem qqs_do (P Q : Nat → Int) {f g : Nat} (q1 : P f ≠ NB) (q2 : P g ≠ NB) : (kdT f g = 2 → qqs P Q f g (nmT f g) ≤ (P f + P g) / 2) ∧ (kdT f g = 3 → qqs P Q f g (nmT f g) ≤ P f + P g) := by
  unfold qqs
  rw [if_neg (show ¬ (P f = NB ∨ P g = NB) from fun z => z.elim q1 q2)]
  refine ⟨fun k => ?_, fun k => ?_⟩
  · rw [if_pos k]; exact low_at
  · rw [if_neg (show ¬ kdT f g = 2 by omega), if_pos k]; exact low_at
theorem qqs_cas (P Q : Nat → Int) (f g x : Nat) : qqs P Q f g x = Q x ∨ (P f ≠ NB ∧ P g ≠ NB ∧ x = nmT f g ∧ ((kdT f g = 2 ∧ qqs P Q f g x = (P f + P g) / 2) ∨ (kdT f g = 3 ∧ qqs P Q f g x = P f + P g))) := by
  unfold qqs
  by_cases q : P f = NB ∨ P g = NB
  · rw [if_pos q]; exact .inl rfl
  · rw [if_neg q]
    have q1 : P f ≠ NB := fun z => q (.inl z)
    have q2 : P g ≠ NB := fun z => q (.inr z)
    by_cases k2 : kdT f g = 2
    · rw [if_pos k2]
      rcases low_cas (Q := Q) (n := nmT f g) (c := (P f + P g) / 2) x with h | ⟨h1, h2⟩
      · exact .inl h
      · exact .inr ⟨q1, q2, h1, .inl ⟨k2, h2⟩⟩
    · rw [if_neg k2]
      by_cases k3 : kdT f g = 3
      · rw [if_pos k3]
        rcases low_cas (Q := Q) (n := nmT f g) (c := P f + P g) x with h | ⟨h1, h2⟩
        · exact .inl h
        · exact .inr ⟨q1, q2, h1, .inr ⟨k3, h2⟩⟩
      · rw [if_neg k3]; exact .inl rfl
theorem qqF_le (P : Nat → Int) : ∀ m x, qqF P m x ≤ P x
  | 0, _ => Int.le_refl _
  | m + 1, x => Int.le_trans (qqs_le P _ _ _ x) (qqF_le P m x)
theorem qqF_do (P : Nat → Int) : ∀ k m, m < k → P (m / 32) ≠ NB → P (m % 32) ≠ NB → (kdT (m / 32) (m % 32) = 2 → qqF P k (nmT (m / 32) (m % 32)) ≤ (P (m / 32) + P (m % 32)) / 2) ∧ (kdT (m / 32) (m % 32) = 3 → qqF P k (nmT (m / 32) (m % 32)) ≤ P (m / 32) + P (m % 32)) := by
  intro k
  induction k with
  | zero => intro m hm; omega
  | succ k ih =>
    intro m hm q1 q2
    rcases Nat.lt_or_eq_of_le (Nat.lt_succ_iff.1 hm) with e | e
    · obtain ⟨a, b⟩ := ih m e q1 q2
      exact ⟨fun z => Int.le_trans (qqs_le P _ _ _ _) (a z), fun z => Int.le_trans (qqs_le P _ _ _ _) (b z)⟩
    · subst e
      exact qqs_do P (qqF P m) q1 q2
/-- The document's bounds lie below. -/
theorem qqF_ab {P R R' : Nat → Int} (hr : RdO R R') {U : Int} (hU : U < NB) (hP : ∀ f, f < 32 → P f = NB ∨ P f ≤ U) (hl : ∀ f, f < 32 → R f ≤ P f) : ∀ k, k ≤ 1024 → ∀ f, f < 32 → R' f ≤ qqF P k f := by
  intro k
  induction k with
  | zero => intro _ f hf; exact Int.le_trans (hr.le f hf) (hl f hf)
  | succ k ih =>
    intro hk f hf
    have hx : k / 32 < 32 := by omega
    have hy : k % 32 < 32 := by omega
    rw [qqF]
    rcases qqs_cas P (qqF P k) (k / 32) (k % 32) f with h | ⟨q1, q2, e, h⟩
    · rw [h]; exact ih (by omega) f hf
    · have a1 := (hP _ hx).resolve_left q1
      have a2 := (hP _ hy).resolve_left q2
      have b1 := hl _ hx
      have b2 := hl _ hy
      rcases h with ⟨k2, h⟩ | ⟨k3, h⟩
      · rw [h, e]
        have := hr.dou _ _ hx hy k2 (by omega) (by omega)
        omega
      · rw [h, e]
        have := hr.sum _ _ hx hy k3 (by omega) (by omega)
        omega
theorem qqF_hi {P : Nat → Int} {U : Int} (hU0 : 0 ≤ U) (hP : ∀ f, f < 32 → P f = NB ∨ P f ≤ U) : ∀ k, k ≤ 1024 → ∀ f, f < 32 → qqF P k f = NB ∨ qqF P k f ≤ 2 * U := by
  intro k
  induction k with
  | zero =>
    intro _ f hf
    rcases hP f hf with h | h
    · exact .inl h
    · exact .inr (by show P f ≤ _; omega)
  | succ k ih =>
    intro hk f hf
    rw [qqF]
    rcases qqs_cas P (qqF P k) (k / 32) (k % 32) f with h | ⟨q1, q2, e, h⟩
    · rw [h]; exact ih (by omega) f hf
    · have a1 := (hP _ (show k / 32 < 32 by omega)).resolve_left q1
      have a2 := (hP _ (show k % 32 < 32 by omega)).resolve_left q2
      rcases h with ⟨k2, h⟩ | ⟨k3, h⟩
      · rw [h]; exact .inr (by omega)
      · rw [h]; exact .inr (by omega)
/-- One round further, by old bounds. -/
theorem qqF_rd {P R R' : Nat → Int} (hr : RdO R R') {U : Int} (hU : U < NB) (hP : ∀ f, f < 32 → P f = NB ∨ P f ≤ U) (hl : ∀ f, f < 32 → R f ≤ P f) : RdO P (qqF P 1024) := by
  refine ⟨fun f _ => qqF_le P 1024 f, fun f g hf hg k q1 q2 => ?_, fun f g hf hg k q1 q2 => ?_, fun f g hf hg k q1 q2 => ?_⟩
  · have a1 := (hP f hf).resolve_left q1
    have a2 := (hP g hg).resolve_left q2
    have b1 := hl f hf
    have b2 := hl g hg
    have := hr.zer f g hf hg k (by omega) (by omega)
    omega
  · have := qqF_do P 1024 (f * 32 + g) (by omega)
    rw [show (f * 32 + g) / 32 = f by omega, show (f * 32 + g) % 32 = g by omega] at this
    exact (this q1 q2).1 k
  · have := qqF_do P 1024 (f * 32 + g) (by omega)
    rw [show (f * 32 + g) / 32 = f by omega, show (f * 32 + g) % 32 = g by omega] at this
    exact (this q1 q2).2 k

/-- Four rounds that go well: there is a state. -/
theorem four {R0 R1 R2 R3 R4 : Nat → Int} (h0 : RdO R0 R1) (h1 : RdO R1 R2) (h2 : RdO R2 R3) (h3 : RdO R3 R4) (hR : ∀ f, f < 32 → R0 f = NB ∨ R0 f ≤ 4000) : ∃ v, SK R0 v 4 := by
  have n0 : (4000 : Int) < NB := by decide
  have n1 : (2 * 4000 : Int) < NB := by decide
  have n2 : (2 * (2 * 4000) : Int) < NB := by decide
  have n3 : (2 * (2 * (2 * 4000)) : Int) < NB := by decide
  have n4 : (2 * (2 * (2 * (2 * 4000))) : Int) < NB := by decide
  have r0 := qqF_rd h0 n0 hR (fun _ _ => Int.le_refl _)
  have b1 := qqF_hi (by decide) hR 1024 (Nat.le_refl _)
  have a1 := qqF_ab h0 n0 hR (fun _ _ => Int.le_refl _) 1024 (Nat.le_refl _)
  generalize qqF R0 1024 = P1 at r0 a1 b1
  have r1 := qqF_rd h1 n1 b1 a1
  have b2 := qqF_hi (by decide) b1 1024 (Nat.le_refl _)
  have a2 := qqF_ab h1 n1 b1 a1 1024 (Nat.le_refl _)
  generalize qqF P1 1024 = P2 at r1 a2 b2
  have r2 := qqF_rd h2 n2 b2 a2
  have b3 := qqF_hi (by decide) b2 1024 (Nat.le_refl _)
  have a3 := qqF_ab h2 n2 b2 a2 1024 (Nat.le_refl _)
  generalize qqF P2 1024 = P3 at r2 a3 b3
  have r3 := qqF_rd h3 n3 b3 a3
  obtain ⟨ta, ka⟩ := elim (k := 0) (v := fun _ => 0) (by decide) n4 (by decide) b3 r3 ⟨fun i hi => absurd hi (by omega), fun i j hi => absurd hi (by omega)⟩
  obtain ⟨tb, kb⟩ := elim (by decide) n3 (by decide) b2 r2 ka
  obtain ⟨tc, kc⟩ := elim (by decide) n2 (by decide) b1 r1 kb
  obtain ⟨td, kd'⟩ := elim (by decide) n1 (by decide) hR r0 kc
  exact ⟨_, kd'⟩
theorem sk_lay {l : List Int} {v : Nat → Int} (h : SK (fun f => l.getD f 0) v 4) : Sat v (lay l 32) := by
  intro i j hi hj
  by_cases e : j = opp i
  · rw [e, lay_opp l i hi, sd_opp]; exact .inr (by omega)
  · rw [lay_nf l hi hj e]
    by_cases e' : i = j
    · subst e'
      rw [nf_self]
      rcases h.one i (by omega) with q | q
      · exact .inl ((bv_lo l hi).1 q)
      · by_cases z : l.getD i 0 = NB
        · exact .inl ((bv_lo l hi).1 z)
        · rw [(bv_lo l hi).2 z]
          have q' : sd v i ≤ l.getD i 0 := q
          exact .inr (by omega)
    · rw [bv_hi l hi hj e' e]
      exact h.two i j (by omega) (by omega) e' e
/-- Where there is no state four rounds are enough. -/
theorem doc_empty4 {l : List Int} (hl : okL l) (he : ovE l = true) : itF (fun f => l.getD f 0) 4 = none := by
  cases e4 : itF (fun f => l.getD f 0) 4 with
  | none => rfl
  | some R4 =>
    obtain ⟨R3, b3, e3, _⟩ := itF_succ e4
    obtain ⟨R2, b2, e2, _⟩ := itF_succ e3
    obtain ⟨R1, b1, e1, _⟩ := itF_succ e2
    have e0 : itF (fun f => l.getD f 0) 0 = some (fun f => l.getD f 0) := rfl
    have hR := hi_lay hl
    obtain ⟨v, hv⟩ := four (itF_rd hR e0 e1) (itF_rd hR e1 e2) (itF_rd hR e2 e3) (itF_rd hR e3 e4) (fun f hf => by
      rcases isB_or (hl.2 f hf) with q | q
      · exact .inl q
      · exact .inr q.2)
    have := (sk_lay hv).sharp.some
    rw [show conF (sharp (lay l 32)) 8 = ovE l from rfl, he] at this
    cases this

end Go.Proofs.YtffajooegiempaaGreatDoor

/- Of bounds from which nothing follows, all of them numbers, each is reached by whole numbers. No Go in here. -/
namespace Go.Proofs.YtffajooegiempaaGreatDoor

/-- The sides, so turned that a form's own come first. -/
def sgmL (i j : Nat) : List Nat :=
  let x := i / 2
  let y := if j / 2 = x then (if x = 0 then 1 else 0) else j / 2
  let r := [0, 1, 2, 3].filter fun z => decide (z ≠ x) && decide (z ≠ y)
  let jj := if j / 2 = x then 2 * y else j
  [i, opp i, jj, opp jj, 2 * r.getD 0 0, 2 * r.getD 0 0 + 1, 2 * r.getD 1 0, 2 * r.getD 1 0 + 1]
def sgm (f a : Nat) : Nat := (sgmL (fs f) (ss f)).getD a 0
def sgi (f b : Nat) : Nat := (List.range 8).findIdx fun a => sgm f a == b
theorem sgm_ok : ∀ f : Nat, f < 32 → (∀ a, a < 8 → sgm f a < 8 ∧ sgm f (opp a) = opp (sgm f a) ∧ sgi f (sgm f a) = a) ∧ (∀ b, b < 8 → sgi f b < 8 ∧ sgm f (sgi f b) = b) ∧ sgm f 0 = fs f ∧ (8 ≤ f → sgm f 2 = ss f) := by decide +kernel
/-- The bounds, so turned. -/
def trn (f : Nat) (C : Nat → Int) : Nat → Int := fun a => C (sgm f (a / 8) * 8 + sgm f (a % 8))
theorem trn_at (f : Nat) (C : Nat → Int) {i j : Nat} (hj : j < 8) : trn f C (i * 8 + j) = C (sgm f i * 8 + sgm f j) := by
  unfold trn
  rw [show (i * 8 + j) / 8 = i by omega, show (i * 8 + j) % 8 = j by omega]
theorem TC.trn {C : Nat → Int} (h : TC C) {f : Nat} (hf : f < 32) : TC (trn f C) := by
  obtain ⟨s1, _, _, _⟩ := sgm_ok f hf
  refine ⟨fun k hk i j hi hj => ?_, fun i hi => ?_, fun i hi => ?_, fun i j hi hj h1 h2 => ?_, fun i j hi hj => ?_, fun a ha => ?_⟩
  · rw [trn_at f C hj, trn_at f C (opp_lt hk), trn_at f C hj, (s1 k hk).2.1]
    exact h.tri (sgm f k) (s1 k hk).1 (sgm f i) (sgm f j) (s1 i hi).1 (s1 j hj).1
  · rw [trn_at f C (opp_lt hi), (s1 i hi).2.1]
    exact h.zero _ (s1 i hi).1
  · rw [trn_at f C hi]
    exact h.even _ (s1 i hi).1
  · rw [trn_at f C hi] at h1
    rw [trn_at f C hj] at h2
    rw [trn_at f C hj, trn_at f C hi, trn_at f C hj]
    exact h.half _ _ (s1 i hi).1 (s1 j hj).1 h1 h2
  · rw [trn_at f C hj, trn_at f C hi]
    exact h.sym _ _ (s1 i hi).1 (s1 j hj).1
  · have := h.top (sgm f (a / 8) * 8 + sgm f (a % 8)) (by have := (s1 (a / 8) (by omega)).1; have := (s1 (a % 8) (by omega)).1; omega)
    exact this
/-- The rounds leave such bounds as they are. -/
theorem TC.rd {C : Nat → Int} (h : TC C) : RdO (bd C) (bd C) := by
  refine ⟨fun f _ => Int.le_refl _, fun f g hf hg k q1 q2 => (h.sum hf hg q1 q2).1 k, fun f g hf hg k q1 q2 => ?_, fun f g hf hg k q1 q2 => (h.sum hf hg q1 q2).2.2 k⟩
  have := (h.sum hf hg q1 q2).2.1 k
  omega

theorem TC.bd_top {C : Nat → Int} (h : TC C) {f : Nat} (hf : f < 32) : bd C f = NB ∨ bd C f ≤ 432000 := by
  have k : fs f * 8 + ss f < 64 := by have := fs_lt f hf; have := ss_lt f hf; omega
  have t := h.top _ k
  unfold bd
  split
  · rename_i q
    have := t.resolve_left q.2
    have := tdiv2_le (C (fs f * 8 + ss f))
    exact .inr (by omega)
  · exact t
theorem nb2 : (2 * 432000 : Int) < NB := by decide
theorem TC.sat {C v : Nat → Int} (h : TC C) (k : SK (bd C) v 4) : Sat v C := by
  intro i j hi hj
  by_cases e : j = opp i
  · rw [e, h.zero i hi, sd_opp]; exact .inr (by omega)
  · by_cases e' : i = j
    · subst e'
      by_cases q : C (i * 8 + i) = NB
      · exact .inl q
      · obtain ⟨b1, b2⟩ := (h.lo hi).2 q
        have := (k.one i (by omega)).resolve_left b2
        exact .inr (by omega)
    · have := k.two i j (by omega) (by omega) e' e
      rw [bd_nf h.sym hi hj e' e] at this
      exact this
/-- What a form comes to. -/
def fval (v : Nat → Int) (f : Nat) : Int := if f < 8 then sd v f else sd v (fs f) + sd v (ss f)
theorem sgi_opp {f : Nat} (hf : f < 32) {b : Nat} (hb : b < 8) : sgi f (opp b) = opp (sgi f b) := by
  obtain ⟨s1, s2, _, _⟩ := sgm_ok f hf
  obtain ⟨a1, a2⟩ := s2 b hb
  have := (s1 (opp (sgi f b)) (opp_lt a1)).2.2
  rw [(s1 (sgi f b) a1).2.1, a2] at this
  exact this
end Go.Proofs.YtffajooegiempaaGreatDoor

