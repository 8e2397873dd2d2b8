import Derived.Test.YtffjklakdnfeiaaDoorJ2
/- Bounds from which nothing follows: the document's rounds stay above them. No Go in here. -/
namespace Go.Proofs.YtffjklakdnfeiaaDoor

/-- All that two forms may come to, said by sides. -/
inductive Tab (f g : Nat) : Prop
  | no : kdT f g = 0 → Tab f g
  | z11 : f < 8 → g < 8 → g = opp f → kdT f g = 1 → Tab f g
  | d11 : f < 8 → g < 8 → g = f → kdT f g = 2 → nmT f g = f → Tab f g
  | s11 : f < 8 → g < 8 → g ≠ f → g ≠ opp f → kdT f g = 3 → nmT f g = nf f g → Tab f g
  | s12 (a b : Nat) : f < 8 → 8 ≤ g → kdT f g = 3 → (fs g = a ∧ ss g = b) ∨ (ss g = a ∧ fs g = b) → a = opp f → nmT f g = b → Tab f g
  | s21 (a b : Nat) : 8 ≤ f → g < 8 → kdT f g = 3 → (fs f = a ∧ ss f = b) ∨ (ss f = a ∧ fs f = b) → a = opp g → nmT f g = b → Tab f g
  | t22 (i p s j : Nat) : 8 ≤ f → 8 ≤ g → (fs f = i ∧ ss f = p) ∨ (ss f = i ∧ fs f = p) → (fs g = s ∧ ss g = j) ∨ (ss g = s ∧ fs g = j) → p = opp s →
      (kdT f g = 1 ∧ j = opp i) ∨ (kdT f g = 2 ∧ j = i ∧ nmT f g = i) ∨ (kdT f g = 3 ∧ j ≠ i ∧ j ≠ opp i ∧ nmT f g = nf i j) → Tab f g
theorem tab_is {f g : Nat} (hf : f < 32) (hg : g < 32) : Tab f g := by
  have h := tab_all f hf g hg
  unfold tabB at h
  simp only [Bool.or_eq_true, Bool.and_eq_true, decide_eq_true_eq, List.any_eq_true] at h
  rcases h with (((h | ⟨⟨h1, h2⟩, h3⟩) | ⟨⟨⟨h1, h2⟩, h3⟩, h4⟩) | ⟨⟨⟨h1, h2⟩, h3⟩, h4⟩) | ⟨⟨h1, h2⟩, h3⟩
  · exact .no h
  · rcases h3 with (⟨e, k⟩ | ⟨⟨e, k⟩, n⟩) | ⟨⟨⟨e1, e2⟩, k⟩, n⟩
    · exact .z11 h1 h2 e k
    · exact .d11 h1 h2 e k n
    · exact .s11 h1 h2 e1 e2 k n
  · rcases h4 with ⟨e, n⟩ | ⟨e, n⟩
    · exact .s12 (fs g) (ss g) h1 h2 h3 (.inl ⟨rfl, rfl⟩) e n
    · exact .s12 (ss g) (fs g) h1 h2 h3 (.inr ⟨rfl, rfl⟩) e n
  · rcases h4 with ⟨e, n⟩ | ⟨e, n⟩
    · exact .s21 (fs f) (ss f) h1 h2 h3 (.inl ⟨rfl, rfl⟩) e n
    · exact .s21 (ss f) (fs f) h1 h2 h3 (.inr ⟨rfl, rfl⟩) e n
  · obtain ⟨b1, _, b2, _, e, t⟩ := h3
    refine .t22 (if b1 = true then fs f else ss f) (if b1 = true then ss f else fs f) (if b2 = true then fs g else ss g) (if b2 = true then ss g else fs g) h1 h2 ?_ ?_ e ?_
    · cases b1
      · exact .inr ⟨rfl, rfl⟩
      · exact .inl ⟨rfl, rfl⟩
    · cases b2
      · exact .inr ⟨rfl, rfl⟩
      · exact .inl ⟨rfl, rfl⟩
    · rcases t with (⟨k, e⟩ | ⟨⟨k, e⟩, n⟩) | ⟨⟨⟨k, e1⟩, e2⟩, n⟩
      · exact .inl ⟨k, e⟩
      · exact .inr (.inl ⟨k, e, n⟩)
      · exact .inr (.inr ⟨k, e1, e2, n⟩)

theorem TC.lo {C : Nat → Int} (h : TC C) {f : Nat} (hf : f < 8) : (C (f * 8 + f) = NB → bd C f = NB) ∧ (C (f * 8 + f) ≠ NB → 2 * bd C f = C (f * 8 + f) ∧ bd C f ≠ NB) := by
  obtain ⟨_, _, _, _, e, _⟩ := nf_fs f (by omega)
  obtain ⟨e1, e2⟩ := e hf
  unfold bd
  rw [e1, e2]
  refine ⟨fun q => ?_, fun q => ?_⟩
  · rw [if_neg (fun z => z.2 q), q]
  · rw [if_pos ⟨rfl, q⟩]
    have := tdiv_even ((h.even f hf).resolve_left q)
    have := (h.top (f * 8 + f) (by omega)).resolve_left q
    exact ⟨by omega, by unfold NB; omega⟩
theorem bd_hi {C : Nat → Int} (hS : Sym C) {f i j : Nat} (hf : f < 32) (h8 : 8 ≤ f) (h : (fs f = i ∧ ss f = j) ∨ (ss f = i ∧ fs f = j)) : bd C f = C (i * 8 + j) ∧ i < 8 ∧ j < 8 := by
  obtain ⟨l1, l2, _, _, _, e⟩ := nf_fs f hf
  unfold bd
  rw [if_neg (fun z => e h8 z.1)]
  rcases h with ⟨a, b⟩ | ⟨a, b⟩
  · rw [← a, ← b]; exact ⟨rfl, l1, l2⟩
  · rw [← a, ← b]; exact ⟨hS _ _ l1 l2, l2, l1⟩
theorem nf_ge : ∀ i : Nat, i < 8 → ∀ j, j < 8 → (i ≠ j ∧ j ≠ opp i) → 8 ≤ nf i j := by decide +kernel
theorem bd_nf {C : Nat → Int} (hS : Sym C) {i j : Nat} (hi : i < 8) (hj : j < 8) (h1 : i ≠ j) (h2 : j ≠ opp i) : bd C (nf i j) = C (i * 8 + j) := by
  obtain ⟨a, b⟩ := nf_ok i hi j hj h2
  have g := nf_ge i hi j hj ⟨h1, h2⟩
  refine (bd_hi hS (i := i) (j := j) a g ?_).1
  rcases b with b | b
  · exact .inl b
  · exact .inr ⟨b.2, b.1⟩
theorem TC.single {C : Nat → Int} (h : TC C) {i b : Nat} (hi : i < 8) (hb : b < 8) (h1 : C (opp i * 8 + b) ≠ NB) (h2 : C (i * 8 + i) ≠ NB) : C (b * 8 + b) ≠ NB ∧ C (b * 8 + b) ≤ 2 * C (opp i * 8 + b) + C (i * 8 + i) := by
  have ho := opp_lt hi
  have a := h.tri (opp i) ho i b hi hb
  rw [opp_opp i hi] at a
  obtain ⟨a1, a2⟩ := (a.resolve_left h2).resolve_left h1
  have c := h.tri i hi b b hb hb
  rw [h.sym b (opp i) hb ho] at c
  obtain ⟨c1, c2⟩ := (c.resolve_left h1).resolve_left a1
  exact ⟨c1, by omega⟩
/-- Of bounds from which nothing follows nothing follows. -/
theorem TC.sum {C : Nat → Int} (h : TC C) {f g : Nat} (hf : f < 32) (hg : g < 32) (q1 : bd C f ≠ NB) (q2 : bd C g ≠ NB) :
    (kdT f g = 1 → 0 ≤ bd C f + bd C g) ∧ (kdT f g = 2 → 2 * bd C (nmT f g) ≤ bd C f + bd C g) ∧ (kdT f g = 3 → bd C (nmT f g) ≤ bd C f + bd C g) := by
  have lo : ∀ i, i < 8 → bd C i ≠ NB → C (i * 8 + i) ≠ NB ∧ 2 * bd C i = C (i * 8 + i) := by
    intro i hi q
    by_cases e : C (i * 8 + i) = NB
    · exact absurd ((h.lo hi).1 e) q
    · exact ⟨e, ((h.lo hi).2 e).1⟩
  cases tab_is hf hg with
  | no k => exact ⟨fun z => absurd (k.symm.trans z) (by decide), fun z => absurd (k.symm.trans z) (by decide), fun z => absurd (k.symm.trans z) (by decide)⟩
  | z11 f8 g8 e k =>
    refine ⟨fun _ => ?_, fun z => absurd (k.symm.trans z) (by decide), fun z => absurd (k.symm.trans z) (by decide)⟩
    subst e
    obtain ⟨a1, a2⟩ := lo f f8 q1
    obtain ⟨b1, b2⟩ := lo _ g8 q2
    have := (h.half f (opp f) f8 g8 a1 b1).2
    rw [h.zero f f8] at this
    omega
  | d11 f8 g8 e k n =>
    refine ⟨fun z => absurd (k.symm.trans z) (by decide), fun _ => ?_, fun z => absurd (k.symm.trans z) (by decide)⟩
    rw [n, e]
    omega
  | s11 f8 g8 e1 e2 k n =>
    refine ⟨fun z => absurd (k.symm.trans z) (by decide), fun z => absurd (k.symm.trans z) (by decide), fun _ => ?_⟩
    rw [n, bd_nf h.sym f8 g8 (fun e => e1 e.symm) e2]
    obtain ⟨a1, a2⟩ := lo f f8 q1
    obtain ⟨b1, b2⟩ := lo _ g8 q2
    have := (h.half f g f8 g8 a1 b1).2
    omega
  | s12 a b f8 g8 k s e n =>
    refine ⟨fun z => absurd (k.symm.trans z) (by decide), fun z => absurd (k.symm.trans z) (by decide), fun _ => ?_⟩
    obtain ⟨x, la, lb⟩ := bd_hi h.sym hg g8 s
    rw [x] at q2 ⊢
    rw [n]
    subst e
    obtain ⟨a1, a2⟩ := lo f f8 q1
    obtain ⟨c1, c2⟩ := h.single f8 lb q2 a1
    have := ((h.lo lb).2 c1).1
    omega
  | s21 a b f8 g8 k s e n =>
    refine ⟨fun z => absurd (k.symm.trans z) (by decide), fun z => absurd (k.symm.trans z) (by decide), fun _ => ?_⟩
    obtain ⟨x, la, lb⟩ := bd_hi h.sym hf f8 s
    rw [x] at q1 ⊢
    rw [n]
    subst e
    obtain ⟨a1, a2⟩ := lo g g8 q2
    obtain ⟨c1, c2⟩ := h.single g8 lb q1 a1
    have := ((h.lo lb).2 c1).1
    omega
  | t22 i p s j f8 g8 x y e t =>
    obtain ⟨u, li, lp⟩ := bd_hi h.sym hf f8 x
    obtain ⟨v, ls, lj⟩ := bd_hi h.sym hg g8 y
    rw [u] at q1 ⊢
    rw [v] at q2 ⊢
    subst e
    obtain ⟨c1, c2⟩ := ((h.tri s ls i j li lj).resolve_left q1).resolve_left q2
    rcases t with ⟨k, e⟩ | ⟨k, e, n⟩ | ⟨k, e1, e2, n⟩
    · refine ⟨fun _ => ?_, fun z => absurd (k.symm.trans z) (by decide), fun z => absurd (k.symm.trans z) (by decide)⟩
      rw [e, h.zero i li] at c2
      rw [e]
      exact c2
    · refine ⟨fun z => absurd (k.symm.trans z) (by decide), fun _ => ?_, fun z => absurd (k.symm.trans z) (by decide)⟩
      rw [n]
      rw [e] at c1 c2 ⊢
      have := ((h.lo li).2 c1).1
      omega
    · refine ⟨fun z => absurd (k.symm.trans z) (by decide), fun z => absurd (k.symm.trans z) (by decide), fun _ => ?_⟩
      rw [n, bd_nf h.sym li lj (fun z => e1 z.symm) e2]
      exact c2

/-- The bounds stay above. -/
def Ab (C R : Nat → Int) : Prop := ∀ f, f < 32 → bd C f ≤ R f
theorem rs1_ab {C R : Nat → Int} (h : TC C) (hA : Ab C R) (hR : ∀ f, f < 32 → R f ≤ NB) (b : Bool) {f g : Nat} (hf : f < 32) (hg : g < 32) : ∃ R' b', rs1 R b f g = some (R', b') ∧ Ab C R' ∧ ∀ f, f < 32 → R' f ≤ NB := by
  have s := rs1_is R b hf hg
  generalize rs1 R b f g = o at s
  have fin : ∀ f, f < 32 → R f ≠ NB → bd C f ≠ NB := by
    intro f hf q
    have := hA f hf
    have := hR f hf
    omega
  cases s with
  | none q1 q2 k c =>
    exfalso
    have := (h.sum hf hg (fin f hf q1) (fin g hg q2)).1 k
    have := hA f hf
    have := hA g hg
    omega
  | same _ => exact ⟨R, b, rfl, hA, hR⟩
  | put n c q1 q2 hn en hc hk =>
    refine ⟨upd R n c, true, rfl, fun x hx => ?_, fun x hx => ?_⟩
    · unfold upd
      split
      · rename_i e
        subst e
        have a1 := hA f hf
        have a2 := hA g hg
        have hs := h.sum hf hg (fin f hf q1) (fin g hg q2)
        rw [← en] at hs
        rcases hk with ⟨k, e⟩ | ⟨k, e⟩
        · have := hs.2.1 k; omega
        · have := hs.2.2 k; omega
      · exact hA x hx
    · unfold upd
      split
      · rename_i e
        subst e
        have := hR x hx
        omega
      · exact hR x hx
theorem rF_ab {C R : Nat → Int} (h : TC C) (hA : Ab C R) (hR : ∀ f, f < 32 → R f ≤ NB) : ∀ k, k ≤ 1024 → ∃ R' b', rF R k = some (R', b') ∧ Ab C R' ∧ ∀ f, f < 32 → R' f ≤ NB := by
  intro k
  induction k with
  | zero => intro _; exact ⟨R, false, rfl, hA, hR⟩
  | succ k ih =>
    intro hk
    obtain ⟨R1, b1, e, h1, h2⟩ := ih (by omega)
    rw [rF, e]
    exact rs1_ab h h1 h2 b1 (by omega) (by omega)

/-- Rounds, one after the other. -/
def rnd (R : Nat → Int) : Option ((Nat → Int) × Bool) := rF R 1024
def itF (R : Nat → Int) : Nat → Option (Nat → Int)
  | 0 => some R
  | n + 1 => match itF R n with
    | none => none
    | some R' => (rnd R').map fun x => x.1
theorem itF_none {R : Nat → Int} {n : Nat} (h : itF R n = none) : ∀ k, itF R (n + k) = none
  | 0 => h
  | k + 1 => by
    show (match itF R (n + k) with | none => none | some R' => (rnd R').map fun x => x.1) = none
    rw [itF_none h k]
theorem itF_succ {R R' : Nat → Int} {n : Nat} (h : itF R (n + 1) = some R') : ∃ R1 b, itF R n = some R1 ∧ rnd R1 = some (R', b) := by
  rw [itF] at h
  cases e : itF R n with
  | none => rw [e] at h; cases h
  | some R1 =>
    rw [e] at h
    cases e2 : rnd R1 with
    | none =>
      replace h : (rnd R1).map (fun x => x.1) = some R' := h
      rw [e2] at h; cases h
    | some x =>
      replace h : (rnd R1).map (fun x => x.1) = some R' := h
      rw [e2] at h
      obtain ⟨R2, b⟩ := x
      have : R2 = R' := Option.some.inj h
      subst this
      exact ⟨R1, b, rfl, e2⟩
theorem itF_hi {R : Nat → Int} (hR : ∀ f, f < 32 → R f ≤ NB) : ∀ n R', itF R n = some R' → ∀ f, f < 32 → R' f ≤ NB := by
  intro n
  induction n with
  | zero => intro R' h; cases h; exact hR
  | succ n ih =>
    intro R' h f hf
    obtain ⟨R1, b, e, e2⟩ := itF_succ h
    have h1 := ih R1 e
    exact Int.le_trans ((rF_inv h1 1024 (Nat.le_refl _) _ b e2).le f hf) (h1 f hf)
theorem itF_rd {R : Nat → Int} (hR : ∀ f, f < 32 → R f ≤ NB) {n : Nat} {R1 R2 : Nat → Int} (h1 : itF R n = some R1) (h2 : itF R (n + 1) = some R2) : RdO R1 R2 := by
  obtain ⟨R3, b, e, e2⟩ := itF_succ h2
  rw [h1] at e
  have : R1 = R3 := Option.some.inj e
  subst this
  exact rF_rd (itF_hi hR n R1 h1) e2
theorem itF_un {M R R' : Nat → Int} (h : Raw M) (hR : ∀ f, f < 32 → R f ≤ NB) (h0 : Un R M) (h1 : itF R 17 = some R') : Un R' (sharp M) := by
  have hs : ∀ n, n ≤ 17 → ∃ R1, itF R n = some R1 := by
    intro n hn
    cases e : itF R n with
    | some R1 => exact ⟨R1, rfl⟩
    | none =>
      have := itF_none e (17 - n)
      rw [show n + (17 - n) = 17 by omega, h1] at this
      cases this
  have hx : ∀ n, n ≤ 17 → itF R n = some ((itF R n).getD R) := by
    intro n hn
    obtain ⟨R1, e⟩ := hs n hn
    rw [e]; rfl
  have r17 := h.rounds17 (R := fun n => (itF R n).getD R) (fun r hr => itF_rd hR (hx r (by omega)) (hx (r + 1) (by omega))) h0
  have e : (itF R 17).getD R = R' := by rw [h1]; rfl
  rw [← e]
  exact r17
/-- Where there is no state the rounds end with none. -/
theorem itF_empty {M R : Nat → Int} (h : Raw M) (hR : ∀ f, f < 32 → R f ≤ NB) (h0 : Un R M) (hc : conF (sharp M) 8 = true) : itF R 17 = none := by
  cases e : itF R 17 with
  | none => rfl
  | some R' =>
    obtain ⟨i, hi, q⟩ := conF_true hc
    have := (itF_un h hR h0 e).zer i hi
    omega
theorem Un.eqs {C R : Nat → Int} (hT : TC C) (h : Un R C) (hA : Ab C R) (hR : ∀ f, f < 32 → R f ≤ NB) : ∀ f, f < 32 → R f = bd C f := by
  intro f hf
  have a := hA f hf
  by_cases q : bd C f = NB
  · have := hR f hf
    omega
  · obtain ⟨l1, l2, e, e2, e3, e4⟩ := nf_fs f hf
    by_cases f8 : f < 8
    · have q' : C (f * 8 + f) ≠ NB := fun z => q ((hT.lo f8).1 z)
      have := h.dia f f8 q'
      have := ((hT.lo f8).2 q').1
      omega
    · have b := bd_hi hT.sym hf (by omega) (.inl ⟨rfl, rfl⟩)
      rw [b.1] at q a ⊢
      have := h.off (fs f) (ss f) l1 l2 (e4 (by omega)) e2 q
      rw [e] at this
      omega
/-- Where there are states: no round finds none, and one that changes nothing has come to the program's bounds; the eighteenth does. -/
theorem itF_ab {C R : Nat → Int} (h : TC C) (hR : ∀ f, f < 32 → R f ≤ NB) (hA : Ab C R) : ∀ n, ∃ R', itF R n = some R' ∧ Ab C R' ∧ ∀ f, f < 32 → R' f ≤ NB := by
  intro n
  induction n with
  | zero => exact ⟨R, rfl, hA, hR⟩
  | succ n ih =>
    obtain ⟨R1, e, h1, h2⟩ := ih
    obtain ⟨R2, b, e2, h3, h4⟩ := rF_ab h h1 h2 1024 (Nat.le_refl _)
    exact ⟨R2, by rw [itF, e]; show (rnd R1).map _ = _; rw [show rnd R1 = some (R2, b) from e2]; rfl, h3, h4⟩
theorem itF_17 {M R R' : Nat → Int} {b : Bool} (h : Raw M) (hR : ∀ f, f < 32 → R f ≤ NB) (h0 : Un R M) (hA : Ab (sharp M) R) (hc : conF (sharp M) 8 = false) {R1 : Nat → Int} (h1 : itF R 17 = some R1) (h2 : rnd R1 = some (R', b)) : b = false := by
  have hT := h.tc hc
  obtain ⟨R3, e3, a3, hi3⟩ := itF_ab hT hR hA 17
  rw [h1] at e3
  cases e3
  have eq := (itF_un h hR h0 h1).eqs hT a3 hi3
  cases b with
  | false => rfl
  | true =>
    obtain ⟨f, hf, l⟩ := (rF_inv hi3 1024 (Nat.le_refl _) R' true h2).more rfl
    obtain ⟨R4, b4, e4, a4, _⟩ := rF_ab hT a3 hi3 1024 (Nat.le_refl _)
    have e5 : (R', true) = (R4, b4) := Option.some.inj (h2.symm.trans e4)
    cases e5
    have := a4 f hf
    rw [eq f hf] at l
    omega
theorem RdO.un {M R : Nat → Int} (h : Raw M) (hr : RdO R R) (h0 : Un R M) : Un R (sharp M) := h.rounds17 (R := fun _ => R) (fun _ _ => hr) h0

end Go.Proofs.YtffjklakdnfeiaaDoor

/- A list of bounds: where the program and the document start. No Go in here. -/
namespace Go.Proofs.YtffjklakdnfeiaaDoor

theorem lay_nf (l : List Int) {i j : Nat} (hi : i < 8) (hj : j < 8) (h : j ≠ opp i) : lay l 32 (i * 8 + j) = bv l (nf i j) := by
  obtain ⟨a, b⟩ := nf_ok i hi j hj h
  have c := lay_form l (nf i j) a
  rcases b with ⟨b1, b2⟩ | ⟨b1, b2⟩
  · rw [b1, b2] at c; exact c.1
  · rw [b1, b2] at c; exact c.2
theorem bv_lo (l : List Int) {i : Nat} (hi : i < 8) : (l.getD i 0 = NB → bv l i = NB) ∧ (l.getD i 0 ≠ NB → bv l i = 2 * l.getD i 0) := by
  obtain ⟨_, _, _, _, e, _⟩ := nf_fs i (by omega)
  obtain ⟨e1, e2⟩ := e hi
  unfold bv
  rw [e1, e2]
  exact ⟨fun q => by rw [if_neg (fun z => z.2 q), q], fun q => if_pos ⟨rfl, q⟩⟩
theorem bv_hi (l : List Int) {i j : Nat} (hi : i < 8) (hj : j < 8) (h1 : i ≠ j) (h2 : j ≠ opp i) : bv l (nf i j) = l.getD (nf i j) 0 := by
  obtain ⟨_, _, _, _, _, e⟩ := nf_fs (nf i j) (nf_ok i hi j hj h2).1
  unfold bv
  rw [if_neg (fun z => e (nf_ge i hi j hj ⟨h1, h2⟩) z.1)]
theorem isB_or {n : Int} (h : isB n = true) : n = NB ∨ (-4000 ≤ n ∧ n ≤ 4000) := of_decide_eq_true h
theorem raw_lay {l : List Int} (hl : okL l) : Raw (lay l 32) := by
  have hz := lay_opp l
  refine ⟨⟨fun i j hi hj hn => ?_, fun i hi => ?_⟩, fun i j hi hj => ?_, hz⟩
  · by_cases e : j = opp i
    · rw [e, hz i hi]; exact .inr (by decide)
    · have q := isB_or (hl.2 (nf i j) (nf_ok i hi j hj e).1)
      rw [lay_nf l hi hj e, bv_hi l hi hj hn e]
      rcases q with q | q
      · exact .inl q
      · exact .inr q.2
  · have q := isB_or (hl.2 i (by omega))
    rw [lay_nf l hi hi (fun e => opp_ne i e.symm), nf_self]
    have b := bv_lo l hi
    by_cases e : l.getD i 0 = NB
    · exact .inl (b.1 e)
    · rw [b.2 e]
      have := q.resolve_left e
      exact .inr (by omega)
  · by_cases e : j = opp i
    · rw [e, hz i hi]
      have := hz (opp i) (opp_lt hi)
      rw [opp_opp i hi] at this
      exact this.symm
    · obtain ⟨a, b⟩ := nf_ok i hi j hj e
      have c := lay_form l (nf i j) a
      rcases b with ⟨b1, b2⟩ | ⟨b1, b2⟩
      · rw [b1, b2] at c; rw [c.1, c.2]
      · rw [b1, b2] at c; rw [c.1, c.2]
theorem un_lay (l : List Int) : Un (fun f => l.getD f 0) (lay l 32) := by
  refine ⟨fun i hi q => ?_, fun i j hi hj h1 h2 _ => ?_, fun i hi => ?_⟩
  · rw [lay_nf l hi hi (fun e => opp_ne i e.symm), nf_self] at q ⊢
    have b := bv_lo l hi
    by_cases e : l.getD i 0 = NB
    · exact absurd (b.1 e) q
    · rw [b.2 e]; exact Int.le_refl _
  · rw [lay_nf l hi hj h2, bv_hi l hi hj h1 h2]
    exact Int.le_refl _
  · rw [lay_opp l i hi]; exact Int.le_refl _
theorem ab_lay {l : List Int} (hl : okL l) : Ab (sharp (lay l 32)) (fun f => l.getD f 0) := fun f hf => bd_le hl.2 (fun k => sharp_le _ k) f hf
theorem hi_lay {l : List Int} (hl : okL l) : ∀ f, f < 32 → (fun f => l.getD f 0) f ≤ NB := by
  intro f hf
  show l.getD f 0 ≤ NB
  rcases isB_or (hl.2 f hf) with q | q
  · omega
  · unfold NB; omega

/-- What the document's rounds come to: none, where the program finds the octagon empty .. -/
theorem doc_empty {l : List Int} (hl : okL l) (he : ovE l = true) : itF (fun f => l.getD f 0) 17 = none := itF_empty (raw_lay hl) (hi_lay hl) (un_lay l) he
/-- .. else no round finds none, .. -/
theorem doc_some {l : List Int} (hl : okL l) (he : ovE l = false) (n : Nat) : ∃ R', itF (fun f => l.getD f 0) n = some R' ∧ Ab (ovM l) R' ∧ ∀ f, f < 32 → R' f ≤ NB := itF_ab ((raw_lay hl).tc he) (hi_lay hl) (ab_lay hl) n
theorem doc_step {l : List Int} (hl : okL l) (he : ovE l = false) {n : Nat} {R : Nat → Int} (h : itF (fun f => l.getD f 0) n = some R) : ∃ R' b, rnd R = some (R', b) := by
  obtain ⟨R1, e, a, hi⟩ := doc_some hl he n
  have : R1 = R := Option.some.inj (e.symm.trans h)
  subst this
  obtain ⟨R2, b, e2, _⟩ := rF_ab ((raw_lay hl).tc he) a hi 1024 (Nat.le_refl _)
  exact ⟨R2, b, e2⟩
/-- .. the eighteenth changes nothing, .. -/
theorem doc_17 {l : List Int} (hl : okL l) {R R' : Nat → Int} {b : Bool} (h : itF (fun f => l.getD f 0) 17 = some R) (h2 : rnd R = some (R', b)) : b = false := by
  cases he : ovE l with
  | true => rw [doc_empty hl he] at h; cases h
  | false => exact itF_17 (raw_lay hl) (hi_lay hl) (un_lay l) (ab_lay hl) he h h2
/-- .. and where a round changes nothing the bounds are the program's. -/
theorem doc_done {l : List Int} (hl : okL l) {n : Nat} {R R' : Nat → Int} (h : itF (fun f => l.getD f 0) n = some R) (h2 : rnd R = some (R', false)) : ovE l = false ∧ ∀ f, f < 32 → R' f = bd (ovM l) f := by
  have hiR := itF_hi (hi_lay hl) n R h
  have hI := rF_inv hiR 1024 (Nat.le_refl _) R' false h2
  have hs := hI.same rfl
  have hd := rF_rd hiR h2
  have hrd : RdO R R := ⟨fun f _ => Int.le_refl _, hd.zer, fun f g hf hg k q1 q2 => by rw [← hs _ (nm_lt hf hg (.inl k))]; exact hd.dou f g hf hg k q1 q2, fun f g hf hg k q1 q2 => by rw [← hs _ (nm_lt hf hg (.inr k))]; exact hd.sum f g hf hg k q1 q2⟩
  have hle : ∀ m R1, itF (fun f => l.getD f 0) m = some R1 → ∀ f, f < 32 → R1 f ≤ l.getD f 0 := by
    intro m
    induction m with
    | zero => intro R1 e f _; cases e; exact Int.le_refl _
    | succ m ih =>
      intro R1 e f hf
      obtain ⟨R0, b, e1, e2⟩ := itF_succ e
      have hi0 := itF_hi (hi_lay hl) m R0 e1
      exact Int.le_trans ((rF_inv hi0 1024 (Nat.le_refl _) _ b e2).le f hf) (ih R0 e1 f hf)
  have h0 : Un R (lay l 32) := by
    have u := un_lay l
    refine ⟨fun i hi q => ?_, fun i j hi hj h1 h2' q => ?_, u.zer⟩
    · have a := u.dia i hi q
      have b := hle n R h i (by omega)
      have a' : 2 * l.getD i 0 ≤ lay l 32 (i * 8 + i) := a
      omega
    · have a : l.getD (nf i j) 0 ≤ lay l 32 (i * 8 + j) := u.off i j hi hj h1 h2' q
      have b := hle n R h (nf i j) (nf_ok i hi j hj h2').1
      omega
  have hu := hrd.un (raw_lay hl) h0
  cases he : ovE l with
  | true =>
    obtain ⟨i, hi, q⟩ := conF_true he
    have : 0 ≤ ovM l (i * 8 + opp i) := hu.zer i hi
    omega
  | false =>
    obtain ⟨R1, e, a, hi⟩ := doc_some hl he n
    have : R1 = R := Option.some.inj (e.symm.trans h)
    subst this
    refine ⟨rfl, fun f hf => ?_⟩
    rw [hs f hf]
    exact hu.eqs ((raw_lay hl).tc he) a hi f hf

end Go.Proofs.YtffjklakdnfeiaaDoor

namespace Go.Proofs.YtffjklakdnfeiaaDoor
open Go.RowKit
variable {w : World}

theorem nst_no {l : List Int} {j : Nat} (h : nst l j = none) : ∀ d, nst l (j + d) = none
  | 0 => h
  | d + 1 => by
    show (match nst l (j + d) with | none => none | some (x, y) => _) = none
    rw [nst_no h d]
theorem nst_4 {l : List Int} {j : Nat} (hj : j < 4) (h : nst l (j + 1) = none) : numV l = -1 := by
  have := nst_no h (3 - j)
  rw [show j + 1 + (3 - j) = 4 by omega] at this
  unfold numV
  rw [this]
theorem nst_step {l : List Int} {j : Nat} {x y : Int} (h : nst l j = some (x, y)) : nst l (j + 1) = if gAt l j < -1 ∨ gAt l j > 1 ∨ (gAt l j ≠ 0 ∧ 0 ≤ y) then none else some (if gAt l j ≠ 0 ∧ x < 0 then (j : Int) else x, if gAt l j ≠ 0 ∧ 0 ≤ x then (j : Int) else y) := by
  rw [nst, h]
theorem numV_of {l : List Int} {x y : Int} (h : nst l 4 = some (x, y)) : numV l = if x < 0 then -1 else if y < 0 then 2 * x + (1 - gAt l x.toNat).tdiv 2 else 8 + 4 * ((x * (8 - x - 1)).tdiv 2 + y - x - 1) + (1 - gAt l x.toNat).tdiv 2 * 2 + (1 - gAt l y.toNat).tdiv 2 := by
  unfold numV
  rw [h]

theorem ret_eq {a b : Int} (h : a = b) : Ending.returned (.int .i64 a) = .returned (.int .i64 b) := by rw [h]

set_option maxRecDepth 100000 in
set_option maxHeartbeats 1600000 in
theorem r_number (u : Value) (l : List Int) (hl : l.length = 4) (hu : Reads w u l) (hv : ∀ i, i < 4 → -5000 ≤ gAt l i ∧ gAt l i ≤ 5000) :
    Calls Tryd.prog 89 #[u] w fun e w' => e = .returned (.int .i64 (numV l)) ∧ Below w.heap.size w w' := by
  obtain ⟨au, cu, rfl, hcu, h0⟩ := hu
  obtain ⟨p, off, rfl, hp, hcell⟩ := h0 (by omega)
  have HC : Hid (∀ i, i < 4 → w.cell? ⟨p, off + i, none⟩ = some (.int .i64 (gAt l i))) := fun i hi => hcell i (by omega)
  rw [hl]
  clear h0 hcell hcu
  go_enter Tryd.func89, Tryd.ntmps89
  go_wp2_with fail
  go_loopw [3, 4, 5] (fun xv yv i wr => ∃ (j : Nat) (x y : Int), j ≤ 4 ∧ xv = .int .i64 x ∧ yv = .int .i64 y ∧ i = .int .i64 j ∧ wr = w ∧ Hid (nst l j = some (x, y)) ∧ -1 ≤ x ∧ x < 4 ∧ -1 ≤ y ∧ y < 4) (fun _ _ i _ => 4 - (intOf i).toNat)
  case atStart => exact ⟨0, -1, -1, by omega, rfl, rfl, rfl, rfl, rfl, by omega, by omega, by omega, by omega⟩
  case round =>
    obtain ⟨j, x, y, hj, rfl, rfl, rfl, rfl, HR, x1, x2, y1, y2⟩ := hrel
    by_cases hlt : j < 4
    · have hji : (j : Int) < 4 := by omega
      have cx := HC.out j hlt
      have hb := hv j hlt
      have HStep : Hid (nst l (j + 1) = _) := nst_step HR.out
      generalize gAt l j = a at *
      by_cases e1 : a < -1
      · have HF : Hid (numV l = -1) := nst_4 hlt ((HStep.out).trans (if_pos (by exact .inl e1)))
        go_wp2_with fail
        go_ret
        exact ⟨by rw [HF.out]; rfl, Below.refl _ _⟩
      · by_cases e2 : 1 < a
        · have HF : Hid (numV l = -1) := nst_4 hlt ((HStep.out).trans (if_pos (by exact .inr (.inl e2))))
          go_wp2_with fail
          go_ret
          exact ⟨by rw [HF.out]; rfl, Below.refl _ _⟩
        · by_cases e3 : a = 0
          · have e3' : (a != 0) = false := by rw [e3]; rfl
            have HX : Hid (nst l (j + 1) = some (x, y)) := by
              show nst l (j + 1) = _
              rw [HStep.out, if_neg (by omega), if_neg (fun q => q.1 e3), if_neg (fun q => q.1 e3)]
            go_wp2_with fail
            go_roundw
            case rel => exact ⟨j + 1, _, _, by omega, rfl, rfl, by go_num, by simp, (HX.out), by omega, by omega, by omega, by omega⟩
            case measure => simp [intOf]; omega
          · have e3' : (a != 0) = true := by rw [bne_iff_ne]; exact e3
            by_cases e4 : 0 ≤ y
            · have HF : Hid (numV l = -1) := nst_4 hlt ((HStep.out).trans (if_pos (by exact .inr (.inr ⟨e3, e4⟩))))
              go_wp2_with fail
              go_ret
              exact ⟨by rw [HF.out]; rfl, Below.refl _ _⟩
            · by_cases e5 : 0 ≤ x
              · have HX : Hid (nst l (j + 1) = some (x, (j : Int))) := by
                  show nst l (j + 1) = _
                  rw [HStep.out, if_neg (by omega), if_neg (fun q => by omega), if_pos ⟨e3, e5⟩]
                go_wp2_with fail
                go_roundw
                case rel => exact ⟨j + 1, _, _, by omega, rfl, rfl, by go_num, by simp, (HX.out), by omega, by omega, by omega, by omega⟩
                case measure => simp [intOf]; omega
              · have HX : Hid (nst l (j + 1) = some ((j : Int), y)) := by
                  show nst l (j + 1) = _
                  rw [HStep.out, if_neg (by omega), if_pos ⟨e3, by omega⟩, if_neg (fun q => by omega)]
                go_wp2_with fail
                go_roundw
                case rel => exact ⟨j + 1, _, _, by omega, rfl, rfl, by go_num, by simp, (HX.out), by omega, by omega, by omega, by omega⟩
                case measure => simp [intOf]; omega
    · have hj4 : j = 4 := by omega
      subst hj4
      have HN : Hid (numV l = _) := numV_of HR.out
      by_cases e1 : x < 0
      · have HF : Hid (numV l = -1) := HN.out.trans (if_pos e1)
        go_wp2_with fail
        go_ret
        exact ⟨by rw [HF.out]; rfl, Below.refl _ _⟩
      · by_cases e2 : y < 0
        · rcases (show x = 0 ∨ x = 1 ∨ x = 2 ∨ x = 3 by omega) with rfl | rfl | rfl | rfl
          · have cx := HC.out 0 (by omega)
            have hb := hv 0 (by omega)
            have HF : Hid (numV l = 2 * 0 + (1 - gAt l 0).tdiv 2) := HN.out.trans ((if_neg (by omega)).trans (if_pos e2))
            try rw [Nat.add_zero] at cx
            generalize gAt l 0 = a at *
            have ta := tdiv2_le (1 - a)
            go_wp2_with fail
            go_ret
            exact ⟨by rw [HF.out]; exact ret_eq (by omega), Below.refl _ _⟩
          · have cx := HC.out 1 (by omega)
            have hb := hv 1 (by omega)
            have HF : Hid (numV l = 2 * 1 + (1 - gAt l 1).tdiv 2) := HN.out.trans ((if_neg (by omega)).trans (if_pos e2))
            try rw [Nat.add_zero] at cx
            generalize gAt l 1 = a at *
            have ta := tdiv2_le (1 - a)
            go_wp2_with fail
            go_ret
            exact ⟨by rw [HF.out]; exact ret_eq (by omega), Below.refl _ _⟩
          · have cx := HC.out 2 (by omega)
            have hb := hv 2 (by omega)
            have HF : Hid (numV l = 2 * 2 + (1 - gAt l 2).tdiv 2) := HN.out.trans ((if_neg (by omega)).trans (if_pos e2))
            try rw [Nat.add_zero] at cx
            generalize gAt l 2 = a at *
            have ta := tdiv2_le (1 - a)
            go_wp2_with fail
            go_ret
            exact ⟨by rw [HF.out]; exact ret_eq (by omega), Below.refl _ _⟩
          · have cx := HC.out 3 (by omega)
            have hb := hv 3 (by omega)
            have HF : Hid (numV l = 2 * 3 + (1 - gAt l 3).tdiv 2) := HN.out.trans ((if_neg (by omega)).trans (if_pos e2))
            try rw [Nat.add_zero] at cx
            generalize gAt l 3 = a at *
            have ta := tdiv2_le (1 - a)
            go_wp2_with fail
            go_ret
            exact ⟨by rw [HF.out]; exact ret_eq (by omega), Below.refl _ _⟩
        · rcases (show x = 0 ∨ x = 1 ∨ x = 2 ∨ x = 3 by omega) with rfl | rfl | rfl | rfl
          · rcases (show y = 0 ∨ y = 1 ∨ y = 2 ∨ y = 3 by omega) with rfl | rfl | rfl | rfl
            · have cx := HC.out 0 (by omega)
              have hb := hv 0 (by omega)
              have cy := HC.out 0 (by omega)
              have hc := hv 0 (by omega)
              have HF : Hid (numV l = 8 + 4 * (-1) + (1 - gAt l 0).tdiv 2 * 2 + (1 - gAt l 0).tdiv 2) := HN.out.trans ((if_neg (by omega)).trans (if_neg (by omega)))
              try rw [Nat.add_zero] at cx
              try rw [Nat.add_zero] at cy
              generalize gAt l 0 = a at *
              generalize gAt l 0 = c at *
              have ta := tdiv2_le (1 - a)
              have tc := tdiv2_le (1 - c)
              go_wp2_with fail
              go_quiet (fail)
              go_wp2_with fail
              go_ret
              exact ⟨by rw [HF.out]; exact ret_eq (by omega), below_drewN (Below.refl _ _) _⟩
            · have cx := HC.out 0 (by omega)
              have hb := hv 0 (by omega)
              have cy := HC.out 1 (by omega)
              have hc := hv 1 (by omega)
              have HF : Hid (numV l = 8 + 4 * (0) + (1 - gAt l 0).tdiv 2 * 2 + (1 - gAt l 1).tdiv 2) := HN.out.trans ((if_neg (by omega)).trans (if_neg (by omega)))
              try rw [Nat.add_zero] at cx
              try rw [Nat.add_zero] at cy
              generalize gAt l 0 = a at *
              generalize gAt l 1 = c at *
              have ta := tdiv2_le (1 - a)
              have tc := tdiv2_le (1 - c)
              go_wp2_with fail
              go_quiet (fail)
              go_wp2_with fail
              go_ret
              exact ⟨by rw [HF.out]; exact ret_eq (by omega), below_drewN (Below.refl _ _) _⟩
            · have cx := HC.out 0 (by omega)
              have hb := hv 0 (by omega)
              have cy := HC.out 2 (by omega)
              have hc := hv 2 (by omega)
              have HF : Hid (numV l = 8 + 4 * (1) + (1 - gAt l 0).tdiv 2 * 2 + (1 - gAt l 2).tdiv 2) := HN.out.trans ((if_neg (by omega)).trans (if_neg (by omega)))
              try rw [Nat.add_zero] at cx
              try rw [Nat.add_zero] at cy
              generalize gAt l 0 = a at *
              generalize gAt l 2 = c at *
              have ta := tdiv2_le (1 - a)
              have tc := tdiv2_le (1 - c)
              go_wp2_with fail
              go_quiet (fail)
              go_wp2_with fail
              go_ret
              exact ⟨by rw [HF.out]; exact ret_eq (by omega), below_drewN (Below.refl _ _) _⟩
            · have cx := HC.out 0 (by omega)
              have hb := hv 0 (by omega)
              have cy := HC.out 3 (by omega)
              have hc := hv 3 (by omega)
              have HF : Hid (numV l = 8 + 4 * (2) + (1 - gAt l 0).tdiv 2 * 2 + (1 - gAt l 3).tdiv 2) := HN.out.trans ((if_neg (by omega)).trans (if_neg (by omega)))
              try rw [Nat.add_zero] at cx
              try rw [Nat.add_zero] at cy
              generalize gAt l 0 = a at *
              generalize gAt l 3 = c at *
              have ta := tdiv2_le (1 - a)
              have tc := tdiv2_le (1 - c)
              go_wp2_with fail
              go_quiet (fail)
              go_wp2_with fail
              go_ret
              exact ⟨by rw [HF.out]; exact ret_eq (by omega), below_drewN (Below.refl _ _) _⟩
          · rcases (show y = 0 ∨ y = 1 ∨ y = 2 ∨ y = 3 by omega) with rfl | rfl | rfl | rfl
            · have cx := HC.out 1 (by omega)
              have hb := hv 1 (by omega)
              have cy := HC.out 0 (by omega)
              have hc := hv 0 (by omega)
              have HF : Hid (numV l = 8 + 4 * (1) + (1 - gAt l 1).tdiv 2 * 2 + (1 - gAt l 0).tdiv 2) := HN.out.trans ((if_neg (by omega)).trans (if_neg (by omega)))
              try rw [Nat.add_zero] at cx
              try rw [Nat.add_zero] at cy
              generalize gAt l 1 = a at *
              generalize gAt l 0 = c at *
              have ta := tdiv2_le (1 - a)
              have tc := tdiv2_le (1 - c)
              go_wp2_with fail
              go_quiet (fail)
              go_wp2_with fail
              go_ret
              exact ⟨by rw [HF.out]; exact ret_eq (by omega), below_drewN (Below.refl _ _) _⟩
            · have cx := HC.out 1 (by omega)
              have hb := hv 1 (by omega)
              have cy := HC.out 1 (by omega)
              have hc := hv 1 (by omega)
              have HF : Hid (numV l = 8 + 4 * (2) + (1 - gAt l 1).tdiv 2 * 2 + (1 - gAt l 1).tdiv 2) := HN.out.trans ((if_neg (by omega)).trans (if_neg (by omega)))
              try rw [Nat.add_zero] at cx
              try rw [Nat.add_zero] at cy
              generalize gAt l 1 = a at *
              generalize gAt l 1 = c at *
              have ta := tdiv2_le (1 - a)
              have tc := tdiv2_le (1 - c)
              go_wp2_with fail
              go_quiet (fail)
              go_wp2_with fail
              go_ret
              exact ⟨by rw [HF.out]; exact ret_eq (by omega), below_drewN (Below.refl _ _) _⟩
            · have cx := HC.out 1 (by omega)
              have hb := hv 1 (by omega)
              have cy := HC.out 2 (by omega)
              have hc := hv 2 (by omega)
              have HF : Hid (numV l = 8 + 4 * (3) + (1 - gAt l 1).tdiv 2 * 2 + (1 - gAt l 2).tdiv 2) := HN.out.trans ((if_neg (by omega)).trans (if_neg (by omega)))
              try rw [Nat.add_zero] at cx
              try rw [Nat.add_zero] at cy
              generalize gAt l 1 = a at *
              generalize gAt l 2 = c at *
              have ta := tdiv2_le (1 - a)
              have tc := tdiv2_le (1 - c)
              go_wp2_with fail
              go_quiet (fail)
              go_wp2_with fail
              go_ret
              exact ⟨by rw [HF.out]; exact ret_eq (by omega), below_drewN (Below.refl _ _) _⟩
            · have cx := HC.out 1 (by omega)
              have hb := hv 1 (by omega)
              have cy := HC.out 3 (by omega)
              have hc := hv 3 (by omega)
              have HF : Hid (numV l = 8 + 4 * (4) + (1 - gAt l 1).tdiv 2 * 2 + (1 - gAt l 3).tdiv 2) := HN.out.trans ((if_neg (by omega)).trans (if_neg (by omega)))
              try rw [Nat.add_zero] at cx
              try rw [Nat.add_zero] at cy
              generalize gAt l 1 = a at *
              generalize gAt l 3 = c at *
              have ta := tdiv2_le (1 - a)
              have tc := tdiv2_le (1 - c)
              go_wp2_with fail
              go_quiet (fail)
              go_wp2_with fail
              go_ret
              exact ⟨by rw [HF.out]; exact ret_eq (by omega), below_drewN (Below.refl _ _) _⟩
          · rcases (show y = 0 ∨ y = 1 ∨ y = 2 ∨ y = 3 by omega) with rfl | rfl | rfl | rfl
            · have cx := HC.out 2 (by omega)
              have hb := hv 2 (by omega)
              have cy := HC.out 0 (by omega)
              have hc := hv 0 (by omega)
              have HF : Hid (numV l = 8 + 4 * (2) + (1 - gAt l 2).tdiv 2 * 2 + (1 - gAt l 0).tdiv 2) := HN.out.trans ((if_neg (by omega)).trans (if_neg (by omega)))
              try rw [Nat.add_zero] at cx
              try rw [Nat.add_zero] at cy
              generalize gAt l 2 = a at *
              generalize gAt l 0 = c at *
              have ta := tdiv2_le (1 - a)
              have tc := tdiv2_le (1 - c)
              go_wp2_with fail
              go_quiet (fail)
              go_wp2_with fail
              go_ret
              exact ⟨by rw [HF.out]; exact ret_eq (by omega), below_drewN (Below.refl _ _) _⟩
            · have cx := HC.out 2 (by omega)
              have hb := hv 2 (by omega)
              have cy := HC.out 1 (by omega)
              have hc := hv 1 (by omega)
              have HF : Hid (numV l = 8 + 4 * (3) + (1 - gAt l 2).tdiv 2 * 2 + (1 - gAt l 1).tdiv 2) := HN.out.trans ((if_neg (by omega)).trans (if_neg (by omega)))
              try rw [Nat.add_zero] at cx
              try rw [Nat.add_zero] at cy
              generalize gAt l 2 = a at *
              generalize gAt l 1 = c at *
              have ta := tdiv2_le (1 - a)
              have tc := tdiv2_le (1 - c)
              go_wp2_with fail
              go_quiet (fail)
              go_wp2_with fail
              go_ret
              exact ⟨by rw [HF.out]; exact ret_eq (by omega), below_drewN (Below.refl _ _) _⟩
            · have cx := HC.out 2 (by omega)
              have hb := hv 2 (by omega)
              have cy := HC.out 2 (by omega)
              have hc := hv 2 (by omega)
              have HF : Hid (numV l = 8 + 4 * (4) + (1 - gAt l 2).tdiv 2 * 2 + (1 - gAt l 2).tdiv 2) := HN.out.trans ((if_neg (by omega)).trans (if_neg (by omega)))
              try rw [Nat.add_zero] at cx
              try rw [Nat.add_zero] at cy
              generalize gAt l 2 = a at *
              generalize gAt l 2 = c at *
              have ta := tdiv2_le (1 - a)
              have tc := tdiv2_le (1 - c)
              go_wp2_with fail
              go_quiet (fail)
              go_wp2_with fail
              go_ret
              exact ⟨by rw [HF.out]; exact ret_eq (by omega), below_drewN (Below.refl _ _) _⟩
            · have cx := HC.out 2 (by omega)
              have hb := hv 2 (by omega)
              have cy := HC.out 3 (by omega)
              have hc := hv 3 (by omega)
              have HF : Hid (numV l = 8 + 4 * (5) + (1 - gAt l 2).tdiv 2 * 2 + (1 - gAt l 3).tdiv 2) := HN.out.trans ((if_neg (by omega)).trans (if_neg (by omega)))
              try rw [Nat.add_zero] at cx
              try rw [Nat.add_zero] at cy
              generalize gAt l 2 = a at *
              generalize gAt l 3 = c at *
              have ta := tdiv2_le (1 - a)
              have tc := tdiv2_le (1 - c)
              go_wp2_with fail
              go_quiet (fail)
              go_wp2_with fail
              go_ret
              exact ⟨by rw [HF.out]; exact ret_eq (by omega), below_drewN (Below.refl _ _) _⟩
          · rcases (show y = 0 ∨ y = 1 ∨ y = 2 ∨ y = 3 by omega) with rfl | rfl | rfl | rfl
            · have cx := HC.out 3 (by omega)
              have hb := hv 3 (by omega)
              have cy := HC.out 0 (by omega)
              have hc := hv 0 (by omega)
              have HF : Hid (numV l = 8 + 4 * (2) + (1 - gAt l 3).tdiv 2 * 2 + (1 - gAt l 0).tdiv 2) := HN.out.trans ((if_neg (by omega)).trans (if_neg (by omega)))
              try rw [Nat.add_zero] at cx
              try rw [Nat.add_zero] at cy
              generalize gAt l 3 = a at *
              generalize gAt l 0 = c at *
              have ta := tdiv2_le (1 - a)
              have tc := tdiv2_le (1 - c)
              go_wp2_with fail
              go_quiet (fail)
              go_wp2_with fail
              go_ret
              exact ⟨by rw [HF.out]; exact ret_eq (by omega), below_drewN (Below.refl _ _) _⟩
            · have cx := HC.out 3 (by omega)
              have hb := hv 3 (by omega)
              have cy := HC.out 1 (by omega)
              have hc := hv 1 (by omega)
              have HF : Hid (numV l = 8 + 4 * (3) + (1 - gAt l 3).tdiv 2 * 2 + (1 - gAt l 1).tdiv 2) := HN.out.trans ((if_neg (by omega)).trans (if_neg (by omega)))
              try rw [Nat.add_zero] at cx
              try rw [Nat.add_zero] at cy
              generalize gAt l 3 = a at *
              generalize gAt l 1 = c at *
              have ta := tdiv2_le (1 - a)
              have tc := tdiv2_le (1 - c)
              go_wp2_with fail
              go_quiet (fail)
              go_wp2_with fail
              go_ret
              exact ⟨by rw [HF.out]; exact ret_eq (by omega), below_drewN (Below.refl _ _) _⟩
            · have cx := HC.out 3 (by omega)
              have hb := hv 3 (by omega)
              have cy := HC.out 2 (by omega)
              have hc := hv 2 (by omega)
              have HF : Hid (numV l = 8 + 4 * (4) + (1 - gAt l 3).tdiv 2 * 2 + (1 - gAt l 2).tdiv 2) := HN.out.trans ((if_neg (by omega)).trans (if_neg (by omega)))
              try rw [Nat.add_zero] at cx
              try rw [Nat.add_zero] at cy
              generalize gAt l 3 = a at *
              generalize gAt l 2 = c at *
              have ta := tdiv2_le (1 - a)
              have tc := tdiv2_le (1 - c)
              go_wp2_with fail
              go_quiet (fail)
              go_wp2_with fail
              go_ret
              exact ⟨by rw [HF.out]; exact ret_eq (by omega), below_drewN (Below.refl _ _) _⟩
            · have cx := HC.out 3 (by omega)
              have hb := hv 3 (by omega)
              have cy := HC.out 3 (by omega)
              have hc := hv 3 (by omega)
              have HF : Hid (numV l = 8 + 4 * (5) + (1 - gAt l 3).tdiv 2 * 2 + (1 - gAt l 3).tdiv 2) := HN.out.trans ((if_neg (by omega)).trans (if_neg (by omega)))
              try rw [Nat.add_zero] at cx
              try rw [Nat.add_zero] at cy
              generalize gAt l 3 = a at *
              generalize gAt l 3 = c at *
              have ta := tdiv2_le (1 - a)
              have tc := tdiv2_le (1 - c)
              go_wp2_with fail
              go_quiet (fail)
              go_wp2_with fail
              go_ret
              exact ⟨by rw [HF.out]; exact ret_eq (by omega), below_drewN (Below.refl _ _) _⟩

end Go.Proofs.YtffjklakdnfeiaaDoor

