import Derived.Test.YtffajooegiempaaDoorJ3
/- The document's rounds come to what the program comes to. No Go in here. -/
namespace Go.Proofs.YtffajooegiempaaDoor

theorem fol1 {f g : Nat} {c : Int} (h : kdT f g = 1) : (c < 0 → folV (vadd f g) c = (-2, 0)) ∧ (¬ c < 0 → folV (vadd f g) c = (-1, 0)) := by
  have h' : kd (vadd f g) = 1 := h
  unfold folV
  rw [h']
  exact ⟨fun q => if_pos ⟨rfl, q⟩, fun q => by rw [if_neg (fun z => q z.2), if_neg (by decide), if_neg (by decide)]⟩
theorem fol2 {f g : Nat} {c : Int} (hf : f < 32) (hg : g < 32) (h : kdT f g = 2) : folV (vadd f g) c = ((nmT f g : Int), c / 2) := by
  have h' : kd (vadd f g) = 2 := h
  unfold folV
  rw [h', if_neg (fun z => absurd z.1 (by decide)), if_pos rfl, ((nm_ok f hf g hg).1 h).1]
theorem fol3 {f g : Nat} {c : Int} (hf : f < 32) (hg : g < 32) (h : kdT f g = 3) : folV (vadd f g) c = ((nmT f g : Int), c) := by
  have h' : kd (vadd f g) = 3 := h
  unfold folV
  rw [h', if_neg (fun z => absurd z.1 (by decide)), if_neg (by decide), if_pos rfl, ((nm_ok f hf g hg).2 h).1]
theorem fol0 {f g : Nat} {c : Int} (h1 : kdT f g ≠ 1) (h2 : kdT f g ≠ 2) (h3 : kdT f g ≠ 3) : folV (vadd f g) c = (-1, 0) := by
  unfold folV
  rw [if_neg (fun z => h1 z.1), if_neg (show ¬ kd (vadd f g) = 2 from h2), if_neg (show ¬ kd (vadd f g) = 3 from h3)]

/-- One step of a round. -/
def rs1 (R : Nat → Int) (b : Bool) (f g : Nat) : Option ((Nat → Int) × Bool) :=
  if R f = NB ∨ R g = NB then some (R, b)
  else if (folV (vadd f g) (R f + R g)).1 = -2 then none
  else if 0 ≤ (folV (vadd f g) (R f + R g)).1 ∧ (folV (vadd f g) (R f + R g)).2 < R (folV (vadd f g) (R f + R g)).1.toNat then some (upd R (folV (vadd f g) (R f + R g)).1.toNat (folV (vadd f g) (R f + R g)).2, true)
  else some (R, b)
def rF (R : Nat → Int) : Nat → Option ((Nat → Int) × Bool)
  | 0 => some (R, false)
  | k + 1 => match rF R k with
    | none => none
    | some (R', b) => rs1 R' b (k / 32) (k % 32)
/-- What a step does, by what two forms come to. -/
inductive Rs (R : Nat → Int) (b : Bool) (f g : Nat) : Option ((Nat → Int) × Bool) → Prop
  | none : R f ≠ NB → R g ≠ NB → kdT f g = 1 → R f + R g < 0 → Rs R b f g none
  | same : (R f ≠ NB → R g ≠ NB → (kdT f g = 1 → 0 ≤ R f + R g) ∧ (kdT f g = 2 → R (nmT f g) ≤ (R f + R g) / 2) ∧ (kdT f g = 3 → R (nmT f g) ≤ R f + R g)) → Rs R b f g (some (R, b))
  | put (n : Nat) (c : Int) : R f ≠ NB → R g ≠ NB → n < 32 → n = nmT f g → c < R n → (kdT f g = 2 ∧ c = (R f + R g) / 2) ∨ (kdT f g = 3 ∧ c = R f + R g) → Rs R b f g (some (upd R n c, true))
theorem rs1_is (R : Nat → Int) (b : Bool) {f g : Nat} (hf : f < 32) (hg : g < 32) : Rs R b f g (rs1 R b f g) := by
  unfold rs1
  by_cases q : R f = NB ∨ R g = NB
  · rw [if_pos q]
    exact .same fun h1 h2 => absurd q (fun z => z.elim h1 h2)
  · rw [if_neg q]
    have q1 : R f ≠ NB := fun z => q (.inl z)
    have q2 : R g ≠ NB := fun z => q (.inr z)
    by_cases k1 : kdT f g = 1
    · by_cases c : R f + R g < 0
      · rw [(fol1 k1).1 c, if_pos rfl]
        exact .none q1 q2 k1 c
      · rw [(fol1 k1).2 c, if_neg (by decide), if_neg (fun z => absurd z.1 (by decide))]
        exact .same fun _ _ => ⟨fun _ => by omega, fun z => absurd (k1.symm.trans z) (by decide), fun z => absurd (k1.symm.trans z) (by decide)⟩
    · by_cases k2 : kdT f g = 2
      · rw [fol2 hf hg k2, if_neg (by show ¬ ((nmT f g : Nat) : Int) = -2; omega)]
        show Rs R b f g (if 0 ≤ ((nmT f g : Nat) : Int) ∧ (R f + R g) / 2 < R (((nmT f g : Nat) : Int)).toNat then some (upd R (((nmT f g : Nat) : Int)).toNat ((R f + R g) / 2), true) else some (R, b))
        rw [Int.toNat_natCast]
        by_cases c : (R f + R g) / 2 < R (nmT f g)
        · rw [if_pos ⟨by omega, c⟩]
          exact .put _ _ q1 q2 (by have := ((nm_ok f hf g hg).1 k2).2; omega) rfl c (.inl ⟨k2, rfl⟩)
        · rw [if_neg (fun z => c z.2)]
          exact .same fun _ _ => ⟨fun z => absurd z k1, fun _ => by omega, fun z => absurd (k2.symm.trans z) (by decide)⟩
      · by_cases k3 : kdT f g = 3
        · rw [fol3 hf hg k3, if_neg (by show ¬ ((nmT f g : Nat) : Int) = -2; omega)]
          show Rs R b f g (if 0 ≤ ((nmT f g : Nat) : Int) ∧ (R f + R g) < R (((nmT f g : Nat) : Int)).toNat then some (upd R (((nmT f g : Nat) : Int)).toNat (R f + R g), true) else some (R, b))
          rw [Int.toNat_natCast]
          by_cases c : R f + R g < R (nmT f g)
          · rw [if_pos ⟨by omega, c⟩]
            exact .put _ _ q1 q2 ((nm_ok f hf g hg).2 k3).2 rfl c (.inr ⟨k3, rfl⟩)
          · rw [if_neg (fun z => c z.2)]
            exact .same fun _ _ => ⟨fun z => absurd z k1, fun z => absurd (k3.symm.trans z) (by decide), fun _ => by omega⟩
        · rw [fol0 k1 k2 k3, if_neg (by decide), if_neg (fun z => absurd z.1 (by decide))]
          exact .same fun _ _ => ⟨fun z => absurd z k1, fun z => absurd z k2, fun z => absurd z k3⟩

/-- What stands when part of a round is done. -/
structure RI (R : Nat → Int) (k : Nat) (R' : Nat → Int) (b : Bool) : Prop where
  le : ∀ f, f < 32 → R' f ≤ R f
  same : b = false → ∀ f, f < 32 → R' f = R f
  more : b = true → ∃ f, f < 32 ∧ R' f < R f
  done : ∀ m, m < k → R (m / 32) ≠ NB → R (m % 32) ≠ NB → (kdT (m / 32) (m % 32) = 1 → 0 ≤ R (m / 32) + R (m % 32)) ∧ (kdT (m / 32) (m % 32) = 2 → R' (nmT (m / 32) (m % 32)) ≤ (R (m / 32) + R (m % 32)) / 2) ∧ (kdT (m / 32) (m % 32) = 3 → R' (nmT (m / 32) (m % 32)) ≤ R (m / 32) + R (m % 32))
theorem nm_lt {f g : Nat} (hf : f < 32) (hg : g < 32) (h : kdT f g = 2 ∨ kdT f g = 3) : nmT f g < 32 := by
  rcases h with h | h
  · have := ((nm_ok f hf g hg).1 h).2; omega
  · exact ((nm_ok f hf g hg).2 h).2
theorem rF_inv {R : Nat → Int} (hR : ∀ f, f < 32 → R f ≤ NB) : ∀ k, k ≤ 1024 → ∀ R' b, rF R k = some (R', b) → RI R k R' b := by
  intro k
  induction k with
  | zero =>
    intro _ R' b h
    rw [rF] at h
    cases h
    exact ⟨fun _ _ => Int.le_refl _, fun _ _ _ => rfl, fun q => Bool.noConfusion q, fun m hm => by omega⟩
  | succ k ih =>
    intro hk R' b h
    rw [rF] at h
    generalize hp : rF R k = p at h
    match p, hp, h with
    | some (R1, b1), hp, h =>
      have hi := ih (by omega) R1 b1 hp
      have hf : k / 32 < 32 := by omega
      have hg : k % 32 < 32 := by omega
      have s := rs1_is R1 b1 hf hg
      replace h : rs1 R1 b1 (k / 32) (k % 32) = some (R', b) := h
      rw [h] at s
      have fin : ∀ f, f < 32 → R f ≠ NB → R1 f ≠ NB := by
        intro f hf q
        have := hR f hf
        have := hi.le f hf
        omega
      cases s with
      | same hs =>
        refine ⟨hi.le, hi.same, hi.more, fun m hm q1 q2 => ?_⟩
        rcases Nat.lt_or_eq_of_le (Nat.lt_succ_iff.1 hm) with e | e
        · exact hi.done m e q1 q2
        · subst e
          obtain ⟨a1, a2, a3⟩ := hs (fin _ hf q1) (fin _ hg q2)
          have l1 := hi.le _ hf
          have l2 := hi.le _ hg
          exact ⟨fun z => by have := a1 z; omega, fun z => by have := a2 z; omega, fun z => by have := a3 z; omega⟩
      | put n c q1 q2 hn en hc hk' =>
        have le' : ∀ f, f < 32 → upd R1 n c f ≤ R1 f := by
          intro f hf
          unfold upd
          split
          · rename_i e; subst e; omega
          · exact Int.le_refl _
        refine ⟨fun f hf => Int.le_trans (le' f hf) (hi.le f hf), fun q => Bool.noConfusion q, fun _ => ⟨n, hn, ?_⟩, fun m hm w1 w2 => ?_⟩
        · rw [upd_same]
          have := hi.le n hn
          omega
        · rcases Nat.lt_or_eq_of_le (Nat.lt_succ_iff.1 hm) with e | e
          · obtain ⟨a1, a2, a3⟩ := hi.done m e w1 w2
            refine ⟨a1, fun z => ?_, fun z => ?_⟩
            · exact Int.le_trans (le' _ (nm_lt (by omega) (by omega) (.inl z))) (a2 z)
            · exact Int.le_trans (le' _ (nm_lt (by omega) (by omega) (.inr z))) (a3 z)
          · subst e
            have l1 := hi.le _ hf
            have l2 := hi.le _ hg
            rw [← en, upd_same]
            rcases hk' with ⟨k2, ec⟩ | ⟨k3, ec⟩
            · exact ⟨fun z => absurd (k2.symm.trans z) (by decide), fun _ => by omega, fun z => absurd (k2.symm.trans z) (by decide)⟩
            · exact ⟨fun z => absurd (k3.symm.trans z) (by decide), fun z => absurd (k3.symm.trans z) (by decide), fun _ => by omega⟩
theorem rF_rd {R R' : Nat → Int} {b : Bool} (hR : ∀ f, f < 32 → R f ≤ NB) (h : rF R 1024 = some (R', b)) : RdO R R' := by
  have hi := rF_inv hR 1024 (Nat.le_refl _) R' b h
  have hd : ∀ f g, f < 32 → g < 32 → R f ≠ NB → R g ≠ NB → (kdT f g = 1 → 0 ≤ R f + R g) ∧ (kdT f g = 2 → R' (nmT f g) ≤ (R f + R g) / 2) ∧ (kdT f g = 3 → R' (nmT f g) ≤ R f + R g) := by
    intro f g hf hg
    have := hi.done (f * 32 + g) (by omega)
    rw [show (f * 32 + g) / 32 = f by omega, show (f * 32 + g) % 32 = g by omega] at this
    exact this
  exact ⟨hi.le, fun f g hf hg k q1 q2 => (hd f g hf hg q1 q2).1 k, fun f g hf hg k q1 q2 => (hd f g hf hg q1 q2).2.1 k, fun f g hf hg k q1 q2 => (hd f g hf hg q1 q2).2.2 k⟩

/- Seventeen rounds. -/
theorem Raw.rounds {M : Nat → Int} (h : Raw M) {R : Nat → Nat → Int} (hr : ∀ r, r < 16 → RdO (R r) (R (r + 1))) (h0 : Un (R 0) M) : ∀ s, s ≤ 8 → Ex M s ∧ Un (R (2 * s)) (fw M s) := by
  intro s
  induction s with
  | zero => intro _; exact ⟨fun r hr => by omega, h0⟩
  | succ s ih =>
    intro hs
    obtain ⟨hx, hu⟩ := ih (by omega)
    have hz : fw M s (s * 8 + opp s) = 0 := by
      have a := hu.zer s (by omega)
      have b := fw_le M s (s * 8 + opp s)
      rw [h.zero s (by omega)] at b
      omega
    refine ⟨fun r hr => ?_, ?_⟩
    · rcases Nat.lt_or_eq_of_le (Nat.lt_succ_iff.1 hr) with e | e
      · exact hx r e
      · rw [e]; exact hz
    · rw [fw, show 2 * (s + 1) = 2 * s + 1 + 1 by omega]
      exact hu.chain (by omega) (U := 7 * 60000) (by decide) (by decide) (fw_bd (by decide) (by decide) h.bd h.zero s (by omega) hx) hz (hr (2 * s) (by omega)) (hr (2 * s + 1) (by omega))
theorem Un.sharp {R R' T : Nat → Int} (hB : Bd 432000 T) (h : Un R T) (hr : RdO R R') : Un R' (ahF (rdF T 8) 64) := by
  have sh : ∀ {i j : Nat}, i < 8 → j < 8 → ShAt T (ahF (rdF T 8) 64 (i * 8 + j)) i j := fun hi hj => sh_at (U := 432000) (by omega) hB hi hj
  generalize ahF (rdF T 8) 64 = C at sh ⊢
  have h' := h.rd hr
  have one : ∀ i, i < 8 → ev (T (i * 8 + i)) ≠ NB → R i ≠ NB ∧ 2 * R i ≤ ev (T (i * 8 + i)) := by
    intro i hi q
    obtain ⟨k1, k2⟩ := ev_fin q
    have a := h.dia i hi k1
    have b := (hB (i * 8 + i) (by omega)).resolve_left k1
    rw [k2]
    exact ⟨by unfold NB; omega, by omega⟩
  refine ⟨fun i hi q => ?_, fun i j hi hj e1 e2 q => ?_, fun i hi => ?_⟩
  · rw [sh_dia (sh hi hi)] at q ⊢
    have := (one i hi q).2
    have := hr.le i (by omega)
    omega
  · rcases (sh hi hj).cas with z | ⟨_, z2, z3⟩ | ⟨z1, z2, z3⟩
    · exact absurd z q
    · rw [z2]; exact h'.off i j hi hj e1 e2 z3
    · obtain ⟨a1, a2⟩ := one i hi z1
      obtain ⟨b1, b2⟩ := one j hj z2
      have t := (tab3 i hi j hj).2 ⟨fun e => e1 e.symm, e2⟩
      have x := hr.sum i j (by omega) (by omega) t.1 a1 b1
      rw [t.2] at x
      omega
  · rcases (sh hi (opp_lt hi)).cas with z | ⟨_, z2, z3⟩ | ⟨z1, z2, z3⟩
    · rw [z]; decide
    · rw [z2]; exact h.zer i hi
    · obtain ⟨a1, a2⟩ := one i hi z1
      obtain ⟨b1, b2⟩ := one (opp i) (opp_lt hi) z2
      have x := hr.zer i (opp i) (by omega) (by have := opp_lt hi; omega) ((tab3 i hi (opp i) (opp_lt hi)).1 rfl) a1 b1
      omega
theorem Raw.rounds17 {M : Nat → Int} (h : Raw M) {R : Nat → Nat → Int} (hr : ∀ r, r < 17 → RdO (R r) (R (r + 1))) (h0 : Un (R 0) M) : Un (R 17) (sharp M) := by
  obtain ⟨hx, hu⟩ := h.rounds (fun r hr' => hr r (by omega)) h0 8 (Nat.le_refl _)
  exact hu.sharp ((fw_bd (by decide) (by decide) h.bd h.zero 8 (Nat.le_refl _) hx).mono (by decide)) (hr 16 (by omega))

end Go.Proofs.YtffajooegiempaaDoor

/- Bounds from which nothing follows: the document's rounds stay above them. No Go in here. -/
namespace Go.Proofs.YtffajooegiempaaDoor

/-- All that two forms may come to, said by sides. -/
inductive Tab (f g : Nat) : Prop
  | no : kdT f g = 0 → Tab f g
  | z11 : f < 8 → g < 8 → g = opp f → kdT f g = 1 → Tab f g
  | d11 : f < 8 → g < 8 → g = f → kdT f g = 2 → nmT f g = f → Tab f g
  | s11 : f < 8 → g < 8 → g ≠ f → g ≠ opp f → kdT f g = 3 → nmT f g = nf f g → Tab f g
  | s12 (a b : Nat) : f < 8 → 8 ≤ g → kdT f g = 3 → (fs g = a ∧ ss g = b) ∨ (ss g = a ∧ fs g = b) → a = opp f → nmT f g = b → Tab f g
  | s21 (a b : Nat) : 8 ≤ f → g < 8 → kdT f g = 3 → (fs f = a ∧ ss f = b) ∨ (ss f = a ∧ fs f = b) → a = opp g → nmT f g = b → Tab f g
  | t22 (i p s j : Nat) : 8 ≤ f → 8 ≤ g → (fs f = i ∧ ss f = p) ∨ (ss f = i ∧ fs f = p) → (fs g = s ∧ ss g = j) ∨ (ss g = s ∧ fs g = j) → p = opp s →
      (kdT f g = 1 ∧ j = opp i) ∨ (kdT f g = 2 ∧ j = i ∧ nmT f g = i) ∨ (kdT f g = 3 ∧ j ≠ i ∧ j ≠ opp i ∧ nmT f g = nf i j) → Tab f g
theorem tab_is {f g : Nat} (hf : f < 32) (hg : g < 32) : Tab f g := by
  have h := tab_all f hf g hg
  unfold tabB at h
  simp only [Bool.or_eq_true, Bool.and_eq_true, decide_eq_true_eq, List.any_eq_true] at h
  rcases h with (((h | ⟨⟨h1, h2⟩, h3⟩) | ⟨⟨⟨h1, h2⟩, h3⟩, h4⟩) | ⟨⟨⟨h1, h2⟩, h3⟩, h4⟩) | ⟨⟨h1, h2⟩, h3⟩
  · exact .no h
  · rcases h3 with (⟨e, k⟩ | ⟨⟨e, k⟩, n⟩) | ⟨⟨⟨e1, e2⟩, k⟩, n⟩
    · exact .z11 h1 h2 e k
    · exact .d11 h1 h2 e k n
    · exact .s11 h1 h2 e1 e2 k n
  · rcases h4 with ⟨e, n⟩ | ⟨e, n⟩
    · exact .s12 (fs g) (ss g) h1 h2 h3 (.inl ⟨rfl, rfl⟩) e n
    · exact .s12 (ss g) (fs g) h1 h2 h3 (.inr ⟨rfl, rfl⟩) e n
  · rcases h4 with ⟨e, n⟩ | ⟨e, n⟩
    · exact .s21 (fs f) (ss f) h1 h2 h3 (.inl ⟨rfl, rfl⟩) e n
    · exact .s21 (ss f) (fs f) h1 h2 h3 (.inr ⟨rfl, rfl⟩) e n
  · obtain ⟨b1, _, b2, _, e, t⟩ := h3
    refine .t22 (if b1 = true then fs f else ss f) (if b1 = true then ss f else fs f) (if b2 = true then fs g else ss g) (if b2 = true then ss g else fs g) h1 h2 ?_ ?_ e ?_
    · cases b1
      · exact .inr ⟨rfl, rfl⟩
      · exact .inl ⟨rfl, rfl⟩
    · cases b2
      · exact .inr ⟨rfl, rfl⟩
      · exact .inl ⟨rfl, rfl⟩
    · rcases t with (⟨k, e⟩ | ⟨⟨k, e⟩, n⟩) | ⟨⟨⟨k, e1⟩, e2⟩, n⟩
      · exact .inl ⟨k, e⟩
      · exact .inr (.inl ⟨k, e, n⟩)
      · exact .inr (.inr ⟨k, e1, e2, n⟩)

theorem TC.lo {C : Nat → Int} (h : TC C) {f : Nat} (hf : f < 8) : (C (f * 8 + f) = NB → bd C f = NB) ∧ (C (f * 8 + f) ≠ NB → 2 * bd C f = C (f * 8 + f) ∧ bd C f ≠ NB) := by
  obtain ⟨_, _, _, _, e, _⟩ := nf_fs f (by omega)
  obtain ⟨e1, e2⟩ := e hf
  unfold bd
  rw [e1, e2]
  refine ⟨fun q => ?_, fun q => ?_⟩
  · rw [if_neg (fun z => z.2 q), q]
  · rw [if_pos ⟨rfl, q⟩]
    have := tdiv_even ((h.even f hf).resolve_left q)
    have := (h.top (f * 8 + f) (by omega)).resolve_left q
    exact ⟨by omega, by unfold NB; omega⟩
theorem bd_hi {C : Nat → Int} (hS : Sym C) {f i j : Nat} (hf : f < 32) (h8 : 8 ≤ f) (h : (fs f = i ∧ ss f = j) ∨ (ss f = i ∧ fs f = j)) : bd C f = C (i * 8 + j) ∧ i < 8 ∧ j < 8 := by
  obtain ⟨l1, l2, _, _, _, e⟩ := nf_fs f hf
  unfold bd
  rw [if_neg (fun z => e h8 z.1)]
  rcases h with ⟨a, b⟩ | ⟨a, b⟩
  · rw [← a, ← b]; exact ⟨rfl, l1, l2⟩
  · rw [← a, ← b]; exact ⟨hS _ _ l1 l2, l2, l1⟩
theorem nf_ge : ∀ i : Nat, i < 8 → ∀ j, j < 8 → (i ≠ j ∧ j ≠ opp i) → 8 ≤ nf i j := by decide +kernel
theorem bd_nf {C : Nat → Int} (hS : Sym C) {i j : Nat} (hi : i < 8) (hj : j < 8) (h1 : i ≠ j) (h2 : j ≠ opp i) : bd C (nf i j) = C (i * 8 + j) := by
  obtain ⟨a, b⟩ := nf_ok i hi j hj h2
  have g := nf_ge i hi j hj ⟨h1, h2⟩
  refine (bd_hi hS (i := i) (j := j) a g ?_).1
  rcases b with b | b
  · exact .inl b
  · exact .inr ⟨b.2, b.1⟩
theorem TC.single {C : Nat → Int} (h : TC C) {i b : Nat} (hi : i < 8) (hb : b < 8) (h1 : C (opp i * 8 + b) ≠ NB) (h2 : C (i * 8 + i) ≠ NB) : C (b * 8 + b) ≠ NB ∧ C (b * 8 + b) ≤ 2 * C (opp i * 8 + b) + C (i * 8 + i) := by
  have ho := opp_lt hi
  have a := h.tri (opp i) ho i b hi hb
  rw [opp_opp i hi] at a
  obtain ⟨a1, a2⟩ := (a.resolve_left h2).resolve_left h1
  have c := h.tri i hi b b hb hb
  rw [h.sym b (opp i) hb ho] at c
  obtain ⟨c1, c2⟩ := (c.resolve_left h1).resolve_left a1
  exact ⟨c1, by omega⟩
/-- Of bounds from which nothing follows nothing follows. -/
theorem TC.sum {C : Nat → Int} (h : TC C) {f g : Nat} (hf : f < 32) (hg : g < 32) (q1 : bd C f ≠ NB) (q2 : bd C g ≠ NB) :
    (kdT f g = 1 → 0 ≤ bd C f + bd C g) ∧ (kdT f g = 2 → 2 * bd C (nmT f g) ≤ bd C f + bd C g) ∧ (kdT f g = 3 → bd C (nmT f g) ≤ bd C f + bd C g) := by
  have lo : ∀ i, i < 8 → bd C i ≠ NB → C (i * 8 + i) ≠ NB ∧ 2 * bd C i = C (i * 8 + i) := by
    intro i hi q
    by_cases e : C (i * 8 + i) = NB
    · exact absurd ((h.lo hi).1 e) q
    · exact ⟨e, ((h.lo hi).2 e).1⟩
  cases tab_is hf hg with
  | no k => exact ⟨fun z => absurd (k.symm.trans z) (by decide), fun z => absurd (k.symm.trans z) (by decide), fun z => absurd (k.symm.trans z) (by decide)⟩
  | z11 f8 g8 e k =>
    refine ⟨fun _ => ?_, fun z => absurd (k.symm.trans z) (by decide), fun z => absurd (k.symm.trans z) (by decide)⟩
    subst e
    obtain ⟨a1, a2⟩ := lo f f8 q1
    obtain ⟨b1, b2⟩ := lo _ g8 q2
    have := (h.half f (opp f) f8 g8 a1 b1).2
    rw [h.zero f f8] at this
    omega
  | d11 f8 g8 e k n =>
    refine ⟨fun z => absurd (k.symm.trans z) (by decide), fun _ => ?_, fun z => absurd (k.symm.trans z) (by decide)⟩
    rw [n, e]
    omega
  | s11 f8 g8 e1 e2 k n =>
    refine ⟨fun z => absurd (k.symm.trans z) (by decide), fun z => absurd (k.symm.trans z) (by decide), fun _ => ?_⟩
    rw [n, bd_nf h.sym f8 g8 (fun e => e1 e.symm) e2]
    obtain ⟨a1, a2⟩ := lo f f8 q1
    obtain ⟨b1, b2⟩ := lo _ g8 q2
    have := (h.half f g f8 g8 a1 b1).2
    omega
  | s12 a b f8 g8 k s e n =>
    refine ⟨fun z => absurd (k.symm.trans z) (by decide), fun z => absurd (k.symm.trans z) (by decide), fun _ => ?_⟩
    obtain ⟨x, la, lb⟩ := bd_hi h.sym hg g8 s
    rw [x] at q2 ⊢
    rw [n]
    subst e
    obtain ⟨a1, a2⟩ := lo f f8 q1
    obtain ⟨c1, c2⟩ := h.single f8 lb q2 a1
    have := ((h.lo lb).2 c1).1
    omega
  | s21 a b f8 g8 k s e n =>
    refine ⟨fun z => absurd (k.symm.trans z) (by decide), fun z => absurd (k.symm.trans z) (by decide), fun _ => ?_⟩
    obtain ⟨x, la, lb⟩ := bd_hi h.sym hf f8 s
    rw [x] at q1 ⊢
    rw [n]
    subst e
    obtain ⟨a1, a2⟩ := lo g g8 q2
    obtain ⟨c1, c2⟩ := h.single g8 lb q1 a1
    have := ((h.lo lb).2 c1).1
    omega
  | t22 i p s j f8 g8 x y e t =>
    obtain ⟨u, li, lp⟩ := bd_hi h.sym hf f8 x
    obtain ⟨v, ls, lj⟩ := bd_hi h.sym hg g8 y
    rw [u] at q1 ⊢
    rw [v] at q2 ⊢
    subst e
    obtain ⟨c1, c2⟩ := ((h.tri s ls i j li lj).resolve_left q1).resolve_left q2
    rcases t with ⟨k, e⟩ | ⟨k, e, n⟩ | ⟨k, e1, e2, n⟩
    · refine ⟨fun _ => ?_, fun z => absurd (k.symm.trans z) (by decide), fun z => absurd (k.symm.trans z) (by decide)⟩
      rw [e, h.zero i li] at c2
      rw [e]
      exact c2
    · refine ⟨fun z => absurd (k.symm.trans z) (by decide), fun _ => ?_, fun z => absurd (k.symm.trans z) (by decide)⟩
      rw [n]
      rw [e] at c1 c2 ⊢
      have := ((h.lo li).2 c1).1
      omega
    · refine ⟨fun z => absurd (k.symm.trans z) (by decide), fun z => absurd (k.symm.trans z) (by decide), fun _ => ?_⟩
      rw [n, bd_nf h.sym li lj (fun z => e1 z.symm) e2]
      exact c2

/-- The bounds stay above. -/
def Ab (C R : Nat → Int) : Prop := ∀ f, f < 32 → bd C f ≤ R f
theorem rs1_ab {C R : Nat → Int} (h : TC C) (hA : Ab C R) (hR : ∀ f, f < 32 → R f ≤ NB) (b : Bool) {f g : Nat} (hf : f < 32) (hg : g < 32) : ∃ R' b', rs1 R b f g = some (R', b') ∧ Ab C R' ∧ ∀ f, f < 32 → R' f ≤ NB := by
  have s := rs1_is R b hf hg
  generalize rs1 R b f g = o at s
  have fin : ∀ f, f < 32 → R f ≠ NB → bd C f ≠ NB := by
    intro f hf q
    have := hA f hf
    have := hR f hf
    omega
  cases s with
  | none q1 q2 k c =>
    exfalso
    have := (h.sum hf hg (fin f hf q1) (fin g hg q2)).1 k
    have := hA f hf
    have := hA g hg
    omega
  | same _ => exact ⟨R, b, rfl, hA, hR⟩
  | put n c q1 q2 hn en hc hk =>
    refine ⟨upd R n c, true, rfl, fun x hx => ?_, fun x hx => ?_⟩
    · unfold upd
      split
      · rename_i e
        subst e
        have a1 := hA f hf
        have a2 := hA g hg
        have hs := h.sum hf hg (fin f hf q1) (fin g hg q2)
        rw [← en] at hs
        rcases hk with ⟨k, e⟩ | ⟨k, e⟩
        · have := hs.2.1 k; omega
        · have := hs.2.2 k; omega
      · exact hA x hx
    · unfold upd
      split
      · rename_i e
        subst e
        have := hR x hx
        omega
      · exact hR x hx
theorem rF_ab {C R : Nat → Int} (h : TC C) (hA : Ab C R) (hR : ∀ f, f < 32 → R f ≤ NB) : ∀ k, k ≤ 1024 → ∃ R' b', rF R k = some (R', b') ∧ Ab C R' ∧ ∀ f, f < 32 → R' f ≤ NB := by
  intro k
  induction k with
  | zero => intro _; exact ⟨R, false, rfl, hA, hR⟩
  | succ k ih =>
    intro hk
    obtain ⟨R1, b1, e, h1, h2⟩ := ih (by omega)
    rw [rF, e]
    exact rs1_ab h h1 h2 b1 (by omega) (by omega)

/-- Rounds, one after the other. -/
def rnd (R : Nat → Int) : Option ((Nat → Int) × Bool) := rF R 1024
def itF (R : Nat → Int) : Nat → Option (Nat → Int)
  | 0 => some R
  | n + 1 => match itF R n with
    | none => none
    | some R' => (rnd R').map fun x => x.1
theorem itF_none {R : Nat → Int} {n : Nat} (h : itF R n = none) : ∀ k, itF R (n + k) = none
  | 0 => h
  | k + 1 => by
    show (match itF R (n + k) with | none => none | some R' => (rnd R').map fun x => x.1) = none
    rw [itF_none h k]
theorem itF_succ {R R' : Nat → Int} {n : Nat} (h : itF R (n + 1) = some R') : ∃ R1 b, itF R n = some R1 ∧ rnd R1 = some (R', b) := by
  rw [itF] at h
  cases e : itF R n with
  | none => rw [e] at h; cases h
  | some R1 =>
    rw [e] at h
    cases e2 : rnd R1 with
    | none =>
      replace h : (rnd R1).map (fun x => x.1) = some R' := h
      rw [e2] at h; cases h
    | some x =>
      replace h : (rnd R1).map (fun x => x.1) = some R' := h
      rw [e2] at h
      obtain ⟨R2, b⟩ := x
      have : R2 = R' := Option.some.inj h
      subst this
      exact ⟨R1, b, rfl, e2⟩
theorem itF_hi {R : Nat → Int} (hR : ∀ f, f < 32 → R f ≤ NB) : ∀ n R', itF R n = some R' → ∀ f, f < 32 → R' f ≤ NB := by
  intro n
  induction n with
  | zero => intro R' h; cases h; exact hR
  | succ n ih =>
    intro R' h f hf
    obtain ⟨R1, b, e, e2⟩ := itF_succ h
    have h1 := ih R1 e
    exact Int.le_trans ((rF_inv h1 1024 (Nat.le_refl _) _ b e2).le f hf) (h1 f hf)
theorem itF_rd {R : Nat → Int} (hR : ∀ f, f < 32 → R f ≤ NB) {n : Nat} {R1 R2 : Nat → Int} (h1 : itF R n = some R1) (h2 : itF R (n + 1) = some R2) : RdO R1 R2 := by
  obtain ⟨R3, b, e, e2⟩ := itF_succ h2
  rw [h1] at e
  have : R1 = R3 := Option.some.inj e
  subst this
  exact rF_rd (itF_hi hR n R1 h1) e2
theorem itF_un {M R R' : Nat → Int} (h : Raw M) (hR : ∀ f, f < 32 → R f ≤ NB) (h0 : Un R M) (h1 : itF R 17 = some R') : Un R' (sharp M) := by
  have hs : ∀ n, n ≤ 17 → ∃ R1, itF R n = some R1 := by
    intro n hn
    cases e : itF R n with
    | some R1 => exact ⟨R1, rfl⟩
    | none =>
      have := itF_none e (17 - n)
      rw [show n + (17 - n) = 17 by omega, h1] at this
      cases this
  have hx : ∀ n, n ≤ 17 → itF R n = some ((itF R n).getD R) := by
    intro n hn
    obtain ⟨R1, e⟩ := hs n hn
    rw [e]; rfl
  have r17 := h.rounds17 (R := fun n => (itF R n).getD R) (fun r hr => itF_rd hR (hx r (by omega)) (hx (r + 1) (by omega))) h0
  have e : (itF R 17).getD R = R' := by rw [h1]; rfl
  rw [← e]
  exact r17
/-- Where there is no state the rounds end with none. -/
theorem itF_empty {M R : Nat → Int} (h : Raw M) (hR : ∀ f, f < 32 → R f ≤ NB) (h0 : Un R M) (hc : conF (sharp M) 8 = true) : itF R 17 = none := by
  cases e : itF R 17 with
  | none => rfl
  | some R' =>
    obtain ⟨i, hi, q⟩ := conF_true hc
    have := (itF_un h hR h0 e).zer i hi
    omega
theorem Un.eqs {C R : Nat → Int} (hT : TC C) (h : Un R C) (hA : Ab C R) (hR : ∀ f, f < 32 → R f ≤ NB) : ∀ f, f < 32 → R f = bd C f := by
  intro f hf
  have a := hA f hf
  by_cases q : bd C f = NB
  · have := hR f hf
    omega
  · obtain ⟨l1, l2, e, e2, e3, e4⟩ := nf_fs f hf
    by_cases f8 : f < 8
    · have q' : C (f * 8 + f) ≠ NB := fun z => q ((hT.lo f8).1 z)
      have := h.dia f f8 q'
      have := ((hT.lo f8).2 q').1
      omega
    · have b := bd_hi hT.sym hf (by omega) (.inl ⟨rfl, rfl⟩)
      rw [b.1] at q a ⊢
      have := h.off (fs f) (ss f) l1 l2 (e4 (by omega)) e2 q
      rw [e] at this
      omega
/-- Where there are states: no round finds none, and one that changes nothing has come to the program's bounds; the eighteenth does. -/
theorem itF_ab {C R : Nat → Int} (h : TC C) (hR : ∀ f, f < 32 → R f ≤ NB) (hA : Ab C R) : ∀ n, ∃ R', itF R n = some R' ∧ Ab C R' ∧ ∀ f, f < 32 → R' f ≤ NB := by
  intro n
  induction n with
  | zero => exact ⟨R, rfl, hA, hR⟩
  | succ n ih =>
    obtain ⟨R1, e, h1, h2⟩ := ih
    obtain ⟨R2, b, e2, h3, h4⟩ := rF_ab h h1 h2 1024 (Nat.le_refl _)
    exact ⟨R2, by rw [itF, e]; show (rnd R1).map _ = _; rw [show rnd R1 = some (R2, b) from e2]; rfl, h3, h4⟩
theorem itF_17 {M R R' : Nat → Int} {b : Bool} (h : Raw M) (hR : ∀ f, f < 32 → R f ≤ NB) (h0 : Un R M) (hA : Ab (sharp M) R) (hc : conF (sharp M) 8 = false) {R1 : Nat → Int} (h1 : itF R 17 = some R1) (h2 : rnd R1 = some (R', b)) : b = false := by
  have hT := h.tc hc
  obtain ⟨R3, e3, a3, hi3⟩ := itF_ab hT hR hA 17
  rw [h1] at e3
  cases e3
  have eq := (itF_un h hR h0 h1).eqs hT a3 hi3
  cases b with
  | false => rfl
  | true =>
    obtain ⟨f, hf, l⟩ := (rF_inv hi3 1024 (Nat.le_refl _) R' true h2).more rfl
    obtain ⟨R4, b4, e4, a4, _⟩ := rF_ab hT a3 hi3 1024 (Nat.le_refl _)
    have e5 : (R', true) = (R4, b4) := Option.some.inj (h2.symm.trans e4)
    cases e5
    have := a4 f hf
    rw [eq f hf] at l
    omega
theorem RdO.un {M R : Nat → Int} (h : Raw M) (hr : RdO R R) (h0 : Un R M) : Un R (sharp M) := h.rounds17 (R := fun _ => R) (fun _ _ => hr) h0

end Go.Proofs.YtffajooegiempaaDoor

/- A list of bounds: where the program and the document start. No Go in here. -/
namespace Go.Proofs.YtffajooegiempaaDoor

theorem lay_nf (l : List Int) {i j : Nat} (hi : i < 8) (hj : j < 8) (h : j ≠ opp i) : lay l 32 (i * 8 + j) = bv l (nf i j) := by
  obtain ⟨a, b⟩ := nf_ok i hi j hj h
  have c := lay_form l (nf i j) a
  rcases b with ⟨b1, b2⟩ | ⟨b1, b2⟩
  · rw [b1, b2] at c; exact c.1
  · rw [b1, b2] at c; exact c.2
theorem bv_lo (l : List Int) {i : Nat} (hi : i < 8) : (l.getD i 0 = NB → bv l i = NB) ∧ (l.getD i 0 ≠ NB → bv l i = 2 * l.getD i 0) := by
  obtain ⟨_, _, _, _, e, _⟩ := nf_fs i (by omega)
  obtain ⟨e1, e2⟩ := e hi
  unfold bv
  rw [e1, e2]
  exact ⟨fun q => by rw [if_neg (fun z => z.2 q), q], fun q => if_pos ⟨rfl, q⟩⟩
theorem bv_hi (l : List Int) {i j : Nat} (hi : i < 8) (hj : j < 8) (h1 : i ≠ j) (h2 : j ≠ opp i) : bv l (nf i j) = l.getD (nf i j) 0 := by
  obtain ⟨_, _, _, _, _, e⟩ := nf_fs (nf i j) (nf_ok i hi j hj h2).1
  unfold bv
  rw [if_neg (fun z => e (nf_ge i hi j hj ⟨h1, h2⟩) z.1)]
theorem isB_or {n : Int} (h : isB n = true) : n = NB ∨ (-4000 ≤ n ∧ n ≤ 4000) := of_decide_eq_true h
theorem bd_lay {l : List Int} (hl : okL l) : Bd 8000 (lay l 32) := by
  have hz := lay_opp l
  intro a ha
  have hi : a / 8 < 8 := by omega
  have hj : a % 8 < 8 := by omega
  rw [show a = a / 8 * 8 + a % 8 by omega]
  generalize a / 8 = i at hi
  generalize a % 8 = j at hj
  by_cases e : j = opp i
  · rw [e, hz i hi]; exact .inr (by decide)
  · by_cases hn : i = j
    · subst hn
      have q := isB_or (hl.2 i (by omega))
      rw [lay_nf l hi hi (fun e => opp_ne i e.symm), nf_self]
      have b := bv_lo l hi
      by_cases e : l.getD i 0 = NB
      · exact .inl (b.1 e)
      · rw [b.2 e]
        have := q.resolve_left e
        exact .inr (by omega)
    · have q := isB_or (hl.2 (nf i j) (nf_ok i hi j hj e).1)
      rw [lay_nf l hi hj e, bv_hi l hi hj hn e]
      rcases q with q | q
      · exact .inl q
      · exact .inr (by omega)
theorem raw_lay {l : List Int} (hl : okL l) : Raw (lay l 32) := by
  have hz := lay_opp l
  refine ⟨(bd_lay hl).mono (by decide), fun i j hi hj => ?_, hz⟩
  by_cases e : j = opp i
  · rw [e, hz i hi]
    have := hz (opp i) (opp_lt hi)
    rw [opp_opp i hi] at this
    exact this.symm
  · obtain ⟨a, b⟩ := nf_ok i hi j hj e
    have c := lay_form l (nf i j) a
    rcases b with ⟨b1, b2⟩ | ⟨b1, b2⟩
    · rw [b1, b2] at c; rw [c.1, c.2]
    · rw [b1, b2] at c; rw [c.1, c.2]
theorem un_lay (l : List Int) : Un (fun f => l.getD f 0) (lay l 32) := by
  refine ⟨fun i hi q => ?_, fun i j hi hj h1 h2 _ => ?_, fun i hi => ?_⟩
  · rw [lay_nf l hi hi (fun e => opp_ne i e.symm), nf_self] at q ⊢
    have b := bv_lo l hi
    by_cases e : l.getD i 0 = NB
    · exact absurd (b.1 e) q
    · rw [b.2 e]; exact Int.le_refl _
  · rw [lay_nf l hi hj h2, bv_hi l hi hj h1 h2]
    exact Int.le_refl _
  · rw [lay_opp l i hi]; exact Int.le_refl _
theorem ab_lay {l : List Int} (hl : okL l) : Ab (sharp (lay l 32)) (fun f => l.getD f 0) := fun f hf => bd_le hl.2 (fun k => sharp_le _ k) f hf
theorem hi_lay {l : List Int} (hl : okL l) : ∀ f, f < 32 → (fun f => l.getD f 0) f ≤ NB := by
  intro f hf
  show l.getD f 0 ≤ NB
  rcases isB_or (hl.2 f hf) with q | q
  · omega
  · unfold NB; omega

/-- What the document's rounds come to: none, where the program finds the octagon empty .. -/
theorem doc_empty {l : List Int} (hl : okL l) (he : ovE l = true) : itF (fun f => l.getD f 0) 17 = none := itF_empty (raw_lay hl) (hi_lay hl) (un_lay l) he
/-- .. else no round finds none, .. -/
theorem doc_some {l : List Int} (hl : okL l) (he : ovE l = false) (n : Nat) : ∃ R', itF (fun f => l.getD f 0) n = some R' ∧ Ab (ovM l) R' ∧ ∀ f, f < 32 → R' f ≤ NB := itF_ab ((raw_lay hl).tc he) (hi_lay hl) (ab_lay hl) n
theorem doc_step {l : List Int} (hl : okL l) (he : ovE l = false) {n : Nat} {R : Nat → Int} (h : itF (fun f => l.getD f 0) n = some R) : ∃ R' b, rnd R = some (R', b) := by
  obtain ⟨R1, e, a, hi⟩ := doc_some hl he n
  have : R1 = R := Option.some.inj (e.symm.trans h)
  subst this
  obtain ⟨R2, b, e2, _⟩ := rF_ab ((raw_lay hl).tc he) a hi 1024 (Nat.le_refl _)
  exact ⟨R2, b, e2⟩
/-- .. the eighteenth changes nothing, .. -/
theorem doc_17 {l : List Int} (hl : okL l) {R R' : Nat → Int} {b : Bool} (h : itF (fun f => l.getD f 0) 17 = some R) (h2 : rnd R = some (R', b)) : b = false := by
  cases he : ovE l with
  | true => rw [doc_empty hl he] at h; cases h
  | false => exact itF_17 (raw_lay hl) (hi_lay hl) (un_lay l) (ab_lay hl) he h h2
/-- .. and where a round changes nothing the bounds are the program's. -/
theorem doc_done {l : List Int} (hl : okL l) {n : Nat} {R R' : Nat → Int} (h : itF (fun f => l.getD f 0) n = some R) (h2 : rnd R = some (R', false)) : ovE l = false ∧ ∀ f, f < 32 → R' f = bd (ovM l) f := by
  have hiR := itF_hi (hi_lay hl) n R h
  have hI := rF_inv hiR 1024 (Nat.le_refl _) R' false h2
  have hs := hI.same rfl
  have hd := rF_rd hiR h2
  have hrd : RdO R R := ⟨fun f _ => Int.le_refl _, hd.zer, fun f g hf hg k q1 q2 => by rw [← hs _ (nm_lt hf hg (.inl k))]; exact hd.dou f g hf hg k q1 q2, fun f g hf hg k q1 q2 => by rw [← hs _ (nm_lt hf hg (.inr k))]; exact hd.sum f g hf hg k q1 q2⟩
  have hle : ∀ m R1, itF (fun f => l.getD f 0) m = some R1 → ∀ f, f < 32 → R1 f ≤ l.getD f 0 := by
    intro m
    induction m with
    | zero => intro R1 e f _; cases e; exact Int.le_refl _
    | succ m ih =>
      intro R1 e f hf
      obtain ⟨R0, b, e1, e2⟩ := itF_succ e
      have hi0 := itF_hi (hi_lay hl) m R0 e1
      exact Int.le_trans ((rF_inv hi0 1024 (Nat.le_refl _) _ b e2).le f hf) (ih R0 e1 f hf)
  have h0 : Un R (lay l 32) := by
    have u := un_lay l
    refine ⟨fun i hi q => ?_, fun i j hi hj h1 h2' q => ?_, u.zer⟩
    · have a := u.dia i hi q
      have b := hle n R h i (by omega)
      have a' : 2 * l.getD i 0 ≤ lay l 32 (i * 8 + i) := a
      omega
    · have a : l.getD (nf i j) 0 ≤ lay l 32 (i * 8 + j) := u.off i j hi hj h1 h2' q
      have b := hle n R h (nf i j) (nf_ok i hi j hj h2').1
      omega
  have hu := hrd.un (raw_lay hl) h0
  cases he : ovE l with
  | true =>
    obtain ⟨i, hi, q⟩ := conF_true he
    have : 0 ≤ ovM l (i * 8 + opp i) := hu.zer i hi
    omega
  | false =>
    obtain ⟨R1, e, a, hi⟩ := doc_some hl he n
    have : R1 = R := Option.some.inj (e.symm.trans h)
    subst this
    refine ⟨rfl, fun f hf => ?_⟩
    rw [hs f hf]
    exact hu.eqs ((raw_lay hl).tc he) a hi f hf

end Go.Proofs.YtffajooegiempaaDoor

