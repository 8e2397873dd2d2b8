import Derived.Test.YtffajooegiempabDoorJ2
/- Bounds from which nothing follows: the document's rounds stay above them. No Go in here. -/
namespace Go.Proofs.YtffajooegiempabDoor
theorem TC.lo {C : Nat → Int} (h : TC C) {f : Nat} (hf : f < 8) : (C (f * 8 + f) = NB → bd C f = NB) ∧ (C (f * 8 + f) ≠ NB → 2 * bd C f = C (f * 8 + f) ∧ bd C f ≠ NB) := by
  obtain ⟨_, _, _, _, e, _⟩ := nf_fs f (by omega)
  obtain ⟨e1, e2⟩ := e hf
  unfold bd
  rw [e1, e2]
  refine ⟨fun q => ?_, fun q => ?_⟩
  · rw [if_neg (fun z => z.2 q), q]
  · rw [if_pos ⟨rfl, q⟩]
    have := tdiv_even ((h.even f hf).resolve_left q)
    have := (h.top (f * 8 + f) (by omega)).resolve_left q
    exact ⟨by omega, by unfold NB; omega⟩
theorem bd_hi {C : Nat → Int} (hS : Sym C) {f i j : Nat} (hf : f < 32) (h8 : 8 ≤ f) (h : (fs f = i ∧ ss f = j) ∨ (ss f = i ∧ fs f = j)) : bd C f = C (i * 8 + j) ∧ i < 8 ∧ j < 8 := by
  obtain ⟨l1, l2, _, _, _, e⟩ := nf_fs f hf
  unfold bd
  rw [if_neg (fun z => e h8 z.1)]
  rcases h with ⟨a, b⟩ | ⟨a, b⟩
  · rw [← a, ← b]; exact ⟨rfl, l1, l2⟩
  · rw [← a, ← b]; exact ⟨hS _ _ l1 l2, l2, l1⟩
theorem nf_ge : ∀ i : Nat, i < 8 → ∀ j, j < 8 → (i ≠ j ∧ j ≠ opp i) → 8 ≤ nf i j := by decide +kernel
theorem bd_nf {C : Nat → Int} (hS : Sym C) {i j : Nat} (hi : i < 8) (hj : j < 8) (h1 : i ≠ j) (h2 : j ≠ opp i) : bd C (nf i j) = C (i * 8 + j) := by
  obtain ⟨a, b⟩ := nf_ok i hi j hj h2
  have g := nf_ge i hi j hj ⟨h1, h2⟩
  refine (bd_hi hS (i := i) (j := j) a g ?_).1
  rcases b with b | b
  · exact .inl b
  · exact .inr ⟨b.2, b.1⟩
end Go.Proofs.YtffajooegiempabDoor

/- A list of bounds: where the program and the document start. No Go in here. -/
namespace Go.Proofs.YtffajooegiempabDoor

theorem lay_nf (l : List Int) {i j : Nat} (hi : i < 8) (hj : j < 8) (h : j ≠ opp i) : lay l 32 (i * 8 + j) = bv l (nf i j) := by
  obtain ⟨a, b⟩ := nf_ok i hi j hj h
  have c := lay_form l (nf i j) a
  rcases b with ⟨b1, b2⟩ | ⟨b1, b2⟩
  · rw [b1, b2] at c; exact c.1
  · rw [b1, b2] at c; exact c.2
theorem bv_lo (l : List Int) {i : Nat} (hi : i < 8) : (l.getD i 0 = NB → bv l i = NB) ∧ (l.getD i 0 ≠ NB → bv l i = 2 * l.getD i 0) := by
  obtain ⟨_, _, _, _, e, _⟩ := nf_fs i (by omega)
  obtain ⟨e1, e2⟩ := e hi
  unfold bv
  rw [e1, e2]
  exact ⟨fun q => by rw [if_neg (fun z => z.2 q), q], fun q => if_pos ⟨rfl, q⟩⟩
theorem bv_hi (l : List Int) {i j : Nat} (hi : i < 8) (hj : j < 8) (h1 : i ≠ j) (h2 : j ≠ opp i) : bv l (nf i j) = l.getD (nf i j) 0 := by
  obtain ⟨_, _, _, _, _, e⟩ := nf_fs (nf i j) (nf_ok i hi j hj h2).1
  unfold bv
  rw [if_neg (fun z => e (nf_ge i hi j hj ⟨h1, h2⟩) z.1)]
theorem isB_or {n : Int} (h : isB n = true) : n = NB ∨ (-4000 ≤ n ∧ n ≤ 4000) := of_decide_eq_true h
theorem bd_lay {l : List Int} (hl : okL l) : Bd 8000 (lay l 32) := by
  have hz := lay_opp l
  intro a ha
  have hi : a / 8 < 8 := by omega
  have hj : a % 8 < 8 := by omega
  rw [show a = a / 8 * 8 + a % 8 by omega]
  generalize a / 8 = i at hi
  generalize a % 8 = j at hj
  by_cases e : j = opp i
  · rw [e, hz i hi]; exact .inr (by decide)
  · by_cases hn : i = j
    · subst hn
      have q := isB_or (hl.2 i (by omega))
      rw [lay_nf l hi hi (fun e => opp_ne i e.symm), nf_self]
      have b := bv_lo l hi
      by_cases e : l.getD i 0 = NB
      · exact .inl (b.1 e)
      · rw [b.2 e]
        have := q.resolve_left e
        exact .inr (by omega)
    · have q := isB_or (hl.2 (nf i j) (nf_ok i hi j hj e).1)
      rw [lay_nf l hi hj e, bv_hi l hi hj hn e]
      rcases q with q | q
      · exact .inl q
      · exact .inr (by omega)
theorem raw_lay {l : List Int} (hl : okL l) : Raw (lay l 32) := by
  have hz := lay_opp l
  refine ⟨(bd_lay hl).mono (by decide), fun i j hi hj => ?_, hz⟩
  by_cases e : j = opp i
  · rw [e, hz i hi]
    have := hz (opp i) (opp_lt hi)
    rw [opp_opp i hi] at this
    exact this.symm
  · obtain ⟨a, b⟩ := nf_ok i hi j hj e
    have c := lay_form l (nf i j) a
    rcases b with ⟨b1, b2⟩ | ⟨b1, b2⟩
    · rw [b1, b2] at c; rw [c.1, c.2]
    · rw [b1, b2] at c; rw [c.1, c.2]
end Go.Proofs.YtffajooegiempabDoor

/- Where four rounds go well there is a state: one variable after the other is picked. No Go in here. -/
namespace Go.Proofs.YtffajooegiempabDoor

theorem nf_symm : ∀ i : Nat, i < 8 → ∀ j, j < 8 → nf i j = nf j i := by decide +kernel
/-- The greatest of some numbers, the least of some. -/
theorem most_of (L : Nat → Option Int) : ∀ n : Nat, (∀ i, i < n → L i = none) ∨ ∃ m, (∃ i, i < n ∧ L i = some m) ∧ ∀ i, i < n → ∀ l, L i = some l → l ≤ m := by
  intro n
  induction n with
  | zero => exact .inl fun i hi => absurd hi (by omega)
  | succ n ih =>
    cases e : L n with
    | none =>
      rcases ih with h | ⟨m, ⟨i, hi, q⟩, h⟩
      · refine .inl fun i hi => ?_
        rcases Nat.lt_or_eq_of_le (Nat.lt_succ_iff.1 hi) with a | a
        · exact h i a
        · rw [a]; exact e
      · refine .inr ⟨m, ⟨i, by omega, q⟩, fun j hj l hl => ?_⟩
        rcases Nat.lt_or_eq_of_le (Nat.lt_succ_iff.1 hj) with a | a
        · exact h j a l hl
        · rw [a, e] at hl; cases hl
    | some x =>
      rcases ih with h | ⟨m, ⟨i, hi, q⟩, h⟩
      · refine .inr ⟨x, ⟨n, by omega, e⟩, fun j hj l hl => ?_⟩
        rcases Nat.lt_or_eq_of_le (Nat.lt_succ_iff.1 hj) with a | a
        · rw [h j a] at hl; cases hl
        · rw [a, e] at hl; cases hl; exact Int.le_refl _
      · by_cases c : m ≤ x
        · refine .inr ⟨x, ⟨n, by omega, e⟩, fun j hj l hl => ?_⟩
          rcases Nat.lt_or_eq_of_le (Nat.lt_succ_iff.1 hj) with a | a
          · exact Int.le_trans (h j a l hl) c
          · rw [a, e] at hl; cases hl; exact Int.le_refl _
        · refine .inr ⟨m, ⟨i, by omega, q⟩, fun j hj l hl => ?_⟩
          rcases Nat.lt_or_eq_of_le (Nat.lt_succ_iff.1 hj) with a | a
          · exact h j a l hl
          · rw [a, e] at hl; cases hl; omega
theorem between (L U : Nat → Option Int) (n : Nat) (h : ∀ i j, i < n → j < n → ∀ l u, L i = some l → U j = some u → l ≤ u) : ∃ t : Int, (∀ i, i < n → ∀ l, L i = some l → l ≤ t) ∧ (∀ j, j < n → ∀ u, U j = some u → t ≤ u) := by
  rcases most_of L n with a | ⟨m, ⟨i, hi, q⟩, a⟩
  · rcases most_of (fun j => (U j).map fun x => -x) n with b | ⟨m, ⟨j, hj, q⟩, b⟩
    · refine ⟨0, fun i hi l hl => (by rw [a i hi] at hl; cases hl), fun j hj u hu => ?_⟩
      have := b j hj
      rw [hu] at this
      cases this
    · refine ⟨-m, fun i hi l hl => (by rw [a i hi] at hl; cases hl), fun k hk u hu => ?_⟩
      have := b k hk (-u) (by rw [hu]; rfl)
      omega
  · exact ⟨m, a, fun j hj u hu => h i j hi hj m u q hu⟩

/-- The first variables keep to the bounds of their forms. -/
structure SK (P v : Nat → Int) (k : Nat) : Prop where
  one : ∀ i, i < 2 * k → P i = NB ∨ sd v i ≤ P i
  two : ∀ i j, i < 2 * k → j < 2 * k → i ≠ j → j ≠ opp i → P (nf i j) = NB ∨ sd v i + sd v j ≤ P (nf i j)
def setV (v : Nat → Int) (k : Nat) (t : Int) : Nat → Int := fun i => if i = k then t else v i
theorem opp_even (k : Nat) : opp (2 * k) = 2 * k + 1 := by unfold opp; rw [if_pos (by omega)]
theorem opp_odd (k : Nat) : opp (2 * k + 1) = 2 * k := by unfold opp; rw [if_neg (by omega)]; omega
theorem sd_setV_lt (v : Nat → Int) (t : Int) {i k : Nat} (h : i < 2 * k) : sd (setV v k t) i = sd v i := by
  unfold sd setV
  rw [if_neg (show ¬ i / 2 = k by omega)]
theorem sd_setV_e (v : Nat → Int) (t : Int) (k : Nat) : sd (setV v k t) (2 * k) = t := by
  unfold sd setV
  rw [if_pos (by omega), if_pos (by omega)]
theorem sd_setV_o (v : Nat → Int) (t : Int) (k : Nat) : sd (setV v k t) (2 * k + 1) = -t := by
  unfold sd setV
  rw [if_neg (by omega), if_pos (by omega)]
/-- One more variable. -/
theorem elim {P P' v : Nat → Int} {U : Int} {k : Nat} (hk : k < 4) (hU : 2 * U < NB) (hU0 : 0 ≤ U) (hP : ∀ f, f < 32 → P f = NB ∨ P f ≤ U) (hr : RdO P P') (hv : SK P' v k) : ∃ t, SK P (setV v k t) (k + 1) := by
  have hs : 2 * k < 8 := by omega
  have ho : 2 * k + 1 < 8 := by omega
  have oe := opp_even k
  have oo := opp_odd k
  have fin : ∀ f, f < 32 → P f ≠ NB → P f ≤ U := fun f hf q => (hP f hf).resolve_left q
  have v1 : ∀ i, i < 2 * k → ∀ c, c < NB → P' i ≤ c → sd v i ≤ c := by
    intro i hi c hc hl
    have := (hv.one i hi).resolve_left (by omega)
    omega
  have v2 : ∀ i j, i < 2 * k → j < 2 * k → i ≠ j → j ≠ opp i → ∀ c, c < NB → P' (nf i j) ≤ c → sd v i + sd v j ≤ c := by
    intro i j hi hj e1 e2 c hc hl
    have := (hv.two i j hi hj e1 e2).resolve_left (by omega)
    omega
  have key : ∀ i j, i < 2 * k + 1 → j < 2 * k + 1 → P (if i = 2 * k then 2 * k else nf (2 * k) i) ≠ NB → P (if j = 2 * k then 2 * k + 1 else nf (2 * k + 1) j) ≠ NB →
      (if i = 2 * k then 0 else sd v i) + (if j = 2 * k then 0 else sd v j) ≤ P (if i = 2 * k then 2 * k else nf (2 * k) i) + P (if j = 2 * k then 2 * k + 1 else nf (2 * k + 1) j) := by
    intro i j hi hj q1 q2
    by_cases ei : i = 2 * k
    · rw [if_pos ei] at q1 ⊢
      rw [if_pos ei]
      by_cases ej : j = 2 * k
      · rw [if_pos ej] at q2 ⊢
        rw [if_pos ej]
        have z := hr.zer (2 * k) (2 * k + 1) (by omega) (by omega) ((tab3 (2 * k) hs (2 * k + 1) ho).1 oe.symm) q1 q2
        omega
      · rw [if_neg ej] at q2 ⊢
        rw [if_neg ej]
        have t := tab2 (2 * k + 1) ho j (by omega) ⟨by omega, by rw [oo]; omega⟩
        rw [oo] at t
        have n := (nf_ok (2 * k + 1) ho j (by omega) (by rw [oo]; omega)).1
        have x := hr.sum (2 * k) (nf (2 * k + 1) j) (by omega) n t.1 q1 q2
        rw [t.2.1] at x
        have a := fin _ (by omega) q1
        have b := fin _ n q2
        have := v1 j (by omega) _ (by omega) x
        omega
    · rw [if_neg ei] at q1 ⊢
      rw [if_neg ei]
      have n1 := (nf_ok (2 * k) hs i (by omega) (by rw [oe]; omega)).1
      have a := fin _ n1 q1
      by_cases ej : j = 2 * k
      · rw [if_pos ej] at q2 ⊢
        rw [if_pos ej]
        have t := tab2 (2 * k) hs i (by omega) ⟨by omega, by rw [oe]; omega⟩
        rw [oe] at t
        have x := hr.sum (2 * k + 1) (nf (2 * k) i) (by omega) n1 t.1 q2 q1
        rw [t.2.1] at x
        have b := fin _ (by omega) q2
        have := v1 i (by omega) _ (by omega) x
        omega
      · rw [if_neg ej] at q2 ⊢
        rw [if_neg ej]
        have n2 := (nf_ok (2 * k + 1) ho j (by omega) (by rw [oo]; omega)).1
        have b := fin _ n2 q2
        have t := tab1 i (by omega) (2 * k + 1) ho j (by omega) ⟨by omega, by rw [oo]; omega, by omega, by rw [oo]; omega⟩
        rw [oo, nf_symm i (by omega) (2 * k) hs] at t
        by_cases e : j = opp i
        · have z := hr.zer _ _ n1 n2 (t.1 e) q1 q2
          rw [e, sd_opp]
          rw [e] at z
          omega
        · by_cases e' : j = i
          · have x := hr.dou _ _ n1 n2 (t.2.1 e').1 q1 q2
            rw [(t.2.1 e').2] at x
            have := v1 i (by omega) _ (by omega) x
            rw [e'] at this ⊢
            omega
          · have x := hr.sum _ _ n1 n2 (t.2.2 ⟨e', e⟩).1 q1 q2
            rw [(t.2.2 ⟨e', e⟩).2] at x
            exact v2 i j (by omega) (by omega) (fun z => e' z.symm) e _ (by omega) x
  obtain ⟨t, hL, hH⟩ := between (fun j => if P (if j = 2 * k then 2 * k + 1 else nf (2 * k + 1) j) = NB then none else some ((if j = 2 * k then 0 else sd v j) - P (if j = 2 * k then 2 * k + 1 else nf (2 * k + 1) j)))
    (fun i => if P (if i = 2 * k then 2 * k else nf (2 * k) i) = NB then none else some (P (if i = 2 * k then 2 * k else nf (2 * k) i) - (if i = 2 * k then 0 else sd v i))) (2 * k + 1) (by
      intro j i hj hi l u hl hu
      by_cases q2 : P (if j = 2 * k then 2 * k + 1 else nf (2 * k + 1) j) = NB
      · rw [if_pos q2] at hl; cases hl
      · by_cases q1 : P (if i = 2 * k then 2 * k else nf (2 * k) i) = NB
        · rw [if_pos q1] at hu; cases hu
        · rw [if_neg q2] at hl
          rw [if_neg q1] at hu
          have := key i j hi hj q1 q2
          have := Option.some.inj hl
          have := Option.some.inj hu
          omega)
  have lo : ∀ j, j < 2 * k → P (nf (2 * k + 1) j) = NB ∨ -t + sd v j ≤ P (nf (2 * k + 1) j) := by
    intro j hj
    by_cases q : P (nf (2 * k + 1) j) = NB
    · exact .inl q
    · have ne : ¬ j = 2 * k := by omega
      have := hL j (by omega) (sd v j - P (nf (2 * k + 1) j)) (by simp only [if_neg ne, if_neg q])
      exact .inr (by omega)
  have hi : ∀ j, j < 2 * k → P (nf (2 * k) j) = NB ∨ t + sd v j ≤ P (nf (2 * k) j) := by
    intro j hj
    by_cases q : P (nf (2 * k) j) = NB
    · exact .inl q
    · have ne : ¬ j = 2 * k := by omega
      have := hH j (by omega) (P (nf (2 * k) j) - sd v j) (by simp only [if_neg ne, if_neg q])
      exact .inr (by omega)
  refine ⟨t, ⟨fun i hi' => ?_, fun i j hi' hj' e1 e2 => ?_⟩⟩
  · by_cases c : i < 2 * k
    · rw [sd_setV_lt v t c]
      by_cases q : P i = NB
      · exact .inl q
      · have := fin i (by omega) q
        exact .inr (v1 i c _ (by omega) (hr.le i (by omega)))
    · by_cases c2 : i = 2 * k
      · rw [c2, sd_setV_e]
        by_cases q : P (2 * k) = NB
        · exact .inl q
        · have := hH (2 * k) (by omega) (P (2 * k) - 0) (by simp only [if_true, if_neg q])
          exact .inr (by omega)
      · rw [show i = 2 * k + 1 by omega, sd_setV_o]
        by_cases q : P (2 * k + 1) = NB
        · exact .inl q
        · have := hL (2 * k) (by omega) (0 - P (2 * k + 1)) (by simp only [if_true, if_neg q])
          exact .inr (by omega)
  · by_cases c : i < 2 * k
    · rw [sd_setV_lt v t c]
      by_cases d : j < 2 * k
      · rw [sd_setV_lt v t d]
        by_cases q : P (nf i j) = NB
        · exact .inl q
        · have n := (nf_ok i (by omega) j (by omega) e2).1
          have := fin _ n q
          exact .inr (v2 i j c d e1 e2 _ (by omega) (hr.le _ n))
      · rw [nf_symm i (by omega) j (by omega), Int.add_comm]
        by_cases d2 : j = 2 * k
        · rw [d2, sd_setV_e]; exact hi i c
        · rw [show j = 2 * k + 1 by omega, sd_setV_o]; exact lo i c
    · have d : j < 2 * k := by
        rcases Nat.lt_or_ge j (2 * k) with d | d
        · exact d
        · exfalso
          by_cases c2 : i = 2 * k
          · rw [c2, oe] at e2; omega
          · rw [show i = 2 * k + 1 by omega, oo] at e2; omega
      rw [sd_setV_lt v t d]
      by_cases c2 : i = 2 * k
      · rw [c2, sd_setV_e]; exact hi j d
      · rw [show i = 2 * k + 1 by omega, sd_setV_o]; exact lo j d

end Go.Proofs.YtffajooegiempabDoor

/- Of bounds from which nothing follows, all of them numbers, each is reached by whole numbers. No Go in here. -/
namespace Go.Proofs.YtffajooegiempabDoor
/-- What a form comes to. -/
def fval (v : Nat → Int) (f : Nat) : Int := if f < 8 then sd v f else sd v (fs f) + sd v (ss f)
end Go.Proofs.YtffajooegiempabDoor

/- How low the document's bounds get: a table. No Go in here. -/
namespace Go.Proofs.YtffajooegiempabDoor
end Go.Proofs.YtffajooegiempabDoor

namespace Go.Proofs.YtffajooegiempabDoor
open Go.RowKit
variable {w : World} {b : Nat} {e1 e2 : Bool} {M N : Nat → Int}

def leF (M N : Nat → Int) : Nat → Bool
  | 0 => true
  | k + 1 => leF M N k && decide (M k ≤ N k)
def wiB (e1 e2 : Bool) (M N : Nat → Int) : Bool := if (e1 || e2) = true then e1 else leF M N 64
theorem leF_false {k : Nat} (h : k < 64) (hn : ¬ M k ≤ N k) : leF M N 64 = false := by
  have : ∀ d, leF M N (k + 1 + d) = false := by
    intro d
    induction d with
    | zero => show (leF M N k && decide (M k ≤ N k)) = false; rw [decide_eq_false hn]; simp
    | succ d ih => show (leF M N (k + 1 + d) && _) = false; rw [ih]; rfl
  rw [show 64 = k + 1 + (63 - k) by omega]
  exact this _

set_option maxRecDepth 100000 in
set_option maxHeartbeats 1600000 in
theorem o_within : Calls Tryd.prog 28 #[.agg (oc e1 M), .agg (oc e2 N)] w fun e w' => e = .returned (.bool (wiB e1 e2 M N)) ∧ Below w.heap.size w w' := by
  obtain ⟨w0, hw0⟩ : ∃ w0, w0 = (w.alloc (.cells (oc e1 M) tO)).alloc (.cells (oc e2 N) tO) := ⟨_, rfl⟩
  have ha1 : OAt w0 w.heap.size e1 M := by rw [hw0]; exact At.allocH (At.new _ _ _) _
  have ha2 : OAt w0 (w.heap.size + 1) e2 N := by
    have := At.new (w.alloc (.cells (oc e1 M) tO)) (oc e2 N) tO
    rw [show (w.alloc (.cells (oc e1 M) tO)).heap.size = w.heap.size + 1 by simp] at this
    rw [hw0]; exact this
  have hb0 : Below w.heap.size w w0 := by rw [hw0]; exact ((Below.refl _ _).alloc (Nat.le_refl _) _).alloc (by simp) _
  have hs0 : w0.heap.size = w.heap.size + 2 := by rw [hw0]; simp
  have z1 : w0.cell? ⟨w.heap.size, 0, none⟩ = some (.bool e1) := by rw [At.cell ha1]; exact oc_0 _ _
  have z2 : w0.cell? ⟨w.heap.size + 1, 0, none⟩ = some (.bool e2) := by rw [At.cell ha2]; exact oc_0 _ _
  have HW0 : Hid (w0 = _) := hw0
  have H1 : Hid (OAt w0 w.heap.size e1 M) := ha1
  have H2 : Hid (OAt w0 (w.heap.size + 1) e2 N) := ha2
  have HB0 : Hid (Below w.heap.size w w0) := hb0
  clear ha1 ha2 hb0
  cases e1 with
  | true =>
    have HE : Hid (wiB true e2 M N = true) := rfl
    rw [hw0] at z1 z2
    clear hw0
    go_enter Tryd.func28, Tryd.ntmps28
    go_wp2_with fail
    go_ret
    exact ⟨by rw [HE.out]; rfl, by have := HB0.out; rw [HW0.out] at this; exact this⟩
  | false =>
  cases e2 with
  | true =>
    have HE : Hid (wiB false true M N = false) := rfl
    rw [hw0] at z1 z2
    clear hw0
    go_enter Tryd.func28, Tryd.ntmps28
    go_wp2_with fail
    go_ret
    exact ⟨by rw [HE.out]; rfl, by have := HB0.out; rw [HW0.out] at this; exact this⟩
  | false =>
    have HE : Hid (wiB false false M N = leF M N 64) := rfl
    rw [hw0] at z1 z2
    clear hw0
    go_enter Tryd.func28, Tryd.ntmps28
    go_wp2_with fail
    go_loopw [5] (fun i wr => ∃ (p d : Nat), p ≤ 8 ∧ i = .int .i64 p ∧ Hid (leF M N (p * 8) = true ∧ wr = w0.drewN d)) (fun i _ => 8 - (intOf i).toNat)
    case atStart => exact ⟨0, 0, by omega, rfl, rfl, HW0.out.symm⟩
    case round =>
      obtain ⟨p, d, hp, rfl, HR⟩ := hrel
      by_cases hlt : p < 8
      · have hpi : (p : Int) < 8 := by omega
        obtain ⟨w4, rfl⟩ : ∃ w4, w4 = wr := ⟨_, rfl⟩
        go_wp2_with fail
        go_loopw [6] (fun j wr => ∃ (q d : Nat), q ≤ 8 ∧ j = .int .i64 q ∧ Hid (leF M N (p * 8 + q) = true ∧ wr = w0.drewN d)) (fun j _ => 8 - (intOf j).toNat)
        case atStart => exact ⟨0, d, by omega, rfl, HR.out⟩
        case round =>
          obtain ⟨q, d, hq, rfl, HQ⟩ := hrel
          by_cases hlt2 : q < 8
          · have hqi : (q : Int) < 8 := by omega
            have c1 : wr.cell? ⟨w.heap.size, 1 + p * 8 + q, none⟩ = some (.int .i64 (M (p * 8 + q))) := by rw [Nat.add_assoc, HQ.out.2]; exact OAt.cell (w := w0.drewN d) (At.drewN H1.out d) (p * 8 + q) (by omega)
            have c2 : wr.cell? ⟨w.heap.size + 1, 1 + p * 8 + q, none⟩ = some (.int .i64 (N (p * 8 + q))) := by rw [Nat.add_assoc, HQ.out.2]; exact OAt.cell (w := w0.drewN d) (At.drewN H2.out d) (p * 8 + q) (by omega)
            have HEq : Hid (leF M N (p * 8 + (q + 1)) = (leF M N (p * 8 + q) && decide (M (p * 8 + q) ≤ N (p * 8 + q)))) := rfl
            have HNo : Hid (¬ M (p * 8 + q) ≤ N (p * 8 + q) → leF M N 64 = false) := fun h => leF_false (by omega) h
            generalize M (p * 8 + q) = m at *
            generalize N (p * 8 + q) = n at *
            by_cases hn : n < m
            · have HF : Hid (leF M N 64 = false) := HNo.out (by omega)
              go_wp2_with fail
              go_quiet (fail)
              go_wp2_with fail
              go_ret
              refine ⟨by rw [HE.out, HF.out]; rfl, ?_⟩
              rw [HQ.out.2]
              exact below_drewN (below_drewN HB0.out _) _
            · have hle : m ≤ n := by omega
              go_wp2_with fail
              go_quiet (fail)
              go_wp2_with fail
              go_roundw
              case rel => exact ⟨q + 1, d + nq, by omega, by go_num, by rw [HEq.out, HQ.out.1]; simpa using hle, by rw [HQ.out.2]; exact World.drewN_drewN _ _ _⟩
              case measure => simp [intOf]; omega
          · have hq8 : q = 8 := by omega
            subst hq8
            go_wp2_with fail
            go_roundw
            case rel => exact ⟨p + 1, d, by omega, by go_num, by rw [show (p + 1) * 8 = p * 8 + 8 by omega]; exact HQ.out.1, HQ.out.2⟩
            case measure => simp [intOf]; omega
      · have hp8 : p = 8 := by omega
        subst hp8
        go_wp2_with fail
        go_ret
        refine ⟨by rw [HE.out, HR.out.1]; rfl, ?_⟩
        rw [HR.out.2]
        exact below_drewN HB0.out _

end Go.Proofs.YtffajooegiempabDoor

/- Within and Join: what the document says against what the program says. No Go in here. -/
namespace Go.Proofs.YtffajooegiempabDoor

/-- Bounds from which nothing follows, below others: they stay below whatever follows from those. -/
theorem TC.below_rd {C T : Nat → Int} (hC : TC C) (h : Le C T) (hi : ∀ a, a < 64 → T a ≤ NB) : Le C (rdF T 8) := by
  intro a ha
  rw [rdF_at]
  have h1 := h a ha
  split
  · rename_i q
    have e : a = a / 9 * 8 + a / 9 := by omega
    have h3 := hi a ha
    rcases hC.even (a / 9) q.2.1 with z | z
    · rw [← e] at z
      have := q.2.2
      omega
    · rw [← e] at z
      omega
  · exact h1
theorem TC.below_ah {C T : Nat → Int} (hC : TC C) (h : Le C T) (hi : ∀ a, a < 64 → T a ≤ NB) : ∀ k, k ≤ 64 → Le C (ahF T k) := by
  intro k
  induction k with
  | zero => intro _; exact h
  | succ k ih =>
    intro hk
    have h1 := ih (by omega)
    have hi1 : ∀ a, a < 64 → ahF T k a ≤ NB := fun a ha => Int.le_trans (ahF_le T k a) (hi a ha)
    rw [ahF]
    generalize ahF T k = S at h1 hi1
    intro a ha
    unfold ah1
    split
    · rename_i q
      unfold upd
      split
      · rename_i e
        obtain ⟨q1, q2, q3⟩ := pl_fin q.1
        have i8 : k / 8 < 8 := by omega
        have j8 : k % 8 < 8 := by omega
        have l1 := h1 (k / 8 * 8 + k / 8) (by omega)
        have l2 := h1 (k % 8 * 8 + k % 8) (by omega)
        have u1 := hi1 (k / 8 * 8 + k / 8) (by omega)
        have u2 := hi1 (k % 8 * 8 + k % 8) (by omega)
        have hh := (hC.half (k / 8) (k % 8) i8 j8 (by omega) (by omega)).2
        rw [show k / 8 * 8 + k % 8 = k by omega] at hh
        rw [e, q3]
        have t := tdiv2 (S (k / 8 * 8 + k / 8) + S (k % 8 * 8 + k % 8))
        rcases Int.lt_or_le (S (k / 8 * 8 + k / 8) + S (k % 8 * 8 + k % 8)) 0 with c | c
        · rw [t.2 c]; omega
        · rw [t.1 c]; omega
      · exact h1 a ha
    · exact h1 a ha
theorem TC.below_sharp {C M : Nat → Int} (hC : TC C) (h : Le C M) (hi : ∀ a, a < 64 → M a ≤ NB) : Le C (sharp M) := by
  have h1 := below_fw hC.tri h hi 8 (Nat.le_refl _)
  have i1 : ∀ a, a < 64 → fw M 8 a ≤ NB := fun a ha => Int.le_trans (fw_le M 8 a) (hi a ha)
  have h2 := hC.below_rd h1 i1
  exact hC.below_ah h2 (fun a ha => Int.le_trans (rdF_le _ 8 a) (i1 a ha)) 64 (Nat.le_refl _)

theorem leF_iff {M N : Nat → Int} : ∀ {n : Nat}, leF M N n = true ↔ ∀ k, k < n → M k ≤ N k := by
  intro n
  induction n with
  | zero => exact ⟨fun _ k hk => absurd hk (by omega), fun _ => rfl⟩
  | succ n ih =>
    show (leF M N n && decide (M n ≤ N n)) = true ↔ _
    rw [Bool.and_eq_true, ih, decide_eq_true_eq]
    constructor
    · rintro ⟨h1, h2⟩ k hk
      rcases Nat.lt_or_eq_of_le (Nat.lt_succ_iff.1 hk) with e | e
      · exact h1 k e
      · rw [e]; exact h2
    · intro h
      exact ⟨fun k hk => h k (by omega), h n (by omega)⟩
theorem conF_no {M : Nat → Int} : ∀ {n : Nat}, (∀ i, i < n → 0 ≤ M (i * 8 + opp i)) → conF M n = false := by
  intro n
  induction n with
  | zero => intro _; rfl
  | succ n ih =>
    intro h
    rw [conF, ih (fun i hi => h i (by omega))]
    have := h n (by omega)
    rw [decide_eq_false (by omega)]
    rfl
/-- The document's bounds below those of a list. -/
theorem lay_above {C : Nat → Int} {p : List Int} (hC : TC C) (hp : okL p) (h : ∀ f, f < 32 → bd C f ≤ p.getD f 0) : Le C (lay p 32) := by
  intro a ha
  have e : a = a / 8 * 8 + a % 8 := by omega
  have hi : a / 8 < 8 := by omega
  have hj : a % 8 < 8 := by omega
  rw [e]
  generalize a / 8 = i at hi
  generalize a % 8 = j at hj
  by_cases e1 : j = opp i
  · rw [e1, lay_opp p i hi, hC.zero i hi]; exact Int.le_refl _
  · rw [lay_nf p hi hj e1]
    have top : ∀ k, k < 64 → C k ≤ NB := fun k hk => by
      rcases hC.top k hk with q | q
      · omega
      · unfold NB; omega
    by_cases e2 : i = j
    · subst e2
      rw [nf_self]
      have b := bv_lo p hi
      by_cases q : p.getD i 0 = NB
      · rw [b.1 q]; exact top _ (by omega)
      · rw [b.2 q]
        have h1 := h i (by omega)
        have h2 := (isB_or (hp.2 i (by omega))).resolve_left q
        by_cases z : C (i * 8 + i) = NB
        · rw [(hC.lo hi).1 z] at h1
          unfold NB at h1
          omega
        · have := ((hC.lo hi).2 z).1
          omega
    · rw [bv_hi p hi hj e2 e1]
      have h1 := h (nf i j) (nf_ok i hi j hj e1).1
      rw [bd_nf hC.sym hi hj e2 e1] at h1
      exact h1
theorem lay_top {p : List Int} (hp : okL p) : ∀ a, a < 64 → lay p 32 a ≤ NB := fun a _ => (lay_range p 32 hp.2 a).2
theorem bd_below {C : Nat → Int} {p : List Int} (hp : okL p) (h : Le C (lay p 32)) : ∀ f, f < 32 → bd C f ≤ p.getD f 0 := by
  intro f hf
  have a := fs_lt f hf
  have b := ss_lt f hf
  have := bd_le (o := p) (M := fun k => if k < 64 then C k else lay p 32 k) hp.2 (fun k => by
    show (if k < 64 then C k else lay p 32 k) ≤ _
    split
    · rename_i hk; exact h k hk
    · exact Int.le_refl _) f hf
  have e : bd (fun k => if k < 64 then C k else lay p 32 k) f = bd C f := by
    unfold bd
    simp only [if_pos (show fs f * 8 + ss f < 64 by omega)]
  rw [e] at this
  exact this
end Go.Proofs.YtffajooegiempabDoor

/- A closed octagon, and one bound of it lowered: a state of it, if there is one; what the document's rounds come to. No Go in here. -/
namespace Go.Proofs.YtffajooegiempabDoor
end Go.Proofs.YtffajooegiempabDoor

/- What the document's rounds come to from bounds that follow the program's. No Go in here. -/
namespace Go.Proofs.YtffajooegiempabDoor
/- Of a closed octagon itself. -/
/- One bound lowered. -/
theorem sb_at (C : Nat → Int) {f : Nat} (hf : f < 32) {c : Int} (hc : c ≠ NB) {i j : Nat} (_hi : i < 8) (hj : j < 8) : sb C f c (i * 8 + j) = if (i = fs f ∧ j = ss f) ∨ (i = ss f ∧ j = fs f) then (if f < 8 then 2 * c else c) else C (i * 8 + j) := by
  obtain ⟨a1, a2, a3, a4, a5, a6⟩ := nf_fs f hf
  have e : (if fs f = ss f ∧ c ≠ NB then 2 * c else c) = if f < 8 then 2 * c else c := by
    by_cases q : f < 8
    · rw [if_pos q, if_pos ⟨by rw [(a5 q).1, (a5 q).2], hc⟩]
    · rw [if_neg q, if_neg (fun z => a6 (by omega) z.1)]
  unfold sb
  rw [e]
  generalize (if f < 8 then 2 * c else c) = y
  unfold upd
  by_cases q1 : i * 8 + j = ss f * 8 + fs f
  · rw [if_pos q1, if_pos (.inr (by omega))]
  · rw [if_neg q1]
    by_cases q2 : i * 8 + j = fs f * 8 + ss f
    · rw [if_pos q2, if_pos (.inl (by omega))]
    · rw [if_neg q2, if_neg (by omega)]
variable {C : Nat → Int} {f : Nat} {c : Int}
/-- A state of the lowered one. -/
theorem sat_sb {v : Nat → Int} (hv : Sat v C) (hf : f < 32) (hc : c ≤ 1000) (hl : fval v f ≤ c) : Sat v (sb C f c) := by
  have hn : c ≠ NB := by unfold NB; omega
  obtain ⟨a1, a2, a3, a4, a5, a6⟩ := nf_fs f hf
  intro i j hi hj
  rw [sb_at C hf hn hi hj]
  unfold fval at hl
  split
  · rename_i e
    right
    by_cases q8 : f < 8
    · rw [if_pos q8] at hl ⊢
      have := a5 q8
      have e1 : i = f := by omega
      have e2 : j = f := by omega
      rw [e1, e2]
      omega
    · rw [if_neg q8] at hl ⊢
      rcases e with ⟨e1, e2⟩ | ⟨e1, e2⟩
      · rw [e1, e2]; exact hl
      · rw [e1, e2]; omega
  · exact hv i j hi hj
end Go.Proofs.YtffajooegiempabDoor

namespace Go.Proofs.YtffajooegiempabDoor
open Go.RowKit
variable {w : World} {b : Nat} {e0 e1 e2 : Bool} {M N : Nat → Int}
/-- A fresh octagon is laid: the block that comes next. -/
theorem o_fresh (w1 : World) (e : Bool) (M : Nat → Int) : ∃ w2, (storeCells ⟨w1.heap.size, 0, none⟩ (oc e M).toList).run Tryd.prog (w1.alloc (.cells (oc false fun _ => 0) tO)) = .ok () w2 ∧ OAt w2 w1.heap.size e M ∧ Below w1.heap.size w1 w2 ∧ w1.heap.size < w2.heap.size := by
  have h0 : OAt (w1.alloc (.cells (oc false fun _ => 0) tO)) w1.heap.size false (fun _ => 0) := At.new _ _ _
  obtain ⟨w2, h1, h2, h3⟩ := o_store h0 e M
  exact ⟨w2, h1, h2, ((Below.refl _ _).alloc (Nat.le_refl _) _).trans (h3.below (Nat.le_refl _) (by simp)), At.lt h2⟩

end Go.Proofs.YtffajooegiempabDoor

namespace Go.Proofs.YtffajooegiempabDoor
open Go.RowKit
variable {w : World} {b : Nat} {e0 e1 e2 : Bool} {M N : Nat → Int}
end Go.Proofs.YtffajooegiempabDoor

namespace Go.Proofs.YtffajooegiempabDoor
open Go.RowKit
variable {w : World}
end Go.Proofs.YtffajooegiempabDoor

namespace Go.Proofs.YtffajooegiempabDoor
open Go.RowKit
variable {w : World} {e0 : Bool} {M : Nat → Int}

abbrev tV4 : TypeId := 71
/-- Four signs as a value. -/
def v4 (l : List Int) : Value := .agg #[.int .i64 (gAt l 0), .int .i64 (gAt l 1), .int .i64 (gAt l 2), .int .i64 (gAt l 3)]
def c4 (l : List Int) : Array Value := #[.int .i64 (gAt l 0), .int .i64 (gAt l 1), .int .i64 (gAt l 2), .int .i64 (gAt l 3)]
/-- The two sides of a sum, as far as it is looked at. -/
def sdS (l : List Int) : Nat → Nat × Nat × Bool
  | 0 => (0, 1, false)
  | v + 1 => if gAt l v = 0 then sdS l v else
      (if (sdS l v).2.2 = true then (sdS l v).1 else 2 * v + (if gAt l v < 0 then 1 else 0), 2 * v + (if gAt l v < 0 then 1 else 0), true)
def sd1 (l : List Int) : Nat := (sdS l 4).1
def sd2 (l : List Int) : Nat := (sdS l 4).2.1
theorem sdS_lt (l : List Int) : ∀ v, v ≤ 4 → (sdS l v).1 < 8 ∧ (sdS l v).2.1 < 8 := by
  intro v
  induction v with
  | zero => intro _; exact ⟨by show (0 : Nat) < 8; omega, by show (1 : Nat) < 8; omega⟩
  | succ v ih =>
    intro hv
    have h := ih (by omega)
    rw [sdS]
    split
    · exact h
    · refine ⟨?_, ?_⟩
      · dsimp only
        split
        · exact h.1
        · split <;> omega
      · dsimp only
        split <;> omega

theorem c4_get (l : List Int) {i : Nat} (h : i < 4) : (c4 l)[i]? = some (.int .i64 (gAt l i)) := by
  rcases (show i = 0 ∨ i = 1 ∨ i = 2 ∨ i = 3 by omega) with rfl | rfl | rfl | rfl <;> rfl
set_option maxRecDepth 100000 in
set_option maxHeartbeats 1600000 in
theorem o_sides (l : List Int) (hl : ∀ i, -1 ≤ gAt l i ∧ gAt l i ≤ 1) :
    Calls Tryd.prog 77 #[v4 l] w fun e w' => e = .returned (.tuple #[.int .i64 ((sd1 l : Nat) : Int), .int .i64 ((sd2 l : Nat) : Int)]) ∧ Below w.heap.size w w' := by
  have h0 := o_opposite 0 (by omega) (w.alloc (.cells (c4 l) tV4))
  have HC0 : Hid (At (w.alloc (.cells (c4 l) tV4)) w.heap.size (c4 l) tV4 ∧ Below w.heap.size w (w.alloc (.cells (c4 l) tV4))) := ⟨At.new _ _ _, (Below.refl _ _).alloc (Nat.le_refl _) _⟩
  have HO : Hid (∀ (v : Nat) w1, v < 4 → Calls Tryd.prog 85 #[.int .i64 (2 * (v : Int))] w1 fun e w' => e = .returned (.int .i64 (2 * (v : Int) + 1)) ∧ w' = w1) := by
    intro v w1 hv
    have h := o_opposite (2 * v) (by omega) w1
    have e1 : ((2 * v : Nat) : Int) = 2 * (v : Int) := by omega
    have e2 : ((opp (2 * v) : Nat) : Int) = 2 * (v : Int) + 1 := by unfold opp; rw [if_pos (by omega)]; omega
    rw [e1, e2] at h
    exact h
  unfold v4
  rw [show ((0 : Nat) : Int) = 0 from rfl, show ((opp 0 : Nat) : Int) = 1 from rfl] at h0
  obtain ⟨w0, hw0⟩ : ∃ w0, w0 = w.alloc (.cells (c4 l) tV4) := ⟨_, rfl⟩
  rw [← hw0] at HC0
  have hw0' := hw0
  unfold c4 at h0 hw0
  go_enter Tryd.func77, Tryd.ntmps77
  go_wp2_with fail
  refine h0.mono ?_
  rintro e w1 ⟨rfl, hw1⟩
  subst hw1
  rw [← hw0]
  clear h0 hw0 hw0'
  go_wp2_with fail
  go_loopw [4, 5, 6, 7] (fun fv sv bv iv wr => ∃ (v a b : Nat) (f : Bool), v ≤ 4 ∧ iv = .int .i64 v ∧ fv = .int .i64 a ∧ sv = .int .i64 b ∧ bv = .bool f ∧ Hid (sdS l v = (a, b, f)) ∧ Hid (At wr w.heap.size (c4 l) tV4 ∧ Below w.heap.size w wr)) (fun _ _ _ iv _ => 4 - (intOf iv).toNat)
  case atStart => exact ⟨0, 0, 1, false, by omega, rfl, rfl, rfl, rfl, rfl, HC0.out⟩
  case round =>
    obtain ⟨v, a, b, f, hv, rfl, rfl, rfl, rfl, HA, HR⟩ := hrel
    by_cases hlt : v < 4
    · have hvi : (v : Int) < 4 := by omega
      have cx : wr.cell? ⟨w.heap.size, v, none⟩ = some (.int .i64 (gAt l v)) := by rw [HR.out.1.cell]; exact c4_get l hlt
      have hx := hl v
      have HS0 : Hid (sdS l (v + 1) = if gAt l v = 0 then (a, b, f) else (if f = true then a else 2 * v + (if gAt l v < 0 then 1 else 0), 2 * v + (if gAt l v < 0 then 1 else 0), true)) := by
        show sdS l (v + 1) = _
        rw [sdS, HA.out]
      have hop := HO.out v wr hlt
      generalize gAt l v = x at *
      rcases (show x = 0 ∨ x = 1 ∨ x = -1 by omega) with rfl | rfl | rfl
      · have HS : Hid (sdS l (v + 1) = (a, b, f)) := HS0.out
        clear HS0
        go_wp2_with fail
        go_roundw
        case rel => exact ⟨v + 1, a, b, f, by omega, by go_num, rfl, rfl, rfl, HS.out, HR.out⟩
        case measure => simp [intOf]; omega
      · cases f with
        | false =>
          have HS : Hid (sdS l (v + 1) = (2 * v, 2 * v, true)) := HS0.out
          clear HS0
          go_wp2_with fail
          go_roundw
          case rel => exact ⟨v + 1, 2 * v, 2 * v, true, by omega, by go_num, by first | rfl | (congr 1), by first | rfl | (congr 1), rfl, HS.out, HR.out⟩
          case measure => simp [intOf]; omega
        | true =>
          have HS : Hid (sdS l (v + 1) = (a, 2 * v, true)) := HS0.out
          clear HS0
          go_wp2_with fail
          go_roundw
          case rel => exact ⟨v + 1, a, 2 * v, true, by omega, by go_num, rfl, by first | rfl | (congr 1), rfl, HS.out, HR.out⟩
          case measure => simp [intOf]; omega
      · cases f with
        | false =>
          have HS : Hid (sdS l (v + 1) = (2 * v + 1, 2 * v + 1, true)) := HS0.out
          clear HS0
          go_wp2_with fail
          refine hop.mono ?_
          rintro e w2 ⟨rfl, hw2⟩
          subst hw2
          go_wp2_with fail
          go_roundw
          case rel => exact ⟨v + 1, 2 * v + 1, 2 * v + 1, true, by omega, by go_num, by first | rfl | (congr 1), by first | rfl | (congr 1), rfl, HS.out, HR.out⟩
          case measure => simp [intOf]; omega
        | true =>
          have HS : Hid (sdS l (v + 1) = (a, 2 * v + 1, true)) := HS0.out
          clear HS0
          go_wp2_with fail
          refine hop.mono ?_
          rintro e w2 ⟨rfl, hw2⟩
          subst hw2
          go_wp2_with fail
          go_roundw
          case rel => exact ⟨v + 1, a, 2 * v + 1, true, by omega, by go_num, rfl, by first | rfl | (congr 1), rfl, HS.out, HR.out⟩
          case measure => simp [intOf]; omega
    · have hv4 : v = 4 := by omega
      subst hv4
      have HE : Hid (sd1 l = a ∧ sd2 l = b) := ⟨by unfold sd1; rw [HA.out], by unfold sd2; rw [HA.out]⟩
      go_wp2_with fail
      go_ret2
      exact ⟨by rw [HE.out.1, HE.out.2]; rfl, HR.out.2⟩

set_option maxRecDepth 100000 in
set_option maxHeartbeats 1600000 in
theorem o_greatest (l : List Int) (hl : ∀ i, -1 ≤ gAt l i ∧ gAt l i ≤ 1) (hS : Sm M) :
    Calls Tryd.prog 47 #[.agg (oc e0 M), v4 l] w fun e w' => e = .returned (.int .i64 (mo M (sd1 l) (sd2 l))) ∧ Below w.heap.size w w' := by
  have hz := o_zero
  have h8 := sdS_lt l 4 (Nat.le_refl _)
  have HSd : Hid (∀ w1, Calls Tryd.prog 77 #[v4 l] w1 fun e w' => e = .returned (.tuple #[.int .i64 ((sd1 l : Nat) : Int), .int .i64 ((sd2 l : Nat) : Int)]) ∧ Below w1.heap.size w1 w') := fun w1 => o_sides l hl
  have HMo : Hid (∀ w1, Calls Tryd.prog 71 #[.agg (oc e0 M), .int .i64 ((sd1 l : Nat) : Int), .int .i64 ((sd2 l : Nat) : Int)] w1 fun e w' => e = .returned (.int .i64 (mo M (sd1 l) (sd2 l))) ∧ Below w1.heap.size w1 w') := fun w1 => o_most _ _ h8.1 h8.2 (by have := hS (sd1 l * 8 + sd2 l) (by have h1 : sd1 l < 8 := h8.1; have h2 : sd2 l < 8 := h8.2; omega); omega)
  obtain ⟨w0, hw0⟩ : ∃ w0, w0 = (w.alloc (.cells (oc e0 M) tO)).alloc (.cells (c4 l) tV4) := ⟨_, rfl⟩
  have H0 : Hid (OAt w0 w.heap.size e0 M ∧ Below w.heap.size w w0 ∧ w0.heap.size = w.heap.size + 2) := by
    refine ⟨by rw [hw0]; exact At.allocH (At.new _ _ _) _, by rw [hw0]; exact ((Below.refl _ _).alloc (Nat.le_refl _) _).alloc (by simp) _, by rw [hw0]; simp⟩
  have hsd := HSd.out w0
  rw [hw0] at hsd
  generalize mo M (sd1 l) (sd2 l) = g at *
  generalize sd1 l = i at *
  generalize sd2 l = j at *
  obtain ⟨BW, hBW⟩ : ∃ BW : World → Prop, BW = fun w' => Below w0.heap.size w0 w' := ⟨_, rfl⟩
  have hsd' : Calls Tryd.prog 77 #[v4 l] w0 fun e w' => e = .returned (.tuple #[.int .i64 (i : Int), .int .i64 (j : Int)]) ∧ BW w' := by rw [hBW]; exact HSd.out w0
  rw [hw0] at hsd'
  clear hS h8 hsd
  unfold v4 c4 at hsd'
  unfold v4
  go_enter Tryd.func47, Tryd.ntmps47
  go_wp2_with fail
  refine hsd'.mono ?_
  rintro e w1 ⟨rfl, hb1⟩
  rw [hBW] at hb1
  have s0 := H0.out.2.2
  have s1 := hb1.size
  have H1 : Hid (OAt w1 w.heap.size e0 M ∧ Below w.heap.size w w1) := ⟨At.keep H0.out.1 hb1 (by omega), H0.out.2.1.trans (hb1.mono (by omega))⟩
  have hmo := HMo.out w1
  clear hb1 hsd'
  go_wp2_with (refine wpList_load_o rfl (.tmp 2) rfl rfl H1.out.1 ?_)
  refine hmo.mono ?_
  rintro e w2 ⟨rfl, hb2⟩
  go_wp2_with fail
  go_ret
  exact ⟨rfl, H1.out.2.trans (hb2.mono H1.out.2.size)⟩

def ngL (l : List Int) : List Int := [-gAt l 0, -gAt l 1, -gAt l 2, -gAt l 3]
/-- Some signs are turned. -/
def tuP (l : List Int) : Nat → List Int
  | 0 => [gAt l 0, gAt l 1, gAt l 2, gAt l 3]
  | j + 1 => (tuP l j).set j (-gAt l j)
theorem results_v4 {fn : Func} {t : Tmp} {b : Nat} {l : List Int} (h : fn.results = #[.cell t tV4]) (tmps : Array Value) (hp : tmps.getD t undef = .pointer (some ⟨b, 0, none⟩)) (hat : At w b (c4 l) tV4) :
    (results fn tmps).run Tryd.prog w = .ok (v4 l) w := by
  have hp' : tmps[t]?.getD undef = .pointer (some ⟨b, 0, none⟩) := by simpa using hp
  have hl : (loadVar tV4 ⟨b, 0, none⟩).run Tryd.prog w = .ok (v4 l) w := run_loadVar_row w b tV4 tV4 (c4 l) (0, 0) _ hat Tryd.underlying71 rfl (by kernel_rfl)
  simp [results, h, hp', asAddr, hl]
theorem v4_storeAt {b : Nat} {c : Array Value} (h : At w b c tV4) (hc : c.size = 4) (l : List Int) : ∃ w1, (Instr.storeAt tV4 (.pointer (some ⟨b, 0, none⟩)) (v4 l)).run Tryd.prog w = .ok () w1 ∧ At w1 b (c4 l) tV4 ∧ Onl b w w1 := by
  refine ⟨w.setRow b (c4 l), ?_, setRow_heap w b c (c4 l) tV4 (0, 0) h, ⟨rfl, rfl, rfl, by simp [World.setRow], fun k _ hk => setRow_other w b k _ (fun e => hk e)⟩⟩
  simp only [Instr.storeAt, Instr.sureAddr, Sem.run_bind, Sem.run_pure, Result.andThen]
  exact run_storeVar_row w b tV4 tV4 c (c4 l) h (by kernel_rfl) (by rw [hc]; rfl) (by simp [c4, Value.oneCell'])
theorem wpList_store_v4 {ops : Array Oper} {rest : List Oper} {o : Oper} {a : Act} {Q : Exit → Act → World → Prop} {b : Nat} {c : Array Value} (hg : o.guard = none) (p x : Operand) (hop : o.op = Op.store tV4 p x) (hp : a.eval p = .pointer (some ⟨b, 0, none⟩)) (l : List Int) (hx : a.eval x = v4 l) (hat : At w b c tV4) (hc : c.size = 4)
    (hK : ∀ w1, At w1 b (c4 l) tV4 → Onl b w w1 → wpList Tryd.prog ops Q rest (a.put o.dst undef) w1) : wpList Tryd.prog ops Q (o :: rest) a w := by
  refine wpList_plain hg fun K hK' => ?_
  obtain ⟨w1, h1, h2, h3⟩ := v4_storeAt hat hc l
  unfold Oper.wp
  simp [execOp, hop, hp, hx, h1, Result.andThen, Oper.upon]
  exact hK' _ _ (hK w1 h2 h3)
theorem tuP_at (l : List Int) : ∀ j, j < 4 → (c4 (tuP l j))[j]? = some (.int .i64 (gAt l j))
  | 0, _ => rfl
  | 1, _ => rfl
  | 2, _ => rfl
  | 3, _ => rfl
  | n + 4, h => absurd h (by omega)
theorem tuP_set (l : List Int) : ∀ j, j < 4 → (c4 (tuP l j)).setIfInBounds j (.int .i64 (-gAt l j)) = c4 (tuP l (j + 1))
  | 0, _ => rfl
  | 1, _ => rfl
  | 2, _ => rfl
  | 3, _ => rfl
  | n + 4, h => absurd h (by omega)

set_option maxRecDepth 100000 in
set_option maxHeartbeats 1600000 in
theorem e_turned (l : List Int) (hl : ∀ i, -1 ≤ gAt l i ∧ gAt l i ≤ 1) :
    Calls Tryd.prog 54 #[v4 l] w fun e w' => e = .returned (v4 (ngL l)) ∧ Below w.heap.size w w' := by
  obtain ⟨w0, hw0⟩ : ∃ w0, w0 = (w.alloc (.cells (c4 l) tV4)).alloc (.cells (c4 [0, 0, 0, 0]) tV4) := ⟨_, rfl⟩
  have H0 : Hid (At w0 w.heap.size (c4 (tuP l 0)) tV4 ∧ At w0 (w.heap.size + 1) (c4 [0, 0, 0, 0]) tV4 ∧ Below w.heap.size w w0) := by
    refine ⟨by rw [hw0]; exact At.allocH (At.new _ _ _) _, ?_, by rw [hw0]; exact ((Below.refl _ _).alloc (Nat.le_refl _) _).alloc (by simp) _⟩
    have := At.new (w.alloc (.cells (c4 l) tV4)) (c4 [0, 0, 0, 0]) tV4
    rw [show (w.alloc (.cells (c4 l) tV4)).heap.size = w.heap.size + 1 by simp] at this
    rw [hw0]; exact this
  unfold c4 at hw0
  unfold v4
  go_enter Tryd.func54, Tryd.ntmps54
  go_wp2_with fail
  go_loopw [3] (fun iv wr => ∃ (v : Nat), v ≤ 4 ∧ iv = .int .i64 v ∧ Hid (At wr w.heap.size (c4 (tuP l v)) tV4 ∧ At wr (w.heap.size + 1) (c4 [0, 0, 0, 0]) tV4 ∧ Below w.heap.size w wr)) (fun iv _ => 4 - (intOf iv).toNat)
  case atStart => exact ⟨0, by omega, rfl, by have := H0.out; rw [hw0] at this; exact this⟩
  case round =>
    obtain ⟨v, hv, rfl, HR⟩ := hrel
    clear H0 hw0
    by_cases hlt : v < 4
    · have hvi : (v : Int) < 4 := by omega
      have cx : wr.cell? ⟨w.heap.size, v, none⟩ = some (.int .i64 (gAt l v)) := by rw [HR.out.1.cell]; exact tuP_at l v hlt
      have cf := HR.out.1.free
      have hl1 := HR.out.1.lt
      have hx := hl v
      have HT : Hid (_ = _) := tuP_set l v hlt
      generalize gAt l v = x at *
      go_wp2_with fail
      go_roundw
      case rel =>
        refine ⟨v + 1, by omega, by go_num, ?_, HR.out.2.1.other _ _ (by omega), HR.out.2.2.setCell (Nat.le_refl _) _⟩
        rw [← HT.out]
        exact HR.out.1.put v _
      case measure => simp [intOf]; omega
    · have hv4 : v = 4 := by omega
      subst hv4
      have y0 := HR.out.1.cell 0
      have y1 := HR.out.1.cell 1
      have y2 := HR.out.1.cell 2
      have y3 := HR.out.1.cell 3
      have HN : Hid (v4 (ngL l) = .agg #[.int .i64 (-gAt l 0), .int .i64 (-gAt l 1), .int .i64 (-gAt l 2), .int .i64 (-gAt l 3)]) := rfl
      have z0 : wr.cell? ⟨w.heap.size, 0, none⟩ = some (.int .i64 (-gAt l 0)) := y0
      have z1 : wr.cell? ⟨w.heap.size, 1, none⟩ = some (.int .i64 (-gAt l 1)) := y1
      have z2 : wr.cell? ⟨w.heap.size, 2, none⟩ = some (.int .i64 (-gAt l 2)) := y2
      have z3 : wr.cell? ⟨w.heap.size, 3, none⟩ = some (.int .i64 (-gAt l 3)) := y3
      clear y0 y1 y2 y3
      go_wp2_with (refine wpList_store_v4 (b := w.heap.size + 1) (c := c4 [0, 0, 0, 0]) rfl (.tmp 2) (.tmp 14) rfl rfl (ngL l) rfl HR.out.2.1 rfl ?_; intro w5 h5a h5b)
      try simp only [Exit.inBlock, Exit.then]
      refine bodyPost_ret (results_v4 (b := w.heap.size + 1) (l := ngL l) rfl _ rfl h5a) rfl ?_
      exact ⟨rfl, HR.out.2.2.trans (h5b.below (by omega) HR.out.2.2.size)⟩

end Go.Proofs.YtffajooegiempabDoor

