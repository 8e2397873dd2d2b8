import Derived.Test.YtkggelfkpieonabDoorJ4
/- Sums that nothing more follows from: the chains, one after the other, come to them. No Go in here. -/
namespace Go.Proofs.YtkggelfkpieonabDoor

def mn (x y : Int) : Int := if y < x then y else x
/-- x is no more than a and b together (where there is a bound). -/
def T3 (x a b : Int) : Prop := a = NB ∨ b = NB ∨ (x ≠ NB ∧ x ≤ a + b)
def Bd (U : Int) (M : Nat → Int) : Prop := ∀ a, a < 64 → M a = NB ∨ M a ≤ U
theorem opp_opp : ∀ i : Nat, i < 8 → opp (opp i) = i := by decide
theorem opp_ne (i : Nat) : opp i ≠ i := by unfold opp; split <;> omega

theorem pl_zero_right (x : Int) : pl x 0 = x := by
  unfold pl NB
  split
  · omega
  · omega
theorem pl_zero_left (x : Int) : pl 0 x = x := by
  unfold pl NB
  split
  · omega
  · omega
theorem mn_self (x : Int) : mn x x = x := by unfold mn; split <;> rfl

/-- A chain in place does what one aside would do. -/
theorem chF_at {s : Nat} {M : Nat → Int} (hs : s < 8) (h0 : M (s * 8 + opp s) = 0) : ∀ k, k ≤ 64 → ∀ a, a < 64 → chF s M k a = if a < k then mn (M a) (pl (M (a / 8 * 8 + opp s)) (M (s * 8 + a % 8))) else M a := by
  have ho := opp_lt hs
  intro k
  induction k with
  | zero => intro _ a _; rw [chF, if_neg (by omega)]
  | succ k ih =>
    intro hk a ha
    have hc := ih (by omega)
    have e1 : chF s M k (k / 8 * 8 + opp s) = M (k / 8 * 8 + opp s) := by
      rw [hc _ (by omega)]
      split
      · rw [show (k / 8 * 8 + opp s) / 8 = k / 8 by omega, show (k / 8 * 8 + opp s) % 8 = opp s by omega, h0, pl_zero_right, mn_self]
      · rfl
    have e2 : chF s M k (s * 8 + k % 8) = M (s * 8 + k % 8) := by
      rw [hc _ (by omega)]
      split
      · rw [show (s * 8 + k % 8) / 8 = s by omega, show (s * 8 + k % 8) % 8 = k % 8 by omega, h0, pl_zero_left, mn_self]
      · rfl
    have e3 : chF s M k k = M k := by rw [hc k (by omega), if_neg (by omega)]
    rw [chF]
    unfold ch1
    rw [e1, e2, e3]
    by_cases q : a = k
    · subst q
      rw [if_pos (show a < a + 1 by omega)]
      unfold mn
      split
      · exact upd_same _ _ _
      · exact e3
    · have : (if pl (M (k / 8 * 8 + opp s)) (M (s * 8 + k % 8)) < M k then upd (chF s M k) k (pl (M (k / 8 * 8 + opp s)) (M (s * 8 + k % 8))) else chF s M k) a = chF s M k a := by
        split
        · exact upd_other _ _ q
        · rfl
      rw [this, hc a ha]
      by_cases z : a < k
      · rw [if_pos z, if_pos (by omega)]
      · rw [if_neg z, if_neg (by omega)]
theorem chain_at {s : Nat} {M : Nat → Int} (hs : s < 8) (h0 : M (s * 8 + opp s) = 0) {i j : Nat} (hi : i < 8) (hj : j < 8) : chF s M 64 (i * 8 + j) = mn (M (i * 8 + j)) (pl (M (i * 8 + opp s)) (M (s * 8 + j))) := by
  rw [chF_at hs h0 64 (Nat.le_refl _) _ (by omega), if_pos (by omega), show (i * 8 + j) / 8 = i by omega, show (i * 8 + j) % 8 = j by omega]

def TriK (M : Nat → Int) (k : Nat) : Prop := ∀ i j, i < 8 → j < 8 → T3 (M (i * 8 + j)) (M (i * 8 + opp k)) (M (k * 8 + j))

/-- What a lesser of two is, where it is a bound. -/
theorem mnpl {a p r : Int} (h : mn a (pl p r) ≠ NB) : (mn a (pl p r) = a ∧ a ≠ NB) ∨ (mn a (pl p r) = p + r ∧ p ≠ NB ∧ r ≠ NB) := by
  unfold mn at h ⊢
  split
  · rename_i q
    rw [if_pos q] at h
    obtain ⟨h1, h2, h3⟩ := pl_fin h
    exact .inr ⟨h3, h1, h2⟩
  · rename_i q
    rw [if_neg q] at h
    exact .inl ⟨rfl, h⟩
theorem mnpl_le1 {x p q U : Int} (hU : U < 1000000) (hx : x ≠ NB) (hxU : x = NB ∨ x ≤ U) : mn x (pl p q) ≠ NB ∧ mn x (pl p q) ≤ x := by
  have := hxU.resolve_left hx
  unfold mn NB at *
  split <;> omega
theorem mnpl_le2 {x p q U : Int} (hU : 2 * U < 1000000) (hp : p ≠ NB) (hq : q ≠ NB) (hpU : p = NB ∨ p ≤ U) (hqU : q = NB ∨ q ≤ U) : mn x (pl p q) ≠ NB ∧ mn x (pl p q) ≤ p + q := by
  have h1 := hpU.resolve_left hp
  have h2 := hqU.resolve_left hq
  have e : pl p q = p + q := if_neg (fun e => e.elim hp hq)
  rw [e]
  unfold mn NB at *
  split <;> omega
theorem tri_step {x a b p q r t U : Int} (hU : 2 * U < 1000000) (hU0 : 0 ≤ U) (hx : x = NB ∨ x ≤ U) (hp : p = NB ∨ p ≤ U) (hq : q = NB ∨ q ≤ U)
    (h1 : T3 x a b) (h2 : T3 p a t) (h3 : T3 q r b) (h4 : T3 0 r t) : T3 (mn x (pl p q)) (mn a (pl p r)) (mn b (pl t q)) := by
  by_cases hA : mn a (pl p r) = NB
  · exact .inl hA
  by_cases hB : mn b (pl t q) = NB
  · exact .inr (.inl hB)
  right; right
  rcases mnpl hA with ⟨eA, a1⟩ | ⟨eA, a1, a2⟩
  · rcases mnpl hB with ⟨eB, b1⟩ | ⟨eB, b1, b2⟩
    · rw [eA, eB]
      obtain ⟨z1, z2⟩ := (h1.resolve_left a1).resolve_left b1
      have := mnpl_le1 (p := p) (q := q) (by omega) z1 hx
      exact ⟨this.1, by omega⟩
    · rw [eA, eB]
      obtain ⟨z1, z2⟩ := (h2.resolve_left a1).resolve_left b1
      have := mnpl_le2 (x := x) hU z1 b2 hp hq
      exact ⟨this.1, by omega⟩
  · rcases mnpl hB with ⟨eB, b1⟩ | ⟨eB, b1, b2⟩
    · rw [eA, eB]
      obtain ⟨z1, z2⟩ := (h3.resolve_left a2).resolve_left b1
      have := mnpl_le2 (x := x) hU a1 z1 hp hq
      exact ⟨this.1, by omega⟩
    · rw [eA, eB]
      obtain ⟨z1, z2⟩ := (h4.resolve_left a2).resolve_left b1
      have := mnpl_le2 (x := x) hU a1 b2 hp hq
      exact ⟨this.1, by omega⟩
theorem tri_new {x p q U : Int} (hU : 2 * U < 1000000) (hp : p = NB ∨ p ≤ U) (hq : q = NB ∨ q ≤ U) : T3 (mn x (pl p q)) p q := by
  by_cases h1 : p = NB
  · exact .inl h1
  by_cases h2 : q = NB
  · exact .inr (.inl h2)
  exact .inr (.inr (mnpl_le2 hU h1 h2 hp hq))

theorem chain_tri {s : Nat} {M : Nat → Int} {U : Int} (hs : s < 8) (h0 : M (s * 8 + opp s) = 0) (hU : 2 * U < 1000000) (hU0 : 0 ≤ U) (hB : Bd U M) (hT : ∀ k, k < s → TriK M k) : ∀ k, k < s + 1 → TriK (chF s M 64) k := by
  have ho := opp_lt hs
  intro k hk i j hi hj
  rcases Nat.lt_or_eq_of_le (Nat.lt_succ_iff.1 hk) with hk' | hk'
  · have hk8 : k < 8 := by omega
    have hok := opp_lt hk8
    rw [chain_at hs h0 hi hj, chain_at hs h0 hi hok, chain_at hs h0 hk8 hj]
    have h4 := hT k hk' s (opp s) hs ho
    rw [h0] at h4
    exact tri_step hU hU0 (hB _ (by omega)) (hB _ (by omega)) (hB _ (by omega)) (hT k hk' i j hi hj) (hT k hk' i (opp s) hi ho) (hT k hk' s j hs hj) h4
  · subst hk'
    rw [chain_at hs h0 hi hj, chain_at hs h0 hi ho, chain_at hs h0 hs hj, h0, pl_zero_right, pl_zero_left, mn_self, mn_self]
    exact tri_new hU (hB _ (by omega)) (hB _ (by omega))

/-- Two sides of a variable: how great a sum gets. -/
structure Bd2 (B D : Int) (M : Nat → Int) : Prop where
  off : ∀ i j, i < 8 → j < 8 → i ≠ j → M (i * 8 + j) = NB ∨ M (i * 8 + j) ≤ B
  dia : ∀ i, i < 8 → M (i * 8 + i) = NB ∨ M (i * 8 + i) ≤ D
theorem Bd2.all {B D : Int} {M : Nat → Int} (h : Bd2 B D M) (hBD : B ≤ D) : Bd D M := by
  intro a ha
  have e : a = a / 8 * 8 + a % 8 := by omega
  by_cases q : a / 8 = a % 8
  · have := h.dia (a / 8) (by omega)
    rw [show a / 8 * 8 + a / 8 = a by omega] at this
    exact this
  · have := h.off (a / 8) (a % 8) (by omega) (by omega) q
    rw [← e] at this
    rcases this with z | z
    · exact .inl z
    · exact .inr (by omega)

theorem mn_le_left (x y : Int) : mn x y ≤ x := by unfold mn; split <;> omega
theorem mn_le_right (x y : Int) : mn x y ≤ y := by unfold mn; split <;> omega
theorem pair_num {a ps pq u ss_ v tt E : Int} (hE : E < 1000000) (ha : a = NB ∨ a ≤ E) (g1 : ps ≠ NB → pq ≠ NB → ps + pq ≤ E) (g2 : u ≠ NB → v ≠ NB → u + v ≤ E)
    (g3 : a = NB → u ≠ NB → tt ≠ NB → pq ≠ NB → u + (tt + pq) ≤ E) (g4 : a = NB → ps ≠ NB → ss_ ≠ NB → v ≠ NB → ps + ss_ + v ≤ E) :
    mn (mn a (pl ps pq)) (pl (mn u (pl ps ss_)) (mn v (pl tt pq))) = NB ∨ mn (mn a (pl ps pq)) (pl (mn u (pl ps ss_)) (mn v (pl tt pq))) ≤ E := by
  have l1 := mn_le_left (mn a (pl ps pq)) (pl (mn u (pl ps ss_)) (mn v (pl tt pq)))
  have l2 := mn_le_left a (pl ps pq)
  by_cases e : a = NB
  · by_cases x : mn a (pl ps pq) = NB
    · by_cases y : mn (mn a (pl ps pq)) (pl (mn u (pl ps ss_)) (mn v (pl tt pq))) = NB
      · exact .inl y
      · right
        rcases mnpl y with ⟨_, z⟩ | ⟨e1, z1, z2⟩
        · exact absurd x z
        · rw [e1]
          rcases mnpl z1 with ⟨p1, p2⟩ | ⟨p1, p2, p3⟩
          · rcases mnpl z2 with ⟨q1, q2⟩ | ⟨q1, q2, q3⟩
            · rw [p1, q1]; exact g2 p2 q2
            · rw [p1, q1]; exact g3 e p2 q2 q3
          · rcases mnpl z2 with ⟨q1, q2⟩ | ⟨q1, q2, q3⟩
            · rw [p1, q1]; exact g4 e p2 p3 q2
            · exfalso
              have w := g1 p2 q3
              have w2 := mn_le_right a (pl ps pq)
              rw [x, show pl ps pq = ps + pq from if_neg (fun q => q.elim p2 q3)] at w2
              unfold NB at w2
              omega
    · rcases mnpl x with ⟨_, z⟩ | ⟨e1, z1, z2⟩
      · exact absurd e z
      · have := g1 z1 z2
        right
        omega
  · have := ha.resolve_left e
    right
    omega
theorem pair_bd {s : Nat} {N : Nat → Int} {B D : Int} (hs : s < 8) (he : s % 2 = 0) (hD : D ≤ 2 * B) (hBD : B ≤ D) (hE : 2 * B + D < 1000000) (hN : Bd2 B D N) (h0 : N (s * 8 + opp s) = 0) (h1 : chF s N 64 ((s + 1) * 8 + opp (s + 1)) = 0) : Bd (2 * B + D) (chF (s + 1) (chF s N 64) 64) := by
  have o1 : opp s = s + 1 := if_pos he
  have o2 : opp (s + 1) = s := by unfold opp; rw [if_neg (by omega)]; rfl
  have hA := hN.all hBD
  intro a ha
  have ea : a = a / 8 * 8 + a % 8 := by omega
  have hi : a / 8 < 8 := by omega
  have hj : a % 8 < 8 := by omega
  have hs1 : s + 1 < 8 := by omega
  rw [ea]
  generalize a / 8 = i at hi
  generalize a % 8 = j at hj
  have ho : opp s < 8 := by omega
  rw [chain_at hs1 h1 hi hj, o2, chain_at hs h0 hi hj, chain_at hs h0 hi hs, chain_at hs h0 hs1 hj, o1]
  refine pair_num hE ?_ ?_ ?_ ?_ ?_
  · rcases hA (i * 8 + j) (by omega) with q | q
    · exact .inl q
    · exact .inr (by omega)
  · intro q1 q2
    have := (hA _ (by omega)).resolve_left q1
    have := (hA _ (by omega)).resolve_left q2
    omega
  · intro q1 q2
    have := (hA _ (by omega)).resolve_left q1
    have := (hA _ (by omega)).resolve_left q2
    omega
  · intro q q1 q2 q3
    by_cases ei : i = s
    · exact absurd q (by rw [ei]; exact q3)
    by_cases ej : j = s
    · exact absurd q (by rw [ej]; exact q1)
    have := (hN.off i s hi hs ei).resolve_left q1
    have := (hN.dia (s + 1) hs1).resolve_left q2
    have := (hN.off s j hs hj (fun e => ej e.symm)).resolve_left q3
    omega
  · intro q q1 q2 q3
    by_cases ei : i = s + 1
    · exact absurd q (by rw [ei]; exact q3)
    by_cases ej : j = s + 1
    · exact absurd q (by rw [ej]; exact q1)
    have := (hN.off i (s + 1) hi hs1 ei).resolve_left q1
    have := (hN.dia s hs).resolve_left q2
    have := (hN.off (s + 1) j hs1 hj (fun e => ej e.symm)).resolve_left q3
    omega
theorem Bd.two {U : Int} {M : Nat → Int} (h : Bd U M) : Bd2 U U M := ⟨fun i j hi hj _ => h _ (by omega), fun i hi => h _ (by omega)⟩
theorem chain_bd {s : Nat} {N : Nat → Int} {E : Int} (U : Int) (e : E = 2 * U) (hs : s < 8) (hU : 0 ≤ U) (hN : Bd U N) (h0 : N (s * 8 + opp s) = 0) : Bd E (chF s N 64) := by
  subst e
  have ho := opp_lt hs
  intro a ha
  have ea : a = a / 8 * 8 + a % 8 := by omega
  rw [ea, chain_at hs h0 (by omega) (by omega)]
  by_cases q : mn (N (a / 8 * 8 + a % 8)) (pl (N (a / 8 * 8 + opp s)) (N (s * 8 + a % 8))) = NB
  · exact .inl q
  · right
    rcases mnpl q with ⟨e, z⟩ | ⟨e, z1, z2⟩
    · rw [e]; have := (hN _ (by omega)).resolve_left z; omega
    · rw [e]
      have := (hN _ (by omega)).resolve_left z1
      have := (hN _ (by omega)).resolve_left z2
      omega
/-- Each chain up to here has found its own side at 0. -/
def Ex (M : Nat → Int) (s : Nat) : Prop := ∀ r, r < s → fw M r (r * 8 + opp r) = 0
theorem Ex.lt {M : Nat → Int} {s r : Nat} (h : Ex M s) (hr : r ≤ s) : Ex M r := fun q hq => h q (by omega)
theorem fw_bd2 {M : Nat → Int} {s : Nat} {E : Int} (B D : Int) (e : E = 2 * B + D) (hs : s < 7) (he : s % 2 = 0) (hD : D ≤ 2 * B) (hBD : B ≤ D) (hE : 2 * B + D < 1000000) (hN : Bd2 B D (fw M s)) (h : Ex M (s + 2)) : Bd E (fw M (s + 2)) := by
  subst e
  have h0 := h s (by omega)
  have h1 := h (s + 1) (by omega)
  rw [fw] at h1
  show Bd _ (chF (s + 1) (fw M (s + 1)) 64)
  rw [fw]
  exact pair_bd (by omega) he hD hBD hE hN h0 h1
def ub (s : Nat) : Int := if s = 0 then 8000 else if s ≤ 2 then 16000 else if s = 3 then 32000 else if s = 4 then 48000 else if s = 5 then 96000 else if s = 6 then 144000 else if s = 7 then 288000 else 432000
theorem fw_bd {M : Nat → Int} (hM : Bd2 4000 8000 M) : ∀ s, s ≤ 8 → Ex M s → Bd (ub s) (fw M s) := by
  have b0 : Bd 8000 M := hM.all (by omega)
  have b2 : Ex M 2 → Bd 16000 (fw M 2) := fun h => fw_bd2 (s := 0) 4000 8000 (by decide) (by omega) rfl (by omega) (by omega) (by omega) hM h
  have b4 : Ex M 4 → Bd 48000 (fw M 4) := fun h => fw_bd2 (s := 2) 16000 16000 (by decide) (by omega) rfl (by omega) (by omega) (by omega) (b2 (h.lt (by omega))).two h
  have b6 : Ex M 6 → Bd 144000 (fw M 6) := fun h => fw_bd2 (s := 4) 48000 48000 (by decide) (by omega) rfl (by omega) (by omega) (by omega) (b4 (h.lt (by omega))).two h
  have b8 : Ex M 8 → Bd 432000 (fw M 8) := fun h => fw_bd2 (s := 6) 144000 144000 (by decide) (by omega) rfl (by omega) (by omega) (by omega) (b6 (h.lt (by omega))).two h
  intro s hs h
  have hc : s = 0 ∨ s = 1 ∨ s = 2 ∨ s = 3 ∨ s = 4 ∨ s = 5 ∨ s = 6 ∨ s = 7 ∨ s = 8 := by omega
  rcases hc with e | e | e | e | e | e | e | e | e <;> subst e
  · exact b0
  · exact chain_bd (s := 0) 8000 (by decide) (by omega) (by omega) b0 (h 0 (by omega))
  · exact b2 h
  · exact chain_bd (s := 2) 16000 (by decide) (by omega) (by omega) (b2 (h.lt (by omega))) (h 2 (by omega))
  · exact b4 h
  · exact chain_bd (s := 4) 48000 (by decide) (by omega) (by omega) (b4 (h.lt (by omega))) (h 4 (by omega))
  · exact b6 h
  · exact chain_bd (s := 6) 144000 (by decide) (by omega) (by omega) (b6 (h.lt (by omega))) (h 6 (by omega))
  · exact b8 h
theorem ub_small : ∀ s : Nat, s < 8 → 2 * ub s < 1000000 ∧ 0 ≤ ub s := by decide
theorem fw_tri {M : Nat → Int} (hM : Bd2 4000 8000 M) : ∀ s, s ≤ 8 → Ex M s → ∀ k, k < s → TriK (fw M s) k := by
  intro s
  induction s with
  | zero => intro _ _ k hk; omega
  | succ s ih =>
    intro hs h k hk
    have hu := ub_small s (by omega)
    rw [fw]
    exact chain_tri (by omega) (h s (by omega)) hu.1 hu.2 (fw_bd hM s (by omega) (h.lt (by omega))) (ih (by omega) (h.lt (by omega))) k hk

/- What is closed and lies below stays below. -/
def Tri (N : Nat → Int) : Prop := ∀ k, k < 8 → TriK N k
def Le (N M : Nat → Int) : Prop := ∀ a, a < 64 → N a ≤ M a
theorem below_ch1 {N M : Nat → Int} {s k : Nat} (hs : s < 8) (hk : k < 64) (hN : Tri N) (h : Le N M) (hi : ∀ a, a < 64 → M a ≤ NB) : Le N (ch1 s M k) := by
  have ho := opp_lt hs
  intro a ha
  unfold ch1
  split
  · rename_i q
    unfold upd
    split
    · rename_i e
      subst e
      have hle := hi a ha
      obtain ⟨q1, q2, q3⟩ := pl_fin (a := M (a / 8 * 8 + opp s)) (b := M (s * 8 + a % 8)) (by omega)
      rw [q3]
      have l1 := h (a / 8 * 8 + opp s) (by omega)
      have l2 := h (s * 8 + a % 8) (by omega)
      have m1 := hi (a / 8 * 8 + opp s) (by omega)
      have m2 := hi (s * 8 + a % 8) (by omega)
      have t := hN s hs (a / 8) (a % 8) (by omega) (by omega)
      rw [show a / 8 * 8 + a % 8 = a by omega] at t
      obtain ⟨_, t2⟩ := (t.resolve_left (by omega)).resolve_left (by omega)
      omega
    · exact h a ha
  · exact h a ha
theorem below_chF {N M : Nat → Int} {s : Nat} (hs : s < 8) (hN : Tri N) (h : Le N M) (hi : ∀ a, a < 64 → M a ≤ NB) : ∀ k, k ≤ 64 → Le N (chF s M k) := by
  intro k
  induction k with
  | zero => intro _; exact h
  | succ k ih => intro hk; rw [chF]; exact below_ch1 hs (by omega) hN (ih (by omega)) (fun a ha => Int.le_trans (chF_le s M k a) (hi a ha))
theorem below_fw {N M : Nat → Int} (hN : Tri N) (h : Le N M) (hi : ∀ a, a < 64 → M a ≤ NB) : ∀ s, s ≤ 8 → Le N (fw M s) := by
  intro s
  induction s with
  | zero => intro _; exact h
  | succ s ih => intro hs; rw [fw]; exact below_chF (by omega) hN (ih (by omega)) (fun a ha => Int.le_trans (fw_le M s a) (hi a ha)) 64 (Nat.le_refl _)

def tp (M : Nat → Int) : Nat → Int := fun a => M (a % 8 * 8 + a / 8)
theorem tp_at (M : Nat → Int) {i j : Nat} (_hi : i < 8) (hj : j < 8) : tp M (i * 8 + j) = M (j * 8 + i) := by
  unfold tp
  rw [show (i * 8 + j) % 8 = j by omega, show (i * 8 + j) / 8 = i by omega]
theorem T3.comm {x a b : Int} (h : T3 x a b) : T3 x b a := by
  rcases h with h | h | ⟨h1, h2⟩
  · exact .inr (.inl h)
  · exact .inl h
  · exact .inr (.inr ⟨h1, by omega⟩)
theorem Tri.tp {N : Nat → Int} (h : Tri N) : Tri (tp N) := by
  intro k hk i j hi hj
  have ho := opp_lt hk
  rw [tp_at N hi hj, tp_at N hi ho, tp_at N hk hj]
  have t := h (opp k) ho j i hj hi
  rw [opp_opp k hk] at t
  exact t.comm
def Sym (M : Nat → Int) : Prop := ∀ i j, i < 8 → j < 8 → M (i * 8 + j) = M (j * 8 + i)
theorem fw_sym {M : Nat → Int} (hS : Sym M) (hT : Tri (fw M 8)) (hi : ∀ a, a < 64 → M a ≤ NB) : Sym (fw M 8) := by
  have hle : Le (tp (fw M 8)) M := by
    intro a ha
    have ea : a = a / 8 * 8 + a % 8 := by omega
    rw [ea, tp_at _ (by omega) (by omega), hS _ _ (by omega) (by omega)]
    exact fw_le M 8 _
  have := below_fw hT.tp hle hi 8 (Nat.le_refl _)
  intro i j hi' hj
  have h1 := this (i * 8 + j) (by omega)
  have h2 := this (j * 8 + i) (by omega)
  rw [tp_at _ hi' hj] at h1
  rw [tp_at _ hj hi'] at h2
  omega

end Go.Proofs.YtkggelfkpieonabDoor

/- Bounds that have been sharpened: nothing more follows from them. No Go in here. -/
namespace Go.Proofs.YtkggelfkpieonabDoor

theorem fw_mono (M : Nat → Int) (s : Nat) : ∀ k a, fw M (s + k) a ≤ fw M s a
  | 0, _ => Int.le_refl _
  | k + 1, a => by
    show chF (s + k) (fw M (s + k)) 64 a ≤ _
    exact Int.le_trans (chF_le _ _ 64 a) (fw_mono M s k a)
theorem fw_ex {M : Nat → Int} (h0 : ∀ t, t < 8 → M (t * 8 + opp t) = 0) (h : ∀ t, t < 8 → 0 ≤ fw M 8 (t * 8 + opp t)) : Ex M 8 := by
  intro r hr
  have h1 := fw_le M r (r * 8 + opp r)
  rw [h0 r hr] at h1
  have h2 := fw_mono M r (8 - r) (r * 8 + opp r)
  rw [show r + (8 - r) = 8 by omega] at h2
  have := h r hr
  omega

/-- What is made even. -/
def ev (x : Int) : Int := if x = NB then NB else x / 2 * 2
theorem rd_dia (M : Nat → Int) {i : Nat} (hi : i < 8) : rdF M 8 (i * 8 + i) = ev (M (i * 8 + i)) := by
  rw [rdF_at]
  unfold ev
  by_cases h : M (i * 8 + i) = NB
  · rw [if_neg (fun q => q.2.2 h), if_pos h, h]
  · rw [if_pos ⟨by omega, by omega, h⟩, if_neg h]
theorem rd_off (M : Nat → Int) {i j : Nat} (hi : i < 8) (hj : j < 8) (h : i ≠ j) : rdF M 8 (i * 8 + j) = M (i * 8 + j) := by
  rw [rdF_at, if_neg (by omega)]
theorem ev_fin {x : Int} (h : ev x ≠ NB) : x ≠ NB ∧ ev x = x / 2 * 2 := by
  unfold ev at h ⊢
  by_cases q : x = NB
  · rw [if_pos q] at h; exact absurd rfl h
  · exact ⟨q, if_neg q⟩
theorem ev_bd {x U : Int} (h : x = NB ∨ x ≤ U) : ev x = NB ∨ (x ≠ NB ∧ ev x ≤ U ∧ ev x % 2 = 0) := by
  unfold ev
  by_cases q : x = NB
  · rw [if_pos q]; exact .inl rfl
  · have := h.resolve_left q
    rw [if_neg q]
    exact .inr ⟨q, by omega, by omega⟩
theorem tdiv_even {x : Int} (h : x % 2 = 0) : x.tdiv 2 * 2 = x := by
  have h1 := tdiv2 x
  rcases Int.lt_or_le x 0 with e | e
  · rw [h1.2 e]; omega
  · rw [h1.1 e]; omega

/-- Each bound against those of the two sides alone: the bounds of one side stay. -/
theorem ahF_dia (N : Nat → Int) : ∀ k, k ≤ 64 → ∀ i, i < 8 → ahF N k (i * 8 + i) = N (i * 8 + i) := by
  intro k
  induction k with
  | zero => intro _ i _; rfl
  | succ k ih =>
    intro hk i hi
    have hc := ih (by omega)
    rw [ahF]
    unfold ah1
    split
    · rename_i q
      by_cases e : i * 8 + i = k
      · subst e
        rw [show (i * 8 + i) / 8 = i by omega, show (i * 8 + i) % 8 = i by omega, hc i hi] at q
        obtain ⟨q1, _, q3⟩ := pl_fin q.1
        have h2 := q.2
        rw [q3] at h2
        have := tdiv_even (x := N (i * 8 + i) + N (i * 8 + i)) (by omega)
        omega
      · rw [upd_other _ _ e]; exact hc i hi
    · exact hc i hi
theorem ahF_at (N : Nat → Int) : ∀ k, k ≤ 64 → ∀ a, a < 64 → ahF N k a = if a < k ∧ pl (N (a / 8 * 8 + a / 8)) (N (a % 8 * 8 + a % 8)) ≠ NB ∧ (pl (N (a / 8 * 8 + a / 8)) (N (a % 8 * 8 + a % 8))).tdiv 2 < N a then (pl (N (a / 8 * 8 + a / 8)) (N (a % 8 * 8 + a % 8))).tdiv 2 else N a := by
  intro k
  induction k with
  | zero => intro _ a _; rw [ahF, if_neg (by omega)]
  | succ k ih =>
    intro hk a ha
    have hc := ih (by omega)
    have hd := ahF_dia N k (by omega)
    rw [ahF]
    unfold ah1
    rw [hd (k / 8) (by omega), hd (k % 8) (by omega)]
    have hkk : ahF N k k = N k := by rw [hc k (by omega), if_neg (by omega)]
    rw [hkk]
    by_cases e : a = k
    · subst e
      split
      · rename_i q; rw [upd_same, if_pos ⟨by omega, q⟩]
      · rename_i q; rw [hkk, if_neg (fun z => q z.2)]
    · have : (if pl (N (k / 8 * 8 + k / 8)) (N (k % 8 * 8 + k % 8)) ≠ NB ∧ (pl (N (k / 8 * 8 + k / 8)) (N (k % 8 * 8 + k % 8))).tdiv 2 < N k then upd (ahF N k) k ((pl (N (k / 8 * 8 + k / 8)) (N (k % 8 * 8 + k % 8))).tdiv 2) else ahF N k) a = ahF N k a := by
        split
        · exact upd_other _ _ e
        · rfl
      rw [this, hc a ha]
      by_cases q : pl (N (a / 8 * 8 + a / 8)) (N (a % 8 * 8 + a % 8)) ≠ NB ∧ (pl (N (a / 8 * 8 + a / 8)) (N (a % 8 * 8 + a % 8))).tdiv 2 < N a
      · by_cases z : a < k
        · rw [if_pos ⟨z, q⟩, if_pos ⟨by omega, q⟩]
        · rw [if_neg (fun y => z y.1), if_neg (fun y => by omega)]
      · rw [if_neg (fun y => q y.2), if_neg (fun y => q y.2)]

/-- What 'sharp' comes to, for two sides. -/
structure ShAt (T : Nat → Int) (c : Int) (i j : Nat) : Prop where
  le1 : T (i * 8 + j) ≠ NB → c ≠ NB ∧ c ≤ T (i * 8 + j)
  le2 : ev (T (i * 8 + i)) ≠ NB → ev (T (j * 8 + j)) ≠ NB → c ≠ NB ∧ 2 * c ≤ ev (T (i * 8 + i)) + ev (T (j * 8 + j))
  cas : c = NB ∨ (i ≠ j ∧ c = T (i * 8 + j) ∧ T (i * 8 + j) ≠ NB) ∨ (ev (T (i * 8 + i)) ≠ NB ∧ ev (T (j * 8 + j)) ≠ NB ∧ 2 * c = ev (T (i * 8 + i)) + ev (T (j * 8 + j)))
theorem sh_at {T : Nat → Int} {U : Int} (hU : 2 * U < 1000000) (hB : Bd U T) {i j : Nat} (hi : i < 8) (hj : j < 8) : ShAt T (ahF (rdF T 8) 64 (i * 8 + j)) i j := by
  have hE : ∀ i, i < 8 → rdF T 8 (i * 8 + i) = NB ∨ rdF T 8 (i * 8 + i) % 2 = 0 := by
    intro i hi
    rw [rd_dia T hi]
    rcases ev_bd (hB (i * 8 + i) (by omega)) with q | q
    · exact .inl q
    · exact .inr q.2.2
  have hc := ahF_at (rdF T 8) 64 (Nat.le_refl _) (i * 8 + j) (by omega)
  rw [show (i * 8 + j) / 8 = i by omega, show (i * 8 + j) % 8 = j by omega, rd_dia T hi, rd_dia T hj] at hc
  have bi := ev_bd (hB (i * 8 + i) (by omega))
  have bj := ev_bd (hB (j * 8 + j) (by omega))
  have bt := hB (i * 8 + j) (by omega)
  have hN : rdF T 8 (i * 8 + j) = if i = j then ev (T (i * 8 + j)) else T (i * 8 + j) := by
    by_cases e : i = j
    · subst e; rw [if_pos rfl, rd_dia T hi]
    · rw [if_neg e, rd_off T hi hj e]
  have hNle : T (i * 8 + j) ≠ NB → rdF T 8 (i * 8 + j) ≠ NB ∧ rdF T 8 (i * 8 + j) ≤ T (i * 8 + j) := by
    intro q
    rw [hN]
    split
    · unfold ev NB at *
      rw [if_neg q]
      have := bt.resolve_left q
      constructor <;> omega
    · exact ⟨q, Int.le_refl _⟩
  generalize ahF (rdF T 8) 64 (i * 8 + j) = c at hc ⊢
  by_cases p : ev (T (i * 8 + i)) = NB ∨ ev (T (j * 8 + j)) = NB
  · have e1 : pl (ev (T (i * 8 + i))) (ev (T (j * 8 + j))) = NB := if_pos p
    rw [e1, if_neg (fun q => q.2.1 rfl)] at hc
    subst hc
    refine ⟨hNle, fun q1 q2 => absurd p (fun z => z.elim q1 q2), ?_⟩
    by_cases e : i = j
    · subst e
      left
      rw [hN, if_pos rfl]
      exact p.elim id id
    · rw [hN, if_neg e]
      by_cases z : T (i * 8 + j) = NB
      · exact .inl z
      · exact .inr (.inl ⟨e, rfl, z⟩)
  · have p1 : ev (T (i * 8 + i)) ≠ NB := fun q => p (.inl q)
    have p2 : ev (T (j * 8 + j)) ≠ NB := fun q => p (.inr q)
    obtain ⟨_, b1, b2⟩ := bi.resolve_left p1
    obtain ⟨_, c1, c2⟩ := bj.resolve_left p2
    have e1 : pl (ev (T (i * 8 + i))) (ev (T (j * 8 + j))) = ev (T (i * 8 + i)) + ev (T (j * 8 + j)) := if_neg p
    have e2 := tdiv_even (x := ev (T (i * 8 + i)) + ev (T (j * 8 + j))) (by omega)
    rw [e1] at hc
    have hn : ev (T (i * 8 + i)) + ev (T (j * 8 + j)) ≠ NB := by unfold NB; omega
    by_cases q : (ev (T (i * 8 + i)) + ev (T (j * 8 + j))).tdiv 2 < rdF T 8 (i * 8 + j)
    · rw [if_pos ⟨by omega, hn, q⟩] at hc
      subst hc
      have z : (ev (T (i * 8 + i)) + ev (T (j * 8 + j))).tdiv 2 ≠ NB := by unfold NB; omega
      refine ⟨fun t => ⟨z, ?_⟩, fun _ _ => ⟨z, by omega⟩, .inr (.inr ⟨p1, p2, by omega⟩)⟩
      have := (hNle t).2
      omega
    · rw [if_neg (fun y => q y.2.2)] at hc
      subst hc
      have hle : rdF T 8 (i * 8 + j) * 2 ≤ ev (T (i * 8 + i)) + ev (T (j * 8 + j)) := by omega
      refine ⟨hNle, fun _ _ => ⟨by unfold NB; omega, by omega⟩, ?_⟩
      by_cases e : i = j
      · subst e
        right; right
        refine ⟨p1, p2, ?_⟩
        rw [hN, if_pos rfl]
        omega
      · rw [hN, if_neg e]
        by_cases z : T (i * 8 + j) = NB
        · exact .inl z
        · exact .inr (.inl ⟨e, rfl, z⟩)

/-- Bounds from which nothing follows any more. -/
structure TC (C : Nat → Int) : Prop where
  tri : Tri C
  zero : ∀ i, i < 8 → C (i * 8 + opp i) = 0
  even : ∀ i, i < 8 → C (i * 8 + i) = NB ∨ C (i * 8 + i) % 2 = 0
  half : ∀ i j, i < 8 → j < 8 → C (i * 8 + i) ≠ NB → C (j * 8 + j) ≠ NB → C (i * 8 + j) ≠ NB ∧ 2 * C (i * 8 + j) ≤ C (i * 8 + i) + C (j * 8 + j)
  sym : Sym C
  top : Bd 432000 C
theorem conF_false {M : Nat → Int} : ∀ {n : Nat}, conF M n = false → ∀ i, i < n → 0 ≤ M (i * 8 + opp i) := by
  intro n
  induction n with
  | zero => intro _ i hi; omega
  | succ n ih =>
    intro h i hi
    rw [conF, Bool.or_eq_false_iff] at h
    rcases Nat.lt_or_eq_of_le (Nat.lt_succ_iff.1 hi) with e | e
    · exact ih h.1 i e
    · subst e; have := of_decide_eq_false h.2; omega
theorem sh_dia {T : Nat → Int} {c : Int} {i : Nat} (h : ShAt T c i i) : c = ev (T (i * 8 + i)) := by
  rcases h.cas with q | q | q
  · rw [q]
    by_cases z : ev (T (i * 8 + i)) = NB
    · exact z.symm
    · exact absurd q (h.le2 z z).1
  · exact absurd rfl q.1
  · omega
theorem tri_mix {T : Nat → Int} (hT : Tri T) (hS : Sym T) {i k : Nat} (hi : i < 8) (hk : k < 8) (h1 : T (i * 8 + opp k) ≠ NB) (h2 : ev (T (k * 8 + k)) ≠ NB) (hB : T (i * 8 + i) = NB ∨ T (i * 8 + i) ≤ 432000) : ev (T (i * 8 + i)) ≠ NB ∧ ev (T (i * 8 + i)) ≤ 2 * T (i * 8 + opp k) + ev (T (k * 8 + k)) := by
  have ho := opp_lt hk
  obtain ⟨k1, k2⟩ := ev_fin h2
  have a := hT (opp k) ho k i hk hi
  rw [opp_opp k hk, ← hS i (opp k) hi ho] at a
  obtain ⟨a1, a2⟩ := (a.resolve_left k1).resolve_left h1
  have b := hT k hk i i hi hi
  obtain ⟨b1, b2⟩ := (b.resolve_left h1).resolve_left a1
  have := hB.resolve_left b1
  have e : ev (T (i * 8 + i)) = T (i * 8 + i) / 2 * 2 := if_neg b1
  rw [e, k2]
  exact ⟨by unfold NB; omega, by omega⟩
theorem sh_tc {T : Nat → Int} (hT : Tri T) (hS : Sym T) (hB : Bd 432000 T) (h0 : ∀ i, i < 8 → T (i * 8 + opp i) = 0) (hc : ∀ i, i < 8 → 0 ≤ ahF (rdF T 8) 64 (i * 8 + opp i)) : TC (ahF (rdF T 8) 64) := by
  have sh : ∀ {i j : Nat}, i < 8 → j < 8 → ShAt T (ahF (rdF T 8) 64 (i * 8 + j)) i j := fun hi hj => sh_at (U := 432000) (by omega) hB hi hj
  have dia : ∀ {i : Nat}, i < 8 → ahF (rdF T 8) 64 (i * 8 + i) = ev (T (i * 8 + i)) := fun hi => sh_dia (sh hi hi)
  generalize hC : ahF (rdF T 8) 64 = C at sh dia hc ⊢
  have zero : ∀ i, i < 8 → C (i * 8 + opp i) = 0 := by
    intro i hi
    have := ((sh hi (opp_lt hi)).le1 (by rw [h0 i hi]; decide)).2
    rw [h0 i hi] at this
    have := hc i hi
    omega
  have dd : ∀ i, i < 8 → ev (T (i * 8 + i)) ≠ NB → ev (T (opp i * 8 + opp i)) ≠ NB → 0 ≤ ev (T (i * 8 + i)) + ev (T (opp i * 8 + opp i)) := by
    intro i hi h1 h2
    have := ((sh hi (opp_lt hi)).le2 h1 h2).2
    rw [zero i hi] at this
    omega
  have sym : Sym C := by
    intro i j hi hj
    have a := sh hi hj
    have b := sh hj hi
    have e := hS i j hi hj
    rcases a.cas with q | ⟨q1, q2, q3⟩ | ⟨q1, q2, q3⟩
    · rcases b.cas with w | ⟨w1, w2, w3⟩ | ⟨w1, w2, w3⟩
      · rw [q, w]
      · exact absurd q (a.le1 (by rw [e]; exact w3)).1
      · exact absurd q (a.le2 w2 w1).1
    · have z1 := b.le1 (by rw [← e]; exact q3)
      rcases b.cas with w | ⟨w1, w2, w3⟩ | ⟨w1, w2, w3⟩
      · exact absurd w z1.1
      · rw [q2, w2, e]
      · have := (a.le2 w2 w1).2
        omega
    · have z1 := b.le2 q2 q1
      rcases b.cas with w | ⟨w1, w2, w3⟩ | ⟨w1, w2, w3⟩
      · exact absurd w z1.1
      · have := (a.le1 (by rw [e]; exact w3)).2
        omega
      · omega
  have mixL : ∀ {i j k : Nat}, i < 8 → j < 8 → k < 8 → T (i * 8 + opp k) ≠ NB → ev (T (k * 8 + k)) ≠ NB → ev (T (j * 8 + j)) ≠ NB → C (i * 8 + j) ≠ NB ∧ 2 * C (i * 8 + j) ≤ 2 * T (i * 8 + opp k) + (ev (T (k * 8 + k)) + ev (T (j * 8 + j))) := by
    intro i j k hi hj hk h1 h2 h3
    have m := tri_mix hT hS hi hk h1 h2 (hB _ (by omega))
    have l := (sh hi hj).le2 m.1 h3
    exact ⟨l.1, by have := l.2; have := m.2; omega⟩
  refine ⟨?_, zero, ?_, ?_, sym, ?_⟩
  · intro k hk i j hi hj
    have ho := opp_lt hk
    have a := sh hi ho
    have b := sh hk hj
    rcases a.cas with q | ⟨q1, q2, q3⟩ | ⟨q1, q2, q3⟩
    · exact .inl q
    · rcases b.cas with w | ⟨w1, w2, w3⟩ | ⟨w1, w2, w3⟩
      · exact .inr (.inl w)
      · right; right
        obtain ⟨t1, t2⟩ := ((hT k hk i j hi hj).resolve_left q3).resolve_left w3
        have l := (sh hi hj).le1 t1
        exact ⟨l.1, by rw [q2, w2]; omega⟩
      · right; right
        have l := mixL hi hj hk q3 w1 w2
        exact ⟨l.1, by rw [q2]; omega⟩
    · rcases b.cas with w | ⟨w1, w2, w3⟩ | ⟨w1, w2, w3⟩
      · exact .inr (.inl w)
      · right; right
        have e : T (j * 8 + opp (opp k)) = T (k * 8 + j) := by rw [opp_opp k hk]; exact hS j k hj hk
        have l := mixL hj hi ho (by rw [e]; exact w3) q2 q1
        rw [e, sym j i hj hi] at l
        exact ⟨l.1, by rw [w2]; omega⟩
      · right; right
        have l := (sh hi hj).le2 q1 w2
        have := dd k hk w1 q2
        exact ⟨l.1, by omega⟩
  · intro i hi
    rw [dia hi]
    rcases ev_bd (hB (i * 8 + i) (by omega)) with q | q
    · exact .inl q
    · exact .inr q.2.2
  · intro i j hi hj h1 h2
    rw [dia hi] at h1 ⊢
    rw [dia hj] at h2 ⊢
    exact (sh hi hj).le2 h1 h2
  · intro a ha
    have ea : a = a / 8 * 8 + a % 8 := by omega
    rw [ea]
    rcases (sh (i := a / 8) (j := a % 8) (by omega) (by omega)).cas with q | ⟨_, q2, q3⟩ | ⟨q1, q2, q3⟩
    · exact .inl q
    · right
      rw [q2]
      exact (hB _ (by omega)).resolve_left q3
    · right
      have e1 := (ev_bd (hB (a / 8 * 8 + a / 8) (by omega))).resolve_left q1
      have e2 := (ev_bd (hB (a % 8 * 8 + a % 8) (by omega))).resolve_left q2
      omega
/-- What the program starts from. -/
structure Raw (M : Nat → Int) : Prop where
  bd : Bd2 4000 8000 M
  sym : Sym M
  zero : ∀ i, i < 8 → M (i * 8 + opp i) = 0
theorem Raw.hi {M : Nat → Int} (h : Raw M) : ∀ a, a < 64 → M a ≤ NB := by
  intro a ha
  rcases h.bd.all (by omega) a ha with q | q
  · omega
  · unfold NB; omega
theorem Raw.tc {M : Nat → Int} (h : Raw M) (hc : conF (sharp M) 8 = false) : TC (sharp M) := by
  have hc' := conF_false hc
  have hz : ∀ t, t < 8 → 0 ≤ fw M 8 (t * 8 + opp t) := by
    intro t ht
    have h1 := hc' t ht
    unfold sharp at h1
    have h2 := ahF_le (rdF (fw M 8) 8) 64 (t * 8 + opp t)
    have h3 := rdF_le (fw M 8) 8 (t * 8 + opp t)
    omega
  have hx := fw_ex h.zero hz
  have hT : Tri (fw M 8) := fw_tri h.bd 8 (Nat.le_refl _) hx
  have h0 : ∀ t, t < 8 → fw M 8 (t * 8 + opp t) = 0 := by
    intro t ht
    have h1 := fw_le M 8 (t * 8 + opp t)
    rw [h.zero t ht] at h1
    have := hz t ht
    omega
  exact sh_tc hT (fw_sym h.sym hT h.hi) (fw_bd h.bd 8 (Nat.le_refl _) hx) h0 hc'

end Go.Proofs.YtkggelfkpieonabDoor

/- The document's rounds, plain. -/
namespace Go.Proofs.YtkggelfkpieonabDoor

/-- Two forms added: the signs. -/
def vadd (f g : Nat) : List Int := [gAt (frm f) 0 + gAt (frm g) 0, gAt (frm f) 1 + gAt (frm g) 1, gAt (frm f) 2 + gAt (frm g) 2, gAt (frm f) 3 + gAt (frm g) 3]
def onesV (v : List Int) : Nat := v.countP fun x => x == 1 || x == -1
def twosV (v : List Int) : Nat := v.countP fun x => x == 2 || x == -2
def nst (v : List Int) : Nat → Option (Int × Int)
  | 0 => some (-1, -1)
  | i + 1 => match nst v i with
    | none => none
    | some (x, y) => if gAt v i < -1 ∨ gAt v i > 1 ∨ (gAt v i ≠ 0 ∧ 0 ≤ y) then none else some (if gAt v i ≠ 0 ∧ x < 0 then (i : Int) else x, if gAt v i ≠ 0 ∧ 0 ≤ x then (i : Int) else y)
/-- The number of a form by its signs. -/
def numV (v : List Int) : Int := match nst v 4 with
  | none => -1
  | some (x, y) => if x < 0 then -1 else if y < 0 then 2 * x + (1 - gAt v x.toNat).tdiv 2 else 8 + 4 * ((x * (8 - x - 1)).tdiv 2 + y - x - 1) + (1 - gAt v x.toNat).tdiv 2 * 2 + (1 - gAt v y.toNat).tdiv 2
def halfV (v : List Int) : List Int := v.map fun x => x.tdiv 2
/-- What follows: 1 nothing is left, 2 twice a variable, 3 a form, 0 nothing. -/
def kd (v : List Int) : Nat := if onesV v = 0 ∧ twosV v = 0 then 1 else if onesV v = 0 ∧ twosV v = 1 then 2 else if twosV v = 0 ∧ 0 < onesV v ∧ onesV v < 3 then 3 else 0
def folV (v : List Int) (c : Int) : Int × Int := if kd v = 1 ∧ c < 0 then (-2, 0) else if kd v = 2 then (numV (halfV v), c / 2) else if kd v = 3 then (numV v, c) else (-1, 0)
def kdT (f g : Nat) : Nat := kd (vadd f g)
def nmT (f g : Nat) : Nat := if kdT f g = 2 then (numV (halfV (vadd f g))).toNat else (numV (vadd f g)).toNat
/-- The form of two sides. -/
def nf (i j : Nat) : Nat := if i = j then i else if i < j then 8 + 4 * (i / 2 * (7 - i / 2) / 2 + j / 2 - i / 2 - 1) + i % 2 * 2 + j % 2 else 8 + 4 * (j / 2 * (7 - j / 2) / 2 + i / 2 - j / 2 - 1) + j % 2 * 2 + i % 2

theorem nf_ok : ∀ i : Nat, i < 8 → ∀ j, j < 8 → j ≠ opp i → nf i j < 32 ∧ ((fs (nf i j) = i ∧ ss (nf i j) = j) ∨ (fs (nf i j) = j ∧ ss (nf i j) = i)) := by decide +kernel
theorem nf_self (i : Nat) : nf i i = i := if_pos rfl
theorem nf_fs : ∀ f : Nat, f < 32 → fs f < 8 ∧ ss f < 8 ∧ nf (fs f) (ss f) = f ∧ ss f ≠ opp (fs f) ∧ (f < 8 → fs f = f ∧ ss f = f) ∧ (8 ≤ f → fs f ≠ ss f) := by decide +kernel
theorem nm_ok : ∀ f : Nat, f < 32 → ∀ g, g < 32 → (kdT f g = 2 → numV (halfV (vadd f g)) = (nmT f g : Int) ∧ nmT f g < 8) ∧ (kdT f g = 3 → numV (vadd f g) = (nmT f g : Int) ∧ nmT f g < 32) := by decide +kernel
def Tab1 (i s j : Nat) : Prop := (i ≠ s ∧ i ≠ opp s ∧ j ≠ s ∧ j ≠ opp s) → (j = opp i → kdT (nf i (opp s)) (nf s j) = 1) ∧ (j = i → kdT (nf i (opp s)) (nf s j) = 2 ∧ nmT (nf i (opp s)) (nf s j) = i) ∧ (j ≠ i ∧ j ≠ opp i → kdT (nf i (opp s)) (nf s j) = 3 ∧ nmT (nf i (opp s)) (nf s j) = nf i j)
instance (i s j : Nat) : Decidable (Tab1 i s j) := by unfold Tab1; infer_instance
theorem tab1 : ∀ i : Nat, i < 8 → ∀ s, s < 8 → ∀ j, j < 8 → Tab1 i s j := by decide +kernel
theorem tab2 : ∀ s : Nat, s < 8 → ∀ j, j < 8 → (j ≠ s ∧ j ≠ opp s) → kdT (opp s) (nf s j) = 3 ∧ nmT (opp s) (nf s j) = j ∧ kdT (nf j s) (opp s) = 3 ∧ nmT (nf j s) (opp s) = j := by decide +kernel
theorem tab3 : ∀ i : Nat, i < 8 → ∀ j, j < 8 → (j = opp i → kdT i j = 1) ∧ (j ≠ i ∧ j ≠ opp i → kdT i j = 3 ∧ nmT i j = nf i j) := by decide +kernel
/-- All that two forms may come to. -/
def tabB (f g : Nat) : Bool := decide (kdT f g = 0) || (decide (f < 8) && decide (g < 8) && ((decide (g = opp f) && decide (kdT f g = 1)) || (decide (g = f) && decide (kdT f g = 2) && decide (nmT f g = f)) || (decide (g ≠ f) && decide (g ≠ opp f) && decide (kdT f g = 3) && decide (nmT f g = nf f g)))) ||
  (decide (f < 8) && decide (8 ≤ g) && decide (kdT f g = 3) && ((decide (fs g = opp f) && decide (nmT f g = ss g)) || (decide (ss g = opp f) && decide (nmT f g = fs g)))) ||
  (decide (8 ≤ f) && decide (g < 8) && decide (kdT f g = 3) && ((decide (fs f = opp g) && decide (nmT f g = ss f)) || (decide (ss f = opp g) && decide (nmT f g = fs f)))) ||
  (decide (8 ≤ f) && decide (8 ≤ g) && [true, false].any fun b1 => [true, false].any fun b2 =>
    decide ((if b1 = true then ss f else fs f) = opp (if b2 = true then fs g else ss g)) && ((decide (kdT f g = 1) && decide ((if b2 = true then ss g else fs g) = opp (if b1 = true then fs f else ss f))) || (decide (kdT f g = 2) && decide ((if b2 = true then ss g else fs g) = (if b1 = true then fs f else ss f)) && decide (nmT f g = if b1 = true then fs f else ss f)) ||
      (decide (kdT f g = 3) && decide ((if b2 = true then ss g else fs g) ≠ (if b1 = true then fs f else ss f)) && decide ((if b2 = true then ss g else fs g) ≠ opp (if b1 = true then fs f else ss f)) && decide (nmT f g = nf (if b1 = true then fs f else ss f) (if b2 = true then ss g else fs g)))))
theorem tab_all : ∀ f : Nat, f < 32 → ∀ g, g < 32 → tabB f g = true := by decide +kernel

/-- What one round has done. -/
structure RdO (R R' : Nat → Int) : Prop where
  le : ∀ f, f < 32 → R' f ≤ R f
  zer : ∀ f g, f < 32 → g < 32 → kdT f g = 1 → R f ≠ NB → R g ≠ NB → 0 ≤ R f + R g
  dou : ∀ f g, f < 32 → g < 32 → kdT f g = 2 → R f ≠ NB → R g ≠ NB → R' (nmT f g) ≤ (R f + R g) / 2
  sum : ∀ f g, f < 32 → g < 32 → kdT f g = 3 → R f ≠ NB → R g ≠ NB → R' (nmT f g) ≤ R f + R g
/-- The document's bounds are no greater than the program's. -/
structure Un (R M : Nat → Int) : Prop where
  dia : ∀ i, i < 8 → M (i * 8 + i) ≠ NB → 2 * R i ≤ M (i * 8 + i)
  off : ∀ i j, i < 8 → j < 8 → i ≠ j → j ≠ opp i → M (i * 8 + j) ≠ NB → R (nf i j) ≤ M (i * 8 + j)
  zer : ∀ i, i < 8 → 0 ≤ M (i * 8 + opp i)
theorem Un.rd {R R' M : Nat → Int} (h : Un R M) (hr : RdO R R') : Un R' M := by
  refine ⟨fun i hi q => ?_, fun i j hi hj h1 h2 q => ?_, h.zer⟩
  · have := h.dia i hi q
    have := hr.le i (by omega)
    omega
  · have := h.off i j hi hj h1 h2 q
    have := hr.le (nf i j) (nf_ok i hi j hj h2).1
    omega
theorem opp_eq {i j : Nat} (hi : i < 8) (h : j = opp i) : i = opp j := by rw [h, opp_opp i hi]
/-- A chain of the program's is met within two rounds. -/
theorem Un.chain {R R' R2 M : Nat → Int} {U : Int} {s : Nat} (hs : s < 8) (hU : 2 * U < 1000000) (hU0 : 0 ≤ U) (hB : Bd U M) (h0 : M (s * 8 + opp s) = 0) (h : Un R M) (h1 : RdO R R') (h2 : RdO R' R2) : Un R2 (chF s M 64) := by
  have ho := opp_lt hs
  have hoo := opp_opp s hs
  have hne := opp_ne s
  have hm : Un R2 M := (h.rd h1).rd h2
  have h1s := h.rd h1
  -- the bounds of one side, of two
  have one : ∀ i, i < 8 → M (i * 8 + i) ≠ NB → R i ≠ NB ∧ 2 * R i ≤ U := by
    intro i hi q
    have a := h.dia i hi q
    have b := (hB (i * 8 + i) (by omega)).resolve_left q
    exact ⟨by unfold NB; omega, by omega⟩
  have one' : ∀ i, i < 8 → M (i * 8 + i) ≠ NB → R' i ≠ NB := by
    intro i hi q
    have a := h1s.dia i hi q
    have b := (hB (i * 8 + i) (by omega)).resolve_left q
    unfold NB
    omega
  have two : ∀ i j, i < 8 → j < 8 → i ≠ j → j ≠ opp i → M (i * 8 + j) ≠ NB → R (nf i j) ≠ NB ∧ R (nf i j) ≤ U := by
    intro i j hi hj e1 e2 q
    have a := h.off i j hi hj e1 e2 q
    have b := (hB (i * 8 + j) (by omega)).resolve_left q
    exact ⟨by unfold NB; omega, by omega⟩
  have le2 : ∀ f, f < 32 → R2 f ≤ R' f := h2.le
  -- a sum of two that are bounds
  have gen : ∀ i j, i < 8 → j < 8 → i ≠ s → j ≠ opp s → M (i * 8 + opp s) ≠ NB → M (s * 8 + j) ≠ NB →
      (j = opp i → 0 ≤ M (i * 8 + opp s) + M (s * 8 + j)) ∧ (j = i → 2 * R2 i ≤ M (i * 8 + opp s) + M (s * 8 + j)) ∧ (j ≠ i → j ≠ opp i → R2 (nf i j) ≤ M (i * 8 + opp s) + M (s * 8 + j)) := by
    intro i j hi hj n1 n2 f1 f2
    by_cases ei : i = opp s
    · subst ei
      by_cases ej : j = s
      · subst ej
        obtain ⟨a1, a2⟩ := one (opp j) ho f1
        obtain ⟨b1, b2⟩ := one j hs f2
        have a := h.dia (opp j) ho f1
        have b := h.dia j hs f2
        have z := h1.zer (opp j) j (by omega) (by omega) ((tab3 (opp j) ho j hs).1 hoo.symm) a1 b1
        exact ⟨fun _ => by omega, fun e => absurd e.symm hne, fun _ e => absurd hoo.symm e⟩
      · have t := tab2 s hs j hj ⟨ej, n2⟩
        obtain ⟨a1, a2⟩ := one (opp s) ho f1
        obtain ⟨b1, b2⟩ := two s j hs hj (fun e => ej e.symm) n2 f2
        have a := h.dia (opp s) ho f1
        have b := h.off s j hs hj (fun e => ej e.symm) n2 f2
        have hnf := (nf_ok s hs j hj n2).1
        have x := h1.sum (opp s) (nf s j) (by omega) hnf t.1 a1 b1
        rw [t.2.1] at x
        have y1 : R' j ≠ NB := by unfold NB; omega
        have y := h2.sum (opp s) j (by omega) (by omega) ((tab3 (opp s) ho j hj).2 ⟨n2, by rw [hoo]; exact ej⟩).1 (one' (opp s) ho f1) y1
        rw [((tab3 (opp s) ho j hj).2 ⟨n2, by rw [hoo]; exact ej⟩).2] at y
        have w := h1.le (opp s) (by omega)
        exact ⟨fun e => absurd (e.trans hoo) ej, fun e => absurd e n2, fun _ _ => by omega⟩
    · by_cases ej : j = s
      · subst ej
        have n3 : opp j ≠ opp i := by
          intro e
          exact n1 (by rw [← opp_opp i hi, ← e, hoo])
        have n4 : i ≠ opp (opp j) := by rw [hoo]; exact n1
        have t := tab2 (opp j) ho i hi ⟨ei, n4⟩
        rw [hoo] at t
        obtain ⟨a1, a2⟩ := two i (opp j) hi ho ei n3 f1
        obtain ⟨b1, b2⟩ := one j hs f2
        have a := h.off i (opp j) hi ho ei n3 f1
        have b := h.dia j hs f2
        have hnf := (nf_ok i hi (opp j) ho n3).1
        have x := h1.sum (nf i (opp j)) j hnf (by omega) t.2.2.1 a1 b1
        rw [t.2.2.2] at x
        have y1 : R' i ≠ NB := by unfold NB; omega
        have n5 : j ≠ opp i := by
          intro e
          exact ei (opp_eq hi e)
        have y := h2.sum i j (by omega) (by omega) ((tab3 i hi j hj).2 ⟨fun e => n1 e.symm, n5⟩).1 y1 (one' j hs f2)
        rw [((tab3 i hi j hj).2 ⟨fun e => n1 e.symm, n5⟩).2] at y
        have w := h1.le j (by omega)
        exact ⟨fun e => absurd e n5, fun e => absurd e.symm n1, fun _ _ => by omega⟩
      · have t := tab1 i hi s hs j hj ⟨n1, ei, ej, n2⟩
        have n3 : opp s ≠ opp i := by
          intro e
          exact n1 (by rw [← opp_opp i hi, ← e, hoo])
        obtain ⟨a1, a2⟩ := two i (opp s) hi ho ei n3 f1
        obtain ⟨b1, b2⟩ := two s j hs hj (fun e => ej e.symm) n2 f2
        have a := h.off i (opp s) hi ho ei n3 f1
        have b := h.off s j hs hj (fun e => ej e.symm) n2 f2
        have g1 := (nf_ok i hi (opp s) ho n3).1
        have g2 := (nf_ok s hs j hj n2).1
        refine ⟨fun e => ?_, fun e => ?_, fun e1 e2 => ?_⟩
        · have := h1.zer _ _ g1 g2 (t.1 e) a1 b1
          omega
        · have x := h1.dou _ _ g1 g2 (t.2.1 e).1 a1 b1
          rw [(t.2.1 e).2] at x
          have := le2 i (by omega)
          omega
        · have x := h1.sum _ _ g1 g2 (t.2.2 ⟨e1, e2⟩).1 a1 b1
          rw [(t.2.2 ⟨e1, e2⟩).2] at x
          have := le2 (nf i j) (nf_ok i hi j hj e2).1
          omega
  refine ⟨fun i hi q => ?_, fun i j hi hj e1 e2 q => ?_, fun i hi => ?_⟩
  · rw [chain_at hs h0 hi hi] at q ⊢
    rcases mnpl q with ⟨e, z⟩ | ⟨e, z1, z2⟩
    · rw [e]; exact hm.dia i hi z
    · rw [e]
      by_cases x1 : i = s
      · subst x1; rw [h0]; have := hm.dia i hi z2; omega
      · by_cases x2 : i = opp s
        · have := (gen i i hi hi x1)
          subst x2
          rw [hoo] at *
          have := hm.dia (opp s) ho z1
          rw [show s * 8 + opp s = s * 8 + opp s from rfl, h0]
          omega
        · exact (gen i i hi hi x1 x2 z1 z2).2.1 rfl
  · rw [chain_at hs h0 hi hj] at q ⊢
    rcases mnpl q with ⟨e, z⟩ | ⟨e, z1, z2⟩
    · rw [e]; exact hm.off i j hi hj e1 e2 z
    · rw [e]
      by_cases x1 : i = s
      · subst x1; rw [h0]; have := hm.off i j hi hj e1 e2 z2; omega
      · by_cases x2 : j = opp s
        · subst x2; rw [h0]; have := hm.off i (opp s) hi hj e1 e2 z1; omega
        · exact (gen i j hi hj x1 x2 z1 z2).2.2 (fun e => e1 e.symm) e2
  · have hoi := opp_lt hi
    rw [chain_at hs h0 hi hoi]
    by_cases q : mn (M (i * 8 + opp i)) (pl (M (i * 8 + opp s)) (M (s * 8 + opp i))) = NB
    · rw [q]; decide
    · rcases mnpl q with ⟨e, z⟩ | ⟨e, z1, z2⟩
      · rw [e]; exact h.zer i hi
      · rw [e]
        by_cases x1 : i = s
        · subst x1; rw [h0]; exact Int.le_refl _
        · have x2 : opp i ≠ opp s := by
            intro e
            exact x1 (by rw [← opp_opp i hi, e, hoo])
          exact (gen i (opp i) hi hoi x1 x2 z1 z2).1 rfl

end Go.Proofs.YtkggelfkpieonabDoor

/- The document's rounds come to what the program comes to. No Go in here. -/
namespace Go.Proofs.YtkggelfkpieonabDoor

theorem fol1 {f g : Nat} {c : Int} (h : kdT f g = 1) : (c < 0 → folV (vadd f g) c = (-2, 0)) ∧ (¬ c < 0 → folV (vadd f g) c = (-1, 0)) := by
  have h' : kd (vadd f g) = 1 := h
  unfold folV
  rw [h']
  exact ⟨fun q => if_pos ⟨rfl, q⟩, fun q => by rw [if_neg (fun z => q z.2), if_neg (by decide), if_neg (by decide)]⟩
theorem fol2 {f g : Nat} {c : Int} (hf : f < 32) (hg : g < 32) (h : kdT f g = 2) : folV (vadd f g) c = ((nmT f g : Int), c / 2) := by
  have h' : kd (vadd f g) = 2 := h
  unfold folV
  rw [h', if_neg (fun z => absurd z.1 (by decide)), if_pos rfl, ((nm_ok f hf g hg).1 h).1]
theorem fol3 {f g : Nat} {c : Int} (hf : f < 32) (hg : g < 32) (h : kdT f g = 3) : folV (vadd f g) c = ((nmT f g : Int), c) := by
  have h' : kd (vadd f g) = 3 := h
  unfold folV
  rw [h', if_neg (fun z => absurd z.1 (by decide)), if_neg (by decide), if_pos rfl, ((nm_ok f hf g hg).2 h).1]
theorem fol0 {f g : Nat} {c : Int} (h1 : kdT f g ≠ 1) (h2 : kdT f g ≠ 2) (h3 : kdT f g ≠ 3) : folV (vadd f g) c = (-1, 0) := by
  unfold folV
  rw [if_neg (fun z => h1 z.1), if_neg (show ¬ kd (vadd f g) = 2 from h2), if_neg (show ¬ kd (vadd f g) = 3 from h3)]

/-- One step of a round. -/
def rs1 (R : Nat → Int) (b : Bool) (f g : Nat) : Option ((Nat → Int) × Bool) :=
  if R f = NB ∨ R g = NB then some (R, b)
  else if (folV (vadd f g) (R f + R g)).1 = -2 then none
  else if 0 ≤ (folV (vadd f g) (R f + R g)).1 ∧ (folV (vadd f g) (R f + R g)).2 < R (folV (vadd f g) (R f + R g)).1.toNat then some (upd R (folV (vadd f g) (R f + R g)).1.toNat (folV (vadd f g) (R f + R g)).2, true)
  else some (R, b)
def rF (R : Nat → Int) : Nat → Option ((Nat → Int) × Bool)
  | 0 => some (R, false)
  | k + 1 => match rF R k with
    | none => none
    | some (R', b) => rs1 R' b (k / 32) (k % 32)
/-- What a step does, by what two forms come to. -/
inductive Rs (R : Nat → Int) (b : Bool) (f g : Nat) : Option ((Nat → Int) × Bool) → Prop
  | none : R f ≠ NB → R g ≠ NB → kdT f g = 1 → R f + R g < 0 → Rs R b f g none
  | same : (R f ≠ NB → R g ≠ NB → (kdT f g = 1 → 0 ≤ R f + R g) ∧ (kdT f g = 2 → R (nmT f g) ≤ (R f + R g) / 2) ∧ (kdT f g = 3 → R (nmT f g) ≤ R f + R g)) → Rs R b f g (some (R, b))
  | put (n : Nat) (c : Int) : R f ≠ NB → R g ≠ NB → n < 32 → n = nmT f g → c < R n → (kdT f g = 2 ∧ c = (R f + R g) / 2) ∨ (kdT f g = 3 ∧ c = R f + R g) → Rs R b f g (some (upd R n c, true))
theorem rs1_is (R : Nat → Int) (b : Bool) {f g : Nat} (hf : f < 32) (hg : g < 32) : Rs R b f g (rs1 R b f g) := by
  unfold rs1
  by_cases q : R f = NB ∨ R g = NB
  · rw [if_pos q]
    exact .same fun h1 h2 => absurd q (fun z => z.elim h1 h2)
  · rw [if_neg q]
    have q1 : R f ≠ NB := fun z => q (.inl z)
    have q2 : R g ≠ NB := fun z => q (.inr z)
    by_cases k1 : kdT f g = 1
    · by_cases c : R f + R g < 0
      · rw [(fol1 k1).1 c, if_pos rfl]
        exact .none q1 q2 k1 c
      · rw [(fol1 k1).2 c, if_neg (by decide), if_neg (fun z => absurd z.1 (by decide))]
        exact .same fun _ _ => ⟨fun _ => by omega, fun z => absurd (k1.symm.trans z) (by decide), fun z => absurd (k1.symm.trans z) (by decide)⟩
    · by_cases k2 : kdT f g = 2
      · rw [fol2 hf hg k2, if_neg (by show ¬ ((nmT f g : Nat) : Int) = -2; omega)]
        show Rs R b f g (if 0 ≤ ((nmT f g : Nat) : Int) ∧ (R f + R g) / 2 < R (((nmT f g : Nat) : Int)).toNat then some (upd R (((nmT f g : Nat) : Int)).toNat ((R f + R g) / 2), true) else some (R, b))
        rw [Int.toNat_natCast]
        by_cases c : (R f + R g) / 2 < R (nmT f g)
        · rw [if_pos ⟨by omega, c⟩]
          exact .put _ _ q1 q2 (by have := ((nm_ok f hf g hg).1 k2).2; omega) rfl c (.inl ⟨k2, rfl⟩)
        · rw [if_neg (fun z => c z.2)]
          exact .same fun _ _ => ⟨fun z => absurd z k1, fun _ => by omega, fun z => absurd (k2.symm.trans z) (by decide)⟩
      · by_cases k3 : kdT f g = 3
        · rw [fol3 hf hg k3, if_neg (by show ¬ ((nmT f g : Nat) : Int) = -2; omega)]
          show Rs R b f g (if 0 ≤ ((nmT f g : Nat) : Int) ∧ (R f + R g) < R (((nmT f g : Nat) : Int)).toNat then some (upd R (((nmT f g : Nat) : Int)).toNat (R f + R g), true) else some (R, b))
          rw [Int.toNat_natCast]
          by_cases c : R f + R g < R (nmT f g)
          · rw [if_pos ⟨by omega, c⟩]
            exact .put _ _ q1 q2 ((nm_ok f hf g hg).2 k3).2 rfl c (.inr ⟨k3, rfl⟩)
          · rw [if_neg (fun z => c z.2)]
            exact .same fun _ _ => ⟨fun z => absurd z k1, fun z => absurd (k3.symm.trans z) (by decide), fun _ => by omega⟩
        · rw [fol0 k1 k2 k3, if_neg (by decide), if_neg (fun z => absurd z.1 (by decide))]
          exact .same fun _ _ => ⟨fun z => absurd z k1, fun z => absurd z k2, fun z => absurd z k3⟩

/-- What stands when part of a round is done. -/
structure RI (R : Nat → Int) (k : Nat) (R' : Nat → Int) (b : Bool) : Prop where
  le : ∀ f, f < 32 → R' f ≤ R f
  same : b = false → ∀ f, f < 32 → R' f = R f
  more : b = true → ∃ f, f < 32 ∧ R' f < R f
  done : ∀ m, m < k → R (m / 32) ≠ NB → R (m % 32) ≠ NB → (kdT (m / 32) (m % 32) = 1 → 0 ≤ R (m / 32) + R (m % 32)) ∧ (kdT (m / 32) (m % 32) = 2 → R' (nmT (m / 32) (m % 32)) ≤ (R (m / 32) + R (m % 32)) / 2) ∧ (kdT (m / 32) (m % 32) = 3 → R' (nmT (m / 32) (m % 32)) ≤ R (m / 32) + R (m % 32))
theorem nm_lt {f g : Nat} (hf : f < 32) (hg : g < 32) (h : kdT f g = 2 ∨ kdT f g = 3) : nmT f g < 32 := by
  rcases h with h | h
  · have := ((nm_ok f hf g hg).1 h).2; omega
  · exact ((nm_ok f hf g hg).2 h).2
theorem rF_inv {R : Nat → Int} (hR : ∀ f, f < 32 → R f ≤ NB) : ∀ k, k ≤ 1024 → ∀ R' b, rF R k = some (R', b) → RI R k R' b := by
  intro k
  induction k with
  | zero =>
    intro _ R' b h
    rw [rF] at h
    cases h
    exact ⟨fun _ _ => Int.le_refl _, fun _ _ _ => rfl, fun q => Bool.noConfusion q, fun m hm => by omega⟩
  | succ k ih =>
    intro hk R' b h
    rw [rF] at h
    generalize hp : rF R k = p at h
    match p, hp, h with
    | some (R1, b1), hp, h =>
      have hi := ih (by omega) R1 b1 hp
      have hf : k / 32 < 32 := by omega
      have hg : k % 32 < 32 := by omega
      have s := rs1_is R1 b1 hf hg
      replace h : rs1 R1 b1 (k / 32) (k % 32) = some (R', b) := h
      rw [h] at s
      have fin : ∀ f, f < 32 → R f ≠ NB → R1 f ≠ NB := by
        intro f hf q
        have := hR f hf
        have := hi.le f hf
        omega
      cases s with
      | same hs =>
        refine ⟨hi.le, hi.same, hi.more, fun m hm q1 q2 => ?_⟩
        rcases Nat.lt_or_eq_of_le (Nat.lt_succ_iff.1 hm) with e | e
        · exact hi.done m e q1 q2
        · subst e
          obtain ⟨a1, a2, a3⟩ := hs (fin _ hf q1) (fin _ hg q2)
          have l1 := hi.le _ hf
          have l2 := hi.le _ hg
          exact ⟨fun z => by have := a1 z; omega, fun z => by have := a2 z; omega, fun z => by have := a3 z; omega⟩
      | put n c q1 q2 hn en hc hk' =>
        have le' : ∀ f, f < 32 → upd R1 n c f ≤ R1 f := by
          intro f hf
          unfold upd
          split
          · rename_i e; subst e; omega
          · exact Int.le_refl _
        refine ⟨fun f hf => Int.le_trans (le' f hf) (hi.le f hf), fun q => Bool.noConfusion q, fun _ => ⟨n, hn, ?_⟩, fun m hm w1 w2 => ?_⟩
        · rw [upd_same]
          have := hi.le n hn
          omega
        · rcases Nat.lt_or_eq_of_le (Nat.lt_succ_iff.1 hm) with e | e
          · obtain ⟨a1, a2, a3⟩ := hi.done m e w1 w2
            refine ⟨a1, fun z => ?_, fun z => ?_⟩
            · exact Int.le_trans (le' _ (nm_lt (by omega) (by omega) (.inl z))) (a2 z)
            · exact Int.le_trans (le' _ (nm_lt (by omega) (by omega) (.inr z))) (a3 z)
          · subst e
            have l1 := hi.le _ hf
            have l2 := hi.le _ hg
            rw [← en, upd_same]
            rcases hk' with ⟨k2, ec⟩ | ⟨k3, ec⟩
            · exact ⟨fun z => absurd (k2.symm.trans z) (by decide), fun _ => by omega, fun z => absurd (k2.symm.trans z) (by decide)⟩
            · exact ⟨fun z => absurd (k3.symm.trans z) (by decide), fun z => absurd (k3.symm.trans z) (by decide), fun _ => by omega⟩
theorem rF_rd {R R' : Nat → Int} {b : Bool} (hR : ∀ f, f < 32 → R f ≤ NB) (h : rF R 1024 = some (R', b)) : RdO R R' := by
  have hi := rF_inv hR 1024 (Nat.le_refl _) R' b h
  have hd : ∀ f g, f < 32 → g < 32 → R f ≠ NB → R g ≠ NB → (kdT f g = 1 → 0 ≤ R f + R g) ∧ (kdT f g = 2 → R' (nmT f g) ≤ (R f + R g) / 2) ∧ (kdT f g = 3 → R' (nmT f g) ≤ R f + R g) := by
    intro f g hf hg
    have := hi.done (f * 32 + g) (by omega)
    rw [show (f * 32 + g) / 32 = f by omega, show (f * 32 + g) % 32 = g by omega] at this
    exact this
  exact ⟨hi.le, fun f g hf hg k q1 q2 => (hd f g hf hg q1 q2).1 k, fun f g hf hg k q1 q2 => (hd f g hf hg q1 q2).2.1 k, fun f g hf hg k q1 q2 => (hd f g hf hg q1 q2).2.2 k⟩

/- Seventeen rounds. -/
theorem Raw.rounds {M : Nat → Int} (h : Raw M) {R : Nat → Nat → Int} (hr : ∀ r, r < 16 → RdO (R r) (R (r + 1))) (h0 : Un (R 0) M) : ∀ s, s ≤ 8 → Ex M s ∧ Un (R (2 * s)) (fw M s) := by
  intro s
  induction s with
  | zero => intro _; exact ⟨fun r hr => by omega, h0⟩
  | succ s ih =>
    intro hs
    obtain ⟨hx, hu⟩ := ih (by omega)
    have hz : fw M s (s * 8 + opp s) = 0 := by
      have a := hu.zer s (by omega)
      have b := fw_le M s (s * 8 + opp s)
      rw [h.zero s (by omega)] at b
      omega
    have hus := ub_small s (by omega)
    refine ⟨fun r hr => ?_, ?_⟩
    · rcases Nat.lt_or_eq_of_le (Nat.lt_succ_iff.1 hr) with e | e
      · exact hx r e
      · rw [e]; exact hz
    · rw [fw, show 2 * (s + 1) = 2 * s + 1 + 1 by omega]
      exact hu.chain (by omega) hus.1 hus.2 (fw_bd h.bd s (by omega) hx) hz (hr (2 * s) (by omega)) (hr (2 * s + 1) (by omega))
theorem Un.sharp {R R' T : Nat → Int} (hB : Bd 432000 T) (h : Un R T) (hr : RdO R R') : Un R' (ahF (rdF T 8) 64) := by
  have sh : ∀ {i j : Nat}, i < 8 → j < 8 → ShAt T (ahF (rdF T 8) 64 (i * 8 + j)) i j := fun hi hj => sh_at (U := 432000) (by omega) hB hi hj
  generalize ahF (rdF T 8) 64 = C at sh ⊢
  have h' := h.rd hr
  have one : ∀ i, i < 8 → ev (T (i * 8 + i)) ≠ NB → R i ≠ NB ∧ 2 * R i ≤ ev (T (i * 8 + i)) := by
    intro i hi q
    obtain ⟨k1, k2⟩ := ev_fin q
    have a := h.dia i hi k1
    have b := (hB (i * 8 + i) (by omega)).resolve_left k1
    rw [k2]
    exact ⟨by unfold NB; omega, by omega⟩
  refine ⟨fun i hi q => ?_, fun i j hi hj e1 e2 q => ?_, fun i hi => ?_⟩
  · rw [sh_dia (sh hi hi)] at q ⊢
    have := (one i hi q).2
    have := hr.le i (by omega)
    omega
  · rcases (sh hi hj).cas with z | ⟨_, z2, z3⟩ | ⟨z1, z2, z3⟩
    · exact absurd z q
    · rw [z2]; exact h'.off i j hi hj e1 e2 z3
    · obtain ⟨a1, a2⟩ := one i hi z1
      obtain ⟨b1, b2⟩ := one j hj z2
      have t := (tab3 i hi j hj).2 ⟨fun e => e1 e.symm, e2⟩
      have x := hr.sum i j (by omega) (by omega) t.1 a1 b1
      rw [t.2] at x
      omega
  · rcases (sh hi (opp_lt hi)).cas with z | ⟨_, z2, z3⟩ | ⟨z1, z2, z3⟩
    · rw [z]; decide
    · rw [z2]; exact h.zer i hi
    · obtain ⟨a1, a2⟩ := one i hi z1
      obtain ⟨b1, b2⟩ := one (opp i) (opp_lt hi) z2
      have x := hr.zer i (opp i) (by omega) (by have := opp_lt hi; omega) ((tab3 i hi (opp i) (opp_lt hi)).1 rfl) a1 b1
      omega
theorem Raw.rounds17 {M : Nat → Int} (h : Raw M) {R : Nat → Nat → Int} (hr : ∀ r, r < 17 → RdO (R r) (R (r + 1))) (h0 : Un (R 0) M) : Un (R 17) (sharp M) := by
  obtain ⟨hx, hu⟩ := h.rounds (fun r hr' => hr r (by omega)) h0 8 (Nat.le_refl _)
  exact hu.sharp (fw_bd h.bd 8 (Nat.le_refl _) hx) (hr 16 (by omega))

end Go.Proofs.YtkggelfkpieonabDoor

/- Bounds from which nothing follows: the document's rounds stay above them. No Go in here. -/
namespace Go.Proofs.YtkggelfkpieonabDoor

/-- All that two forms may come to, said by sides. -/
inductive Tab (f g : Nat) : Prop
  | no : kdT f g = 0 → Tab f g
  | z11 : f < 8 → g < 8 → g = opp f → kdT f g = 1 → Tab f g
  | d11 : f < 8 → g < 8 → g = f → kdT f g = 2 → nmT f g = f → Tab f g
  | s11 : f < 8 → g < 8 → g ≠ f → g ≠ opp f → kdT f g = 3 → nmT f g = nf f g → Tab f g
  | s12 (a b : Nat) : f < 8 → 8 ≤ g → kdT f g = 3 → (fs g = a ∧ ss g = b) ∨ (ss g = a ∧ fs g = b) → a = opp f → nmT f g = b → Tab f g
  | s21 (a b : Nat) : 8 ≤ f → g < 8 → kdT f g = 3 → (fs f = a ∧ ss f = b) ∨ (ss f = a ∧ fs f = b) → a = opp g → nmT f g = b → Tab f g
  | t22 (i p s j : Nat) : 8 ≤ f → 8 ≤ g → (fs f = i ∧ ss f = p) ∨ (ss f = i ∧ fs f = p) → (fs g = s ∧ ss g = j) ∨ (ss g = s ∧ fs g = j) → p = opp s →
      (kdT f g = 1 ∧ j = opp i) ∨ (kdT f g = 2 ∧ j = i ∧ nmT f g = i) ∨ (kdT f g = 3 ∧ j ≠ i ∧ j ≠ opp i ∧ nmT f g = nf i j) → Tab f g
theorem tab_is {f g : Nat} (hf : f < 32) (hg : g < 32) : Tab f g := by
  have h := tab_all f hf g hg
  unfold tabB at h
  simp only [Bool.or_eq_true, Bool.and_eq_true, decide_eq_true_eq, List.any_eq_true] at h
  rcases h with (((h | ⟨⟨h1, h2⟩, h3⟩) | ⟨⟨⟨h1, h2⟩, h3⟩, h4⟩) | ⟨⟨⟨h1, h2⟩, h3⟩, h4⟩) | ⟨⟨h1, h2⟩, h3⟩
  · exact .no h
  · rcases h3 with (⟨e, k⟩ | ⟨⟨e, k⟩, n⟩) | ⟨⟨⟨e1, e2⟩, k⟩, n⟩
    · exact .z11 h1 h2 e k
    · exact .d11 h1 h2 e k n
    · exact .s11 h1 h2 e1 e2 k n
  · rcases h4 with ⟨e, n⟩ | ⟨e, n⟩
    · exact .s12 (fs g) (ss g) h1 h2 h3 (.inl ⟨rfl, rfl⟩) e n
    · exact .s12 (ss g) (fs g) h1 h2 h3 (.inr ⟨rfl, rfl⟩) e n
  · rcases h4 with ⟨e, n⟩ | ⟨e, n⟩
    · exact .s21 (fs f) (ss f) h1 h2 h3 (.inl ⟨rfl, rfl⟩) e n
    · exact .s21 (ss f) (fs f) h1 h2 h3 (.inr ⟨rfl, rfl⟩) e n
  · obtain ⟨b1, _, b2, _, e, t⟩ := h3
    refine .t22 (if b1 = true then fs f else ss f) (if b1 = true then ss f else fs f) (if b2 = true then fs g else ss g) (if b2 = true then ss g else fs g) h1 h2 ?_ ?_ e ?_
    · cases b1
      · exact .inr ⟨rfl, rfl⟩
      · exact .inl ⟨rfl, rfl⟩
    · cases b2
      · exact .inr ⟨rfl, rfl⟩
      · exact .inl ⟨rfl, rfl⟩
    · rcases t with (⟨k, e⟩ | ⟨⟨k, e⟩, n⟩) | ⟨⟨⟨k, e1⟩, e2⟩, n⟩
      · exact .inl ⟨k, e⟩
      · exact .inr (.inl ⟨k, e, n⟩)
      · exact .inr (.inr ⟨k, e1, e2, n⟩)

theorem TC.lo {C : Nat → Int} (h : TC C) {f : Nat} (hf : f < 8) : (C (f * 8 + f) = NB → bd C f = NB) ∧ (C (f * 8 + f) ≠ NB → 2 * bd C f = C (f * 8 + f) ∧ bd C f ≠ NB) := by
  obtain ⟨_, _, _, _, e, _⟩ := nf_fs f (by omega)
  obtain ⟨e1, e2⟩ := e hf
  unfold bd
  rw [e1, e2]
  refine ⟨fun q => ?_, fun q => ?_⟩
  · rw [if_neg (fun z => z.2 q), q]
  · rw [if_pos ⟨rfl, q⟩]
    have := tdiv_even ((h.even f hf).resolve_left q)
    have := (h.top (f * 8 + f) (by omega)).resolve_left q
    exact ⟨by omega, by unfold NB; omega⟩
theorem bd_hi {C : Nat → Int} (hS : Sym C) {f i j : Nat} (hf : f < 32) (h8 : 8 ≤ f) (h : (fs f = i ∧ ss f = j) ∨ (ss f = i ∧ fs f = j)) : bd C f = C (i * 8 + j) ∧ i < 8 ∧ j < 8 := by
  obtain ⟨l1, l2, _, _, _, e⟩ := nf_fs f hf
  unfold bd
  rw [if_neg (fun z => e h8 z.1)]
  rcases h with ⟨a, b⟩ | ⟨a, b⟩
  · rw [← a, ← b]; exact ⟨rfl, l1, l2⟩
  · rw [← a, ← b]; exact ⟨hS _ _ l1 l2, l2, l1⟩
theorem nf_ge : ∀ i : Nat, i < 8 → ∀ j, j < 8 → (i ≠ j ∧ j ≠ opp i) → 8 ≤ nf i j := by decide +kernel
theorem bd_nf {C : Nat → Int} (hS : Sym C) {i j : Nat} (hi : i < 8) (hj : j < 8) (h1 : i ≠ j) (h2 : j ≠ opp i) : bd C (nf i j) = C (i * 8 + j) := by
  obtain ⟨a, b⟩ := nf_ok i hi j hj h2
  have g := nf_ge i hi j hj ⟨h1, h2⟩
  refine (bd_hi hS (i := i) (j := j) a g ?_).1
  rcases b with b | b
  · exact .inl b
  · exact .inr ⟨b.2, b.1⟩
theorem TC.single {C : Nat → Int} (h : TC C) {i b : Nat} (hi : i < 8) (hb : b < 8) (h1 : C (opp i * 8 + b) ≠ NB) (h2 : C (i * 8 + i) ≠ NB) : C (b * 8 + b) ≠ NB ∧ C (b * 8 + b) ≤ 2 * C (opp i * 8 + b) + C (i * 8 + i) := by
  have ho := opp_lt hi
  have a := h.tri (opp i) ho i b hi hb
  rw [opp_opp i hi] at a
  obtain ⟨a1, a2⟩ := (a.resolve_left h2).resolve_left h1
  have c := h.tri i hi b b hb hb
  rw [h.sym b (opp i) hb ho] at c
  obtain ⟨c1, c2⟩ := (c.resolve_left h1).resolve_left a1
  exact ⟨c1, by omega⟩
/-- Of bounds from which nothing follows nothing follows. -/
theorem TC.sum {C : Nat → Int} (h : TC C) {f g : Nat} (hf : f < 32) (hg : g < 32) (q1 : bd C f ≠ NB) (q2 : bd C g ≠ NB) :
    (kdT f g = 1 → 0 ≤ bd C f + bd C g) ∧ (kdT f g = 2 → 2 * bd C (nmT f g) ≤ bd C f + bd C g) ∧ (kdT f g = 3 → bd C (nmT f g) ≤ bd C f + bd C g) := by
  have lo : ∀ i, i < 8 → bd C i ≠ NB → C (i * 8 + i) ≠ NB ∧ 2 * bd C i = C (i * 8 + i) := by
    intro i hi q
    by_cases e : C (i * 8 + i) = NB
    · exact absurd ((h.lo hi).1 e) q
    · exact ⟨e, ((h.lo hi).2 e).1⟩
  cases tab_is hf hg with
  | no k => exact ⟨fun z => absurd (k.symm.trans z) (by decide), fun z => absurd (k.symm.trans z) (by decide), fun z => absurd (k.symm.trans z) (by decide)⟩
  | z11 f8 g8 e k =>
    refine ⟨fun _ => ?_, fun z => absurd (k.symm.trans z) (by decide), fun z => absurd (k.symm.trans z) (by decide)⟩
    subst e
    obtain ⟨a1, a2⟩ := lo f f8 q1
    obtain ⟨b1, b2⟩ := lo _ g8 q2
    have := (h.half f (opp f) f8 g8 a1 b1).2
    rw [h.zero f f8] at this
    omega
  | d11 f8 g8 e k n =>
    refine ⟨fun z => absurd (k.symm.trans z) (by decide), fun _ => ?_, fun z => absurd (k.symm.trans z) (by decide)⟩
    rw [n, e]
    omega
  | s11 f8 g8 e1 e2 k n =>
    refine ⟨fun z => absurd (k.symm.trans z) (by decide), fun z => absurd (k.symm.trans z) (by decide), fun _ => ?_⟩
    rw [n, bd_nf h.sym f8 g8 (fun e => e1 e.symm) e2]
    obtain ⟨a1, a2⟩ := lo f f8 q1
    obtain ⟨b1, b2⟩ := lo _ g8 q2
    have := (h.half f g f8 g8 a1 b1).2
    omega
  | s12 a b f8 g8 k s e n =>
    refine ⟨fun z => absurd (k.symm.trans z) (by decide), fun z => absurd (k.symm.trans z) (by decide), fun _ => ?_⟩
    obtain ⟨x, la, lb⟩ := bd_hi h.sym hg g8 s
    rw [x] at q2 ⊢
    rw [n]
    subst e
    obtain ⟨a1, a2⟩ := lo f f8 q1
    obtain ⟨c1, c2⟩ := h.single f8 lb q2 a1
    have := ((h.lo lb).2 c1).1
    omega
  | s21 a b f8 g8 k s e n =>
    refine ⟨fun z => absurd (k.symm.trans z) (by decide), fun z => absurd (k.symm.trans z) (by decide), fun _ => ?_⟩
    obtain ⟨x, la, lb⟩ := bd_hi h.sym hf f8 s
    rw [x] at q1 ⊢
    rw [n]
    subst e
    obtain ⟨a1, a2⟩ := lo g g8 q2
    obtain ⟨c1, c2⟩ := h.single g8 lb q1 a1
    have := ((h.lo lb).2 c1).1
    omega
  | t22 i p s j f8 g8 x y e t =>
    obtain ⟨u, li, lp⟩ := bd_hi h.sym hf f8 x
    obtain ⟨v, ls, lj⟩ := bd_hi h.sym hg g8 y
    rw [u] at q1 ⊢
    rw [v] at q2 ⊢
    subst e
    obtain ⟨c1, c2⟩ := ((h.tri s ls i j li lj).resolve_left q1).resolve_left q2
    rcases t with ⟨k, e⟩ | ⟨k, e, n⟩ | ⟨k, e1, e2, n⟩
    · refine ⟨fun _ => ?_, fun z => absurd (k.symm.trans z) (by decide), fun z => absurd (k.symm.trans z) (by decide)⟩
      rw [e, h.zero i li] at c2
      rw [e]
      exact c2
    · refine ⟨fun z => absurd (k.symm.trans z) (by decide), fun _ => ?_, fun z => absurd (k.symm.trans z) (by decide)⟩
      rw [n]
      rw [e] at c1 c2 ⊢
      have := ((h.lo li).2 c1).1
      omega
    · refine ⟨fun z => absurd (k.symm.trans z) (by decide), fun z => absurd (k.symm.trans z) (by decide), fun _ => ?_⟩
      rw [n, bd_nf h.sym li lj (fun z => e1 z.symm) e2]
      exact c2

/-- The bounds stay above. -/
def Ab (C R : Nat → Int) : Prop := ∀ f, f < 32 → bd C f ≤ R f
theorem rs1_ab {C R : Nat → Int} (h : TC C) (hA : Ab C R) (hR : ∀ f, f < 32 → R f ≤ NB) (b : Bool) {f g : Nat} (hf : f < 32) (hg : g < 32) : ∃ R' b', rs1 R b f g = some (R', b') ∧ Ab C R' ∧ ∀ f, f < 32 → R' f ≤ NB := by
  have s := rs1_is R b hf hg
  generalize rs1 R b f g = o at s
  have fin : ∀ f, f < 32 → R f ≠ NB → bd C f ≠ NB := by
    intro f hf q
    have := hA f hf
    have := hR f hf
    omega
  cases s with
  | none q1 q2 k c =>
    exfalso
    have := (h.sum hf hg (fin f hf q1) (fin g hg q2)).1 k
    have := hA f hf
    have := hA g hg
    omega
  | same _ => exact ⟨R, b, rfl, hA, hR⟩
  | put n c q1 q2 hn en hc hk =>
    refine ⟨upd R n c, true, rfl, fun x hx => ?_, fun x hx => ?_⟩
    · unfold upd
      split
      · rename_i e
        subst e
        have a1 := hA f hf
        have a2 := hA g hg
        have hs := h.sum hf hg (fin f hf q1) (fin g hg q2)
        rw [← en] at hs
        rcases hk with ⟨k, e⟩ | ⟨k, e⟩
        · have := hs.2.1 k; omega
        · have := hs.2.2 k; omega
      · exact hA x hx
    · unfold upd
      split
      · rename_i e
        subst e
        have := hR x hx
        omega
      · exact hR x hx
theorem rF_ab {C R : Nat → Int} (h : TC C) (hA : Ab C R) (hR : ∀ f, f < 32 → R f ≤ NB) : ∀ k, k ≤ 1024 → ∃ R' b', rF R k = some (R', b') ∧ Ab C R' ∧ ∀ f, f < 32 → R' f ≤ NB := by
  intro k
  induction k with
  | zero => intro _; exact ⟨R, false, rfl, hA, hR⟩
  | succ k ih =>
    intro hk
    obtain ⟨R1, b1, e, h1, h2⟩ := ih (by omega)
    rw [rF, e]
    exact rs1_ab h h1 h2 b1 (by omega) (by omega)

/-- Rounds, one after the other. -/
def rnd (R : Nat → Int) : Option ((Nat → Int) × Bool) := rF R 1024
def itF (R : Nat → Int) : Nat → Option (Nat → Int)
  | 0 => some R
  | n + 1 => match itF R n with
    | none => none
    | some R' => (rnd R').map fun x => x.1
theorem itF_none {R : Nat → Int} {n : Nat} (h : itF R n = none) : ∀ k, itF R (n + k) = none
  | 0 => h
  | k + 1 => by
    show (match itF R (n + k) with | none => none | some R' => (rnd R').map fun x => x.1) = none
    rw [itF_none h k]
theorem itF_succ {R R' : Nat → Int} {n : Nat} (h : itF R (n + 1) = some R') : ∃ R1 b, itF R n = some R1 ∧ rnd R1 = some (R', b) := by
  rw [itF] at h
  cases e : itF R n with
  | none => rw [e] at h; cases h
  | some R1 =>
    rw [e] at h
    cases e2 : rnd R1 with
    | none =>
      replace h : (rnd R1).map (fun x => x.1) = some R' := h
      rw [e2] at h; cases h
    | some x =>
      replace h : (rnd R1).map (fun x => x.1) = some R' := h
      rw [e2] at h
      obtain ⟨R2, b⟩ := x
      have : R2 = R' := Option.some.inj h
      subst this
      exact ⟨R1, b, rfl, e2⟩
theorem itF_hi {R : Nat → Int} (hR : ∀ f, f < 32 → R f ≤ NB) : ∀ n R', itF R n = some R' → ∀ f, f < 32 → R' f ≤ NB := by
  intro n
  induction n with
  | zero => intro R' h; cases h; exact hR
  | succ n ih =>
    intro R' h f hf
    obtain ⟨R1, b, e, e2⟩ := itF_succ h
    have h1 := ih R1 e
    exact Int.le_trans ((rF_inv h1 1024 (Nat.le_refl _) _ b e2).le f hf) (h1 f hf)
theorem itF_rd {R : Nat → Int} (hR : ∀ f, f < 32 → R f ≤ NB) {n : Nat} {R1 R2 : Nat → Int} (h1 : itF R n = some R1) (h2 : itF R (n + 1) = some R2) : RdO R1 R2 := by
  obtain ⟨R3, b, e, e2⟩ := itF_succ h2
  rw [h1] at e
  have : R1 = R3 := Option.some.inj e
  subst this
  exact rF_rd (itF_hi hR n R1 h1) e2
theorem itF_un {M R R' : Nat → Int} (h : Raw M) (hR : ∀ f, f < 32 → R f ≤ NB) (h0 : Un R M) (h1 : itF R 17 = some R') : Un R' (sharp M) := by
  have hs : ∀ n, n ≤ 17 → ∃ R1, itF R n = some R1 := by
    intro n hn
    cases e : itF R n with
    | some R1 => exact ⟨R1, rfl⟩
    | none =>
      have := itF_none e (17 - n)
      rw [show n + (17 - n) = 17 by omega, h1] at this
      cases this
  have hx : ∀ n, n ≤ 17 → itF R n = some ((itF R n).getD R) := by
    intro n hn
    obtain ⟨R1, e⟩ := hs n hn
    rw [e]; rfl
  have r17 := h.rounds17 (R := fun n => (itF R n).getD R) (fun r hr => itF_rd hR (hx r (by omega)) (hx (r + 1) (by omega))) h0
  have e : (itF R 17).getD R = R' := by rw [h1]; rfl
  rw [← e]
  exact r17
/-- Where there is no state the rounds end with none. -/
theorem itF_empty {M R : Nat → Int} (h : Raw M) (hR : ∀ f, f < 32 → R f ≤ NB) (h0 : Un R M) (hc : conF (sharp M) 8 = true) : itF R 17 = none := by
  cases e : itF R 17 with
  | none => rfl
  | some R' =>
    obtain ⟨i, hi, q⟩ := conF_true hc
    have := (itF_un h hR h0 e).zer i hi
    omega
theorem Un.eqs {C R : Nat → Int} (hT : TC C) (h : Un R C) (hA : Ab C R) (hR : ∀ f, f < 32 → R f ≤ NB) : ∀ f, f < 32 → R f = bd C f := by
  intro f hf
  have a := hA f hf
  by_cases q : bd C f = NB
  · have := hR f hf
    omega
  · obtain ⟨l1, l2, e, e2, e3, e4⟩ := nf_fs f hf
    by_cases f8 : f < 8
    · have q' : C (f * 8 + f) ≠ NB := fun z => q ((hT.lo f8).1 z)
      have := h.dia f f8 q'
      have := ((hT.lo f8).2 q').1
      omega
    · have b := bd_hi hT.sym hf (by omega) (.inl ⟨rfl, rfl⟩)
      rw [b.1] at q a ⊢
      have := h.off (fs f) (ss f) l1 l2 (e4 (by omega)) e2 q
      rw [e] at this
      omega
/-- Where there are states: no round finds none, and one that changes nothing has come to the program's bounds; the eighteenth does. -/
theorem itF_ab {C R : Nat → Int} (h : TC C) (hR : ∀ f, f < 32 → R f ≤ NB) (hA : Ab C R) : ∀ n, ∃ R', itF R n = some R' ∧ Ab C R' ∧ ∀ f, f < 32 → R' f ≤ NB := by
  intro n
  induction n with
  | zero => exact ⟨R, rfl, hA, hR⟩
  | succ n ih =>
    obtain ⟨R1, e, h1, h2⟩ := ih
    obtain ⟨R2, b, e2, h3, h4⟩ := rF_ab h h1 h2 1024 (Nat.le_refl _)
    exact ⟨R2, by rw [itF, e]; show (rnd R1).map _ = _; rw [show rnd R1 = some (R2, b) from e2]; rfl, h3, h4⟩
theorem itF_17 {M R R' : Nat → Int} {b : Bool} (h : Raw M) (hR : ∀ f, f < 32 → R f ≤ NB) (h0 : Un R M) (hA : Ab (sharp M) R) (hc : conF (sharp M) 8 = false) {R1 : Nat → Int} (h1 : itF R 17 = some R1) (h2 : rnd R1 = some (R', b)) : b = false := by
  have hT := h.tc hc
  obtain ⟨R3, e3, a3, hi3⟩ := itF_ab hT hR hA 17
  rw [h1] at e3
  cases e3
  have eq := (itF_un h hR h0 h1).eqs hT a3 hi3
  cases b with
  | false => rfl
  | true =>
    obtain ⟨f, hf, l⟩ := (rF_inv hi3 1024 (Nat.le_refl _) R' true h2).more rfl
    obtain ⟨R4, b4, e4, a4, _⟩ := rF_ab hT a3 hi3 1024 (Nat.le_refl _)
    have e5 : (R', true) = (R4, b4) := Option.some.inj (h2.symm.trans e4)
    cases e5
    have := a4 f hf
    rw [eq f hf] at l
    omega
theorem RdO.un {M R : Nat → Int} (h : Raw M) (hr : RdO R R) (h0 : Un R M) : Un R (sharp M) := h.rounds17 (R := fun _ => R) (fun _ _ => hr) h0

end Go.Proofs.YtkggelfkpieonabDoor

/- A list of bounds: where the program and the document start. No Go in here. -/
namespace Go.Proofs.YtkggelfkpieonabDoor

theorem lay_nf (l : List Int) {i j : Nat} (hi : i < 8) (hj : j < 8) (h : j ≠ opp i) : lay l 32 (i * 8 + j) = bv l (nf i j) := by
  obtain ⟨a, b⟩ := nf_ok i hi j hj h
  have c := lay_form l (nf i j) a
  rcases b with ⟨b1, b2⟩ | ⟨b1, b2⟩
  · rw [b1, b2] at c; exact c.1
  · rw [b1, b2] at c; exact c.2
theorem bv_lo (l : List Int) {i : Nat} (hi : i < 8) : (l.getD i 0 = NB → bv l i = NB) ∧ (l.getD i 0 ≠ NB → bv l i = 2 * l.getD i 0) := by
  obtain ⟨_, _, _, _, e, _⟩ := nf_fs i (by omega)
  obtain ⟨e1, e2⟩ := e hi
  unfold bv
  rw [e1, e2]
  exact ⟨fun q => by rw [if_neg (fun z => z.2 q), q], fun q => if_pos ⟨rfl, q⟩⟩
theorem bv_hi (l : List Int) {i j : Nat} (hi : i < 8) (hj : j < 8) (h1 : i ≠ j) (h2 : j ≠ opp i) : bv l (nf i j) = l.getD (nf i j) 0 := by
  obtain ⟨_, _, _, _, _, e⟩ := nf_fs (nf i j) (nf_ok i hi j hj h2).1
  unfold bv
  rw [if_neg (fun z => e (nf_ge i hi j hj ⟨h1, h2⟩) z.1)]
theorem isB_or {n : Int} (h : isB n = true) : n = NB ∨ (-4000 ≤ n ∧ n ≤ 4000) := of_decide_eq_true h
theorem raw_lay {l : List Int} (hl : okL l) : Raw (lay l 32) := by
  have hz := lay_opp l
  refine ⟨⟨fun i j hi hj hn => ?_, fun i hi => ?_⟩, fun i j hi hj => ?_, hz⟩
  · by_cases e : j = opp i
    · rw [e, hz i hi]; exact .inr (by decide)
    · have q := isB_or (hl.2 (nf i j) (nf_ok i hi j hj e).1)
      rw [lay_nf l hi hj e, bv_hi l hi hj hn e]
      rcases q with q | q
      · exact .inl q
      · exact .inr q.2
  · have q := isB_or (hl.2 i (by omega))
    rw [lay_nf l hi hi (fun e => opp_ne i e.symm), nf_self]
    have b := bv_lo l hi
    by_cases e : l.getD i 0 = NB
    · exact .inl (b.1 e)
    · rw [b.2 e]
      have := q.resolve_left e
      exact .inr (by omega)
  · by_cases e : j = opp i
    · rw [e, hz i hi]
      have := hz (opp i) (opp_lt hi)
      rw [opp_opp i hi] at this
      exact this.symm
    · obtain ⟨a, b⟩ := nf_ok i hi j hj e
      have c := lay_form l (nf i j) a
      rcases b with ⟨b1, b2⟩ | ⟨b1, b2⟩
      · rw [b1, b2] at c; rw [c.1, c.2]
      · rw [b1, b2] at c; rw [c.1, c.2]
theorem un_lay (l : List Int) : Un (fun f => l.getD f 0) (lay l 32) := by
  refine ⟨fun i hi q => ?_, fun i j hi hj h1 h2 _ => ?_, fun i hi => ?_⟩
  · rw [lay_nf l hi hi (fun e => opp_ne i e.symm), nf_self] at q ⊢
    have b := bv_lo l hi
    by_cases e : l.getD i 0 = NB
    · exact absurd (b.1 e) q
    · rw [b.2 e]; exact Int.le_refl _
  · rw [lay_nf l hi hj h2, bv_hi l hi hj h1 h2]
    exact Int.le_refl _
  · rw [lay_opp l i hi]; exact Int.le_refl _
theorem ab_lay {l : List Int} (hl : okL l) : Ab (sharp (lay l 32)) (fun f => l.getD f 0) := fun f hf => bd_le hl.2 (fun k => sharp_le _ k) f hf
theorem hi_lay {l : List Int} (hl : okL l) : ∀ f, f < 32 → (fun f => l.getD f 0) f ≤ NB := by
  intro f hf
  show l.getD f 0 ≤ NB
  rcases isB_or (hl.2 f hf) with q | q
  · omega
  · unfold NB; omega

/-- What the document's rounds come to: none, where the program finds the octagon empty .. -/
theorem doc_empty {l : List Int} (hl : okL l) (he : ovE l = true) : itF (fun f => l.getD f 0) 17 = none := itF_empty (raw_lay hl) (hi_lay hl) (un_lay l) he
/-- .. else no round finds none, .. -/
theorem doc_some {l : List Int} (hl : okL l) (he : ovE l = false) (n : Nat) : ∃ R', itF (fun f => l.getD f 0) n = some R' ∧ Ab (ovM l) R' ∧ ∀ f, f < 32 → R' f ≤ NB := itF_ab ((raw_lay hl).tc he) (hi_lay hl) (ab_lay hl) n
theorem doc_step {l : List Int} (hl : okL l) (he : ovE l = false) {n : Nat} {R : Nat → Int} (h : itF (fun f => l.getD f 0) n = some R) : ∃ R' b, rnd R = some (R', b) := by
  obtain ⟨R1, e, a, hi⟩ := doc_some hl he n
  have : R1 = R := Option.some.inj (e.symm.trans h)
  subst this
  obtain ⟨R2, b, e2, _⟩ := rF_ab ((raw_lay hl).tc he) a hi 1024 (Nat.le_refl _)
  exact ⟨R2, b, e2⟩
/-- .. the eighteenth changes nothing, .. -/
theorem doc_17 {l : List Int} (hl : okL l) {R R' : Nat → Int} {b : Bool} (h : itF (fun f => l.getD f 0) 17 = some R) (h2 : rnd R = some (R', b)) : b = false := by
  cases he : ovE l with
  | true => rw [doc_empty hl he] at h; cases h
  | false => exact itF_17 (raw_lay hl) (hi_lay hl) (un_lay l) (ab_lay hl) he h h2
/-- .. and where a round changes nothing the bounds are the program's. -/
theorem doc_done {l : List Int} (hl : okL l) {n : Nat} {R R' : Nat → Int} (h : itF (fun f => l.getD f 0) n = some R) (h2 : rnd R = some (R', false)) : ovE l = false ∧ ∀ f, f < 32 → R' f = bd (ovM l) f := by
  have hiR := itF_hi (hi_lay hl) n R h
  have hI := rF_inv hiR 1024 (Nat.le_refl _) R' false h2
  have hs := hI.same rfl
  have hd := rF_rd hiR h2
  have hrd : RdO R R := ⟨fun f _ => Int.le_refl _, hd.zer, fun f g hf hg k q1 q2 => by rw [← hs _ (nm_lt hf hg (.inl k))]; exact hd.dou f g hf hg k q1 q2, fun f g hf hg k q1 q2 => by rw [← hs _ (nm_lt hf hg (.inr k))]; exact hd.sum f g hf hg k q1 q2⟩
  have hle : ∀ m R1, itF (fun f => l.getD f 0) m = some R1 → ∀ f, f < 32 → R1 f ≤ l.getD f 0 := by
    intro m
    induction m with
    | zero => intro R1 e f _; cases e; exact Int.le_refl _
    | succ m ih =>
      intro R1 e f hf
      obtain ⟨R0, b, e1, e2⟩ := itF_succ e
      have hi0 := itF_hi (hi_lay hl) m R0 e1
      exact Int.le_trans ((rF_inv hi0 1024 (Nat.le_refl _) _ b e2).le f hf) (ih R0 e1 f hf)
  have h0 : Un R (lay l 32) := by
    have u := un_lay l
    refine ⟨fun i hi q => ?_, fun i j hi hj h1 h2' q => ?_, u.zer⟩
    · have a := u.dia i hi q
      have b := hle n R h i (by omega)
      have a' : 2 * l.getD i 0 ≤ lay l 32 (i * 8 + i) := a
      omega
    · have a : l.getD (nf i j) 0 ≤ lay l 32 (i * 8 + j) := u.off i j hi hj h1 h2' q
      have b := hle n R h (nf i j) (nf_ok i hi j hj h2').1
      omega
  have hu := hrd.un (raw_lay hl) h0
  cases he : ovE l with
  | true =>
    obtain ⟨i, hi, q⟩ := conF_true he
    have : 0 ≤ ovM l (i * 8 + opp i) := hu.zer i hi
    omega
  | false =>
    obtain ⟨R1, e, a, hi⟩ := doc_some hl he n
    have : R1 = R := Option.some.inj (e.symm.trans h)
    subst this
    refine ⟨rfl, fun f hf => ?_⟩
    rw [hs f hf]
    exact hu.eqs ((raw_lay hl).tc he) a hi f hf

end Go.Proofs.YtkggelfkpieonabDoor

/- Where four rounds go well there is a state: one variable after the other is picked. No Go in here. -/
namespace Go.Proofs.YtkggelfkpieonabDoor

theorem nf_symm : ∀ i : Nat, i < 8 → ∀ j, j < 8 → nf i j = nf j i := by decide +kernel
/-- The greatest of some numbers, the least of some. -/
theorem most_of (L : Nat → Option Int) : ∀ n : Nat, (∀ i, i < n → L i = none) ∨ ∃ m, (∃ i, i < n ∧ L i = some m) ∧ ∀ i, i < n → ∀ l, L i = some l → l ≤ m := by
  intro n
  induction n with
  | zero => exact .inl fun i hi => absurd hi (by omega)
  | succ n ih =>
    cases e : L n with
    | none =>
      rcases ih with h | ⟨m, ⟨i, hi, q⟩, h⟩
      · refine .inl fun i hi => ?_
        rcases Nat.lt_or_eq_of_le (Nat.lt_succ_iff.1 hi) with a | a
        · exact h i a
        · rw [a]; exact e
      · refine .inr ⟨m, ⟨i, by omega, q⟩, fun j hj l hl => ?_⟩
        rcases Nat.lt_or_eq_of_le (Nat.lt_succ_iff.1 hj) with a | a
        · exact h j a l hl
        · rw [a, e] at hl; cases hl
    | some x =>
      rcases ih with h | ⟨m, ⟨i, hi, q⟩, h⟩
      · refine .inr ⟨x, ⟨n, by omega, e⟩, fun j hj l hl => ?_⟩
        rcases Nat.lt_or_eq_of_le (Nat.lt_succ_iff.1 hj) with a | a
        · rw [h j a] at hl; cases hl
        · rw [a, e] at hl; cases hl; exact Int.le_refl _
      · by_cases c : m ≤ x
        · refine .inr ⟨x, ⟨n, by omega, e⟩, fun j hj l hl => ?_⟩
          rcases Nat.lt_or_eq_of_le (Nat.lt_succ_iff.1 hj) with a | a
          · exact Int.le_trans (h j a l hl) c
          · rw [a, e] at hl; cases hl; exact Int.le_refl _
        · refine .inr ⟨m, ⟨i, by omega, q⟩, fun j hj l hl => ?_⟩
          rcases Nat.lt_or_eq_of_le (Nat.lt_succ_iff.1 hj) with a | a
          · exact h j a l hl
          · rw [a, e] at hl; cases hl; omega
theorem between (L U : Nat → Option Int) (n : Nat) (h : ∀ i j, i < n → j < n → ∀ l u, L i = some l → U j = some u → l ≤ u) : ∃ t : Int, (∀ i, i < n → ∀ l, L i = some l → l ≤ t) ∧ (∀ j, j < n → ∀ u, U j = some u → t ≤ u) := by
  rcases most_of L n with a | ⟨m, ⟨i, hi, q⟩, a⟩
  · rcases most_of (fun j => (U j).map fun x => -x) n with b | ⟨m, ⟨j, hj, q⟩, b⟩
    · refine ⟨0, fun i hi l hl => (by rw [a i hi] at hl; cases hl), fun j hj u hu => ?_⟩
      have := b j hj
      rw [hu] at this
      cases this
    · refine ⟨-m, fun i hi l hl => (by rw [a i hi] at hl; cases hl), fun k hk u hu => ?_⟩
      have := b k hk (-u) (by rw [hu]; rfl)
      omega
  · exact ⟨m, a, fun j hj u hu => h i j hi hj m u q hu⟩

/-- The first variables keep to the bounds of their forms. -/
structure SK (P v : Nat → Int) (k : Nat) : Prop where
  one : ∀ i, i < 2 * k → P i = NB ∨ sd v i ≤ P i
  two : ∀ i j, i < 2 * k → j < 2 * k → i ≠ j → j ≠ opp i → P (nf i j) = NB ∨ sd v i + sd v j ≤ P (nf i j)
def setV (v : Nat → Int) (k : Nat) (t : Int) : Nat → Int := fun i => if i = k then t else v i
theorem opp_even (k : Nat) : opp (2 * k) = 2 * k + 1 := by unfold opp; rw [if_pos (by omega)]
theorem opp_odd (k : Nat) : opp (2 * k + 1) = 2 * k := by unfold opp; rw [if_neg (by omega)]; omega
theorem opp_lt2 {i k : Nat} (h : i < 2 * k) : opp i < 2 * k := by unfold opp; split <;> omega
theorem sd_setV_lt (v : Nat → Int) (t : Int) {i k : Nat} (h : i < 2 * k) : sd (setV v k t) i = sd v i := by
  unfold sd setV
  rw [if_neg (show ¬ i / 2 = k by omega)]
theorem sd_setV_e (v : Nat → Int) (t : Int) (k : Nat) : sd (setV v k t) (2 * k) = t := by
  unfold sd setV
  rw [if_pos (by omega), if_pos (by omega)]
theorem sd_setV_o (v : Nat → Int) (t : Int) (k : Nat) : sd (setV v k t) (2 * k + 1) = -t := by
  unfold sd setV
  rw [if_neg (by omega), if_pos (by omega)]
/-- One more variable. -/
theorem elim {P P' v : Nat → Int} {U : Int} {k : Nat} (hk : k < 4) (hU : 2 * U < NB) (hU0 : 0 ≤ U) (hP : ∀ f, f < 32 → P f = NB ∨ P f ≤ U) (hr : RdO P P') (hv : SK P' v k) : ∃ t, SK P (setV v k t) (k + 1) := by
  have hs : 2 * k < 8 := by omega
  have ho : 2 * k + 1 < 8 := by omega
  have oe := opp_even k
  have oo := opp_odd k
  have fin : ∀ f, f < 32 → P f ≠ NB → P f ≤ U := fun f hf q => (hP f hf).resolve_left q
  have v1 : ∀ i, i < 2 * k → ∀ c, c < NB → P' i ≤ c → sd v i ≤ c := by
    intro i hi c hc hl
    have := (hv.one i hi).resolve_left (by omega)
    omega
  have v2 : ∀ i j, i < 2 * k → j < 2 * k → i ≠ j → j ≠ opp i → ∀ c, c < NB → P' (nf i j) ≤ c → sd v i + sd v j ≤ c := by
    intro i j hi hj e1 e2 c hc hl
    have := (hv.two i j hi hj e1 e2).resolve_left (by omega)
    omega
  have key : ∀ i j, i < 2 * k + 1 → j < 2 * k + 1 → P (if i = 2 * k then 2 * k else nf (2 * k) i) ≠ NB → P (if j = 2 * k then 2 * k + 1 else nf (2 * k + 1) j) ≠ NB →
      (if i = 2 * k then 0 else sd v i) + (if j = 2 * k then 0 else sd v j) ≤ P (if i = 2 * k then 2 * k else nf (2 * k) i) + P (if j = 2 * k then 2 * k + 1 else nf (2 * k + 1) j) := by
    intro i j hi hj q1 q2
    by_cases ei : i = 2 * k
    · rw [if_pos ei] at q1 ⊢
      rw [if_pos ei]
      by_cases ej : j = 2 * k
      · rw [if_pos ej] at q2 ⊢
        rw [if_pos ej]
        have z := hr.zer (2 * k) (2 * k + 1) (by omega) (by omega) ((tab3 (2 * k) hs (2 * k + 1) ho).1 oe.symm) q1 q2
        omega
      · rw [if_neg ej] at q2 ⊢
        rw [if_neg ej]
        have t := tab2 (2 * k + 1) ho j (by omega) ⟨by omega, by rw [oo]; omega⟩
        rw [oo] at t
        have n := (nf_ok (2 * k + 1) ho j (by omega) (by rw [oo]; omega)).1
        have x := hr.sum (2 * k) (nf (2 * k + 1) j) (by omega) n t.1 q1 q2
        rw [t.2.1] at x
        have a := fin _ (by omega) q1
        have b := fin _ n q2
        have := v1 j (by omega) _ (by omega) x
        omega
    · rw [if_neg ei] at q1 ⊢
      rw [if_neg ei]
      have n1 := (nf_ok (2 * k) hs i (by omega) (by rw [oe]; omega)).1
      have a := fin _ n1 q1
      by_cases ej : j = 2 * k
      · rw [if_pos ej] at q2 ⊢
        rw [if_pos ej]
        have t := tab2 (2 * k) hs i (by omega) ⟨by omega, by rw [oe]; omega⟩
        rw [oe] at t
        have x := hr.sum (2 * k + 1) (nf (2 * k) i) (by omega) n1 t.1 q2 q1
        rw [t.2.1] at x
        have b := fin _ (by omega) q2
        have := v1 i (by omega) _ (by omega) x
        omega
      · rw [if_neg ej] at q2 ⊢
        rw [if_neg ej]
        have n2 := (nf_ok (2 * k + 1) ho j (by omega) (by rw [oo]; omega)).1
        have b := fin _ n2 q2
        have t := tab1 i (by omega) (2 * k + 1) ho j (by omega) ⟨by omega, by rw [oo]; omega, by omega, by rw [oo]; omega⟩
        rw [oo, nf_symm i (by omega) (2 * k) hs] at t
        by_cases e : j = opp i
        · have z := hr.zer _ _ n1 n2 (t.1 e) q1 q2
          rw [e, sd_opp]
          rw [e] at z
          omega
        · by_cases e' : j = i
          · have x := hr.dou _ _ n1 n2 (t.2.1 e').1 q1 q2
            rw [(t.2.1 e').2] at x
            have := v1 i (by omega) _ (by omega) x
            rw [e'] at this ⊢
            omega
          · have x := hr.sum _ _ n1 n2 (t.2.2 ⟨e', e⟩).1 q1 q2
            rw [(t.2.2 ⟨e', e⟩).2] at x
            exact v2 i j (by omega) (by omega) (fun z => e' z.symm) e _ (by omega) x
  obtain ⟨t, hL, hH⟩ := between (fun j => if P (if j = 2 * k then 2 * k + 1 else nf (2 * k + 1) j) = NB then none else some ((if j = 2 * k then 0 else sd v j) - P (if j = 2 * k then 2 * k + 1 else nf (2 * k + 1) j)))
    (fun i => if P (if i = 2 * k then 2 * k else nf (2 * k) i) = NB then none else some (P (if i = 2 * k then 2 * k else nf (2 * k) i) - (if i = 2 * k then 0 else sd v i))) (2 * k + 1) (by
      intro j i hj hi l u hl hu
      by_cases q2 : P (if j = 2 * k then 2 * k + 1 else nf (2 * k + 1) j) = NB
      · rw [if_pos q2] at hl; cases hl
      · by_cases q1 : P (if i = 2 * k then 2 * k else nf (2 * k) i) = NB
        · rw [if_pos q1] at hu; cases hu
        · rw [if_neg q2] at hl
          rw [if_neg q1] at hu
          have := key i j hi hj q1 q2
          have := Option.some.inj hl
          have := Option.some.inj hu
          omega)
  have lo : ∀ j, j < 2 * k → P (nf (2 * k + 1) j) = NB ∨ -t + sd v j ≤ P (nf (2 * k + 1) j) := by
    intro j hj
    by_cases q : P (nf (2 * k + 1) j) = NB
    · exact .inl q
    · have ne : ¬ j = 2 * k := by omega
      have := hL j (by omega) (sd v j - P (nf (2 * k + 1) j)) (by simp only [if_neg ne, if_neg q])
      exact .inr (by omega)
  have hi : ∀ j, j < 2 * k → P (nf (2 * k) j) = NB ∨ t + sd v j ≤ P (nf (2 * k) j) := by
    intro j hj
    by_cases q : P (nf (2 * k) j) = NB
    · exact .inl q
    · have ne : ¬ j = 2 * k := by omega
      have := hH j (by omega) (P (nf (2 * k) j) - sd v j) (by simp only [if_neg ne, if_neg q])
      exact .inr (by omega)
  refine ⟨t, ⟨fun i hi' => ?_, fun i j hi' hj' e1 e2 => ?_⟩⟩
  · by_cases c : i < 2 * k
    · rw [sd_setV_lt v t c]
      by_cases q : P i = NB
      · exact .inl q
      · have := fin i (by omega) q
        exact .inr (v1 i c _ (by omega) (hr.le i (by omega)))
    · by_cases c2 : i = 2 * k
      · rw [c2, sd_setV_e]
        by_cases q : P (2 * k) = NB
        · exact .inl q
        · have := hH (2 * k) (by omega) (P (2 * k) - 0) (by simp only [if_true, if_neg q])
          exact .inr (by omega)
      · rw [show i = 2 * k + 1 by omega, sd_setV_o]
        by_cases q : P (2 * k + 1) = NB
        · exact .inl q
        · have := hL (2 * k) (by omega) (0 - P (2 * k + 1)) (by simp only [if_true, if_neg q])
          exact .inr (by omega)
  · by_cases c : i < 2 * k
    · rw [sd_setV_lt v t c]
      by_cases d : j < 2 * k
      · rw [sd_setV_lt v t d]
        by_cases q : P (nf i j) = NB
        · exact .inl q
        · have n := (nf_ok i (by omega) j (by omega) e2).1
          have := fin _ n q
          exact .inr (v2 i j c d e1 e2 _ (by omega) (hr.le _ n))
      · rw [nf_symm i (by omega) j (by omega), Int.add_comm]
        by_cases d2 : j = 2 * k
        · rw [d2, sd_setV_e]; exact hi i c
        · rw [show j = 2 * k + 1 by omega, sd_setV_o]; exact lo i c
    · have d : j < 2 * k := by
        rcases Nat.lt_or_ge j (2 * k) with d | d
        · exact d
        · exfalso
          by_cases c2 : i = 2 * k
          · rw [c2, oe] at e2; omega
          · rw [show i = 2 * k + 1 by omega, oo] at e2; omega
      rw [sd_setV_lt v t d]
      by_cases c2 : i = 2 * k
      · rw [c2, sd_setV_e]; exact hi j d
      · rw [show i = 2 * k + 1 by omega, sd_setV_o]; exact lo j d

/-- A round that reads the old bounds alone. -/
def qqs (P Q : Nat → Int) (f g : Nat) : Nat → Int :=
  if P f = NB ∨ P g = NB then Q
  else if kdT f g = 2 then (if (P f + P g) / 2 < Q (nmT f g) then upd Q (nmT f g) ((P f + P g) / 2) else Q)
  else if kdT f g = 3 then (if P f + P g < Q (nmT f g) then upd Q (nmT f g) (P f + P g) else Q)
  else Q
def qqF (P : Nat → Int) : Nat → Nat → Int
  | 0 => P
  | m + 1 => qqs P (qqF P m) (m / 32) (m % 32)
theorem low_le {Q : Nat → Int} {n : Nat} {c : Int} (x : Nat) : (if c < Q n then upd Q n c else Q) x ≤ Q x := by
  split
  · unfold upd
    split
    · rename_i h e; subst e; omega
    · exact Int.le_refl _
  · exact Int.le_refl _
theorem low_at {Q : Nat → Int} {n : Nat} {c : Int} : (if c < Q n then upd Q n c else Q) n ≤ c := by
  split
  · rw [upd_same]; exact Int.le_refl _
  · omega
theorem low_cas {Q : Nat → Int} {n : Nat} {c : Int} (x : Nat) : (if c < Q n then upd Q n c else Q) x = Q x ∨ (x = n ∧ (if c < Q n then upd Q n c else Q) x = c) := by
  split
  · unfold upd
    split
    · rename_i e; exact .inr ⟨e, rfl⟩
    · exact .inl rfl
  · exact .inl rfl
theorem qqs_le (P Q : Nat → Int) (f g x : Nat) : qqs P Q f g x ≤ Q x := by
  unfold qqs
  split
  · exact Int.le_refl _
  · split
    · exact low_le x
    · split
      · exact low_le x
      · exact Int.le_refl _
theorem qqs_do (P Q : Nat → Int) {f g : Nat} (q1 : P f ≠ NB) (q2 : P g ≠ NB) : (kdT f g = 2 → qqs P Q f g (nmT f g) ≤ (P f + P g) / 2) ∧ (kdT f g = 3 → qqs P Q f g (nmT f g) ≤ P f + P g) := by
  unfold qqs
  rw [if_neg (show ¬ (P f = NB ∨ P g = NB) from fun z => z.elim q1 q2)]
  refine ⟨fun k => ?_, fun k => ?_⟩
  · rw [if_pos k]; exact low_at
  · rw [if_neg (show ¬ kdT f g = 2 by omega), if_pos k]; exact low_at
theorem qqs_cas (P Q : Nat → Int) (f g x : Nat) : qqs P Q f g x = Q x ∨ (P f ≠ NB ∧ P g ≠ NB ∧ x = nmT f g ∧ ((kdT f g = 2 ∧ qqs P Q f g x = (P f + P g) / 2) ∨ (kdT f g = 3 ∧ qqs P Q f g x = P f + P g))) := by
  unfold qqs
  by_cases q : P f = NB ∨ P g = NB
  · rw [if_pos q]; exact .inl rfl
  · rw [if_neg q]
    have q1 : P f ≠ NB := fun z => q (.inl z)
    have q2 : P g ≠ NB := fun z => q (.inr z)
    by_cases k2 : kdT f g = 2
    · rw [if_pos k2]
      rcases low_cas (Q := Q) (n := nmT f g) (c := (P f + P g) / 2) x with h | ⟨h1, h2⟩
      · exact .inl h
      · exact .inr ⟨q1, q2, h1, .inl ⟨k2, h2⟩⟩
    · rw [if_neg k2]
      by_cases k3 : kdT f g = 3
      · rw [if_pos k3]
        rcases low_cas (Q := Q) (n := nmT f g) (c := P f + P g) x with h | ⟨h1, h2⟩
        · exact .inl h
        · exact .inr ⟨q1, q2, h1, .inr ⟨k3, h2⟩⟩
      · rw [if_neg k3]; exact .inl rfl
theorem qqF_le (P : Nat → Int) : ∀ m x, qqF P m x ≤ P x
  | 0, _ => Int.le_refl _
  | m + 1, x => Int.le_trans (qqs_le P _ _ _ x) (qqF_le P m x)
theorem qqF_do (P : Nat → Int) : ∀ k m, m < k → P (m / 32) ≠ NB → P (m % 32) ≠ NB → (kdT (m / 32) (m % 32) = 2 → qqF P k (nmT (m / 32) (m % 32)) ≤ (P (m / 32) + P (m % 32)) / 2) ∧ (kdT (m / 32) (m % 32) = 3 → qqF P k (nmT (m / 32) (m % 32)) ≤ P (m / 32) + P (m % 32)) := by
  intro k
  induction k with
  | zero => intro m hm; omega
  | succ k ih =>
    intro m hm q1 q2
    rcases Nat.lt_or_eq_of_le (Nat.lt_succ_iff.1 hm) with e | e
    · obtain ⟨a, b⟩ := ih m e q1 q2
      exact ⟨fun z => Int.le_trans (qqs_le P _ _ _ _) (a z), fun z => Int.le_trans (qqs_le P _ _ _ _) (b z)⟩
    · subst e
      exact qqs_do P (qqF P m) q1 q2
/-- The document's bounds lie below. -/
theorem qqF_ab {P R R' : Nat → Int} (hr : RdO R R') {U : Int} (hU : U < NB) (hP : ∀ f, f < 32 → P f = NB ∨ P f ≤ U) (hl : ∀ f, f < 32 → R f ≤ P f) : ∀ k, k ≤ 1024 → ∀ f, f < 32 → R' f ≤ qqF P k f := by
  intro k
  induction k with
  | zero => intro _ f hf; exact Int.le_trans (hr.le f hf) (hl f hf)
  | succ k ih =>
    intro hk f hf
    have hx : k / 32 < 32 := by omega
    have hy : k % 32 < 32 := by omega
    rw [qqF]
    rcases qqs_cas P (qqF P k) (k / 32) (k % 32) f with h | ⟨q1, q2, e, h⟩
    · rw [h]; exact ih (by omega) f hf
    · have a1 := (hP _ hx).resolve_left q1
      have a2 := (hP _ hy).resolve_left q2
      have b1 := hl _ hx
      have b2 := hl _ hy
      rcases h with ⟨k2, h⟩ | ⟨k3, h⟩
      · rw [h, e]
        have := hr.dou _ _ hx hy k2 (by omega) (by omega)
        omega
      · rw [h, e]
        have := hr.sum _ _ hx hy k3 (by omega) (by omega)
        omega
theorem qqF_hi {P : Nat → Int} {U : Int} (hU0 : 0 ≤ U) (hP : ∀ f, f < 32 → P f = NB ∨ P f ≤ U) : ∀ k, k ≤ 1024 → ∀ f, f < 32 → qqF P k f = NB ∨ qqF P k f ≤ 2 * U := by
  intro k
  induction k with
  | zero =>
    intro _ f hf
    rcases hP f hf with h | h
    · exact .inl h
    · exact .inr (by show P f ≤ _; omega)
  | succ k ih =>
    intro hk f hf
    rw [qqF]
    rcases qqs_cas P (qqF P k) (k / 32) (k % 32) f with h | ⟨q1, q2, e, h⟩
    · rw [h]; exact ih (by omega) f hf
    · have a1 := (hP _ (show k / 32 < 32 by omega)).resolve_left q1
      have a2 := (hP _ (show k % 32 < 32 by omega)).resolve_left q2
      rcases h with ⟨k2, h⟩ | ⟨k3, h⟩
      · rw [h]; exact .inr (by omega)
      · rw [h]; exact .inr (by omega)
/-- One round further, by old bounds. -/
theorem qqF_rd {P R R' : Nat → Int} (hr : RdO R R') {U : Int} (hU : U < NB) (hP : ∀ f, f < 32 → P f = NB ∨ P f ≤ U) (hl : ∀ f, f < 32 → R f ≤ P f) : RdO P (qqF P 1024) := by
  refine ⟨fun f _ => qqF_le P 1024 f, fun f g hf hg k q1 q2 => ?_, fun f g hf hg k q1 q2 => ?_, fun f g hf hg k q1 q2 => ?_⟩
  · have a1 := (hP f hf).resolve_left q1
    have a2 := (hP g hg).resolve_left q2
    have b1 := hl f hf
    have b2 := hl g hg
    have := hr.zer f g hf hg k (by omega) (by omega)
    omega
  · have := qqF_do P 1024 (f * 32 + g) (by omega)
    rw [show (f * 32 + g) / 32 = f by omega, show (f * 32 + g) % 32 = g by omega] at this
    exact (this q1 q2).1 k
  · have := qqF_do P 1024 (f * 32 + g) (by omega)
    rw [show (f * 32 + g) / 32 = f by omega, show (f * 32 + g) % 32 = g by omega] at this
    exact (this q1 q2).2 k

/-- Four rounds that go well: there is a state. -/
theorem four {R0 R1 R2 R3 R4 : Nat → Int} (h0 : RdO R0 R1) (h1 : RdO R1 R2) (h2 : RdO R2 R3) (h3 : RdO R3 R4) (hR : ∀ f, f < 32 → R0 f = NB ∨ R0 f ≤ 4000) : ∃ v, SK R0 v 4 := by
  have n0 : (4000 : Int) < NB := by decide
  have n1 : (2 * 4000 : Int) < NB := by decide
  have n2 : (2 * (2 * 4000) : Int) < NB := by decide
  have n3 : (2 * (2 * (2 * 4000)) : Int) < NB := by decide
  have n4 : (2 * (2 * (2 * (2 * 4000))) : Int) < NB := by decide
  have r0 := qqF_rd h0 n0 hR (fun _ _ => Int.le_refl _)
  have b1 := qqF_hi (by decide) hR 1024 (Nat.le_refl _)
  have a1 := qqF_ab h0 n0 hR (fun _ _ => Int.le_refl _) 1024 (Nat.le_refl _)
  generalize qqF R0 1024 = P1 at r0 a1 b1
  have r1 := qqF_rd h1 n1 b1 a1
  have b2 := qqF_hi (by decide) b1 1024 (Nat.le_refl _)
  have a2 := qqF_ab h1 n1 b1 a1 1024 (Nat.le_refl _)
  generalize qqF P1 1024 = P2 at r1 a2 b2
  have r2 := qqF_rd h2 n2 b2 a2
  have b3 := qqF_hi (by decide) b2 1024 (Nat.le_refl _)
  have a3 := qqF_ab h2 n2 b2 a2 1024 (Nat.le_refl _)
  generalize qqF P2 1024 = P3 at r2 a3 b3
  have r3 := qqF_rd h3 n3 b3 a3
  obtain ⟨ta, ka⟩ := elim (k := 0) (v := fun _ => 0) (by decide) n4 (by decide) b3 r3 ⟨fun i hi => absurd hi (by omega), fun i j hi => absurd hi (by omega)⟩
  obtain ⟨tb, kb⟩ := elim (by decide) n3 (by decide) b2 r2 ka
  obtain ⟨tc, kc⟩ := elim (by decide) n2 (by decide) b1 r1 kb
  obtain ⟨td, kd'⟩ := elim (by decide) n1 (by decide) hR r0 kc
  exact ⟨_, kd'⟩
theorem sk_lay {l : List Int} {v : Nat → Int} (h : SK (fun f => l.getD f 0) v 4) : Sat v (lay l 32) := by
  intro i j hi hj
  by_cases e : j = opp i
  · rw [e, lay_opp l i hi, sd_opp]; exact .inr (by omega)
  · rw [lay_nf l hi hj e]
    by_cases e' : i = j
    · subst e'
      rw [nf_self]
      rcases h.one i (by omega) with q | q
      · exact .inl ((bv_lo l hi).1 q)
      · by_cases z : l.getD i 0 = NB
        · exact .inl ((bv_lo l hi).1 z)
        · rw [(bv_lo l hi).2 z]
          have q' : sd v i ≤ l.getD i 0 := q
          exact .inr (by omega)
    · rw [bv_hi l hi hj e' e]
      exact h.two i j (by omega) (by omega) e' e
/-- Where there is no state four rounds are enough. -/
theorem doc_empty4 {l : List Int} (hl : okL l) (he : ovE l = true) : itF (fun f => l.getD f 0) 4 = none := by
  cases e4 : itF (fun f => l.getD f 0) 4 with
  | none => rfl
  | some R4 =>
    obtain ⟨R3, b3, e3, _⟩ := itF_succ e4
    obtain ⟨R2, b2, e2, _⟩ := itF_succ e3
    obtain ⟨R1, b1, e1, _⟩ := itF_succ e2
    have e0 : itF (fun f => l.getD f 0) 0 = some (fun f => l.getD f 0) := rfl
    have hR := hi_lay hl
    obtain ⟨v, hv⟩ := four (itF_rd hR e0 e1) (itF_rd hR e1 e2) (itF_rd hR e2 e3) (itF_rd hR e3 e4) (fun f hf => by
      rcases isB_or (hl.2 f hf) with q | q
      · exact .inl q
      · exact .inr q.2)
    have := (sk_lay hv).sharp.some
    rw [show conF (sharp (lay l 32)) 8 = ovE l from rfl, he] at this
    cases this

end Go.Proofs.YtkggelfkpieonabDoor

/- Of bounds from which nothing follows, all of them numbers, each is reached by whole numbers. No Go in here. -/
namespace Go.Proofs.YtkggelfkpieonabDoor

/-- The sides, so turned that a form's own come first. -/
def sgmL (i j : Nat) : List Nat :=
  let x := i / 2
  let y := if j / 2 = x then (if x = 0 then 1 else 0) else j / 2
  let r := [0, 1, 2, 3].filter fun z => decide (z ≠ x) && decide (z ≠ y)
  let jj := if j / 2 = x then 2 * y else j
  [i, opp i, jj, opp jj, 2 * r.getD 0 0, 2 * r.getD 0 0 + 1, 2 * r.getD 1 0, 2 * r.getD 1 0 + 1]
def sgm (f a : Nat) : Nat := (sgmL (fs f) (ss f)).getD a 0
def sgi (f b : Nat) : Nat := (List.range 8).findIdx fun a => sgm f a == b
theorem sgm_ok : ∀ f : Nat, f < 32 → (∀ a, a < 8 → sgm f a < 8 ∧ sgm f (opp a) = opp (sgm f a) ∧ sgi f (sgm f a) = a) ∧ (∀ b, b < 8 → sgi f b < 8 ∧ sgm f (sgi f b) = b) ∧ sgm f 0 = fs f ∧ (8 ≤ f → sgm f 2 = ss f) := by decide +kernel
/-- The bounds, so turned. -/
def trn (f : Nat) (C : Nat → Int) : Nat → Int := fun a => C (sgm f (a / 8) * 8 + sgm f (a % 8))
theorem trn_at (f : Nat) (C : Nat → Int) {i j : Nat} (hj : j < 8) : trn f C (i * 8 + j) = C (sgm f i * 8 + sgm f j) := by
  unfold trn
  rw [show (i * 8 + j) / 8 = i by omega, show (i * 8 + j) % 8 = j by omega]
theorem TC.trn {C : Nat → Int} (h : TC C) {f : Nat} (hf : f < 32) : TC (trn f C) := by
  obtain ⟨s1, _, _, _⟩ := sgm_ok f hf
  refine ⟨fun k hk i j hi hj => ?_, fun i hi => ?_, fun i hi => ?_, fun i j hi hj h1 h2 => ?_, fun i j hi hj => ?_, fun a ha => ?_⟩
  · rw [trn_at f C hj, trn_at f C (opp_lt hk), trn_at f C hj, (s1 k hk).2.1]
    exact h.tri (sgm f k) (s1 k hk).1 (sgm f i) (sgm f j) (s1 i hi).1 (s1 j hj).1
  · rw [trn_at f C (opp_lt hi), (s1 i hi).2.1]
    exact h.zero _ (s1 i hi).1
  · rw [trn_at f C hi]
    exact h.even _ (s1 i hi).1
  · rw [trn_at f C hi] at h1
    rw [trn_at f C hj] at h2
    rw [trn_at f C hj, trn_at f C hi, trn_at f C hj]
    exact h.half _ _ (s1 i hi).1 (s1 j hj).1 h1 h2
  · rw [trn_at f C hj, trn_at f C hi]
    exact h.sym _ _ (s1 i hi).1 (s1 j hj).1
  · have := h.top (sgm f (a / 8) * 8 + sgm f (a % 8)) (by have := (s1 (a / 8) (by omega)).1; have := (s1 (a % 8) (by omega)).1; omega)
    exact this
/-- The rounds leave such bounds as they are. -/
theorem TC.rd {C : Nat → Int} (h : TC C) : RdO (bd C) (bd C) := by
  refine ⟨fun f _ => Int.le_refl _, fun f g hf hg k q1 q2 => (h.sum hf hg q1 q2).1 k, fun f g hf hg k q1 q2 => ?_, fun f g hf hg k q1 q2 => (h.sum hf hg q1 q2).2.2 k⟩
  have := (h.sum hf hg q1 q2).2.1 k
  omega

theorem TC.bd_top {C : Nat → Int} (h : TC C) {f : Nat} (hf : f < 32) : bd C f = NB ∨ bd C f ≤ 432000 := by
  have k : fs f * 8 + ss f < 64 := by have := fs_lt f hf; have := ss_lt f hf; omega
  have t := h.top _ k
  unfold bd
  split
  · rename_i q
    have := t.resolve_left q.2
    have := tdiv2_le (C (fs f * 8 + ss f))
    exact .inr (by omega)
  · exact t
theorem nb2 : (2 * 432000 : Int) < NB := by decide
theorem TC.pick1 {C : Nat → Int} (h : TC C) (hfin : ∀ f, f < 32 → bd C f ≠ NB) : ∃ v, SK (bd C) v 4 ∧ sd v 0 = bd C 0 := by
  have hr := h.rd
  have z := hr.zer 0 1 (by omega) (by omega) (by decide +kernel) (hfin 0 (by omega)) (hfin 1 (by omega))
  have k1 : SK (bd C) (fun _ => bd C 0) 1 := by
    refine ⟨fun i hi => ?_, fun i j hi hj e1 e2 => ?_⟩
    · rcases (show i = 0 ∨ i = 1 by omega) with rfl | rfl
      · exact .inr (Int.le_refl _)
      · exact .inr (by show -(bd C 0) ≤ bd C 1; omega)
    · exfalso
      rcases (show i = 0 ∨ i = 1 by omega) with rfl | rfl
      · rcases (show j = 0 ∨ j = 1 by omega) with rfl | rfl
        · exact e1 rfl
        · exact e2 rfl
      · rcases (show j = 0 ∨ j = 1 by omega) with rfl | rfl
        · exact e2 rfl
        · exact e1 rfl
  have hP : ∀ f, f < 32 → bd C f = NB ∨ bd C f ≤ 432000 := fun f hf => h.bd_top hf
  obtain ⟨t2, k2⟩ := elim (by decide) nb2 (by decide) hP hr k1
  obtain ⟨t3, k3⟩ := elim (by decide) nb2 (by decide) hP hr k2
  obtain ⟨t4, k4⟩ := elim (by decide) nb2 (by decide) hP hr k3
  exact ⟨_, k4, rfl⟩
theorem TC.pick2 {C : Nat → Int} (h : TC C) (hfin : ∀ f, f < 32 → bd C f ≠ NB) : ∃ v, SK (bd C) v 4 ∧ sd v 0 + sd v 2 = bd C 8 := by
  have hr := h.rd
  have Z : ∀ f g, f < 32 → g < 32 → kdT f g = 1 → 0 ≤ bd C f + bd C g := fun f g hf hg k => hr.zer f g hf hg k (hfin f hf) (hfin g hg)
  have S : ∀ f g n, f < 32 → g < 32 → (kdT f g = 3 ∧ nmT f g = n) → bd C n ≤ bd C f + bd C g := fun f g n hf hg k => by
    have := hr.sum f g hf hg k.1 (hfin f hf) (hfin g hg)
    rw [k.2] at this
    exact this
  have D : ∀ f g n, f < 32 → g < 32 → (kdT f g = 2 ∧ nmT f g = n) → 2 * bd C n ≤ bd C f + bd C g := fun f g n hf hg k => by
    have := hr.dou f g hf hg k.1 (hfin f hf) (hfin g hg)
    rw [k.2] at this
    omega
  have z1 := Z 0 1 (by omega) (by omega) (by decide +kernel)
  have z2 := Z 2 3 (by omega) (by omega) (by decide +kernel)
  have z3 := Z 8 11 (by omega) (by omega) (by decide +kernel)
  have z4 := Z 9 10 (by omega) (by omega) (by decide +kernel)
  have s1 := S 0 2 8 (by omega) (by omega) (by decide +kernel)
  have s2 := S 0 3 9 (by omega) (by omega) (by decide +kernel)
  have s3 := S 1 2 10 (by omega) (by omega) (by decide +kernel)
  have s4 := S 1 3 11 (by omega) (by omega) (by decide +kernel)
  have d1 := D 8 9 0 (by omega) (by omega) (by decide +kernel)
  have d2 := D 10 11 1 (by omega) (by omega) (by decide +kernel)
  have d3 := D 8 10 2 (by omega) (by omega) (by decide +kernel)
  have d4 := D 9 11 3 (by omega) (by omega) (by decide +kernel)
  have t1 := S 9 2 0 (by omega) (by omega) (by decide +kernel)
  have t2 := S 10 0 2 (by omega) (by omega) (by decide +kernel)
  have t3 := S 8 3 0 (by omega) (by omega) (by decide +kernel)
  have t4 := S 8 1 2 (by omega) (by omega) (by decide +kernel)
  obtain ⟨a, h0, h1, h2, h3, h9, h10⟩ : ∃ a : Int, a ≤ bd C 0 ∧ -a ≤ bd C 1 ∧ bd C 8 - a ≤ bd C 2 ∧ -(bd C 8 - a) ≤ bd C 3 ∧ a - (bd C 8 - a) ≤ bd C 9 ∧ -a + (bd C 8 - a) ≤ bd C 10 := by
    generalize bd C 0 = r0 at *
    generalize bd C 1 = r1 at *
    generalize bd C 2 = r2 at *
    generalize bd C 3 = r3 at *
    generalize bd C 8 = m at *
    generalize bd C 9 = r9 at *
    generalize bd C 10 = r10 at *
    generalize bd C 11 = r11 at *
    by_cases c1 : r0 ≤ m + r3
    · by_cases c2 : r0 ≤ (r9 + m) / 2
      · exact ⟨r0, by omega, by omega, by omega, by omega, by omega, by omega⟩
      · exact ⟨(r9 + m) / 2, by omega, by omega, by omega, by omega, by omega, by omega⟩
    · exfalso
      omega
  have k2 : SK (bd C) (setV (fun _ => a) 1 (bd C 8 - a)) 2 := by
    have v0 : sd (setV (fun _ => a) 1 (bd C 8 - a)) 0 = a := rfl
    have v1 : sd (setV (fun _ => a) 1 (bd C 8 - a)) 1 = -a := rfl
    have v2 : sd (setV (fun _ => a) 1 (bd C 8 - a)) 2 = bd C 8 - a := rfl
    have v3 : sd (setV (fun _ => a) 1 (bd C 8 - a)) 3 = -(bd C 8 - a) := rfl
    refine ⟨fun i hi => ?_, fun i j hi hj e1 e2 => ?_⟩
    · rcases (show i = 0 ∨ i = 1 ∨ i = 2 ∨ i = 3 by omega) with rfl | rfl | rfl | rfl
      · rw [v0]; exact .inr h0
      · rw [v1]; exact .inr h1
      · rw [v2]; exact .inr h2
      · rw [v3]; exact .inr h3
    · have n1 : nf 0 2 = 8 ∧ nf 2 0 = 8 ∧ nf 0 3 = 9 ∧ nf 3 0 = 9 ∧ nf 1 2 = 10 ∧ nf 2 1 = 10 ∧ nf 1 3 = 11 ∧ nf 3 1 = 11 := by decide
      obtain ⟨m1, m2, m3, m4, m5, m6, m7, m8⟩ := n1
      rcases (show i = 0 ∨ i = 1 ∨ i = 2 ∨ i = 3 by omega) with rfl | rfl | rfl | rfl
      · rcases (show j = 0 ∨ j = 1 ∨ j = 2 ∨ j = 3 by omega) with rfl | rfl | rfl | rfl
        · exact absurd rfl e1
        · exact absurd rfl e2
        · rw [v0, v2, m1]; exact .inr (by omega)
        · rw [v0, v3, m3]; exact .inr (by omega)
      · rcases (show j = 0 ∨ j = 1 ∨ j = 2 ∨ j = 3 by omega) with rfl | rfl | rfl | rfl
        · exact absurd rfl e2
        · exact absurd rfl e1
        · rw [v1, v2, m5]; exact .inr (by omega)
        · rw [v1, v3, m7]; exact .inr (by omega)
      · rcases (show j = 0 ∨ j = 1 ∨ j = 2 ∨ j = 3 by omega) with rfl | rfl | rfl | rfl
        · rw [v2, v0, m2]; exact .inr (by omega)
        · rw [v2, v1, m6]; exact .inr (by omega)
        · exact absurd rfl e1
        · exact absurd rfl e2
      · rcases (show j = 0 ∨ j = 1 ∨ j = 2 ∨ j = 3 by omega) with rfl | rfl | rfl | rfl
        · rw [v3, v0, m4]; exact .inr (by omega)
        · rw [v3, v1, m8]; exact .inr (by omega)
        · exact absurd rfl e2
        · exact absurd rfl e1
  have hP : ∀ f, f < 32 → bd C f = NB ∨ bd C f ≤ 432000 := fun f hf => h.bd_top hf
  obtain ⟨t3', k3⟩ := elim (by decide) nb2 (by decide) hP hr k2
  obtain ⟨t4', k4⟩ := elim (by decide) nb2 (by decide) hP hr k3
  exact ⟨_, k4, by show a + (bd C 8 - a) = bd C 8; omega⟩
theorem TC.sat {C v : Nat → Int} (h : TC C) (k : SK (bd C) v 4) : Sat v C := by
  intro i j hi hj
  by_cases e : j = opp i
  · rw [e, h.zero i hi, sd_opp]; exact .inr (by omega)
  · by_cases e' : i = j
    · subst e'
      by_cases q : C (i * 8 + i) = NB
      · exact .inl q
      · obtain ⟨b1, b2⟩ := (h.lo hi).2 q
        have := (k.one i (by omega)).resolve_left b2
        exact .inr (by omega)
    · have := k.two i j (by omega) (by omega) e' e
      rw [bd_nf h.sym hi hj e' e] at this
      exact this
/-- What a form comes to. -/
def fval (v : Nat → Int) (f : Nat) : Int := if f < 8 then sd v f else sd v (fs f) + sd v (ss f)
theorem sgi_opp {f : Nat} (hf : f < 32) {b : Nat} (hb : b < 8) : sgi f (opp b) = opp (sgi f b) := by
  obtain ⟨s1, s2, _, _⟩ := sgm_ok f hf
  obtain ⟨a1, a2⟩ := s2 b hb
  have := (s1 (opp (sgi f b)) (opp_lt a1)).2.2
  rw [(s1 (sgi f b) a1).2.1, a2] at this
  exact this
/-- Each bound is reached. -/
theorem TC.reach {C : Nat → Int} (h : TC C) (hfin : ∀ a, a < 64 → C a ≠ NB) {f : Nat} (hf : f < 32) : ∃ v, Sat v C ∧ fval v f = bd C f := by
  obtain ⟨s1, s2, s3, s4⟩ := sgm_ok f hf
  have hT := h.trn hf
  have hfs := fs_lt f hf
  have hss := ss_lt f hf
  have bfin : ∀ g, g < 32 → bd (Go.Proofs.YtkggelfkpieonabDoor.trn f C) g ≠ NB := by
    intro g hg
    have k1 := fs_lt g hg
    have k2 := ss_lt g hg
    have q : Go.Proofs.YtkggelfkpieonabDoor.trn f C (fs g * 8 + ss g) ≠ NB := by
      rw [trn_at f C k2]
      exact hfin _ (by have := (s1 _ k1).1; have := (s1 _ k2).1; omega)
    unfold bd
    split
    · rename_i z
      have t := (hT.top (fs g * 8 + ss g) (by omega)).resolve_left q
      have := tdiv2_le (Go.Proofs.YtkggelfkpieonabDoor.trn f C (fs g * 8 + ss g))
      unfold NB
      omega
    · exact q
  have main : ∀ v, SK (bd (Go.Proofs.YtkggelfkpieonabDoor.trn f C)) v 4 → ∃ v', Sat v' C ∧ ∀ b, b < 8 → sd v' b = sd v (sgi f b) := by
    intro v hv
    have hs := hT.sat hv
    have hb : ∀ b, b < 8 → sd (fun x => sd v (sgi f (2 * x))) b = sd v (sgi f b) := by
      intro b hb
      by_cases e : b % 2 = 0
      · unfold sd
        rw [if_pos e]
        show sd v (sgi f (2 * (b / 2))) = sd v (sgi f b)
        rw [show 2 * (b / 2) = b by omega]
      · have ho : opp b = 2 * (b / 2) := by unfold opp; rw [if_neg e]; omega
        have e1 : sd (fun x => sd v (sgi f (2 * x))) b = -sd v (sgi f (2 * (b / 2))) := by
          show (if b % 2 = 0 then sd v (sgi f (2 * (b / 2))) else -sd v (sgi f (2 * (b / 2)))) = _
          rw [if_neg e]
        rw [e1, ← ho, sgi_opp hf hb, sd_opp, Int.neg_neg]
    refine ⟨fun x => sd v (sgi f (2 * x)), fun i j hi hj => ?_, hb⟩
    rw [hb i hi, hb j hj]
    have := hs (sgi f i) (sgi f j) (s2 i hi).1 (s2 j hj).1
    rw [trn_at f C (s2 j hj).1, (s2 i hi).2, (s2 j hj).2] at this
    exact this
  have e0 : sgi f (fs f) = 0 := by rw [← s3]; exact (s1 0 (by omega)).2.2
  by_cases f8 : f < 8
  · obtain ⟨v, hv, e⟩ := hT.pick1 bfin
    obtain ⟨v', h1, h2⟩ := main v hv
    refine ⟨v', h1, ?_⟩
    have ff := (fs_lo f f8).1
    unfold fval
    rw [if_pos f8, h2 f f8]
    rw [ff] at e0
    rw [e0, e]
    unfold bd
    have z0 : fs 0 = 0 ∧ ss 0 = 0 := by decide
    rw [z0.1, z0.2, (fs_lo f f8).1, (fs_lo f f8).2, trn_at f C (by omega), s3, ff]
    simp
  · obtain ⟨v, hv, e⟩ := hT.pick2 bfin
    obtain ⟨v', h1, h2⟩ := main v hv
    refine ⟨v', h1, ?_⟩
    have e2 : sgi f (ss f) = 2 := by rw [← s4 (by omega)]; exact (s1 2 (by omega)).2.2
    unfold fval
    rw [if_neg f8, h2 _ hfs, h2 _ hss, e0, e2, e]
    have hne := fs_hi f hf (by omega)
    unfold bd
    have z8 : fs 8 = 0 ∧ ss 8 = 2 := by decide
    rw [z8.1, z8.2, trn_at f C (by omega), s3, s4 (by omega), if_neg (fun q => absurd q.1 (by decide)), if_neg (fun q => hne q.1)]

end Go.Proofs.YtkggelfkpieonabDoor

/- Sharp: all small states are looked at. No Go in here. -/
namespace Go.Proofs.YtkggelfkpieonabDoor
variable {o : List Int}

/-- The k-th state. -/
def vk (k : Nat) : List Int := [(k : Int) % 5 - 2, (k : Int) / 5 % 5 - 2, (k : Int) / 25 % 5 - 2, (k : Int) / 125 - 2]
def anF (o : List Int) : Nat → Bool
  | 0 => false
  | k + 1 => anF o k || hasB o (vk k)
/-- The best so far. -/
def beF (o : List Int) : Nat → Nat → Int
  | 0, _ => 0
  | k + 1, f => if hasB o (vk k) = true ∧ (anF o k = false ∨ beF o k f < valF f (vk k)) then valF f (vk k) else beF o k f
theorem anF_iff : ∀ k, anF o k = true ↔ ∃ j, j < k ∧ hasB o (vk j) = true := by
  intro k
  induction k with
  | zero => exact ⟨fun h => Bool.noConfusion h, fun ⟨j, hj, _⟩ => absurd hj (by omega)⟩
  | succ k ih =>
    show (anF o k || hasB o (vk k)) = true ↔ _
    rw [Bool.or_eq_true, ih]
    constructor
    · rintro (⟨j, hj, h⟩ | h)
      · exact ⟨j, by omega, h⟩
      · exact ⟨k, by omega, h⟩
    · rintro ⟨j, hj, h⟩
      rcases Nat.lt_or_eq_of_le (Nat.lt_succ_iff.1 hj) with e | e
      · exact .inl ⟨j, e, h⟩
      · rw [e] at h; exact .inr h
theorem beF_best (f : Nat) : ∀ k, anF o k = true → (∃ j, j < k ∧ hasB o (vk j) = true ∧ beF o k f = valF f (vk j)) ∧ ∀ j, j < k → hasB o (vk j) = true → valF f (vk j) ≤ beF o k f := by
  intro k
  induction k with
  | zero => intro h; cases h
  | succ k ih =>
    intro h
    rw [beF]
    by_cases c : hasB o (vk k) = true ∧ (anF o k = false ∨ beF o k f < valF f (vk k))
    · rw [if_pos c]
      refine ⟨⟨k, by omega, c.1, rfl⟩, fun j hj hh => ?_⟩
      rcases Nat.lt_or_eq_of_le (Nat.lt_succ_iff.1 hj) with e | e
      · have ha : anF o k = true := (anF_iff k).2 ⟨j, e, hh⟩
        rcases c.2 with z | z
        · rw [ha] at z; cases z
        · have := (ih ha).2 j e hh
          omega
      · rw [e]; exact Int.le_refl _
    · rw [if_neg c]
      have ha : anF o k = true := by
        cases e : anF o k with
        | true => rfl
        | false =>
          have h' : (anF o k || hasB o (vk k)) = true := h
          rw [e, Bool.false_or] at h'
          exact absurd ⟨h', .inl e⟩ c
      obtain ⟨⟨j, hj, h1, h2⟩, h3⟩ := ih ha
      refine ⟨⟨j, by omega, h1, h2⟩, fun i hi hh => ?_⟩
      rcases Nat.lt_or_eq_of_le (Nat.lt_succ_iff.1 hi) with e | e
      · exact h3 i e hh
      · subst e
        rcases Int.lt_or_le (beF o i f) (valF f (vk i)) with z | z
        · exact absurd ⟨hh, .inr z⟩ c
        · exact z
/-- Every small state is one of them. -/
theorem vk_all {v : Nat → Int} (h : ∀ i, i < 4 → -2 ≤ v i ∧ v i ≤ 2) : ∃ k, k < 625 ∧ ∀ i, i < 4 → gAt (vk k) i = v i := by
  have h0 := h 0 (by omega)
  have h1 := h 1 (by omega)
  have h2 := h 2 (by omega)
  have h3 := h 3 (by omega)
  refine ⟨((v 0 + 2) + 5 * (v 1 + 2) + 25 * (v 2 + 2) + 125 * (v 3 + 2)).toNat, by omega, fun i hi => ?_⟩
  generalize hk : ((v 0 + 2) + 5 * (v 1 + 2) + 25 * (v 2 + 2) + 125 * (v 3 + 2)).toNat = k
  have hk' : (k : Int) = (v 0 + 2) + 5 * (v 1 + 2) + 25 * (v 2 + 2) + 125 * (v 3 + 2) := by omega
  rcases (show i = 0 ∨ i = 1 ∨ i = 2 ∨ i = 3 by omega) with rfl | rfl | rfl | rfl
  · show (k : Int) % 5 - 2 = v 0; omega
  · show (k : Int) / 5 % 5 - 2 = v 1; omega
  · show (k : Int) / 25 % 5 - 2 = v 2; omega
  · show (k : Int) / 125 - 2 = v 3; omega
theorem vk_rng {k : Nat} (hk : k < 625) : ∀ i, i < 4 → -2 ≤ gAt (vk k) i ∧ gAt (vk k) i ≤ 2 := by
  intro i hi
  rcases (show i = 0 ∨ i = 1 ∨ i = 2 ∨ i = 3 by omega) with rfl | rfl | rfl | rfl
  · show -2 ≤ (k : Int) % 5 - 2 ∧ (k : Int) % 5 - 2 ≤ 2; omega
  · show -2 ≤ (k : Int) / 5 % 5 - 2 ∧ (k : Int) / 5 % 5 - 2 ≤ 2; omega
  · show -2 ≤ (k : Int) / 25 % 5 - 2 ∧ (k : Int) / 25 % 5 - 2 ≤ 2; omega
  · show -2 ≤ (k : Int) / 125 - 2 ∧ (k : Int) / 125 - 2 ≤ 2; omega
theorem vk_5000 {k : Nat} (hk : k < 625) : ∀ i, i < 4 → -5000 ≤ gAt (vk k) i ∧ gAt (vk k) i ≤ 5000 := fun i hi => by
  have := vk_rng hk i hi
  omega
theorem sd_congr {v v' : Nat → Int} (h : ∀ i, i < 4 → v i = v' i) {i : Nat} (hi : i < 8) : sd v i = sd v' i := by
  unfold sd
  rw [h (i / 2) (by omega)]
/-- A state of the sharp bounds is one of the list. -/
theorem sat_has (ho : okL o) {l : List Int} (hv : ∀ i, i < 4 → -5000 ≤ gAt l i ∧ gAt l i ≤ 5000) (h : Sat (gAt l) (ovM o)) (he : ovE o = false) : hasB o l = true := by
  rw [holds_close ho hv, he]
  exact has_out_true hv h
theorem sharp_all (ho : okL o) (hb : ∀ f, f < 8 → gAt o f ≤ 2) : (ovE o = true → anF o 625 = false) ∧ (ovE o = false → anF o 625 = true ∧ ∀ f, f < 32 → beF o 625 f = bd (ovM o) f) := by
  refine ⟨fun he => ?_, fun he => ?_⟩
  · cases e : anF o 625 with
    | false => rfl
    | true =>
      obtain ⟨j, _, h⟩ := (anF_iff 625).1 e
      have := (sat_ov ho.1 h).2
      rw [he] at this
      cases this
  · have hT : TC (ovM o) := (raw_lay ho).tc he
    have hd : ∀ i, i < 8 → ovM o (i * 8 + i) ≤ 4 := by
      intro i hi
      have a := ovM_le o (i * 8 + i)
      rw [lay_nf o hi hi (fun e => opp_ne i e.symm), nf_self] at a
      have b := bv_lo o hi
      have c := hb i hi
      have c' : o.getD i 0 ≤ 2 := c
      have n : o.getD i 0 ≠ NB := by unfold NB; omega
      rw [b.2 n] at a
      omega
    have hdf : ∀ i, i < 8 → ovM o (i * 8 + i) ≠ NB := fun i hi => by have := hd i hi; unfold NB; omega
    have hfin : ∀ a, a < 64 → ovM o a ≠ NB := by
      intro a ha
      have := (hT.half (a / 8) (a % 8) (by omega) (by omega) (hdf _ (by omega)) (hdf _ (by omega))).1
      rw [show a / 8 * 8 + a % 8 = a by omega] at this
      exact this
    have box : ∀ v, Sat v (ovM o) → ∀ i, i < 4 → -2 ≤ v i ∧ v i ≤ 2 := by
      intro v hs i hi
      have a := (hs (2 * i) (2 * i) (by omega) (by omega)).resolve_left (hdf _ (by omega))
      have b := (hs (2 * i + 1) (2 * i + 1) (by omega) (by omega)).resolve_left (hdf _ (by omega))
      have a2 := hd (2 * i) (by omega)
      have b2 := hd (2 * i + 1) (by omega)
      have e1 : sd v (2 * i) = v i := by unfold sd; rw [if_pos (by omega), show 2 * i / 2 = i by omega]
      have e2 : sd v (2 * i + 1) = -v i := by unfold sd; rw [if_neg (by omega), show (2 * i + 1) / 2 = i by omega]
      rw [e1] at a
      rw [e2] at b
      omega
    have find : ∀ f, f < 32 → ∃ k, k < 625 ∧ hasB o (vk k) = true ∧ valF f (vk k) = bd (ovM o) f := by
      intro f hf
      obtain ⟨v, hs, hv⟩ := hT.reach hfin hf
      obtain ⟨k, hk, hv'⟩ := vk_all (box v hs)
      have hsat : Sat (gAt (vk k)) (ovM o) := fun i j hi hj => by
        rw [sd_congr hv' hi, sd_congr hv' hj]
        exact hs i j hi hj
      refine ⟨k, hk, sat_has ho (vk_5000 hk) hsat he, ?_⟩
      rw [valF_sd f hf, ← hv]
      unfold fval
      by_cases f8 : f < 8
      · rw [if_pos f8, if_pos f8, sd_congr hv' f8]
      · rw [if_neg f8, if_neg f8, sd_congr hv' (fs_lt f hf), sd_congr hv' (ss_lt f hf)]
    have hany : anF o 625 = true := by
      obtain ⟨k, hk, h, _⟩ := find 0 (by omega)
      exact (anF_iff 625).2 ⟨k, hk, h⟩
    refine ⟨hany, fun f hf => ?_⟩
    obtain ⟨⟨j, hj, h1, h2⟩, h3⟩ := beF_best (o := o) f 625 hany
    obtain ⟨k, hk, h4, h5⟩ := find f hf
    have a := h3 k hk h4
    have b := sat_bd (vk_5000 hj) (sat_ov ho.1 h1).1 f hf
    omega

end Go.Proofs.YtkggelfkpieonabDoor

namespace Go.Proofs.YtkggelfkpieonabDoor
open Go.RowKit
variable {w : World}

/-- Thirty-two numbers as a list. -/
def ql (R : Nat → Int) : List Int := (List.range 32).map R
theorem ql_len (R : Nat → Int) : (ql R).length = 32 := by simp [ql]
theorem ql_get (R : Nat → Int) {i : Nat} (h : i < 32) : (ql R).getD i 0 = R i := by simp [ql, List.getD, h]
theorem ql_set (R : Nat → Int) {n : Nat} (c : Int) : (ql R).set n c = ql (upd R n c) := by
  refine List.ext_getElem (by simp [ql]) fun i h1 h2 => ?_
  rw [List.getElem_set]
  simp only [ql, List.getElem_map, List.getElem_range]
  unfold upd
  by_cases e : n = i
  · rw [if_pos e, if_pos e.symm]
  · rw [if_neg e, if_neg (fun z => e z.symm)]
theorem ql_cell {p : Nat} {R : Nat → Int} {t : TypeId} (h : At w p (ic (ql R)) t) {i : Nat} (hi : i < 32) : w.cell? ⟨p, i, none⟩ = some (.int .i64 (R i)) := by
  rw [h.cell, ic_get _ _ (by rw [ql_len]; exact hi), ql_get R hi]
theorem ql_congr {R S : Nat → Int} (h : ∀ f, f < 32 → R f = S f) : ql R = ql S := List.map_congr_left fun f hf => h f (by simpa using hf)
theorem ql_reads {p : Nat} {R : Nat → Int} (h : At w p (ic (ql R)) tNk) : Reads w (.slice (some ⟨p, 0, none⟩) 32 32) (ql R) := Reads.at_ h (ql_len R) (Nat.le_refl _) (fun i hi => ic_get _ _ (by rw [ql_len]; exact hi))
/-- The first bounds, kept to 2. -/
def clF (A : Nat → Int) (n i : Nat) : Int := if i < n ∧ 2 < A i then 2 else A i
theorem clF_no (A : Nat → Int) (n : Nat) : clF A n n = A n := if_neg (by omega)
theorem clF_put (A : Nat → Int) {n : Nat} (h : 2 < A n) : clF A (n + 1) = upd (clF A n) n 2 := by
  funext i
  unfold upd clF
  by_cases e : i = n
  · subst e; rw [if_pos ⟨by omega, h⟩, if_pos rfl]
  · rw [if_neg e]
    by_cases c : i < n ∧ 2 < A i
    · rw [if_pos c, if_pos ⟨by omega, c.2⟩]
    · rw [if_neg c, if_neg (fun z => c ⟨by omega, z.2⟩)]
theorem clF_same (A : Nat → Int) {n : Nat} (h : ¬ 2 < A n) : clF A (n + 1) = clF A n := by
  funext i
  unfold clF
  by_cases e : i = n
  · subst e; rw [if_neg (fun z => h z.2), if_neg (by omega)]
  · by_cases c : i < n ∧ 2 < A i
    · rw [if_pos c, if_pos ⟨by omega, c.2⟩]
    · rw [if_neg c, if_neg (fun z => c ⟨by omega, z.2⟩)]
/-- The octagon that is looked at. -/
def shO (raw : List Int) : List Int := ql (clF (bnd raw 8) 8)
theorem bnd_8 (raw : List Int) (f : Nat) : bnd raw 8 f = NB ∨ (-8 ≤ bnd raw 8 f ∧ bnd raw 8 f ≤ 8) := by
  unfold bnd
  split
  · rename_i h; exact .inr h.2
  · exact .inl rfl
theorem shO_ok (raw : List Int) : okL (shO raw) ∧ ∀ f, f < 8 → gAt (shO raw) f ≤ 2 := by
  refine ⟨⟨ql_len _, fun f hf => ?_⟩, fun f hf => ?_⟩
  · show isB ((ql (clF (bnd raw 8) 8)).getD f 0) = true
    rw [ql_get _ hf]
    unfold isB clF
    apply decide_eq_true
    rcases bnd_8 raw f with h | h
    · split
      · exact .inr (by omega)
      · exact .inl h
    · split
      · exact .inr (by omega)
      · exact .inr (by omega)
  · show (ql (clF (bnd raw 8) 8)).getD f 0 ≤ 2
    rw [ql_get _ (by omega)]
    unfold clF
    split
    · omega
    · rename_i h
      rcases Int.lt_or_le 2 (bnd raw 8 f) with c | c
      · exact absurd ⟨hf, c⟩ h
      · exact c
theorem bndL_ql (raw : List Int) : bndL raw 8 32 = ql (clF (bnd raw 8) 0) := by
  unfold bndL ql
  refine List.map_congr_left fun f hf => ?_
  have : f < 32 := by simpa using hf
  rw [if_pos this]
  unfold clF
  rw [if_neg (by omega)]
/-- The best, in the midst of a round. -/
def mixF (o : List Int) (k n i : Nat) : Int := if i < n then beF o (k + 1) i else beF o k i
theorem mixF_0 (o : List Int) (k : Nat) : mixF o k 0 = beF o k := by funext i; exact if_neg (by omega)
theorem mixF_at (o : List Int) (k n : Nat) : mixF o k n n = beF o k n := if_neg (by omega)
theorem mixF_put (o : List Int) (k n : Nat) : mixF o k (n + 1) = upd (mixF o k n) n (beF o (k + 1) n) := by
  funext i
  unfold upd mixF
  by_cases e : i = n
  · subst e; rw [if_pos (by omega), if_pos rfl]
  · rw [if_neg e]
    by_cases c : i < n
    · rw [if_pos c, if_pos (by omega)]
    · rw [if_neg c, if_neg (by omega)]
theorem mixF_same {o : List Int} {k n : Nat} (h : beF o (k + 1) n = beF o k n) : mixF o k (n + 1) = mixF o k n := by
  rw [mixF_put, h]
  funext i
  unfold upd
  by_cases e : i = n
  · rw [if_pos e, e, mixF_at]
  · rw [if_neg e]
theorem mixF_32 (o : List Int) (k : Nat) : ql (mixF o k 32) = ql (beF o (k + 1)) := ql_congr fun _ hf => if_pos hf
theorem be_no {o : List Int} {k : Nat} (h : hasB o (vk k) = false) : beF o (k + 1) = beF o k := by
  funext f
  rw [beF, if_neg (fun z => by rw [h] at z; cases z.1)]
theorem be_eq {o : List Int} {k : Nat} (h : hasB o (vk k) = true) (f : Nat) : beF o (k + 1) f = if anF o k = false ∨ beF o k f < valF f (vk k) then valF f (vk k) else beF o k f := by
  rw [beF]
  by_cases c : anF o k = false ∨ beF o k f < valF f (vk k)
  · rw [if_pos ⟨h, c⟩, if_pos c]
  · rw [if_neg (fun z => c z.2), if_neg c]
theorem an_eq (o : List Int) (k : Nat) : anF o (k + 1) = (anF o k || hasB o (vk k)) := rfl
theorem ic_zeros : (List.replicate 32 (Value.int .i64 0)).toArray = ic (ql fun _ => 0) := by
  have : ql (fun _ => 0) = List.replicate 32 0 := rfl
  rw [this]
  unfold ic
  rw [List.map_replicate]

end Go.Proofs.YtkggelfkpieonabDoor

namespace Go.Proofs.YtkggelfkpieonabDoor
open Go.RowKit
variable {w : World}

set_option maxRecDepth 100000 in
set_option maxHeartbeats 6400000 in
theorem sharp_walk (hG : Glob w) (v : Value) (raw : List Int) (hr : Reads w v raw) (hmx : raw.length ≤ 9223372036854775807) :
    Calls Tryd.prog 4 #[v] w fun e w' => e = .returned (.bool true) ∧ Below w.heap.size w w' := by
  have hq1 : ∀ (w : World) (a : Option Addr) (n c : Nat), (binOp .eql 22 (.slice a n c) (.slice none 0 0)).run Tryd.prog w = .ok (.bool a.isNone) w := fun w a n c => Lib.run_eql_slice_nil w 22 tNk a n c 0 0 Tryd.underlying22
  have hmk : ∀ w, (Instr.makeSlice 22 (.int .i64 4) (.int .i64 4)).run Tryd.prog w = .ok (.slice (some ⟨w.heap.size, 0, none⟩) 4 4) (w.alloc (.cells #[.int .i64 0, .int .i64 0, .int .i64 0, .int .i64 0] tNk)) := fun _ => by kernel_rfl
  have hmk2 : ∀ w, (Instr.makeSlice 22 (.int .i64 32) (.int .i64 32)).run Tryd.prog w = .ok (.slice (some ⟨w.heap.size, 0, none⟩) 32 32) (w.alloc (.cells (List.replicate 32 (Value.int .i64 0)).toArray tNk)) := fun _ => by kernel_rfl
  obtain ⟨cur, hcur⟩ : ∃ cur, cur = (List.replicate 32 (Value.int .i64 0)).toArray := ⟨_, rfl⟩
  rw [← hcur] at hmk2
  have hbo := k_bounds v raw 8 (by omega) (by omega) hr hmx
  rw [bndL_ql] at hbo
  obtain ⟨hok, hle⟩ := shO_ok raw
  have HOk : Hid (okL (shO raw)) := hok
  have HAll : Hid (_ ∧ _) := sharp_all hok hle
  have HO : Hid (shO raw = ql (clF (bnd raw 8) 8)) := rfl
  have HG : Hid (Glob w) := hG
  have HLen : Hid ((shO raw).length = 32) := hok.1
  obtain ⟨av, cv, rfl, -, -⟩ := hr
  clear hok hle hG hmx
  generalize shO raw = o at *
  generalize bnd raw 8 = A at *
  go_enter Tryd.func4, Tryd.ntmps4
  go_wp2_with fail
  refine hbo.mono ?_
  rintro e w1 ⟨rfl, hat1, hb1⟩
  have H1 : Hid (At w1 w.heap.size (ic (ql (clF A 0))) tNk ∧ Below w.heap.size w w1) := ⟨hat1, hb1⟩
  clear hat1 hb1 hbo
  go_wp2_with fail
  go_loopw [4] (fun iv wr => ∃ (f : Nat), f ≤ 8 ∧ iv = .int .i64 f ∧ Hid (At wr w.heap.size (ic (ql (clF A f))) tNk ∧ Below w.heap.size w wr)) (fun iv _ => 8 - (intOf iv).toNat)
  case atStart => exact ⟨0, by omega, rfl, H1.out⟩
  case round =>
    obtain ⟨f, hf, rfl, HR⟩ := hrel
    clear H1
    by_cases hlt : f < 8
    · have hfi : (f : Int) < 8 := by omega
      have cx := ql_cell HR.out.1 (show f < 32 by omega)
      rw [clF_no] at cx
      have cf := HR.out.1.free
      have hl := HR.out.1.lt
      by_cases c : 2 < A f
      · have HE : Hid (clF A (f + 1) = upd (clF A f) f 2) := clF_put A c
        generalize A f = x at *
        go_wp2_with fail
        go_roundw
        case rel =>
          refine ⟨f + 1, by omega, by go_num, ?_, HR.out.2.setCell (Nat.le_refl _) _⟩
          rw [HE.out, ← ql_set, ← ic_set]
          exact HR.out.1.put f _
        case measure => simp [intOf]; omega
      · have HE : Hid (clF A (f + 1) = clF A f) := clF_same A c
        generalize A f = x at *
        go_wp2_with fail
        go_roundw
        case rel => exact ⟨f + 1, by omega, by go_num, by rw [HE.out]; exact HR.out.1, HR.out.2⟩
        case measure => simp [intOf]; omega
    · have hf8 : f = 8 := by omega
      subst hf8
      obtain ⟨w2, rfl⟩ : ∃ w2, w2 = wr := ⟨_, rfl⟩
      have H2 : Hid (At w2 w.heap.size (ic o) tNk ∧ Below w.heap.size w w2) := ⟨by rw [HO.out]; exact HR.out.1, HR.out.2⟩
      clear HR
      have hro : Reads w2 (.slice (some ⟨w.heap.size, 0, none⟩) 32 32) o := Reads.at_ H2.out.1 HLen.out (Nat.le_refl _) (fun i hi => ic_get _ _ (by rw [HLen.out]; exact hi))
      have hg2 := HG.out.keep H2.out.2 HG.out.size
      have hcl := w_close hg2 _ (rds_of hg2 HOk.out hro) (ov_sm HOk.out) hro.slice
      have hlt2 : w.heap.size < w2.heap.size := H2.out.1.lt
      clear hg2 hro
      go_wp2_with fail
      refine hcl.mono ?_
      rintro e w3 ⟨y, hy, rfl⟩
      obtain ⟨y', e', a, n, c, rfl⟩ := hy.val
      cases e'
      have HY : Hid (LSays w2 (ovE o) (ovM o) (.returned (.slice a n c)) w3) := hy
      have hs3 := hy.1.size
      have H3 : Hid (At w3 w.heap.size (ic o) tNk ∧ Below w.heap.size w w3) := ⟨H2.out.1.keep hy.1 hlt2, H2.out.2.trans (hy.1.mono (by omega))⟩
      clear hy hcl H2
      obtain ⟨w4, hw4⟩ : ∃ w4, w4 = (w3.alloc (.cells cur tNk)).alloc (.cells #[.int .i64 0, .int .i64 0, .int .i64 0, .int .i64 0] tNk) := ⟨_, rfl⟩
      have H4 : Hid (At w4 w3.heap.size (ic (ql (beF o 0))) tNk ∧ At w4 (w3.heap.size + 1) (ic [0, 0, 0, 0]) tNk ∧ Below w3.heap.size w3 w4) := by
        refine ⟨?_, ?_, ?_⟩
        · have : ic (ql (beF o 0)) = cur := by rw [hcur, ic_zeros]; rfl
          rw [this, hw4]
          exact At.allocH (At.new _ _ _) _
        · have := At.new (w3.alloc (.cells cur tNk)) #[.int .i64 0, .int .i64 0, .int .i64 0, .int .i64 0] tNk
          rw [show (w3.alloc (.cells cur tNk)).heap.size = w3.heap.size + 1 by simp] at this
          rw [hw4]; exact this
        · rw [hw4]; exact ((Below.refl _ _).alloc (Nat.le_refl _) _).alloc (by simp) _
      rw [hw4] at H4
      clear hw4 hcur
      go_wp2_with fail
      go_loopw [8, 10] (fun anyv kv wr => ∃ (k : Nat) (l0 : List Int), k ≤ 625 ∧ kv = .int .i64 k ∧ anyv = .bool (anF o k) ∧ Hid (At wr w3.heap.size (ic (ql (beF o k))) tNk ∧ (l0.length = 4 ∧ At wr (w3.heap.size + 1) (ic l0) tNk) ∧ Below w3.heap.size w3 wr)) (fun _ kv _ => 625 - (intOf kv).toNat)
      case atStart => exact ⟨0, [0, 0, 0, 0], by omega, rfl, rfl, H4.out.1, ⟨rfl, H4.out.2.1⟩, H4.out.2.2⟩
      case round =>
        obtain ⟨k, l0, hk, rfl, rfl, HR⟩ := hrel
        clear H4
        by_cases hlk : k < 625
        · have hki : (k : Int) < 625 := by omega
          obtain ⟨w5, rfl⟩ : ∃ w5, w5 = wr := ⟨_, rfl⟩
          obtain ⟨p0, p1, p2, p3, hp0⟩ : ∃ a b c d, l0 = [a, b, c, d] := by
            have := HR.out.2.1.1
            match l0, this with
            | [a, b, c, d], _ => exact ⟨a, b, c, d, rfl⟩
          have y0 : w5.cell? ⟨w3.heap.size + 1, 0, none⟩ = some (.int .i64 p0) := by rw [HR.out.2.1.2.cell, hp0]; rfl
          have y1 : w5.cell? ⟨w3.heap.size + 1, 1, none⟩ = some (.int .i64 p1) := by rw [HR.out.2.1.2.cell, hp0]; rfl
          have y2 : w5.cell? ⟨w3.heap.size + 1, 2, none⟩ = some (.int .i64 p2) := by rw [HR.out.2.1.2.cell, hp0]; rfl
          have y3 : w5.cell? ⟨w3.heap.size + 1, 3, none⟩ = some (.int .i64 p3) := by rw [HR.out.2.1.2.cell, hp0]; rfl
          have cf := HR.out.2.1.2.free
          have hl5 := HR.out.2.1.2.lt
          obtain ⟨w6, hw6⟩ : ∃ w6, w6 = (((w5.setCell ⟨w3.heap.size + 1, 0, none⟩ (.int .i64 ((k : Int) % 5 - 2))).setCell ⟨w3.heap.size + 1, 1, none⟩ (.int .i64 ((k : Int) / 5 % 5 - 2))).setCell ⟨w3.heap.size + 1, 2, none⟩ (.int .i64 ((k : Int) / 25 % 5 - 2))).setCell ⟨w3.heap.size + 1, 3, none⟩ (.int .i64 ((k : Int) / 125 - 2)) := ⟨_, rfl⟩
          have H6 : Hid (At w6 w3.heap.size (ic (ql (beF o k))) tNk ∧ At w6 (w3.heap.size + 1) (ic (vk k)) tNk ∧ Below w3.heap.size w3 w6) := by
            rw [hw6]
            refine ⟨(((HR.out.1.other _ _ (by omega)).other _ _ (by omega)).other _ _ (by omega)).other _ _ (by omega), ?_, (((HR.out.2.2.setCell (by show w3.heap.size ≤ w3.heap.size + 1; omega) _).setCell (by show w3.heap.size ≤ w3.heap.size + 1; omega) _).setCell (by show w3.heap.size ≤ w3.heap.size + 1; omega) _).setCell (by show w3.heap.size ≤ w3.heap.size + 1; omega) _⟩
            have := (((HR.out.2.1.2.put 0 (.int .i64 ((k : Int) % 5 - 2))).put 1 (.int .i64 ((k : Int) / 5 % 5 - 2))).put 2 (.int .i64 ((k : Int) / 25 % 5 - 2))).put 3 (.int .i64 ((k : Int) / 125 - 2))
            rw [hp0] at this
            exact this
          have hvl : (vk k).length = 4 := rfl
          have HVal : Hid (∀ w7 f, f < 32 → At w7 (w3.heap.size + 1) (ic (vk k)) tNk → Calls Tryd.prog 11 #[.int .i64 ((f : Nat) : Int), .slice (some ⟨w3.heap.size + 1, 0, none⟩) 4 4] w7 fun e w' => e = .returned (.int .i64 (valF f (vk k))) ∧ Below w7.heap.size w7 w') := fun w7 f hf ha => k_value f hf _ (vk k) hvl (Reads.at_ ha hvl (Nat.le_refl _) (fun i hi => ic_get _ _ (by rw [hvl]; exact hi))) (vk_5000 hlk)
          have hs6 : w3.heap.size + 1 < w6.heap.size := H6.out.2.1.lt
          obtain ⟨BW, hBW⟩ : ∃ BW : World → Prop, BW = fun w' => Below w6.heap.size w6 w' := ⟨_, rfl⟩
          have hha : Calls Tryd.prog 10 #[.slice (some ⟨w.heap.size, 0, none⟩) 32 32, .slice (some ⟨w3.heap.size + 1, 0, none⟩) 4 4] w6 fun e w' => e = .returned (.bool (hasB o (vk k))) ∧ BW w' := by
            have a1 := H3.out.1.keep H6.out.2.2 (by omega)
            rw [hBW]
            exact k_has _ _ o (vk k) hvl (by rw [HLen.out]; omega) (Reads.at_ a1 HLen.out (Nat.le_refl _) (fun i hi => ic_get _ _ (by rw [HLen.out]; exact hi))) (Reads.at_ H6.out.2.1 hvl (Nat.le_refl _) (fun i hi => ic_get _ _ (by rw [hvl]; exact hi))) (vk_5000 hlk)
          have HAn : Hid (anF o (k + 1) = (anF o k || hasB o (vk k))) := rfl
          have HBe : Hid ((hasB o (vk k) = false → beF o (k + 1) = beF o k) ∧ (hasB o (vk k) = true → ∀ f, beF o (k + 1) f = if anF o k = false ∨ beF o k f < valF f (vk k) then valF f (vk k) else beF o k f)) := ⟨be_no, be_eq⟩
          rw [hw6] at hha
          clear hvl
          generalize hin : hasB o (vk k) = hn at *
          generalize han : anF o k = an at *
          clear hin han
          go_wp2_with fail
          refine hha.mono ?_
          rintro e w7 ⟨rfl, hb7⟩
          rw [hBW] at hb7
          have H7 : Hid (At w7 w3.heap.size (ic (ql (beF o k))) tNk ∧ At w7 (w3.heap.size + 1) (ic (vk k)) tNk ∧ Below w3.heap.size w3 w7) := ⟨H6.out.1.keep hb7 (by omega), H6.out.2.1.keep hb7 hs6, H6.out.2.2.trans (hb7.mono (by omega))⟩
          clear hb7 hha hBW hw6 H6 HR y0 y1 y2 y3 cf hl5 hs6 hp0
          cases hn with
          | false =>
            have HE : Hid (beF o (k + 1) = beF o k) := HBe.out.1 rfl
            clear HBe HVal
            go_wp2_with fail
            go_loopw [12] (fun fv wr => fv = .int .i64 0 ∧ Hid (wr = w7)) (fun _ _ => 0)
            case atStart => exact ⟨rfl, rfl⟩
            case round =>
              obtain ⟨rfl, HW⟩ := hrel
              cases an with
              | false =>
                go_wp2_with fail
                go_roundw
                case rel => exact ⟨k + 1, vk k, by omega, by go_num, by rw [HAn.out]; rfl, by rw [HE.out, HW.out]; exact H7.out.1, ⟨rfl, by rw [HW.out]; exact H7.out.2.1⟩, by rw [HW.out]; exact H7.out.2.2⟩
                case measure => simp [intOf]; omega
              | true =>
                go_wp2_with fail
                go_roundw
                case rel => exact ⟨k + 1, vk k, by omega, by go_num, by rw [HAn.out]; rfl, by rw [HE.out, HW.out]; exact H7.out.1, ⟨rfl, by rw [HW.out]; exact H7.out.2.1⟩, by rw [HW.out]; exact H7.out.2.2⟩
                case measure => simp [intOf]; omega
          | true =>
            have HE : Hid (∀ f, beF o (k + 1) f = if an = false ∨ beF o k f < valF f (vk k) then valF f (vk k) else beF o k f) := HBe.out.2 rfl
            have HAn2 : Hid (anF o (k + 1) = true) := by show _ = true; rw [HAn.out]; cases an <;> rfl
            clear HBe HAn
            go_wp2_with fail
            go_loopw [12] (fun fv wr => ∃ (f : Nat), f ≤ 32 ∧ fv = .int .i64 f ∧ Hid (At wr w3.heap.size (ic (ql (mixF o k f))) tNk ∧ At wr (w3.heap.size + 1) (ic (vk k)) tNk ∧ Below w3.heap.size w3 wr)) (fun fv _ => 32 - (intOf fv).toNat)
            case atStart => exact ⟨0, by omega, rfl, by rw [mixF_0]; exact H7.out.1, H7.out.2⟩
            case round =>
              obtain ⟨f, hf, rfl, HQ⟩ := hrel
              by_cases hlf : f < 32
              · have hfi : (f : Int) < 32 := by omega
                obtain ⟨w8, rfl⟩ : ∃ w8, w8 = wr := ⟨_, rfl⟩
                have hva := HVal.out w8 f hlf HQ.out.2.1
                have HEf := HE.out f
                have HMp : Hid (mixF o k (f + 1) = upd (mixF o k f) f (beF o (k + 1) f)) := mixF_put o k f
                have HMs : Hid (beF o (k + 1) f = beF o k f → mixF o k (f + 1) = mixF o k f) := mixF_same
                have hl8 := HQ.out.2.1.lt
                go_wp2_with fail
                refine hva.mono ?_
                rintro e w9 ⟨rfl, hb9⟩
                have HT : Hid (At w9 w3.heap.size (ic (ql (mixF o k f))) tNk ∧ At w9 (w3.heap.size + 1) (ic (vk k)) tNk ∧ Below w3.heap.size w3 w9) := ⟨HQ.out.1.keep hb9 (by omega), HQ.out.2.1.keep hb9 hl8, HQ.out.2.2.trans (hb9.mono (by have := HQ.out.2.2.size; omega))⟩
                have cx := ql_cell HT.out.1 hlf
                rw [mixF_at] at cx
                have cf := HT.out.1.free
                have hl9 := HT.out.1.lt
                clear hb9 hva HQ
                generalize valF f (vk k) = t at *
                generalize beF o k f = bb at *
                cases an with
                | false =>
                  have HM : Hid (mixF o k (f + 1) = upd (mixF o k f) f t) := by show _ = _; rw [HMp.out, HEf, if_pos (.inl rfl)]
                  clear HMp HMs HEf
                  go_wp2_with fail
                  go_roundw
                  case rel =>
                    refine ⟨f + 1, by omega, by go_num, ?_, HT.out.2.1.other _ _ (by omega), HT.out.2.2.setCell (Nat.le_refl _) _⟩
                    rw [HM.out, ← ql_set, ← ic_set]
                    exact HT.out.1.put f _
                  case measure => simp [intOf]; omega
                | true =>
                  by_cases c2 : bb < t
                  · have HM : Hid (mixF o k (f + 1) = upd (mixF o k f) f t) := by show _ = _; rw [HMp.out, HEf, if_pos (.inr c2)]
                    clear HMp HMs HEf
                    go_wp2_with fail
                    go_roundw
                    case rel =>
                      refine ⟨f + 1, by omega, by go_num, ?_, HT.out.2.1.other _ _ (by omega), HT.out.2.2.setCell (Nat.le_refl _) _⟩
                      rw [HM.out, ← ql_set, ← ic_set]
                      exact HT.out.1.put f _
                    case measure => simp [intOf]; omega
                  · have HM : Hid (mixF o k (f + 1) = mixF o k f) := HMs.out (HEf.trans (if_neg (fun z => z.elim (fun q => Bool.noConfusion q) c2)))
                    clear HMp HMs HEf
                    go_wp2_with fail
                    go_roundw
                    case rel => exact ⟨f + 1, by omega, by go_num, by rw [HM.out]; exact HT.out.1, HT.out.2⟩
                    case measure => simp [intOf]; omega
              · have hf32 : f = 32 := by omega
                subst hf32
                have HT : Hid (At wr w3.heap.size (ic (ql (beF o (k + 1)))) tNk) := by show At _ _ _ _; rw [← mixF_32]; exact HQ.out.1
                cases an with
                | false =>
                  go_wp2_with fail
                  go_roundw
                  case rel => exact ⟨k + 1, vk k, by omega, by go_num, by rw [HAn2.out], HT.out, ⟨rfl, HQ.out.2.1⟩, HQ.out.2.2⟩
                  case measure => simp [intOf]; omega
                | true =>
                  go_wp2_with fail
                  go_roundw
                  case rel => exact ⟨k + 1, vk k, by omega, by go_num, by rw [HAn2.out], HT.out, ⟨rfl, HQ.out.2.1⟩, HQ.out.2.2⟩
                  case measure => simp [intOf]; omega
        · have hk625 : k = 625 := by omega
          subst hk625
          obtain ⟨wz, rfl⟩ : ∃ wz, wz = wr := ⟨_, rfl⟩
          have HB5 : Hid (Below w.heap.size w wz) := H3.out.2.trans (HR.out.2.2.mono H3.out.2.size)
          obtain ⟨hbY, hY⟩ := HY.out
          rcases hY with ⟨he, hye⟩ | ⟨he, g, hye, hg, hag⟩
          · cases hye
            have han := HAll.out.1 he
            rw [han]
            clear HY hbY han HAll
            go_wp2_with fail
            go_ret
            exact ⟨rfl, HB5.out⟩
          · cases hye
            obtain ⟨han, hbe⟩ := HAll.out.2 he
            rw [han]
            have HC : Hid (∀ f, f < 32 → wz.cell? ⟨g, f, none⟩ = some (.int .i64 (bd (ovM o) f)) ∧ wz.cell? ⟨w3.heap.size, f, none⟩ = some (.int .i64 (bd (ovM o) f))) := fun f hf => by
              have a1 := hag.keep HR.out.2.2 hag.lt
              refine ⟨?_, ?_⟩
              · rw [a1.cell, ic_get _ _ (by simpa [bdL] using hf)]
                exact congrArg (fun z => some (Value.int .i64 z)) (bdL_get (ovM o) f hf)
              · rw [ql_cell HR.out.1 hf, hbe f hf]
            clear HY hbY han HAll hbe hag HR
            go_wp2_with fail
            go_loopw [14] (fun fv wr => ∃ (f j : Nat), f ≤ 32 ∧ fv = .int .i64 f ∧ Hid (wr = wz.drewN j)) (fun fv _ => 32 - (intOf fv).toNat)
            case atStart => exact ⟨0, 0, by omega, rfl, rfl⟩
            case round =>
              obtain ⟨f, j, hf, rfl, HW⟩ := hrel
              by_cases hlf : f < 32
              · have hfi : (f : Int) < 32 := by omega
                have ca : wr.cell? ⟨g, f, none⟩ = some (.int .i64 (bd (ovM o) f)) := by rw [HW.out]; exact (HC.out f hlf).1
                have cb : wr.cell? ⟨w3.heap.size, f, none⟩ = some (.int .i64 (bd (ovM o) f)) := by rw [HW.out]; exact (HC.out f hlf).2
                generalize bd (ovM o) f = x at *
                go_wp2_with fail
                go_quiet (fail)
                go_wp2_with fail
                go_roundw
                case rel => exact ⟨f + 1, _, by omega, by go_num, by rw [HW.out]; exact drewN_two _ _ _⟩
                case measure => simp [intOf]; omega
              · have hf32 : f = 32 := by omega
                subst hf32
                go_wp2_with fail
                go_ret
                exact ⟨rfl, by rw [HW.out]; exact below_drewN HB5.out _⟩

end Go.Proofs.YtkggelfkpieonabDoor

namespace Go.Proofs.YtkggelfkpieonabDoor
open Go.ChangeShapes Go.WideShapes Go.ChangeAt Go.WideMaps Go.WideElems Go.RowKit

set_option maxRecDepth 100000 in
theorem sharp_lifted (os : Os) (started : os.Started) (H : Type) (enc : TypeId × Value → H) :
    ReturnsInHanded {} Tryd.checked os 4 .any (fun w args => (Rows.sharpSpec.pre enc Tryd.prog Tryd.f4 [] false w args ∧ laidMetH Tryd.prog laid2 w) ∧ sizedMet enc Tryd.prog Tryd.f4 (OpenSpec.ofChange Rows.sharpSpec) false w args)
      (Rows.sharpSpec.post enc Tryd.prog Tryd.f4 false true false false) := by
  refine returnsInHanded_of_change_and (C := Tryd.checked) (X := fun w _ => laidMetH Tryd.prog laid2 w) (fun _ _ _ hh h => h.of_heap hh) Tryd.ownD started (by kernel_rfl) Tryd.func4
    (ChangeSpec.witness_shaped (enc := enc) (C := Tryd.checked) (os := os) (X := fun w _ => laidMetH Tryd.prog laid2 w) false (World.doorLaid Tryd.prog 4000 os) #[.slice none 0 0] 8 rfl (World.shaped_of_RefB (by kernel_rfl) (by kernel_rfl)) (by kernel_rfl) (by kernel_rfl) (by kernel_rfl) (door_met os _)) ?_
  intro W base args ds gs before hval0 hW _ _ hL _
  have hval : ∀ (j : Nat) t v, Tryd.f4.params[j]? = some t → args[j]? = some v → Value.okWide Tryd.prog W .any base t v := hval0
  have hW' := hW
  obtain ⟨p, q, hA0, hV, rfl, hfz, hnd⟩ := hW
  have hA : DataW.TrodAll enc Tryd.prog W 0 (fun _ => true) true Tryd.f4.params.toList args.toList ds p := hA0
  rw [Tryd.params4] at hA hval
  obtain ⟨v0, vs0, d0, ds0, p0, q0, hargs0, rfl, rfl, h0, r0⟩ := trodAll_cons hA
  obtain ⟨rfl, rfl, rfl⟩ := trodAll_nil r0
  obtain rfl : args = #[v0] := by cases args; simp_all
  obtain ⟨rfl, rfl⟩ := trodVars_none hV
  obtain ⟨a0, l0, c0, rfl⟩ := okWide_slice Tryd.underlying22 (hval 0 22 v0 rfl rfl)
  clear hA0 hval0
  simp only [List.append_nil] at hW'
  have lt0 : ∀ x ∈ p0, x.block < W.heap.size := fun x hx => hW'.lt x (by simpa using hx)
  obtain ⟨L0, m0, R0⟩ := open_reads h0 lt0
  refine (sharp_walk (of_laid hL) _ L0 R0 (by unfold maxLen at m0; omega)).mono fun e W' ⟨he, hb⟩ => ?_
  subst he
  have t0 := Below.trod Tryd.laidOutD (by kernel_rfl) (of_decide_eq_true (by kernel_rfl)) h0 hb lt0
  have hall := trodAll_cons_mk t0 trodAll_mk0
  simp only [List.append_nil] at hall
  exact ⟨_, rfl, _, _, _, [], p0, [], hW', trodAll_cons_mk (shut_bool Tryd.underlying4 _) trodAll_mk0, hall, rfl, hb.frame _, fun h => by cases h⟩

theorem sharp_row : Rows.SharpSaid :=
  OpenClaim.holds_of_wide 4 Tryd.f4 rfl rfl rfl rfl rfl rfl rfl ⟨rfl, rfl, rfl, rfl, rfl⟩ rfl rfl rfl rfl rfl (by kernel_rfl) Tryd.func4 (by kernel_rfl)
    (of_decide_eq_true (by kernel_rfl)) (by unfold Func.isWrapper; first | (rw [if_pos (by decide +kernel)]; kernel_rfl) | (rw [if_neg (by decide +kernel)]; exact ⟨rfl, rfl⟩))
    (fun os started H enc _ => sharp_lifted os started H enc)

theorem sharp_card : Rows.SharpCardSaid :=
  Claim7.holds_tied_plain_at .later [] [.data, .data] true Rows.sharpCard.stood.harness false
    sharp_row (fun _ h => by cases h) (by kernel_rfl) (fun _ h => by cases h) sharp_row_tie rfl ⟨rfl, rfl⟩ (by kernel_rfl) rfl
    (fun f fn hf hfn => by
      obtain rfl : f = 4 := Option.some.inj ((show Tryd.prog.funcNamed "witness/witnesskeep.Sharp" = some 4 by kernel_rfl).symm.trans hf) |>.symm
      obtain rfl : fn = Tryd.f4 := (Option.some.inj (Tryd.func4.symm.trans hfn)).symm
      exact ⟨by kernel_rfl, fun j t ht => by
        rw [Tryd.params4] at ht
        have hm : t ∈ [22] := by simpa using Array.mem_of_getElem? ht
        have hall : ([22].all fun u => !Tryd.prog.wantsStandIn u) = true := by kernel_rfl
        exact (show Tryd.prog.wantsStandIn t = false by simpa using List.all_eq_true.1 hall t hm)⟩)
    (by kernel_rfl)

end Go.Proofs.YtkggelfkpieonabDoor

