/- Octagons, plain: bounds of sums of two sides, as the program keeps them: entry 8 i + j. No Go in here. -/
namespace Go.Proofs.YtffajooegiempabDoor

def NB : Int := 1000000
def opp (i : Nat) : Nat := if i % 2 = 0 then i + 1 else i - 1
def pl (a b : Int) : Int := if a = NB ∨ b = NB then NB else a + b
def upd (M : Nat → Int) (k : Nat) (x : Int) : Nat → Int := fun a => if a = k then x else M a

theorem opp_lt {i : Nat} (h : i < 8) : opp i < 8 := by unfold opp; split <;> omega
theorem upd_same (M : Nat → Int) (k : Nat) (x : Int) : upd M k x k = x := if_pos rfl
theorem upd_other (M : Nat → Int) {k a : Nat} (x : Int) (h : a ≠ k) : upd M k x a = M a := if_neg h

/-- One step of a chain through a side. -/
def ch1 (s : Nat) (M : Nat → Int) (k : Nat) : Nat → Int :=
  if pl (M (k / 8 * 8 + opp s)) (M (s * 8 + k % 8)) < M k then upd M k (pl (M (k / 8 * 8 + opp s)) (M (s * 8 + k % 8))) else M
def chF (s : Nat) (M : Nat → Int) : Nat → Nat → Int
  | 0 => M
  | k + 1 => ch1 s (chF s M k) k
/-- All chains. -/
def fw (M : Nat → Int) : Nat → Nat → Int
  | 0 => M
  | s + 1 => chF s (fw M s) 64
/-- The sums of a side with itself, made even. -/
def rd1 (M : Nat → Int) (i : Nat) : Nat → Int := if M (i * 8 + i) = NB then M else upd M (i * 8 + i) (M (i * 8 + i) / 2 * 2)
def rdF (M : Nat → Int) : Nat → Nat → Int
  | 0 => M
  | i + 1 => rd1 (rdF M i) i
/-- Each sum of two sides against those of the two alone. -/
def ah1 (M : Nat → Int) (k : Nat) : Nat → Int :=
  if pl (M (k / 8 * 8 + k / 8)) (M (k % 8 * 8 + k % 8)) ≠ NB ∧ (pl (M (k / 8 * 8 + k / 8)) (M (k % 8 * 8 + k % 8))).tdiv 2 < M k then upd M k ((pl (M (k / 8 * 8 + k / 8)) (M (k % 8 * 8 + k % 8))).tdiv 2) else M
def ahF (M : Nat → Int) : Nat → Nat → Int
  | 0 => M
  | k + 1 => ah1 (ahF M k) k
/-- All three. -/
def sharp (M : Nat → Int) : Nat → Int := ahF (rdF (fw M 8) 8) 64
/-- Is there a side that would have to be less than 0 with its opposite? -/
def conF (M : Nat → Int) : Nat → Bool
  | 0 => false
  | i + 1 => conF M i || decide (M (i * 8 + opp i) < 0)

/- Each step only lowers. -/
theorem ch1_le (s : Nat) (M : Nat → Int) (k a : Nat) : ch1 s M k a ≤ M a := by
  unfold ch1
  split
  · unfold upd
    split
    · rename_i h e; subst e; exact Int.le_of_lt h
    · exact Int.le_refl _
  · exact Int.le_refl _
theorem chF_le (s : Nat) (M : Nat → Int) : ∀ k a, chF s M k a ≤ M a
  | 0, _ => Int.le_refl _
  | k + 1, a => Int.le_trans (ch1_le s _ k a) (chF_le s M k a)
theorem fw_le (M : Nat → Int) : ∀ s a, fw M s a ≤ M a
  | 0, _ => Int.le_refl _
  | s + 1, a => by rw [fw]; exact Int.le_trans (chF_le s _ 64 a) (fw_le M s a)
theorem rd1_le (M : Nat → Int) (i a : Nat) : rd1 M i a ≤ M a := by
  unfold rd1
  split
  · exact Int.le_refl _
  · unfold upd
    split
    · rename_i e; subst e; omega
    · exact Int.le_refl _
theorem rdF_le (M : Nat → Int) : ∀ i a, rdF M i a ≤ M a
  | 0, _ => Int.le_refl _
  | i + 1, a => Int.le_trans (rd1_le _ i a) (rdF_le M i a)
theorem ah1_le (M : Nat → Int) (k a : Nat) : ah1 M k a ≤ M a := by
  unfold ah1
  split
  · unfold upd
    split
    · rename_i h e; subst e; exact Int.le_of_lt h.2
    · exact Int.le_refl _
  · exact Int.le_refl _
theorem ahF_le (M : Nat → Int) : ∀ k a, ahF M k a ≤ M a
  | 0, _ => Int.le_refl _
  | k + 1, a => Int.le_trans (ah1_le _ k a) (ahF_le M k a)
theorem sharp_le (M : Nat → Int) (a : Nat) : sharp M a ≤ M a := Int.le_trans (ahF_le _ 64 a) (Int.le_trans (rdF_le _ 8 a) (fw_le M 8 a))

/- How low the entries get. -/
def Lo (L : Int) (M : Nat → Int) : Prop := ∀ a, a < 64 → -L ≤ M a
structure LoC (L : Int) (s : Nat) (M M' : Nat → Int) (k : Nat) : Prop where
  old : ∀ a, k ≤ a → M' a = M a
  all : ∀ a, a < 64 → -(6 * L) ≤ M' a
  col : ∀ i, i < 8 → -(3 * L) ≤ M' (i * 8 + opp s)
  row : ∀ j, j < 8 → -(3 * L) ≤ M' (s * 8 + j)
  cor : -(2 * L) ≤ M' (s * 8 + opp s)
theorem pl_ge {a b x y : Int} (ha : -x ≤ a) (hb : -y ≤ b) (h : -1000000 ≤ x + y) : -(x + y) ≤ pl a b := by
  unfold pl NB
  split
  · omega
  · omega
theorem chF_lo {L : Int} {s : Nat} {M : Nat → Int} (hL : 0 ≤ L) (hs : s < 8) (h : Lo L M) : ∀ k, k ≤ 64 → LoC L s M (chF s M k) k := by
  have ho := opp_lt hs
  intro k
  induction k with
  | zero =>
    intro _
    refine ⟨fun _ _ => rfl, fun a ha => ?_, fun i hi => ?_, fun j hj => ?_, ?_⟩
    · have := h a ha; show _ ≤ M a; omega
    · have := h (i * 8 + opp s) (by omega); show _ ≤ M _; omega
    · have := h (s * 8 + j) (by omega); show _ ≤ M _; omega
    · have := h (s * 8 + opp s) (by omega); show _ ≤ M _; omega
  | succ k ih =>
    intro hk
    have hc := ih (by omega)
    have hi : k / 8 < 8 := by omega
    have hj : k % 8 < 8 := by omega
    have hkk : k / 8 * 8 + k % 8 = k := by omega
    have hkM : chF s M k k = M k := hc.old k (Nat.le_refl _)
    have hMk : -L ≤ M k := h k (by omega)
    have c1 := hc.col _ hi
    have c2 := hc.row _ hj
    have c3 := hc.cor
    show LoC L s M (ch1 s (chF s M k) k) (k + 1)
    unfold ch1
    split
    · have g6 : -(6 * L) ≤ pl (chF s M k (k / 8 * 8 + opp s)) (chF s M k (s * 8 + k % 8)) := by
        have := pl_ge c1 c2 (by omega); omega
      refine ⟨fun a ha => ?_, fun a ha => ?_, fun i hi' => ?_, fun j hj' => ?_, ?_⟩
      · rw [upd_other _ _ (by omega)]; exact hc.old a (by omega)
      · unfold upd; split
        · exact g6
        · exact hc.all a ha
      · unfold upd; split
        · rename_i e
          have e1 : k / 8 = i := by omega
          have e2 : k % 8 = opp s := by omega
          have : chF s M k (k / 8 * 8 + opp s) = M k := by rw [show k / 8 * 8 + opp s = k by omega]; exact hkM
          rw [this, e2]
          have := pl_ge (x := L) (y := 2 * L) hMk c3 (by omega)
          omega
        · exact hc.col i hi'
      · unfold upd; split
        · rename_i e
          have e1 : k / 8 = s := by omega
          have e2 : k % 8 = j := by omega
          have : chF s M k (s * 8 + k % 8) = M k := by rw [show s * 8 + k % 8 = k by omega]; exact hkM
          rw [this, e1]
          have := pl_ge (x := 2 * L) (y := L) c3 hMk (by omega)
          omega
        · exact hc.row j hj'
      · unfold upd; split
        · rename_i e
          have e1 : k / 8 = s := by omega
          have e2 : k % 8 = opp s := by omega
          have : chF s M k (s * 8 + opp s) = M k := by rw [e]; exact hkM
          rw [e1, e2, this]
          have := pl_ge (x := L) (y := L) hMk hMk (by omega)
          omega
        · exact hc.cor
    · exact ⟨fun a ha => hc.old a (by omega), hc.all, hc.col, hc.row, hc.cor⟩
theorem fw_lo {M : Nat → Int} {L : Int} (hL : 0 ≤ L) (h : Lo L M) : ∀ s, s ≤ 8 → Lo (L * 6 ^ s) (fw M s) := by
  intro s
  induction s with
  | zero => intro _; simpa [fw] using h
  | succ s ih =>
    intro hs
    have h1 := ih (by omega)
    have hp : 0 ≤ L * 6 ^ s := Int.mul_nonneg hL (Int.le_of_lt (Int.pow_pos (by decide)))
    have h2 := (chF_lo (s := s) hp (by omega) h1 64 (Nat.le_refl _)).all
    intro a ha
    have := h2 a ha
    rw [fw, Int.pow_succ]
    have e : L * (6 ^ s * 6) = 6 * (L * 6 ^ s) := by rw [← Int.mul_assoc, Int.mul_comm]
    rw [e]; exact this

end Go.Proofs.YtffajooegiempabDoor

/- The states of an octagon keep to what is made of its bounds. -/
namespace Go.Proofs.YtffajooegiempabDoor

theorem tdiv2 (x : Int) : (0 ≤ x → x.tdiv 2 = x / 2) ∧ (x < 0 → x.tdiv 2 = -((-x) / 2)) := by
  constructor
  · intro h; exact Int.tdiv_eq_ediv_of_nonneg h
  · intro h
    have : x.tdiv 2 = -((-x).tdiv 2) := by rw [Int.neg_tdiv, Int.neg_neg]
    rw [this, Int.tdiv_eq_ediv_of_nonneg (by omega)]
theorem tdiv2_le (x : Int) : x.tdiv 2 * 2 ≤ x + 1 ∧ x - 1 ≤ x.tdiv 2 * 2 := by
  have h := tdiv2 x
  rcases Int.lt_or_le x 0 with e | e
  · rw [h.2 e]; omega
  · rw [h.1 e]; omega

theorem rdF_at (M : Nat → Int) : ∀ n a, rdF M n a = if a % 9 = 0 ∧ a / 9 < n ∧ M a ≠ NB then M a / 2 * 2 else M a := by
  intro n
  induction n with
  | zero => intro a; rw [rdF, if_neg (by omega)]
  | succ n ih =>
    intro a
    rw [rdF]
    unfold rd1
    have hn : rdF M n (n * 8 + n) = M (n * 8 + n) := by rw [ih, if_neg (by omega)]
    rw [hn]
    by_cases e : a = n * 8 + n
    · subst e
      split
      · rename_i h; rw [hn, if_neg (fun q => q.2.2 h)]
      · rename_i h; rw [upd_same, if_pos ⟨by omega, by omega, h⟩]
    · have hne : ¬ (a % 9 = 0 ∧ a / 9 = n) := by omega
      have : (if M (n * 8 + n) = NB then rdF M n else upd (rdF M n) (n * 8 + n) (M (n * 8 + n) / 2 * 2)) a = rdF M n a := by
        split
        · rfl
        · exact upd_other _ _ e
      rw [this, ih]
      by_cases q : a % 9 = 0 ∧ a / 9 < n ∧ M a ≠ NB
      · rw [if_pos q, if_pos ⟨q.1, by omega, q.2.2⟩]
      · rw [if_neg q, if_neg (fun p => q ⟨p.1, by omega, p.2.2⟩)]
theorem rdF_lo {L : Int} {M : Nat → Int} (h : Lo L M) (n : Nat) : Lo (L + 1) (rdF M n) := by
  intro a ha
  have := h a ha
  rw [rdF_at]
  split <;> omega
theorem ah1_lo {L : Int} {M : Nat → Int} (hL : 0 ≤ L) (h : Lo L M) {k : Nat} (hk : k < 64) : Lo L (ah1 M k) := by
  intro a ha
  have h1 := h (k / 8 * 8 + k / 8) (by omega)
  have h2 := h (k % 8 * 8 + k % 8) (by omega)
  have h3 := h a ha
  have := pl_ge h1 h2 (by omega)
  unfold ah1
  split
  · unfold upd
    split
    · have := tdiv2_le (pl (M (k / 8 * 8 + k / 8)) (M (k % 8 * 8 + k % 8))); omega
    · exact h3
  · exact h3
theorem ahF_lo {L : Int} {M : Nat → Int} (hL : 0 ≤ L) (h : Lo L M) : ∀ k, k ≤ 64 → Lo L (ahF M k) := by
  intro k
  induction k with
  | zero => intro _; exact h
  | succ k ih => intro hk; rw [ahF]; exact ah1_lo hL (ih (by omega)) (by omega)

/-- The value of a side. -/
def sd (v : Nat → Int) (i : Nat) : Int := if i % 2 = 0 then v (i / 2) else -v (i / 2)
theorem sd_opp (v : Nat → Int) (i : Nat) : sd v (opp i) = -sd v i := by
  unfold sd opp
  by_cases h : i % 2 = 0
  · rw [if_pos h, if_pos h, if_neg (by omega), show (i + 1) / 2 = i / 2 by omega]
  · rw [if_neg h, if_neg h, if_pos (by omega), show (i - 1) / 2 = i / 2 by omega, Int.neg_neg]
/-- A state keeps to the bounds. -/
def Sat (v : Nat → Int) (M : Nat → Int) : Prop := ∀ i j, i < 8 → j < 8 → M (i * 8 + j) = NB ∨ sd v i + sd v j ≤ M (i * 8 + j)
theorem pl_fin {a b : Int} (h : pl a b ≠ NB) : a ≠ NB ∧ b ≠ NB ∧ pl a b = a + b := by
  unfold pl at h ⊢
  by_cases q : a = NB ∨ b = NB
  · rw [if_pos q] at h; exact absurd rfl h
  · rw [if_neg q]; exact ⟨fun e => q (.inl e), fun e => q (.inr e), rfl⟩
theorem Sat.ch1 {v M : Nat → Int} (h : Sat v M) {s k : Nat} (hs : s < 8) (_hk : k < 64) : Sat v (ch1 s M k) := by
  intro i j hi hj
  unfold Go.Proofs.YtffajooegiempabDoor.ch1
  split
  · unfold upd
    split
    · rename_i e
      have e1 : k / 8 = i := by omega
      have e2 : k % 8 = j := by omega
      rw [e1, e2]
      by_cases q : pl (M (i * 8 + opp s)) (M (s * 8 + j)) = NB
      · exact .inl q
      · obtain ⟨q1, q2, q3⟩ := pl_fin q
        right
        rw [q3]
        have a1 := (h i (opp s) hi (opp_lt hs)).resolve_left q1
        have a2 := (h s j hs hj).resolve_left q2
        rw [sd_opp] at a1
        omega
    · exact h i j hi hj
  · exact h i j hi hj
theorem Sat.chF {v M : Nat → Int} (h : Sat v M) {s : Nat} (hs : s < 8) : ∀ k, k ≤ 64 → Sat v (chF s M k) := by
  intro k
  induction k with
  | zero => intro _; exact h
  | succ k ih => intro hk; rw [Go.Proofs.YtffajooegiempabDoor.chF]; exact (ih (by omega)).ch1 hs (by omega)
theorem Sat.fw {v M : Nat → Int} (h : Sat v M) : ∀ s, s ≤ 8 → Sat v (fw M s) := by
  intro s
  induction s with
  | zero => intro _; exact h
  | succ s ih => intro hs; rw [Go.Proofs.YtffajooegiempabDoor.fw]; exact (ih (by omega)).chF (by omega) 64 (Nat.le_refl _)
theorem Sat.rdF {v M : Nat → Int} (h : Sat v M) (n : Nat) : Sat v (rdF M n) := by
  intro i j hi hj
  rw [rdF_at]
  split
  · rename_i q
    have e : i = j := by omega
    subst e
    have := (h i i hi hi).resolve_left q.2.2
    right
    omega
  · exact h i j hi hj
theorem Sat.ah1 {v M : Nat → Int} (h : Sat v M) {k : Nat} (_hk : k < 64) : Sat v (ah1 M k) := by
  intro i j hi hj
  unfold Go.Proofs.YtffajooegiempabDoor.ah1
  split
  · rename_i q
    unfold upd
    split
    · rename_i e
      have e1 : k / 8 = i := by omega
      have e2 : k % 8 = j := by omega
      rw [e1, e2] at q ⊢
      obtain ⟨q1, q2, q3⟩ := pl_fin q.1
      have a1 := (h i i hi hi).resolve_left q1
      have a2 := (h j j hj hj).resolve_left q2
      have := tdiv2 (pl (M (i * 8 + i)) (M (j * 8 + j)))
      right
      rcases Int.lt_or_le (pl (M (i * 8 + i)) (M (j * 8 + j))) 0 with e | e
      · rw [this.2 e]; omega
      · rw [this.1 e]; omega
    · exact h i j hi hj
  · exact h i j hi hj
theorem Sat.ahF {v M : Nat → Int} (h : Sat v M) : ∀ k, k ≤ 64 → Sat v (ahF M k) := by
  intro k
  induction k with
  | zero => intro _; exact h
  | succ k ih => intro hk; rw [Go.Proofs.YtffajooegiempabDoor.ahF]; exact (ih (by omega)).ah1 (by omega)
theorem Sat.sharp {v M : Nat → Int} (h : Sat v M) : Sat v (sharp M) := ((h.fw 8 (Nat.le_refl _)).rdF 8).ahF 64 (Nat.le_refl _)
theorem conF_true {M : Nat → Int} : ∀ {n : Nat}, conF M n = true → ∃ i, i < n ∧ M (i * 8 + opp i) < 0 := by
  intro n
  induction n with
  | zero => intro h; cases h
  | succ n ih =>
    intro h
    rw [conF, Bool.or_eq_true] at h
    rcases h with h | h
    · obtain ⟨i, hi, h⟩ := ih h
      exact ⟨i, by omega, h⟩
    · exact ⟨n, by omega, of_decide_eq_true h⟩
/-- An octagon that has a state is not found to be empty. -/
theorem Sat.some {v M : Nat → Int} (h : Sat v M) : conF M 8 = false := by
  cases e : conF M 8 with
  | false => rfl
  | true =>
    obtain ⟨i, hi, h1⟩ := conF_true e
    rcases h i (opp i) hi (opp_lt hi) with q | q
    · rw [q] at h1; exact absurd h1 (by decide)
    · rw [sd_opp] at q; omega
theorem sharp_lo {M : Nat → Int} (h : Lo 8000 M) : Lo (8000 * 6 ^ 8 + 1) (sharp M) := ahF_lo (by decide) (rdF_lo (fw_lo (by decide) h 8 (Nat.le_refl _)) 8) 64 (Nat.le_refl _)

end Go.Proofs.YtffajooegiempabDoor

/- Sums that nothing more follows from: the chains, one after the other, come to them. No Go in here. -/
namespace Go.Proofs.YtffajooegiempabDoor

def mn (x y : Int) : Int := if y < x then y else x
/-- x is no more than a and b together (where there is a bound). -/
def T3 (x a b : Int) : Prop := a = NB ∨ b = NB ∨ (x ≠ NB ∧ x ≤ a + b)
def Bd (U : Int) (M : Nat → Int) : Prop := ∀ a, a < 64 → M a = NB ∨ M a ≤ U
theorem opp_opp : ∀ i : Nat, i < 8 → opp (opp i) = i := by decide
theorem opp_ne (i : Nat) : opp i ≠ i := by unfold opp; split <;> omega

theorem pl_zero_right (x : Int) : pl x 0 = x := by
  unfold pl NB
  split
  · omega
  · omega
theorem pl_zero_left (x : Int) : pl 0 x = x := by
  unfold pl NB
  split
  · omega
  · omega
theorem mn_self (x : Int) : mn x x = x := by unfold mn; split <;> rfl

/-- A chain in place does what one aside would do. -/
theorem chF_at {s : Nat} {M : Nat → Int} (hs : s < 8) (h0 : M (s * 8 + opp s) = 0) : ∀ k, k ≤ 64 → ∀ a, a < 64 → chF s M k a = if a < k then mn (M a) (pl (M (a / 8 * 8 + opp s)) (M (s * 8 + a % 8))) else M a := by
  have ho := opp_lt hs
  intro k
  induction k with
  | zero => intro _ a _; rw [chF, if_neg (by omega)]
  | succ k ih =>
    intro hk a ha
    have hc := ih (by omega)
    have e1 : chF s M k (k / 8 * 8 + opp s) = M (k / 8 * 8 + opp s) := by
      rw [hc _ (by omega)]
      split
      · rw [show (k / 8 * 8 + opp s) / 8 = k / 8 by omega, show (k / 8 * 8 + opp s) % 8 = opp s by omega, h0, pl_zero_right, mn_self]
      · rfl
    have e2 : chF s M k (s * 8 + k % 8) = M (s * 8 + k % 8) := by
      rw [hc _ (by omega)]
      split
      · rw [show (s * 8 + k % 8) / 8 = s by omega, show (s * 8 + k % 8) % 8 = k % 8 by omega, h0, pl_zero_left, mn_self]
      · rfl
    have e3 : chF s M k k = M k := by rw [hc k (by omega), if_neg (by omega)]
    rw [chF]
    unfold ch1
    rw [e1, e2, e3]
    by_cases q : a = k
    · subst q
      rw [if_pos (show a < a + 1 by omega)]
      unfold mn
      split
      · exact upd_same _ _ _
      · exact e3
    · have : (if pl (M (k / 8 * 8 + opp s)) (M (s * 8 + k % 8)) < M k then upd (chF s M k) k (pl (M (k / 8 * 8 + opp s)) (M (s * 8 + k % 8))) else chF s M k) a = chF s M k a := by
        split
        · exact upd_other _ _ q
        · rfl
      rw [this, hc a ha]
      by_cases z : a < k
      · rw [if_pos z, if_pos (by omega)]
      · rw [if_neg z, if_neg (by omega)]
theorem chain_at {s : Nat} {M : Nat → Int} (hs : s < 8) (h0 : M (s * 8 + opp s) = 0) {i j : Nat} (hi : i < 8) (hj : j < 8) : chF s M 64 (i * 8 + j) = mn (M (i * 8 + j)) (pl (M (i * 8 + opp s)) (M (s * 8 + j))) := by
  rw [chF_at hs h0 64 (Nat.le_refl _) _ (by omega), if_pos (by omega), show (i * 8 + j) / 8 = i by omega, show (i * 8 + j) % 8 = j by omega]

def TriK (M : Nat → Int) (k : Nat) : Prop := ∀ i j, i < 8 → j < 8 → T3 (M (i * 8 + j)) (M (i * 8 + opp k)) (M (k * 8 + j))

/-- What a lesser of two is, where it is a bound. -/
theorem mnpl {a p r : Int} (h : mn a (pl p r) ≠ NB) : (mn a (pl p r) = a ∧ a ≠ NB) ∨ (mn a (pl p r) = p + r ∧ p ≠ NB ∧ r ≠ NB) := by
  unfold mn at h ⊢
  split
  · rename_i q
    rw [if_pos q] at h
    obtain ⟨h1, h2, h3⟩ := pl_fin h
    exact .inr ⟨h3, h1, h2⟩
  · rename_i q
    rw [if_neg q] at h
    exact .inl ⟨rfl, h⟩
theorem mnpl_le1 {x p q U : Int} (hU : U < 1000000) (hx : x ≠ NB) (hxU : x = NB ∨ x ≤ U) : mn x (pl p q) ≠ NB ∧ mn x (pl p q) ≤ x := by
  have := hxU.resolve_left hx
  unfold mn NB at *
  split <;> omega
theorem mnpl_le2 {x p q U : Int} (hU : 2 * U < 1000000) (hp : p ≠ NB) (hq : q ≠ NB) (hpU : p = NB ∨ p ≤ U) (hqU : q = NB ∨ q ≤ U) : mn x (pl p q) ≠ NB ∧ mn x (pl p q) ≤ p + q := by
  have h1 := hpU.resolve_left hp
  have h2 := hqU.resolve_left hq
  have e : pl p q = p + q := if_neg (fun e => e.elim hp hq)
  rw [e]
  unfold mn NB at *
  split <;> omega
theorem tri_step {x a b p q r t U : Int} (hU : 2 * U < 1000000) (hU0 : 0 ≤ U) (hx : x = NB ∨ x ≤ U) (hp : p = NB ∨ p ≤ U) (hq : q = NB ∨ q ≤ U)
    (h1 : T3 x a b) (h2 : T3 p a t) (h3 : T3 q r b) (h4 : T3 0 r t) : T3 (mn x (pl p q)) (mn a (pl p r)) (mn b (pl t q)) := by
  by_cases hA : mn a (pl p r) = NB
  · exact .inl hA
  by_cases hB : mn b (pl t q) = NB
  · exact .inr (.inl hB)
  right; right
  rcases mnpl hA with ⟨eA, a1⟩ | ⟨eA, a1, a2⟩
  · rcases mnpl hB with ⟨eB, b1⟩ | ⟨eB, b1, b2⟩
    · rw [eA, eB]
      obtain ⟨z1, z2⟩ := (h1.resolve_left a1).resolve_left b1
      have := mnpl_le1 (p := p) (q := q) (by omega) z1 hx
      exact ⟨this.1, by omega⟩
    · rw [eA, eB]
      obtain ⟨z1, z2⟩ := (h2.resolve_left a1).resolve_left b1
      have := mnpl_le2 (x := x) hU z1 b2 hp hq
      exact ⟨this.1, by omega⟩
  · rcases mnpl hB with ⟨eB, b1⟩ | ⟨eB, b1, b2⟩
    · rw [eA, eB]
      obtain ⟨z1, z2⟩ := (h3.resolve_left a2).resolve_left b1
      have := mnpl_le2 (x := x) hU a1 z1 hp hq
      exact ⟨this.1, by omega⟩
    · rw [eA, eB]
      obtain ⟨z1, z2⟩ := (h4.resolve_left a2).resolve_left b1
      have := mnpl_le2 (x := x) hU a1 b2 hp hq
      exact ⟨this.1, by omega⟩
theorem tri_new {x p q U : Int} (hU : 2 * U < 1000000) (hp : p = NB ∨ p ≤ U) (hq : q = NB ∨ q ≤ U) : T3 (mn x (pl p q)) p q := by
  by_cases h1 : p = NB
  · exact .inl h1
  by_cases h2 : q = NB
  · exact .inr (.inl h2)
  exact .inr (.inr (mnpl_le2 hU h1 h2 hp hq))

theorem chain_tri {s : Nat} {M : Nat → Int} {U : Int} (hs : s < 8) (h0 : M (s * 8 + opp s) = 0) (hU : 2 * U < 1000000) (hU0 : 0 ≤ U) (hB : Bd U M) (hT : ∀ k, k < s → TriK M k) : ∀ k, k < s + 1 → TriK (chF s M 64) k := by
  have ho := opp_lt hs
  intro k hk i j hi hj
  rcases Nat.lt_or_eq_of_le (Nat.lt_succ_iff.1 hk) with hk' | hk'
  · have hk8 : k < 8 := by omega
    have hok := opp_lt hk8
    rw [chain_at hs h0 hi hj, chain_at hs h0 hi hok, chain_at hs h0 hk8 hj]
    have h4 := hT k hk' s (opp s) hs ho
    rw [h0] at h4
    exact tri_step hU hU0 (hB _ (by omega)) (hB _ (by omega)) (hB _ (by omega)) (hT k hk' i j hi hj) (hT k hk' i (opp s) hi ho) (hT k hk' s j hs hj) h4
  · subst hk'
    rw [chain_at hs h0 hi hj, chain_at hs h0 hi ho, chain_at hs h0 hs hj, h0, pl_zero_right, pl_zero_left, mn_self, mn_self]
    exact tri_new hU (hB _ (by omega)) (hB _ (by omega))

/-- Each chain up to here has found its own side at 0. -/
def Ex (M : Nat → Int) (s : Nat) : Prop := ∀ r, r < s → fw M r (r * 8 + opp r) = 0
theorem Ex.lt {M : Nat → Int} {s r : Nat} (h : Ex M s) (hr : r ≤ s) : Ex M r := fun q hq => h q (by omega)
/- How great a sum gets: it is made of at most seven of the first ones. -/
theorem Bd.mono {U V : Int} {M : Nat → Int} (h : Bd U M) (hUV : U ≤ V) : Bd V M := fun a ha => (h a ha).imp id (fun q => Int.le_trans q hUV)
def cntB (f : Nat → Bool) : Nat → Nat
  | 0 => 0
  | n + 1 => cntB f n + (if f n then 1 else 0)
theorem cntB_le (f : Nat → Bool) : ∀ n, cntB f n ≤ n
  | 0 => Nat.le_refl _
  | n + 1 => by have := cntB_le f n; rw [cntB]; split <;> omega
theorem cntB_mono {f g : Nat → Bool} (h : ∀ j, f j = true → g j = true) : ∀ n, cntB f n ≤ cntB g n
  | 0 => Nat.le_refl _
  | n + 1 => by
    have := cntB_mono h n
    rw [cntB, cntB]
    by_cases q : f n = true
    · rw [if_pos q, if_pos (h n q)]; omega
    · rw [if_neg q]; omega
theorem cntB_lt {f g : Nat → Bool} (h : ∀ j, f j = true → g j = true) {j : Nat} (h1 : g j = true) (h2 : ¬ f j = true) : ∀ n, j < n → cntB f n + 1 ≤ cntB g n
  | 0, hn => by omega
  | n + 1, hn => by
    rw [cntB, cntB]
    rcases Nat.lt_or_eq_of_le (Nat.lt_succ_iff.1 hn) with q | q
    · have := cntB_lt h h1 h2 n q
      by_cases z : f n = true
      · rw [if_pos z, if_pos (h n z)]; omega
      · rw [if_neg z]; omega
    · subst q
      have := cntB_mono h j
      rw [if_neg h2, if_pos h1]; omega
theorem cntB_all {f : Nat → Bool} : ∀ n, n ≤ cntB f n → ∀ j, j < n → f j = true
  | 0, _, j, hj => by omega
  | n + 1, h, j, hj => by
    have := cntB_le f n
    rw [cntB] at h
    by_cases z : f n = true
    · rw [if_pos z] at h
      rcases Nat.lt_or_eq_of_le (Nat.lt_succ_iff.1 hj) with q | q
      · exact cntB_all n (by omega) j q
      · rw [q]; exact z
    · rw [if_neg z] at h; omega
/-- What is reached among eight by steps is reached by seven. -/
theorem seven (P : Nat → Nat → Prop) (hm : ∀ k j, P k j → P (k + 1) j) (h8 : ∀ k j, P k j → j < 8) (hs : ∀ k, (∀ j, P (k + 1) j → P k j) → ∀ j, P (k + 2) j → P (k + 1) j) {i : Nat} (hi : P 0 i) : ∀ k j, P k j → P 7 j := by
  have hm' : ∀ a b j, P a j → P (a + b) j := by
    intro a b j h
    induction b with
    | zero => exact h
    | succ b ih => exact hm _ _ ih
  have hst : ∀ n, (∀ j, P (n + 1) j → P n j) → ∀ b j, P (n + b) j → P n j := by
    intro n hn
    have hall : ∀ b j, P (n + b + 1) j → P (n + b) j := by
      intro b
      induction b with
      | zero => exact hn
      | succ b ih => exact hs (n + b) ih
    intro b
    induction b with
    | zero => intro j h; exact h
    | succ b ih => intro j h; exact ih j (hall b j h)
  have dec : ∀ k j, ∃ b : Bool, b = true ↔ P k j := by
    intro k j
    rcases Classical.em (P k j) with q | q
    · exact ⟨true, by simp [q]⟩
    · exact ⟨false, by simp [q]⟩
  obtain ⟨F, hF⟩ : ∃ F : Nat → Nat → Bool, ∀ k j, F k j = true ↔ P k j := ⟨fun k j => Classical.choose (dec k j), fun k j => Classical.choose_spec (dec k j)⟩
  have main : ∀ n, (∃ k, k < n ∧ ∀ j, P (k + 1) j → P k j) ∨ n + 1 ≤ cntB (F n) 8 := by
    intro n
    induction n with
    | zero =>
      right
      have := cntB_lt (f := fun _ => false) (g := F 0) (fun j h => by cases h) ((hF 0 i).2 hi) (by decide) 8 (h8 0 i hi)
      omega
    | succ n ih =>
      rcases ih with ⟨k, hk, h⟩ | ih
      · exact .inl ⟨k, by omega, h⟩
      · rcases Classical.em (∀ j, P (n + 1) j → P n j) with q | q
        · exact .inl ⟨n, by omega, q⟩
        · obtain ⟨j, hj⟩ := Classical.not_forall.1 q
          obtain ⟨h1, h2⟩ := Classical.not_imp.1 hj
          have := cntB_lt (f := F n) (g := F (n + 1)) (fun j h => (hF _ _).2 (hm _ _ ((hF _ _).1 h))) ((hF _ _).2 h1) (fun h => h2 ((hF _ _).1 h)) 8 (h8 _ _ h1)
          right; omega
  intro k j h
  rcases main 7 with ⟨n, hn, q⟩ | q
  · have hk : P n j := by
      rcases Nat.lt_or_ge k n with z | z
      · have := hm' k (n - k) j h
        rwa [show k + (n - k) = n by omega] at this
      · exact hst n q (k - n) j (by rw [show n + (k - n) = k by omega]; exact h)
    have := hm' n (7 - n) j hk
    rwa [show n + (7 - n) = 7 by omega] at this
  · exact (hF 7 j).1 (cntB_all 8 q j (h8 _ _ h))
/-- Side j is reached from i in k steps, over sides below s. -/
def Rc (M : Nat → Int) (s i : Nat) : Nat → Nat → Prop
  | 0, j => j = i ∧ i < 8
  | k + 1, j => Rc M s i k j ∨ (j < 8 ∧ ∃ m, Rc M s i k m ∧ (m = i ∨ m < s) ∧ M (m * 8 + opp j) ≠ NB)
theorem Rc.lt {M : Nat → Int} {s i : Nat} : ∀ k j, Rc M s i k j → j < 8
  | 0, j, h => by have h' : j = i ∧ i < 8 := h; omega
  | k + 1, j, h => by
    rcases h with h | h
    · exact Rc.lt k j h
    · exact h.1
theorem Rc.seven {M : Nat → Int} {s i : Nat} (hi : i < 8) {k j : Nat} (h : Rc M s i k j) : Rc M s i 7 j := by
  refine Go.Proofs.YtffajooegiempabDoor.seven (Rc M s i) (fun k j h => .inl h) Rc.lt ?_ (i := i) ⟨rfl, hi⟩ k j h
  intro k hk j h
  rcases h with h | ⟨h8, m, h1, h2, h3⟩
  · exact h
  · exact .inr ⟨h8, m, hk m h1, h2, h3⟩
theorem Rc.up {M : Nat → Int} {s i : Nat} : ∀ k j, Rc M s i k j → Rc M (s + 1) i k j
  | 0, _, h => h
  | k + 1, j, h => by
    rcases h with h | ⟨h8, m, h1, h2, h3⟩
    · exact .inl (Rc.up k j h)
    · exact .inr ⟨h8, m, Rc.up k m h1, h2.imp id (fun q => by omega), h3⟩
theorem Rc.trans {M : Nat → Int} {s i a : Nat} (h1 : Rc M (s + 1) i a s) : ∀ k j, Rc M s s k j → Rc M (s + 1) i (a + k) j
  | 0, j, h => by have h' : j = s ∧ s < 8 := h; rw [h'.1]; exact h1
  | k + 1, j, h => by
    rcases h with h | ⟨h8, m, h2, h3, h4⟩
    · exact .inl (Rc.trans h1 k j h)
    · exact .inr ⟨h8, m, Rc.trans h1 k m h2, .inr (by omega), h4⟩
theorem fw_reach {M : Nat → Int} : ∀ s, s ≤ 8 → Ex M s → ∀ i j, i < 8 → j < 8 → fw M s (i * 8 + opp j) ≠ NB → ∃ k, Rc M s i k j := by
  intro s
  induction s with
  | zero => intro _ _ i j hi hj h; exact ⟨1, .inr ⟨hj, i, ⟨rfl, hi⟩, .inl rfl, h⟩⟩
  | succ s ih =>
    intro hs hx i j hi hj h
    have hx' := hx.lt (show s ≤ s + 1 by omega)
    rw [fw, chain_at (by omega) (hx s (by omega)) hi (opp_lt hj)] at h
    rcases mnpl h with ⟨_, z⟩ | ⟨_, z1, z2⟩
    · obtain ⟨k, hk⟩ := ih (by omega) hx' i j hi hj z
      exact ⟨k, Rc.up k j hk⟩
    · obtain ⟨a, ha⟩ := ih (by omega) hx' i s hi (by omega) z1
      obtain ⟨b, hb⟩ := ih (by omega) hx' s j (by omega) hj z2
      exact ⟨a + b, Rc.trans (Rc.up a s ha) b j hb⟩
theorem Rc.le {M T : Nat → Int} {s i : Nat} {U : Int} (hi : i < 8) (hU0 : 0 ≤ U) (hU : U < 1000000) (hB : Bd U M) (h0 : M (i * 8 + opp i) = 0) (hle : ∀ a, T a ≤ M a) (hT : ∀ k, k < s → TriK T k) : ∀ k j, Rc M s i k j → T (i * 8 + opp j) ≠ NB ∧ T (i * 8 + opp j) ≤ k * U := by
  intro k
  induction k with
  | zero =>
    intro j h
    have h' : j = i ∧ i < 8 := h
    rw [h'.1]
    have := hle (i * 8 + opp i)
    rw [h0] at this
    unfold NB
    omega
  | succ k ih =>
    intro j h
    have e : (((k + 1 : Nat) : Int)) * U = k * U + U := by rw [Int.natCast_add, Int.add_mul]; simp
    have hkU : 0 ≤ (k : Int) * U := Int.mul_nonneg (by omega) hU0
    rw [e]
    rcases h with h | ⟨h8, m, h1, h2, h3⟩
    · have := ih j h
      exact ⟨this.1, by omega⟩
    · have hm8 := Rc.lt k m h1
      have hoj := opp_lt h8
      have hb := (hB (m * 8 + opp j) (by omega)).resolve_left h3
      have hl := hle (m * 8 + opp j)
      rcases h2 with h2 | h2
      · subst h2
        unfold NB
        exact ⟨by omega, by omega⟩
      · have a := ih m h1
        have t := hT m h2 i (opp j) hi hoj
        have n2 : T (m * 8 + opp j) ≠ NB := by unfold NB; omega
        obtain ⟨t1, t2⟩ := (t.resolve_left a.1).resolve_left n2
        exact ⟨t1, by omega⟩
theorem fw_both {M : Nat → Int} {U : Int} (hU0 : 0 ≤ U) (hU : 14 * U < 1000000) (hM : Bd U M) (h0 : ∀ i, i < 8 → M (i * 8 + opp i) = 0) : ∀ s, s ≤ 8 → Ex M s → Bd (7 * U) (fw M s) ∧ ∀ k, k < s → TriK (fw M s) k := by
  intro s
  induction s with
  | zero =>
    intro _ _
    exact ⟨hM.mono (by omega), fun k hk => by omega⟩
  | succ s ih =>
    intro hs h
    obtain ⟨b, t⟩ := ih (by omega) (h.lt (by omega))
    have t' : ∀ k, k < s + 1 → TriK (fw M (s + 1)) k := by
      rw [fw]
      exact chain_tri (by omega) (h s (by omega)) (U := 7 * U) (by omega) (by omega) b t
    refine ⟨fun a ha => ?_, t'⟩
    by_cases q : fw M (s + 1) a = NB
    · exact .inl q
    · right
      have hi : a / 8 < 8 := by omega
      have hj : a % 8 < 8 := by omega
      have e : a = a / 8 * 8 + opp (opp (a % 8)) := by rw [opp_opp _ hj]; omega
      rw [e] at q ⊢
      obtain ⟨k, hk⟩ := fw_reach (s + 1) hs h (a / 8) (opp (a % 8)) hi (opp_lt hj) q
      have := (Rc.le hi hU0 (by omega) hM (h0 _ hi) (fun a => fw_le M (s + 1) a) t' 7 _ (hk.seven hi)).2
      omega
theorem fw_bd {M : Nat → Int} {U : Int} (hU0 : 0 ≤ U) (hU : 14 * U < 1000000) (hM : Bd U M) (h0 : ∀ i, i < 8 → M (i * 8 + opp i) = 0) (s : Nat) (hs : s ≤ 8) (h : Ex M s) : Bd (7 * U) (fw M s) := (fw_both hU0 hU hM h0 s hs h).1
theorem fw_tri {M : Nat → Int} {U : Int} (hU0 : 0 ≤ U) (hU : 14 * U < 1000000) (hM : Bd U M) (h0 : ∀ i, i < 8 → M (i * 8 + opp i) = 0) (s : Nat) (hs : s ≤ 8) (h : Ex M s) : ∀ k, k < s → TriK (fw M s) k := (fw_both hU0 hU hM h0 s hs h).2

/- What is closed and lies below stays below. -/
def Tri (N : Nat → Int) : Prop := ∀ k, k < 8 → TriK N k
def Le (N M : Nat → Int) : Prop := ∀ a, a < 64 → N a ≤ M a
theorem below_ch1 {N M : Nat → Int} {s k : Nat} (hs : s < 8) (hk : k < 64) (hN : Tri N) (h : Le N M) (hi : ∀ a, a < 64 → M a ≤ NB) : Le N (ch1 s M k) := by
  have ho := opp_lt hs
  intro a ha
  unfold ch1
  split
  · rename_i q
    unfold upd
    split
    · rename_i e
      subst e
      have hle := hi a ha
      obtain ⟨q1, q2, q3⟩ := pl_fin (a := M (a / 8 * 8 + opp s)) (b := M (s * 8 + a % 8)) (by omega)
      rw [q3]
      have l1 := h (a / 8 * 8 + opp s) (by omega)
      have l2 := h (s * 8 + a % 8) (by omega)
      have m1 := hi (a / 8 * 8 + opp s) (by omega)
      have m2 := hi (s * 8 + a % 8) (by omega)
      have t := hN s hs (a / 8) (a % 8) (by omega) (by omega)
      rw [show a / 8 * 8 + a % 8 = a by omega] at t
      obtain ⟨_, t2⟩ := (t.resolve_left (by omega)).resolve_left (by omega)
      omega
    · exact h a ha
  · exact h a ha
theorem below_chF {N M : Nat → Int} {s : Nat} (hs : s < 8) (hN : Tri N) (h : Le N M) (hi : ∀ a, a < 64 → M a ≤ NB) : ∀ k, k ≤ 64 → Le N (chF s M k) := by
  intro k
  induction k with
  | zero => intro _; exact h
  | succ k ih => intro hk; rw [chF]; exact below_ch1 hs (by omega) hN (ih (by omega)) (fun a ha => Int.le_trans (chF_le s M k a) (hi a ha))
theorem below_fw {N M : Nat → Int} (hN : Tri N) (h : Le N M) (hi : ∀ a, a < 64 → M a ≤ NB) : ∀ s, s ≤ 8 → Le N (fw M s) := by
  intro s
  induction s with
  | zero => intro _; exact h
  | succ s ih => intro hs; rw [fw]; exact below_chF (by omega) hN (ih (by omega)) (fun a ha => Int.le_trans (fw_le M s a) (hi a ha)) 64 (Nat.le_refl _)

def tp (M : Nat → Int) : Nat → Int := fun a => M (a % 8 * 8 + a / 8)
theorem tp_at (M : Nat → Int) {i j : Nat} (_hi : i < 8) (hj : j < 8) : tp M (i * 8 + j) = M (j * 8 + i) := by
  unfold tp
  rw [show (i * 8 + j) % 8 = j by omega, show (i * 8 + j) / 8 = i by omega]
theorem T3.comm {x a b : Int} (h : T3 x a b) : T3 x b a := by
  rcases h with h | h | ⟨h1, h2⟩
  · exact .inr (.inl h)
  · exact .inl h
  · exact .inr (.inr ⟨h1, by omega⟩)
theorem Tri.tp {N : Nat → Int} (h : Tri N) : Tri (tp N) := by
  intro k hk i j hi hj
  have ho := opp_lt hk
  rw [tp_at N hi hj, tp_at N hi ho, tp_at N hk hj]
  have t := h (opp k) ho j i hj hi
  rw [opp_opp k hk] at t
  exact t.comm
def Sym (M : Nat → Int) : Prop := ∀ i j, i < 8 → j < 8 → M (i * 8 + j) = M (j * 8 + i)
theorem fw_sym {M : Nat → Int} (hS : Sym M) (hT : Tri (fw M 8)) (hi : ∀ a, a < 64 → M a ≤ NB) : Sym (fw M 8) := by
  have hle : Le (tp (fw M 8)) M := by
    intro a ha
    have ea : a = a / 8 * 8 + a % 8 := by omega
    rw [ea, tp_at _ (by omega) (by omega), hS _ _ (by omega) (by omega)]
    exact fw_le M 8 _
  have := below_fw hT.tp hle hi 8 (Nat.le_refl _)
  intro i j hi' hj
  have h1 := this (i * 8 + j) (by omega)
  have h2 := this (j * 8 + i) (by omega)
  rw [tp_at _ hi' hj] at h1
  rw [tp_at _ hj hi'] at h2
  omega

end Go.Proofs.YtffajooegiempabDoor

