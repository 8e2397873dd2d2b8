import Derived.Test.YtffjklakdnfeiaaDoorRows
import Derived.WalkKit
import Derived.WalkSpells
import Derived.WalkLawsBesides
import Derived.BigQuiet
import Derived.Deep.QuietTactic
/- Octagons, plain: bounds of sums of two sides, as the program keeps them: entry 8 i + j. No Go in here. -/
namespace Go.Proofs.YtffjklakdnfeiaaDoor

def NB : Int := 1000000
def opp (i : Nat) : Nat := if i % 2 = 0 then i + 1 else i - 1
def pl (a b : Int) : Int := if a = NB ∨ b = NB then NB else a + b
def upd (M : Nat → Int) (k : Nat) (x : Int) : Nat → Int := fun a => if a = k then x else M a

theorem opp_lt {i : Nat} (h : i < 8) : opp i < 8 := by unfold opp; split <;> omega
theorem upd_same (M : Nat → Int) (k : Nat) (x : Int) : upd M k x k = x := if_pos rfl
theorem upd_other (M : Nat → Int) {k a : Nat} (x : Int) (h : a ≠ k) : upd M k x a = M a := if_neg h

/-- One step of a chain through a side. -/
def ch1 (s : Nat) (M : Nat → Int) (k : Nat) : Nat → Int :=
  if pl (M (k / 8 * 8 + opp s)) (M (s * 8 + k % 8)) < M k then upd M k (pl (M (k / 8 * 8 + opp s)) (M (s * 8 + k % 8))) else M
def chF (s : Nat) (M : Nat → Int) : Nat → Nat → Int
  | 0 => M
  | k + 1 => ch1 s (chF s M k) k
/-- All chains. -/
def fw (M : Nat → Int) : Nat → Nat → Int
  | 0 => M
  | s + 1 => chF s (fw M s) 64
/-- The sums of a side with itself, made even. -/
def rd1 (M : Nat → Int) (i : Nat) : Nat → Int := if M (i * 8 + i) = NB then M else upd M (i * 8 + i) (M (i * 8 + i) / 2 * 2)
def rdF (M : Nat → Int) : Nat → Nat → Int
  | 0 => M
  | i + 1 => rd1 (rdF M i) i
/-- Each sum of two sides against those of the two alone. -/
def ah1 (M : Nat → Int) (k : Nat) : Nat → Int :=
  if pl (M (k / 8 * 8 + k / 8)) (M (k % 8 * 8 + k % 8)) ≠ NB ∧ (pl (M (k / 8 * 8 + k / 8)) (M (k % 8 * 8 + k % 8))).tdiv 2 < M k then upd M k ((pl (M (k / 8 * 8 + k / 8)) (M (k % 8 * 8 + k % 8))).tdiv 2) else M
def ahF (M : Nat → Int) : Nat → Nat → Int
  | 0 => M
  | k + 1 => ah1 (ahF M k) k
/-- All three. -/
def sharp (M : Nat → Int) : Nat → Int := ahF (rdF (fw M 8) 8) 64
/-- Is there a side that would have to be less than 0 with its opposite? -/
def conF (M : Nat → Int) : Nat → Bool
  | 0 => false
  | i + 1 => conF M i || decide (M (i * 8 + opp i) < 0)

/- Each step only lowers. -/
theorem ch1_le (s : Nat) (M : Nat → Int) (k a : Nat) : ch1 s M k a ≤ M a := by
  unfold ch1
  split
  · unfold upd
    split
    · rename_i h e; subst e; exact Int.le_of_lt h
    · exact Int.le_refl _
  · exact Int.le_refl _
theorem chF_le (s : Nat) (M : Nat → Int) : ∀ k a, chF s M k a ≤ M a
  | 0, _ => Int.le_refl _
  | k + 1, a => Int.le_trans (ch1_le s _ k a) (chF_le s M k a)
theorem fw_le (M : Nat → Int) : ∀ s a, fw M s a ≤ M a
  | 0, _ => Int.le_refl _
  | s + 1, a => by rw [fw]; exact Int.le_trans (chF_le s _ 64 a) (fw_le M s a)
theorem rd1_le (M : Nat → Int) (i a : Nat) : rd1 M i a ≤ M a := by
  unfold rd1
  split
  · exact Int.le_refl _
  · unfold upd
    split
    · rename_i e; subst e; omega
    · exact Int.le_refl _
theorem rdF_le (M : Nat → Int) : ∀ i a, rdF M i a ≤ M a
  | 0, _ => Int.le_refl _
  | i + 1, a => Int.le_trans (rd1_le _ i a) (rdF_le M i a)
theorem ah1_le (M : Nat → Int) (k a : Nat) : ah1 M k a ≤ M a := by
  unfold ah1
  split
  · unfold upd
    split
    · rename_i h e; subst e; exact Int.le_of_lt h.2
    · exact Int.le_refl _
  · exact Int.le_refl _
theorem ahF_le (M : Nat → Int) : ∀ k a, ahF M k a ≤ M a
  | 0, _ => Int.le_refl _
  | k + 1, a => Int.le_trans (ah1_le _ k a) (ahF_le M k a)
theorem sharp_le (M : Nat → Int) (a : Nat) : sharp M a ≤ M a := Int.le_trans (ahF_le _ 64 a) (Int.le_trans (rdF_le _ 8 a) (fw_le M 8 a))

/- How low the entries get. -/
def Lo (L : Int) (M : Nat → Int) : Prop := ∀ a, a < 64 → -L ≤ M a
structure LoC (L : Int) (s : Nat) (M M' : Nat → Int) (k : Nat) : Prop where
  old : ∀ a, k ≤ a → M' a = M a
  all : ∀ a, a < 64 → -(6 * L) ≤ M' a
  col : ∀ i, i < 8 → -(3 * L) ≤ M' (i * 8 + opp s)
  row : ∀ j, j < 8 → -(3 * L) ≤ M' (s * 8 + j)
  cor : -(2 * L) ≤ M' (s * 8 + opp s)
theorem pl_ge {a b x y : Int} (ha : -x ≤ a) (hb : -y ≤ b) (h : -1000000 ≤ x + y) : -(x + y) ≤ pl a b := by
  unfold pl NB
  split
  · omega
  · omega
theorem chF_lo {L : Int} {s : Nat} {M : Nat → Int} (hL : 0 ≤ L) (hs : s < 8) (h : Lo L M) : ∀ k, k ≤ 64 → LoC L s M (chF s M k) k := by
  have ho := opp_lt hs
  intro k
  induction k with
  | zero =>
    intro _
    refine ⟨fun _ _ => rfl, fun a ha => ?_, fun i hi => ?_, fun j hj => ?_, ?_⟩
    · have := h a ha; show _ ≤ M a; omega
    · have := h (i * 8 + opp s) (by omega); show _ ≤ M _; omega
    · have := h (s * 8 + j) (by omega); show _ ≤ M _; omega
    · have := h (s * 8 + opp s) (by omega); show _ ≤ M _; omega
  | succ k ih =>
    intro hk
    have hc := ih (by omega)
    have hi : k / 8 < 8 := by omega
    have hj : k % 8 < 8 := by omega
    have hkk : k / 8 * 8 + k % 8 = k := by omega
    have hkM : chF s M k k = M k := hc.old k (Nat.le_refl _)
    have hMk : -L ≤ M k := h k (by omega)
    have c1 := hc.col _ hi
    have c2 := hc.row _ hj
    have c3 := hc.cor
    show LoC L s M (ch1 s (chF s M k) k) (k + 1)
    unfold ch1
    split
    · have g6 : -(6 * L) ≤ pl (chF s M k (k / 8 * 8 + opp s)) (chF s M k (s * 8 + k % 8)) := by
        have := pl_ge c1 c2 (by omega); omega
      refine ⟨fun a ha => ?_, fun a ha => ?_, fun i hi' => ?_, fun j hj' => ?_, ?_⟩
      · rw [upd_other _ _ (by omega)]; exact hc.old a (by omega)
      · unfold upd; split
        · exact g6
        · exact hc.all a ha
      · unfold upd; split
        · rename_i e
          have e1 : k / 8 = i := by omega
          have e2 : k % 8 = opp s := by omega
          have : chF s M k (k / 8 * 8 + opp s) = M k := by rw [show k / 8 * 8 + opp s = k by omega]; exact hkM
          rw [this, e2]
          have := pl_ge (x := L) (y := 2 * L) hMk c3 (by omega)
          omega
        · exact hc.col i hi'
      · unfold upd; split
        · rename_i e
          have e1 : k / 8 = s := by omega
          have e2 : k % 8 = j := by omega
          have : chF s M k (s * 8 + k % 8) = M k := by rw [show s * 8 + k % 8 = k by omega]; exact hkM
          rw [this, e1]
          have := pl_ge (x := 2 * L) (y := L) c3 hMk (by omega)
          omega
        · exact hc.row j hj'
      · unfold upd; split
        · rename_i e
          have e1 : k / 8 = s := by omega
          have e2 : k % 8 = opp s := by omega
          have : chF s M k (s * 8 + opp s) = M k := by rw [e]; exact hkM
          rw [e1, e2, this]
          have := pl_ge (x := L) (y := L) hMk hMk (by omega)
          omega
        · exact hc.cor
    · exact ⟨fun a ha => hc.old a (by omega), hc.all, hc.col, hc.row, hc.cor⟩
theorem fw_lo {M : Nat → Int} {L : Int} (hL : 0 ≤ L) (h : Lo L M) : ∀ s, s ≤ 8 → Lo (L * 6 ^ s) (fw M s) := by
  intro s
  induction s with
  | zero => intro _; simpa [fw] using h
  | succ s ih =>
    intro hs
    have h1 := ih (by omega)
    have hp : 0 ≤ L * 6 ^ s := Int.mul_nonneg hL (Int.le_of_lt (Int.pow_pos (by decide)))
    have h2 := (chF_lo (s := s) hp (by omega) h1 64 (Nat.le_refl _)).all
    intro a ha
    have := h2 a ha
    rw [fw, Int.pow_succ]
    have e : L * (6 ^ s * 6) = 6 * (L * 6 ^ s) := by rw [← Int.mul_assoc, Int.mul_comm]
    rw [e]; exact this

end Go.Proofs.YtffjklakdnfeiaaDoor

/- The states of an octagon keep to what is made of its bounds. -/
namespace Go.Proofs.YtffjklakdnfeiaaDoor

theorem tdiv2 (x : Int) : (0 ≤ x → x.tdiv 2 = x / 2) ∧ (x < 0 → x.tdiv 2 = -((-x) / 2)) := by
  constructor
  · intro h; exact Int.tdiv_eq_ediv_of_nonneg h
  · intro h
    have : x.tdiv 2 = -((-x).tdiv 2) := by rw [Int.neg_tdiv, Int.neg_neg]
    rw [this, Int.tdiv_eq_ediv_of_nonneg (by omega)]
theorem tdiv2_le (x : Int) : x.tdiv 2 * 2 ≤ x + 1 ∧ x - 1 ≤ x.tdiv 2 * 2 := by
  have h := tdiv2 x
  rcases Int.lt_or_le x 0 with e | e
  · rw [h.2 e]; omega
  · rw [h.1 e]; omega

theorem rdF_at (M : Nat → Int) : ∀ n a, rdF M n a = if a % 9 = 0 ∧ a / 9 < n ∧ M a ≠ NB then M a / 2 * 2 else M a := by
  intro n
  induction n with
  | zero => intro a; rw [rdF, if_neg (by omega)]
  | succ n ih =>
    intro a
    rw [rdF]
    unfold rd1
    have hn : rdF M n (n * 8 + n) = M (n * 8 + n) := by rw [ih, if_neg (by omega)]
    rw [hn]
    by_cases e : a = n * 8 + n
    · subst e
      split
      · rename_i h; rw [hn, if_neg (fun q => q.2.2 h)]
      · rename_i h; rw [upd_same, if_pos ⟨by omega, by omega, h⟩]
    · have hne : ¬ (a % 9 = 0 ∧ a / 9 = n) := by omega
      have : (if M (n * 8 + n) = NB then rdF M n else upd (rdF M n) (n * 8 + n) (M (n * 8 + n) / 2 * 2)) a = rdF M n a := by
        split
        · rfl
        · exact upd_other _ _ e
      rw [this, ih]
      by_cases q : a % 9 = 0 ∧ a / 9 < n ∧ M a ≠ NB
      · rw [if_pos q, if_pos ⟨q.1, by omega, q.2.2⟩]
      · rw [if_neg q, if_neg (fun p => q ⟨p.1, by omega, p.2.2⟩)]
theorem rdF_lo {L : Int} {M : Nat → Int} (h : Lo L M) (n : Nat) : Lo (L + 1) (rdF M n) := by
  intro a ha
  have := h a ha
  rw [rdF_at]
  split <;> omega
theorem ah1_lo {L : Int} {M : Nat → Int} (hL : 0 ≤ L) (h : Lo L M) {k : Nat} (hk : k < 64) : Lo L (ah1 M k) := by
  intro a ha
  have h1 := h (k / 8 * 8 + k / 8) (by omega)
  have h2 := h (k % 8 * 8 + k % 8) (by omega)
  have h3 := h a ha
  have := pl_ge h1 h2 (by omega)
  unfold ah1
  split
  · unfold upd
    split
    · have := tdiv2_le (pl (M (k / 8 * 8 + k / 8)) (M (k % 8 * 8 + k % 8))); omega
    · exact h3
  · exact h3
theorem ahF_lo {L : Int} {M : Nat → Int} (hL : 0 ≤ L) (h : Lo L M) : ∀ k, k ≤ 64 → Lo L (ahF M k) := by
  intro k
  induction k with
  | zero => intro _; exact h
  | succ k ih => intro hk; rw [ahF]; exact ah1_lo hL (ih (by omega)) (by omega)

/-- The value of a side. -/
def sd (v : Nat → Int) (i : Nat) : Int := if i % 2 = 0 then v (i / 2) else -v (i / 2)
theorem sd_opp (v : Nat → Int) (i : Nat) : sd v (opp i) = -sd v i := by
  unfold sd opp
  by_cases h : i % 2 = 0
  · rw [if_pos h, if_pos h, if_neg (by omega), show (i + 1) / 2 = i / 2 by omega]
  · rw [if_neg h, if_neg h, if_pos (by omega), show (i - 1) / 2 = i / 2 by omega, Int.neg_neg]
/-- A state keeps to the bounds. -/
def Sat (v : Nat → Int) (M : Nat → Int) : Prop := ∀ i j, i < 8 → j < 8 → M (i * 8 + j) = NB ∨ sd v i + sd v j ≤ M (i * 8 + j)
theorem pl_fin {a b : Int} (h : pl a b ≠ NB) : a ≠ NB ∧ b ≠ NB ∧ pl a b = a + b := by
  unfold pl at h ⊢
  by_cases q : a = NB ∨ b = NB
  · rw [if_pos q] at h; exact absurd rfl h
  · rw [if_neg q]; exact ⟨fun e => q (.inl e), fun e => q (.inr e), rfl⟩
theorem Sat.ch1 {v M : Nat → Int} (h : Sat v M) {s k : Nat} (hs : s < 8) (_hk : k < 64) : Sat v (ch1 s M k) := by
  intro i j hi hj
  unfold Go.Proofs.YtffjklakdnfeiaaDoor.ch1
  split
  · unfold upd
    split
    · rename_i e
      have e1 : k / 8 = i := by omega
      have e2 : k % 8 = j := by omega
      rw [e1, e2]
      by_cases q : pl (M (i * 8 + opp s)) (M (s * 8 + j)) = NB
      · exact .inl q
      · obtain ⟨q1, q2, q3⟩ := pl_fin q
        right
        rw [q3]
        have a1 := (h i (opp s) hi (opp_lt hs)).resolve_left q1
        have a2 := (h s j hs hj).resolve_left q2
        rw [sd_opp] at a1
        omega
    · exact h i j hi hj
  · exact h i j hi hj
theorem Sat.chF {v M : Nat → Int} (h : Sat v M) {s : Nat} (hs : s < 8) : ∀ k, k ≤ 64 → Sat v (chF s M k) := by
  intro k
  induction k with
  | zero => intro _; exact h
  | succ k ih => intro hk; rw [Go.Proofs.YtffjklakdnfeiaaDoor.chF]; exact (ih (by omega)).ch1 hs (by omega)
theorem Sat.fw {v M : Nat → Int} (h : Sat v M) : ∀ s, s ≤ 8 → Sat v (fw M s) := by
  intro s
  induction s with
  | zero => intro _; exact h
  | succ s ih => intro hs; rw [Go.Proofs.YtffjklakdnfeiaaDoor.fw]; exact (ih (by omega)).chF (by omega) 64 (Nat.le_refl _)
theorem Sat.rdF {v M : Nat → Int} (h : Sat v M) (n : Nat) : Sat v (rdF M n) := by
  intro i j hi hj
  rw [rdF_at]
  split
  · rename_i q
    have e : i = j := by omega
    subst e
    have := (h i i hi hi).resolve_left q.2.2
    right
    omega
  · exact h i j hi hj
theorem Sat.ah1 {v M : Nat → Int} (h : Sat v M) {k : Nat} (_hk : k < 64) : Sat v (ah1 M k) := by
  intro i j hi hj
  unfold Go.Proofs.YtffjklakdnfeiaaDoor.ah1
  split
  · rename_i q
    unfold upd
    split
    · rename_i e
      have e1 : k / 8 = i := by omega
      have e2 : k % 8 = j := by omega
      rw [e1, e2] at q ⊢
      obtain ⟨q1, q2, q3⟩ := pl_fin q.1
      have a1 := (h i i hi hi).resolve_left q1
      have a2 := (h j j hj hj).resolve_left q2
      have := tdiv2 (pl (M (i * 8 + i)) (M (j * 8 + j)))
      right
      rcases Int.lt_or_le (pl (M (i * 8 + i)) (M (j * 8 + j))) 0 with e | e
      · rw [this.2 e]; omega
      · rw [this.1 e]; omega
    · exact h i j hi hj
  · exact h i j hi hj
theorem Sat.ahF {v M : Nat → Int} (h : Sat v M) : ∀ k, k ≤ 64 → Sat v (ahF M k) := by
  intro k
  induction k with
  | zero => intro _; exact h
  | succ k ih => intro hk; rw [Go.Proofs.YtffjklakdnfeiaaDoor.ahF]; exact (ih (by omega)).ah1 (by omega)
theorem Sat.sharp {v M : Nat → Int} (h : Sat v M) : Sat v (sharp M) := ((h.fw 8 (Nat.le_refl _)).rdF 8).ahF 64 (Nat.le_refl _)
theorem conF_true {M : Nat → Int} : ∀ {n : Nat}, conF M n = true → ∃ i, i < n ∧ M (i * 8 + opp i) < 0 := by
  intro n
  induction n with
  | zero => intro h; cases h
  | succ n ih =>
    intro h
    rw [conF, Bool.or_eq_true] at h
    rcases h with h | h
    · obtain ⟨i, hi, h⟩ := ih h
      exact ⟨i, by omega, h⟩
    · exact ⟨n, by omega, of_decide_eq_true h⟩
/-- An octagon that has a state is not found to be empty. -/
theorem Sat.some {v M : Nat → Int} (h : Sat v M) : conF M 8 = false := by
  cases e : conF M 8 with
  | false => rfl
  | true =>
    obtain ⟨i, hi, h1⟩ := conF_true e
    rcases h i (opp i) hi (opp_lt hi) with q | q
    · rw [q] at h1; exact absurd h1 (by decide)
    · rw [sd_opp] at q; omega
theorem sharp_lo {M : Nat → Int} (h : Lo 8000 M) : Lo (8000 * 6 ^ 8 + 1) (sharp M) := ahF_lo (by decide) (rdF_lo (fw_lo (by decide) h 8 (Nat.le_refl _)) 8) 64 (Nat.le_refl _)

end Go.Proofs.YtffjklakdnfeiaaDoor

/- Sums that nothing more follows from: the chains, one after the other, come to them. No Go in here. -/
namespace Go.Proofs.YtffjklakdnfeiaaDoor

def mn (x y : Int) : Int := if y < x then y else x
/-- x is no more than a and b together (where there is a bound). -/
def T3 (x a b : Int) : Prop := a = NB ∨ b = NB ∨ (x ≠ NB ∧ x ≤ a + b)
def Bd (U : Int) (M : Nat → Int) : Prop := ∀ a, a < 64 → M a = NB ∨ M a ≤ U
theorem opp_opp : ∀ i : Nat, i < 8 → opp (opp i) = i := by decide
theorem opp_ne (i : Nat) : opp i ≠ i := by unfold opp; split <;> omega

theorem pl_zero_right (x : Int) : pl x 0 = x := by
  unfold pl NB
  split
  · omega
  · omega
theorem pl_zero_left (x : Int) : pl 0 x = x := by
  unfold pl NB
  split
  · omega
  · omega
theorem mn_self (x : Int) : mn x x = x := by unfold mn; split <;> rfl

/-- A chain in place does what one aside would do. -/
theorem chF_at {s : Nat} {M : Nat → Int} (hs : s < 8) (h0 : M (s * 8 + opp s) = 0) : ∀ k, k ≤ 64 → ∀ a, a < 64 → chF s M k a = if a < k then mn (M a) (pl (M (a / 8 * 8 + opp s)) (M (s * 8 + a % 8))) else M a := by
  have ho := opp_lt hs
  intro k
  induction k with
  | zero => intro _ a _; rw [chF, if_neg (by omega)]
  | succ k ih =>
    intro hk a ha
    have hc := ih (by omega)
    have e1 : chF s M k (k / 8 * 8 + opp s) = M (k / 8 * 8 + opp s) := by
      rw [hc _ (by omega)]
      split
      · rw [show (k / 8 * 8 + opp s) / 8 = k / 8 by omega, show (k / 8 * 8 + opp s) % 8 = opp s by omega, h0, pl_zero_right, mn_self]
      · rfl
    have e2 : chF s M k (s * 8 + k % 8) = M (s * 8 + k % 8) := by
      rw [hc _ (by omega)]
      split
      · rw [show (s * 8 + k % 8) / 8 = s by omega, show (s * 8 + k % 8) % 8 = k % 8 by omega, h0, pl_zero_left, mn_self]
      · rfl
    have e3 : chF s M k k = M k := by rw [hc k (by omega), if_neg (by omega)]
    rw [chF]
    unfold ch1
    rw [e1, e2, e3]
    by_cases q : a = k
    · subst q
      rw [if_pos (show a < a + 1 by omega)]
      unfold mn
      split
      · exact upd_same _ _ _
      · exact e3
    · have : (if pl (M (k / 8 * 8 + opp s)) (M (s * 8 + k % 8)) < M k then upd (chF s M k) k (pl (M (k / 8 * 8 + opp s)) (M (s * 8 + k % 8))) else chF s M k) a = chF s M k a := by
        split
        · exact upd_other _ _ q
        · rfl
      rw [this, hc a ha]
      by_cases z : a < k
      · rw [if_pos z, if_pos (by omega)]
      · rw [if_neg z, if_neg (by omega)]
theorem chain_at {s : Nat} {M : Nat → Int} (hs : s < 8) (h0 : M (s * 8 + opp s) = 0) {i j : Nat} (hi : i < 8) (hj : j < 8) : chF s M 64 (i * 8 + j) = mn (M (i * 8 + j)) (pl (M (i * 8 + opp s)) (M (s * 8 + j))) := by
  rw [chF_at hs h0 64 (Nat.le_refl _) _ (by omega), if_pos (by omega), show (i * 8 + j) / 8 = i by omega, show (i * 8 + j) % 8 = j by omega]

def TriK (M : Nat → Int) (k : Nat) : Prop := ∀ i j, i < 8 → j < 8 → T3 (M (i * 8 + j)) (M (i * 8 + opp k)) (M (k * 8 + j))

/-- What a lesser of two is, where it is a bound. -/
theorem mnpl {a p r : Int} (h : mn a (pl p r) ≠ NB) : (mn a (pl p r) = a ∧ a ≠ NB) ∨ (mn a (pl p r) = p + r ∧ p ≠ NB ∧ r ≠ NB) := by
  unfold mn at h ⊢
  split
  · rename_i q
    rw [if_pos q] at h
    obtain ⟨h1, h2, h3⟩ := pl_fin h
    exact .inr ⟨h3, h1, h2⟩
  · rename_i q
    rw [if_neg q] at h
    exact .inl ⟨rfl, h⟩
theorem mnpl_le1 {x p q U : Int} (hU : U < 1000000) (hx : x ≠ NB) (hxU : x = NB ∨ x ≤ U) : mn x (pl p q) ≠ NB ∧ mn x (pl p q) ≤ x := by
  have := hxU.resolve_left hx
  unfold mn NB at *
  split <;> omega
theorem mnpl_le2 {x p q U : Int} (hU : 2 * U < 1000000) (hp : p ≠ NB) (hq : q ≠ NB) (hpU : p = NB ∨ p ≤ U) (hqU : q = NB ∨ q ≤ U) : mn x (pl p q) ≠ NB ∧ mn x (pl p q) ≤ p + q := by
  have h1 := hpU.resolve_left hp
  have h2 := hqU.resolve_left hq
  have e : pl p q = p + q := if_neg (fun e => e.elim hp hq)
  rw [e]
  unfold mn NB at *
  split <;> omega
theorem tri_step {x a b p q r t U : Int} (hU : 2 * U < 1000000) (hU0 : 0 ≤ U) (hx : x = NB ∨ x ≤ U) (hp : p = NB ∨ p ≤ U) (hq : q = NB ∨ q ≤ U)
    (h1 : T3 x a b) (h2 : T3 p a t) (h3 : T3 q r b) (h4 : T3 0 r t) : T3 (mn x (pl p q)) (mn a (pl p r)) (mn b (pl t q)) := by
  by_cases hA : mn a (pl p r) = NB
  · exact .inl hA
  by_cases hB : mn b (pl t q) = NB
  · exact .inr (.inl hB)
  right; right
  rcases mnpl hA with ⟨eA, a1⟩ | ⟨eA, a1, a2⟩
  · rcases mnpl hB with ⟨eB, b1⟩ | ⟨eB, b1, b2⟩
    · rw [eA, eB]
      obtain ⟨z1, z2⟩ := (h1.resolve_left a1).resolve_left b1
      have := mnpl_le1 (p := p) (q := q) (by omega) z1 hx
      exact ⟨this.1, by omega⟩
    · rw [eA, eB]
      obtain ⟨z1, z2⟩ := (h2.resolve_left a1).resolve_left b1
      have := mnpl_le2 (x := x) hU z1 b2 hp hq
      exact ⟨this.1, by omega⟩
  · rcases mnpl hB with ⟨eB, b1⟩ | ⟨eB, b1, b2⟩
    · rw [eA, eB]
      obtain ⟨z1, z2⟩ := (h3.resolve_left a2).resolve_left b1
      have := mnpl_le2 (x := x) hU a1 z1 hp hq
      exact ⟨this.1, by omega⟩
    · rw [eA, eB]
      obtain ⟨z1, z2⟩ := (h4.resolve_left a2).resolve_left b1
      have := mnpl_le2 (x := x) hU a1 b2 hp hq
      exact ⟨this.1, by omega⟩
theorem tri_new {x p q U : Int} (hU : 2 * U < 1000000) (hp : p = NB ∨ p ≤ U) (hq : q = NB ∨ q ≤ U) : T3 (mn x (pl p q)) p q := by
  by_cases h1 : p = NB
  · exact .inl h1
  by_cases h2 : q = NB
  · exact .inr (.inl h2)
  exact .inr (.inr (mnpl_le2 hU h1 h2 hp hq))

theorem chain_tri {s : Nat} {M : Nat → Int} {U : Int} (hs : s < 8) (h0 : M (s * 8 + opp s) = 0) (hU : 2 * U < 1000000) (hU0 : 0 ≤ U) (hB : Bd U M) (hT : ∀ k, k < s → TriK M k) : ∀ k, k < s + 1 → TriK (chF s M 64) k := by
  have ho := opp_lt hs
  intro k hk i j hi hj
  rcases Nat.lt_or_eq_of_le (Nat.lt_succ_iff.1 hk) with hk' | hk'
  · have hk8 : k < 8 := by omega
    have hok := opp_lt hk8
    rw [chain_at hs h0 hi hj, chain_at hs h0 hi hok, chain_at hs h0 hk8 hj]
    have h4 := hT k hk' s (opp s) hs ho
    rw [h0] at h4
    exact tri_step hU hU0 (hB _ (by omega)) (hB _ (by omega)) (hB _ (by omega)) (hT k hk' i j hi hj) (hT k hk' i (opp s) hi ho) (hT k hk' s j hs hj) h4
  · subst hk'
    rw [chain_at hs h0 hi hj, chain_at hs h0 hi ho, chain_at hs h0 hs hj, h0, pl_zero_right, pl_zero_left, mn_self, mn_self]
    exact tri_new hU (hB _ (by omega)) (hB _ (by omega))

/-- Two sides of a variable: how great a sum gets. -/
structure Bd2 (B D : Int) (M : Nat → Int) : Prop where
  off : ∀ i j, i < 8 → j < 8 → i ≠ j → M (i * 8 + j) = NB ∨ M (i * 8 + j) ≤ B
  dia : ∀ i, i < 8 → M (i * 8 + i) = NB ∨ M (i * 8 + i) ≤ D
theorem Bd2.all {B D : Int} {M : Nat → Int} (h : Bd2 B D M) (hBD : B ≤ D) : Bd D M := by
  intro a ha
  have e : a = a / 8 * 8 + a % 8 := by omega
  by_cases q : a / 8 = a % 8
  · have := h.dia (a / 8) (by omega)
    rw [show a / 8 * 8 + a / 8 = a by omega] at this
    exact this
  · have := h.off (a / 8) (a % 8) (by omega) (by omega) q
    rw [← e] at this
    rcases this with z | z
    · exact .inl z
    · exact .inr (by omega)

theorem mn_le_left (x y : Int) : mn x y ≤ x := by unfold mn; split <;> omega
theorem mn_le_right (x y : Int) : mn x y ≤ y := by unfold mn; split <;> omega
theorem pair_num {a ps pq u ss_ v tt E : Int} (hE : E < 1000000) (ha : a = NB ∨ a ≤ E) (g1 : ps ≠ NB → pq ≠ NB → ps + pq ≤ E) (g2 : u ≠ NB → v ≠ NB → u + v ≤ E)
    (g3 : a = NB → u ≠ NB → tt ≠ NB → pq ≠ NB → u + (tt + pq) ≤ E) (g4 : a = NB → ps ≠ NB → ss_ ≠ NB → v ≠ NB → ps + ss_ + v ≤ E) :
    mn (mn a (pl ps pq)) (pl (mn u (pl ps ss_)) (mn v (pl tt pq))) = NB ∨ mn (mn a (pl ps pq)) (pl (mn u (pl ps ss_)) (mn v (pl tt pq))) ≤ E := by
  have l1 := mn_le_left (mn a (pl ps pq)) (pl (mn u (pl ps ss_)) (mn v (pl tt pq)))
  have l2 := mn_le_left a (pl ps pq)
  by_cases e : a = NB
  · by_cases x : mn a (pl ps pq) = NB
    · by_cases y : mn (mn a (pl ps pq)) (pl (mn u (pl ps ss_)) (mn v (pl tt pq))) = NB
      · exact .inl y
      · right
        rcases mnpl y with ⟨_, z⟩ | ⟨e1, z1, z2⟩
        · exact absurd x z
        · rw [e1]
          rcases mnpl z1 with ⟨p1, p2⟩ | ⟨p1, p2, p3⟩
          · rcases mnpl z2 with ⟨q1, q2⟩ | ⟨q1, q2, q3⟩
            · rw [p1, q1]; exact g2 p2 q2
            · rw [p1, q1]; exact g3 e p2 q2 q3
          · rcases mnpl z2 with ⟨q1, q2⟩ | ⟨q1, q2, q3⟩
            · rw [p1, q1]; exact g4 e p2 p3 q2
            · exfalso
              have w := g1 p2 q3
              have w2 := mn_le_right a (pl ps pq)
              rw [x, show pl ps pq = ps + pq from if_neg (fun q => q.elim p2 q3)] at w2
              unfold NB at w2
              omega
    · rcases mnpl x with ⟨_, z⟩ | ⟨e1, z1, z2⟩
      · exact absurd e z
      · have := g1 z1 z2
        right
        omega
  · have := ha.resolve_left e
    right
    omega
theorem pair_bd {s : Nat} {N : Nat → Int} {B D : Int} (hs : s < 8) (he : s % 2 = 0) (hD : D ≤ 2 * B) (hBD : B ≤ D) (hE : 2 * B + D < 1000000) (hN : Bd2 B D N) (h0 : N (s * 8 + opp s) = 0) (h1 : chF s N 64 ((s + 1) * 8 + opp (s + 1)) = 0) : Bd (2 * B + D) (chF (s + 1) (chF s N 64) 64) := by
  have o1 : opp s = s + 1 := if_pos he
  have o2 : opp (s + 1) = s := by unfold opp; rw [if_neg (by omega)]; rfl
  have hA := hN.all hBD
  intro a ha
  have ea : a = a / 8 * 8 + a % 8 := by omega
  have hi : a / 8 < 8 := by omega
  have hj : a % 8 < 8 := by omega
  have hs1 : s + 1 < 8 := by omega
  rw [ea]
  generalize a / 8 = i at hi
  generalize a % 8 = j at hj
  have ho : opp s < 8 := by omega
  rw [chain_at hs1 h1 hi hj, o2, chain_at hs h0 hi hj, chain_at hs h0 hi hs, chain_at hs h0 hs1 hj, o1]
  refine pair_num hE ?_ ?_ ?_ ?_ ?_
  · rcases hA (i * 8 + j) (by omega) with q | q
    · exact .inl q
    · exact .inr (by omega)
  · intro q1 q2
    have := (hA _ (by omega)).resolve_left q1
    have := (hA _ (by omega)).resolve_left q2
    omega
  · intro q1 q2
    have := (hA _ (by omega)).resolve_left q1
    have := (hA _ (by omega)).resolve_left q2
    omega
  · intro q q1 q2 q3
    by_cases ei : i = s
    · exact absurd q (by rw [ei]; exact q3)
    by_cases ej : j = s
    · exact absurd q (by rw [ej]; exact q1)
    have := (hN.off i s hi hs ei).resolve_left q1
    have := (hN.dia (s + 1) hs1).resolve_left q2
    have := (hN.off s j hs hj (fun e => ej e.symm)).resolve_left q3
    omega
  · intro q q1 q2 q3
    by_cases ei : i = s + 1
    · exact absurd q (by rw [ei]; exact q3)
    by_cases ej : j = s + 1
    · exact absurd q (by rw [ej]; exact q1)
    have := (hN.off i (s + 1) hi hs1 ei).resolve_left q1
    have := (hN.dia s hs).resolve_left q2
    have := (hN.off (s + 1) j hs1 hj (fun e => ej e.symm)).resolve_left q3
    omega
theorem Bd.two {U : Int} {M : Nat → Int} (h : Bd U M) : Bd2 U U M := ⟨fun i j hi hj _ => h _ (by omega), fun i hi => h _ (by omega)⟩
theorem chain_bd {s : Nat} {N : Nat → Int} {E : Int} (U : Int) (e : E = 2 * U) (hs : s < 8) (hU : 0 ≤ U) (hN : Bd U N) (h0 : N (s * 8 + opp s) = 0) : Bd E (chF s N 64) := by
  subst e
  have ho := opp_lt hs
  intro a ha
  have ea : a = a / 8 * 8 + a % 8 := by omega
  rw [ea, chain_at hs h0 (by omega) (by omega)]
  by_cases q : mn (N (a / 8 * 8 + a % 8)) (pl (N (a / 8 * 8 + opp s)) (N (s * 8 + a % 8))) = NB
  · exact .inl q
  · right
    rcases mnpl q with ⟨e, z⟩ | ⟨e, z1, z2⟩
    · rw [e]; have := (hN _ (by omega)).resolve_left z; omega
    · rw [e]
      have := (hN _ (by omega)).resolve_left z1
      have := (hN _ (by omega)).resolve_left z2
      omega
/-- Each chain up to here has found its own side at 0. -/
def Ex (M : Nat → Int) (s : Nat) : Prop := ∀ r, r < s → fw M r (r * 8 + opp r) = 0
theorem Ex.lt {M : Nat → Int} {s r : Nat} (h : Ex M s) (hr : r ≤ s) : Ex M r := fun q hq => h q (by omega)
theorem fw_bd2 {M : Nat → Int} {s : Nat} {E : Int} (B D : Int) (e : E = 2 * B + D) (hs : s < 7) (he : s % 2 = 0) (hD : D ≤ 2 * B) (hBD : B ≤ D) (hE : 2 * B + D < 1000000) (hN : Bd2 B D (fw M s)) (h : Ex M (s + 2)) : Bd E (fw M (s + 2)) := by
  subst e
  have h0 := h s (by omega)
  have h1 := h (s + 1) (by omega)
  rw [fw] at h1
  show Bd _ (chF (s + 1) (fw M (s + 1)) 64)
  rw [fw]
  exact pair_bd (by omega) he hD hBD hE hN h0 h1
def ub (s : Nat) : Int := if s = 0 then 8000 else if s ≤ 2 then 16000 else if s = 3 then 32000 else if s = 4 then 48000 else if s = 5 then 96000 else if s = 6 then 144000 else if s = 7 then 288000 else 432000
theorem fw_bd {M : Nat → Int} (hM : Bd2 4000 8000 M) : ∀ s, s ≤ 8 → Ex M s → Bd (ub s) (fw M s) := by
  have b0 : Bd 8000 M := hM.all (by omega)
  have b2 : Ex M 2 → Bd 16000 (fw M 2) := fun h => fw_bd2 (s := 0) 4000 8000 (by decide) (by omega) rfl (by omega) (by omega) (by omega) hM h
  have b4 : Ex M 4 → Bd 48000 (fw M 4) := fun h => fw_bd2 (s := 2) 16000 16000 (by decide) (by omega) rfl (by omega) (by omega) (by omega) (b2 (h.lt (by omega))).two h
  have b6 : Ex M 6 → Bd 144000 (fw M 6) := fun h => fw_bd2 (s := 4) 48000 48000 (by decide) (by omega) rfl (by omega) (by omega) (by omega) (b4 (h.lt (by omega))).two h
  have b8 : Ex M 8 → Bd 432000 (fw M 8) := fun h => fw_bd2 (s := 6) 144000 144000 (by decide) (by omega) rfl (by omega) (by omega) (by omega) (b6 (h.lt (by omega))).two h
  intro s hs h
  have hc : s = 0 ∨ s = 1 ∨ s = 2 ∨ s = 3 ∨ s = 4 ∨ s = 5 ∨ s = 6 ∨ s = 7 ∨ s = 8 := by omega
  rcases hc with e | e | e | e | e | e | e | e | e <;> subst e
  · exact b0
  · exact chain_bd (s := 0) 8000 (by decide) (by omega) (by omega) b0 (h 0 (by omega))
  · exact b2 h
  · exact chain_bd (s := 2) 16000 (by decide) (by omega) (by omega) (b2 (h.lt (by omega))) (h 2 (by omega))
  · exact b4 h
  · exact chain_bd (s := 4) 48000 (by decide) (by omega) (by omega) (b4 (h.lt (by omega))) (h 4 (by omega))
  · exact b6 h
  · exact chain_bd (s := 6) 144000 (by decide) (by omega) (by omega) (b6 (h.lt (by omega))) (h 6 (by omega))
  · exact b8 h
theorem ub_small : ∀ s : Nat, s < 8 → 2 * ub s < 1000000 ∧ 0 ≤ ub s := by decide
theorem fw_tri {M : Nat → Int} (hM : Bd2 4000 8000 M) : ∀ s, s ≤ 8 → Ex M s → ∀ k, k < s → TriK (fw M s) k := by
  intro s
  induction s with
  | zero => intro _ _ k hk; omega
  | succ s ih =>
    intro hs h k hk
    have hu := ub_small s (by omega)
    rw [fw]
    exact chain_tri (by omega) (h s (by omega)) hu.1 hu.2 (fw_bd hM s (by omega) (h.lt (by omega))) (ih (by omega) (h.lt (by omega))) k hk

/- What is closed and lies below stays below. -/
def Tri (N : Nat → Int) : Prop := ∀ k, k < 8 → TriK N k
def Le (N M : Nat → Int) : Prop := ∀ a, a < 64 → N a ≤ M a
theorem below_ch1 {N M : Nat → Int} {s k : Nat} (hs : s < 8) (hk : k < 64) (hN : Tri N) (h : Le N M) (hi : ∀ a, a < 64 → M a ≤ NB) : Le N (ch1 s M k) := by
  have ho := opp_lt hs
  intro a ha
  unfold ch1
  split
  · rename_i q
    unfold upd
    split
    · rename_i e
      subst e
      have hle := hi a ha
      obtain ⟨q1, q2, q3⟩ := pl_fin (a := M (a / 8 * 8 + opp s)) (b := M (s * 8 + a % 8)) (by omega)
      rw [q3]
      have l1 := h (a / 8 * 8 + opp s) (by omega)
      have l2 := h (s * 8 + a % 8) (by omega)
      have m1 := hi (a / 8 * 8 + opp s) (by omega)
      have m2 := hi (s * 8 + a % 8) (by omega)
      have t := hN s hs (a / 8) (a % 8) (by omega) (by omega)
      rw [show a / 8 * 8 + a % 8 = a by omega] at t
      obtain ⟨_, t2⟩ := (t.resolve_left (by omega)).resolve_left (by omega)
      omega
    · exact h a ha
  · exact h a ha
theorem below_chF {N M : Nat → Int} {s : Nat} (hs : s < 8) (hN : Tri N) (h : Le N M) (hi : ∀ a, a < 64 → M a ≤ NB) : ∀ k, k ≤ 64 → Le N (chF s M k) := by
  intro k
  induction k with
  | zero => intro _; exact h
  | succ k ih => intro hk; rw [chF]; exact below_ch1 hs (by omega) hN (ih (by omega)) (fun a ha => Int.le_trans (chF_le s M k a) (hi a ha))
theorem below_fw {N M : Nat → Int} (hN : Tri N) (h : Le N M) (hi : ∀ a, a < 64 → M a ≤ NB) : ∀ s, s ≤ 8 → Le N (fw M s) := by
  intro s
  induction s with
  | zero => intro _; exact h
  | succ s ih => intro hs; rw [fw]; exact below_chF (by omega) hN (ih (by omega)) (fun a ha => Int.le_trans (fw_le M s a) (hi a ha)) 64 (Nat.le_refl _)

def tp (M : Nat → Int) : Nat → Int := fun a => M (a % 8 * 8 + a / 8)
theorem tp_at (M : Nat → Int) {i j : Nat} (_hi : i < 8) (hj : j < 8) : tp M (i * 8 + j) = M (j * 8 + i) := by
  unfold tp
  rw [show (i * 8 + j) % 8 = j by omega, show (i * 8 + j) / 8 = i by omega]
theorem T3.comm {x a b : Int} (h : T3 x a b) : T3 x b a := by
  rcases h with h | h | ⟨h1, h2⟩
  · exact .inr (.inl h)
  · exact .inl h
  · exact .inr (.inr ⟨h1, by omega⟩)
theorem Tri.tp {N : Nat → Int} (h : Tri N) : Tri (tp N) := by
  intro k hk i j hi hj
  have ho := opp_lt hk
  rw [tp_at N hi hj, tp_at N hi ho, tp_at N hk hj]
  have t := h (opp k) ho j i hj hi
  rw [opp_opp k hk] at t
  exact t.comm
def Sym (M : Nat → Int) : Prop := ∀ i j, i < 8 → j < 8 → M (i * 8 + j) = M (j * 8 + i)
theorem fw_sym {M : Nat → Int} (hS : Sym M) (hT : Tri (fw M 8)) (hi : ∀ a, a < 64 → M a ≤ NB) : Sym (fw M 8) := by
  have hle : Le (tp (fw M 8)) M := by
    intro a ha
    have ea : a = a / 8 * 8 + a % 8 := by omega
    rw [ea, tp_at _ (by omega) (by omega), hS _ _ (by omega) (by omega)]
    exact fw_le M 8 _
  have := below_fw hT.tp hle hi 8 (Nat.le_refl _)
  intro i j hi' hj
  have h1 := this (i * 8 + j) (by omega)
  have h2 := this (j * 8 + i) (by omega)
  rw [tp_at _ hi' hj] at h1
  rw [tp_at _ hj hi'] at h2
  omega

end Go.Proofs.YtffjklakdnfeiaaDoor

/- Bounds that have been sharpened: nothing more follows from them. No Go in here. -/
namespace Go.Proofs.YtffjklakdnfeiaaDoor

theorem fw_mono (M : Nat → Int) (s : Nat) : ∀ k a, fw M (s + k) a ≤ fw M s a
  | 0, _ => Int.le_refl _
  | k + 1, a => by
    show chF (s + k) (fw M (s + k)) 64 a ≤ _
    exact Int.le_trans (chF_le _ _ 64 a) (fw_mono M s k a)
theorem fw_ex {M : Nat → Int} (h0 : ∀ t, t < 8 → M (t * 8 + opp t) = 0) (h : ∀ t, t < 8 → 0 ≤ fw M 8 (t * 8 + opp t)) : Ex M 8 := by
  intro r hr
  have h1 := fw_le M r (r * 8 + opp r)
  rw [h0 r hr] at h1
  have h2 := fw_mono M r (8 - r) (r * 8 + opp r)
  rw [show r + (8 - r) = 8 by omega] at h2
  have := h r hr
  omega

/-- What is made even. -/
def ev (x : Int) : Int := if x = NB then NB else x / 2 * 2
theorem rd_dia (M : Nat → Int) {i : Nat} (hi : i < 8) : rdF M 8 (i * 8 + i) = ev (M (i * 8 + i)) := by
  rw [rdF_at]
  unfold ev
  by_cases h : M (i * 8 + i) = NB
  · rw [if_neg (fun q => q.2.2 h), if_pos h, h]
  · rw [if_pos ⟨by omega, by omega, h⟩, if_neg h]
theorem rd_off (M : Nat → Int) {i j : Nat} (hi : i < 8) (hj : j < 8) (h : i ≠ j) : rdF M 8 (i * 8 + j) = M (i * 8 + j) := by
  rw [rdF_at, if_neg (by omega)]
theorem ev_fin {x : Int} (h : ev x ≠ NB) : x ≠ NB ∧ ev x = x / 2 * 2 := by
  unfold ev at h ⊢
  by_cases q : x = NB
  · rw [if_pos q] at h; exact absurd rfl h
  · exact ⟨q, if_neg q⟩
theorem ev_bd {x U : Int} (h : x = NB ∨ x ≤ U) : ev x = NB ∨ (x ≠ NB ∧ ev x ≤ U ∧ ev x % 2 = 0) := by
  unfold ev
  by_cases q : x = NB
  · rw [if_pos q]; exact .inl rfl
  · have := h.resolve_left q
    rw [if_neg q]
    exact .inr ⟨q, by omega, by omega⟩
theorem tdiv_even {x : Int} (h : x % 2 = 0) : x.tdiv 2 * 2 = x := by
  have h1 := tdiv2 x
  rcases Int.lt_or_le x 0 with e | e
  · rw [h1.2 e]; omega
  · rw [h1.1 e]; omega

/-- Each bound against those of the two sides alone: the bounds of one side stay. -/
theorem ahF_dia (N : Nat → Int) : ∀ k, k ≤ 64 → ∀ i, i < 8 → ahF N k (i * 8 + i) = N (i * 8 + i) := by
  intro k
  induction k with
  | zero => intro _ i _; rfl
  | succ k ih =>
    intro hk i hi
    have hc := ih (by omega)
    rw [ahF]
    unfold ah1
    split
    · rename_i q
      by_cases e : i * 8 + i = k
      · subst e
        rw [show (i * 8 + i) / 8 = i by omega, show (i * 8 + i) % 8 = i by omega, hc i hi] at q
        obtain ⟨q1, _, q3⟩ := pl_fin q.1
        have h2 := q.2
        rw [q3] at h2
        have := tdiv_even (x := N (i * 8 + i) + N (i * 8 + i)) (by omega)
        omega
      · rw [upd_other _ _ e]; exact hc i hi
    · exact hc i hi
theorem ahF_at (N : Nat → Int) : ∀ k, k ≤ 64 → ∀ a, a < 64 → ahF N k a = if a < k ∧ pl (N (a / 8 * 8 + a / 8)) (N (a % 8 * 8 + a % 8)) ≠ NB ∧ (pl (N (a / 8 * 8 + a / 8)) (N (a % 8 * 8 + a % 8))).tdiv 2 < N a then (pl (N (a / 8 * 8 + a / 8)) (N (a % 8 * 8 + a % 8))).tdiv 2 else N a := by
  intro k
  induction k with
  | zero => intro _ a _; rw [ahF, if_neg (by omega)]
  | succ k ih =>
    intro hk a ha
    have hc := ih (by omega)
    have hd := ahF_dia N k (by omega)
    rw [ahF]
    unfold ah1
    rw [hd (k / 8) (by omega), hd (k % 8) (by omega)]
    have hkk : ahF N k k = N k := by rw [hc k (by omega), if_neg (by omega)]
    rw [hkk]
    by_cases e : a = k
    · subst e
      split
      · rename_i q; rw [upd_same, if_pos ⟨by omega, q⟩]
      · rename_i q; rw [hkk, if_neg (fun z => q z.2)]
    · have : (if pl (N (k / 8 * 8 + k / 8)) (N (k % 8 * 8 + k % 8)) ≠ NB ∧ (pl (N (k / 8 * 8 + k / 8)) (N (k % 8 * 8 + k % 8))).tdiv 2 < N k then upd (ahF N k) k ((pl (N (k / 8 * 8 + k / 8)) (N (k % 8 * 8 + k % 8))).tdiv 2) else ahF N k) a = ahF N k a := by
        split
        · exact upd_other _ _ e
        · rfl
      rw [this, hc a ha]
      by_cases q : pl (N (a / 8 * 8 + a / 8)) (N (a % 8 * 8 + a % 8)) ≠ NB ∧ (pl (N (a / 8 * 8 + a / 8)) (N (a % 8 * 8 + a % 8))).tdiv 2 < N a
      · by_cases z : a < k
        · rw [if_pos ⟨z, q⟩, if_pos ⟨by omega, q⟩]
        · rw [if_neg (fun y => z y.1), if_neg (fun y => by omega)]
      · rw [if_neg (fun y => q y.2), if_neg (fun y => q y.2)]

/-- What 'sharp' comes to, for two sides. -/
structure ShAt (T : Nat → Int) (c : Int) (i j : Nat) : Prop where
  le1 : T (i * 8 + j) ≠ NB → c ≠ NB ∧ c ≤ T (i * 8 + j)
  le2 : ev (T (i * 8 + i)) ≠ NB → ev (T (j * 8 + j)) ≠ NB → c ≠ NB ∧ 2 * c ≤ ev (T (i * 8 + i)) + ev (T (j * 8 + j))
  cas : c = NB ∨ (i ≠ j ∧ c = T (i * 8 + j) ∧ T (i * 8 + j) ≠ NB) ∨ (ev (T (i * 8 + i)) ≠ NB ∧ ev (T (j * 8 + j)) ≠ NB ∧ 2 * c = ev (T (i * 8 + i)) + ev (T (j * 8 + j)))
theorem sh_at {T : Nat → Int} {U : Int} (hU : 2 * U < 1000000) (hB : Bd U T) {i j : Nat} (hi : i < 8) (hj : j < 8) : ShAt T (ahF (rdF T 8) 64 (i * 8 + j)) i j := by
  have hE : ∀ i, i < 8 → rdF T 8 (i * 8 + i) = NB ∨ rdF T 8 (i * 8 + i) % 2 = 0 := by
    intro i hi
    rw [rd_dia T hi]
    rcases ev_bd (hB (i * 8 + i) (by omega)) with q | q
    · exact .inl q
    · exact .inr q.2.2
  have hc := ahF_at (rdF T 8) 64 (Nat.le_refl _) (i * 8 + j) (by omega)
  rw [show (i * 8 + j) / 8 = i by omega, show (i * 8 + j) % 8 = j by omega, rd_dia T hi, rd_dia T hj] at hc
  have bi := ev_bd (hB (i * 8 + i) (by omega))
  have bj := ev_bd (hB (j * 8 + j) (by omega))
  have bt := hB (i * 8 + j) (by omega)
  have hN : rdF T 8 (i * 8 + j) = if i = j then ev (T (i * 8 + j)) else T (i * 8 + j) := by
    by_cases e : i = j
    · subst e; rw [if_pos rfl, rd_dia T hi]
    · rw [if_neg e, rd_off T hi hj e]
  have hNle : T (i * 8 + j) ≠ NB → rdF T 8 (i * 8 + j) ≠ NB ∧ rdF T 8 (i * 8 + j) ≤ T (i * 8 + j) := by
    intro q
    rw [hN]
    split
    · unfold ev NB at *
      rw [if_neg q]
      have := bt.resolve_left q
      constructor <;> omega
    · exact ⟨q, Int.le_refl _⟩
  generalize ahF (rdF T 8) 64 (i * 8 + j) = c at hc ⊢
  by_cases p : ev (T (i * 8 + i)) = NB ∨ ev (T (j * 8 + j)) = NB
  · have e1 : pl (ev (T (i * 8 + i))) (ev (T (j * 8 + j))) = NB := if_pos p
    rw [e1, if_neg (fun q => q.2.1 rfl)] at hc
    subst hc
    refine ⟨hNle, fun q1 q2 => absurd p (fun z => z.elim q1 q2), ?_⟩
    by_cases e : i = j
    · subst e
      left
      rw [hN, if_pos rfl]
      exact p.elim id id
    · rw [hN, if_neg e]
      by_cases z : T (i * 8 + j) = NB
      · exact .inl z
      · exact .inr (.inl ⟨e, rfl, z⟩)
  · have p1 : ev (T (i * 8 + i)) ≠ NB := fun q => p (.inl q)
    have p2 : ev (T (j * 8 + j)) ≠ NB := fun q => p (.inr q)
    obtain ⟨_, b1, b2⟩ := bi.resolve_left p1
    obtain ⟨_, c1, c2⟩ := bj.resolve_left p2
    have e1 : pl (ev (T (i * 8 + i))) (ev (T (j * 8 + j))) = ev (T (i * 8 + i)) + ev (T (j * 8 + j)) := if_neg p
    have e2 := tdiv_even (x := ev (T (i * 8 + i)) + ev (T (j * 8 + j))) (by omega)
    rw [e1] at hc
    have hn : ev (T (i * 8 + i)) + ev (T (j * 8 + j)) ≠ NB := by unfold NB; omega
    by_cases q : (ev (T (i * 8 + i)) + ev (T (j * 8 + j))).tdiv 2 < rdF T 8 (i * 8 + j)
    · rw [if_pos ⟨by omega, hn, q⟩] at hc
      subst hc
      have z : (ev (T (i * 8 + i)) + ev (T (j * 8 + j))).tdiv 2 ≠ NB := by unfold NB; omega
      refine ⟨fun t => ⟨z, ?_⟩, fun _ _ => ⟨z, by omega⟩, .inr (.inr ⟨p1, p2, by omega⟩)⟩
      have := (hNle t).2
      omega
    · rw [if_neg (fun y => q y.2.2)] at hc
      subst hc
      have hle : rdF T 8 (i * 8 + j) * 2 ≤ ev (T (i * 8 + i)) + ev (T (j * 8 + j)) := by omega
      refine ⟨hNle, fun _ _ => ⟨by unfold NB; omega, by omega⟩, ?_⟩
      by_cases e : i = j
      · subst e
        right; right
        refine ⟨p1, p2, ?_⟩
        rw [hN, if_pos rfl]
        omega
      · rw [hN, if_neg e]
        by_cases z : T (i * 8 + j) = NB
        · exact .inl z
        · exact .inr (.inl ⟨e, rfl, z⟩)

/-- Bounds from which nothing follows any more. -/
structure TC (C : Nat → Int) : Prop where
  tri : Tri C
  zero : ∀ i, i < 8 → C (i * 8 + opp i) = 0
  even : ∀ i, i < 8 → C (i * 8 + i) = NB ∨ C (i * 8 + i) % 2 = 0
  half : ∀ i j, i < 8 → j < 8 → C (i * 8 + i) ≠ NB → C (j * 8 + j) ≠ NB → C (i * 8 + j) ≠ NB ∧ 2 * C (i * 8 + j) ≤ C (i * 8 + i) + C (j * 8 + j)
  sym : Sym C
  top : Bd 432000 C
theorem conF_false {M : Nat → Int} : ∀ {n : Nat}, conF M n = false → ∀ i, i < n → 0 ≤ M (i * 8 + opp i) := by
  intro n
  induction n with
  | zero => intro _ i hi; omega
  | succ n ih =>
    intro h i hi
    rw [conF, Bool.or_eq_false_iff] at h
    rcases Nat.lt_or_eq_of_le (Nat.lt_succ_iff.1 hi) with e | e
    · exact ih h.1 i e
    · subst e; have := of_decide_eq_false h.2; omega
theorem sh_dia {T : Nat → Int} {c : Int} {i : Nat} (h : ShAt T c i i) : c = ev (T (i * 8 + i)) := by
  rcases h.cas with q | q | q
  · rw [q]
    by_cases z : ev (T (i * 8 + i)) = NB
    · exact z.symm
    · exact absurd q (h.le2 z z).1
  · exact absurd rfl q.1
  · omega
theorem tri_mix {T : Nat → Int} (hT : Tri T) (hS : Sym T) {i k : Nat} (hi : i < 8) (hk : k < 8) (h1 : T (i * 8 + opp k) ≠ NB) (h2 : ev (T (k * 8 + k)) ≠ NB) (hB : T (i * 8 + i) = NB ∨ T (i * 8 + i) ≤ 432000) : ev (T (i * 8 + i)) ≠ NB ∧ ev (T (i * 8 + i)) ≤ 2 * T (i * 8 + opp k) + ev (T (k * 8 + k)) := by
  have ho := opp_lt hk
  obtain ⟨k1, k2⟩ := ev_fin h2
  have a := hT (opp k) ho k i hk hi
  rw [opp_opp k hk, ← hS i (opp k) hi ho] at a
  obtain ⟨a1, a2⟩ := (a.resolve_left k1).resolve_left h1
  have b := hT k hk i i hi hi
  obtain ⟨b1, b2⟩ := (b.resolve_left h1).resolve_left a1
  have := hB.resolve_left b1
  have e : ev (T (i * 8 + i)) = T (i * 8 + i) / 2 * 2 := if_neg b1
  rw [e, k2]
  exact ⟨by unfold NB; omega, by omega⟩
theorem sh_tc {T : Nat → Int} (hT : Tri T) (hS : Sym T) (hB : Bd 432000 T) (h0 : ∀ i, i < 8 → T (i * 8 + opp i) = 0) (hc : ∀ i, i < 8 → 0 ≤ ahF (rdF T 8) 64 (i * 8 + opp i)) : TC (ahF (rdF T 8) 64) := by
  have sh : ∀ {i j : Nat}, i < 8 → j < 8 → ShAt T (ahF (rdF T 8) 64 (i * 8 + j)) i j := fun hi hj => sh_at (U := 432000) (by omega) hB hi hj
  have dia : ∀ {i : Nat}, i < 8 → ahF (rdF T 8) 64 (i * 8 + i) = ev (T (i * 8 + i)) := fun hi => sh_dia (sh hi hi)
  generalize hC : ahF (rdF T 8) 64 = C at sh dia hc ⊢
  have zero : ∀ i, i < 8 → C (i * 8 + opp i) = 0 := by
    intro i hi
    have := ((sh hi (opp_lt hi)).le1 (by rw [h0 i hi]; decide)).2
    rw [h0 i hi] at this
    have := hc i hi
    omega
  have dd : ∀ i, i < 8 → ev (T (i * 8 + i)) ≠ NB → ev (T (opp i * 8 + opp i)) ≠ NB → 0 ≤ ev (T (i * 8 + i)) + ev (T (opp i * 8 + opp i)) := by
    intro i hi h1 h2
    have := ((sh hi (opp_lt hi)).le2 h1 h2).2
    rw [zero i hi] at this
    omega
  have sym : Sym C := by
    intro i j hi hj
    have a := sh hi hj
    have b := sh hj hi
    have e := hS i j hi hj
    rcases a.cas with q | ⟨q1, q2, q3⟩ | ⟨q1, q2, q3⟩
    · rcases b.cas with w | ⟨w1, w2, w3⟩ | ⟨w1, w2, w3⟩
      · rw [q, w]
      · exact absurd q (a.le1 (by rw [e]; exact w3)).1
      · exact absurd q (a.le2 w2 w1).1
    · have z1 := b.le1 (by rw [← e]; exact q3)
      rcases b.cas with w | ⟨w1, w2, w3⟩ | ⟨w1, w2, w3⟩
      · exact absurd w z1.1
      · rw [q2, w2, e]
      · have := (a.le2 w2 w1).2
        omega
    · have z1 := b.le2 q2 q1
      rcases b.cas with w | ⟨w1, w2, w3⟩ | ⟨w1, w2, w3⟩
      · exact absurd w z1.1
      · have := (a.le1 (by rw [e]; exact w3)).2
        omega
      · omega
  have mixL : ∀ {i j k : Nat}, i < 8 → j < 8 → k < 8 → T (i * 8 + opp k) ≠ NB → ev (T (k * 8 + k)) ≠ NB → ev (T (j * 8 + j)) ≠ NB → C (i * 8 + j) ≠ NB ∧ 2 * C (i * 8 + j) ≤ 2 * T (i * 8 + opp k) + (ev (T (k * 8 + k)) + ev (T (j * 8 + j))) := by
    intro i j k hi hj hk h1 h2 h3
    have m := tri_mix hT hS hi hk h1 h2 (hB _ (by omega))
    have l := (sh hi hj).le2 m.1 h3
    exact ⟨l.1, by have := l.2; have := m.2; omega⟩
  refine ⟨?_, zero, ?_, ?_, sym, ?_⟩
  · intro k hk i j hi hj
    have ho := opp_lt hk
    have a := sh hi ho
    have b := sh hk hj
    rcases a.cas with q | ⟨q1, q2, q3⟩ | ⟨q1, q2, q3⟩
    · exact .inl q
    · rcases b.cas with w | ⟨w1, w2, w3⟩ | ⟨w1, w2, w3⟩
      · exact .inr (.inl w)
      · right; right
        obtain ⟨t1, t2⟩ := ((hT k hk i j hi hj).resolve_left q3).resolve_left w3
        have l := (sh hi hj).le1 t1
        exact ⟨l.1, by rw [q2, w2]; omega⟩
      · right; right
        have l := mixL hi hj hk q3 w1 w2
        exact ⟨l.1, by rw [q2]; omega⟩
    · rcases b.cas with w | ⟨w1, w2, w3⟩ | ⟨w1, w2, w3⟩
      · exact .inr (.inl w)
      · right; right
        have e : T (j * 8 + opp (opp k)) = T (k * 8 + j) := by rw [opp_opp k hk]; exact hS j k hj hk
        have l := mixL hj hi ho (by rw [e]; exact w3) q2 q1
        rw [e, sym j i hj hi] at l
        exact ⟨l.1, by rw [w2]; omega⟩
      · right; right
        have l := (sh hi hj).le2 q1 w2
        have := dd k hk w1 q2
        exact ⟨l.1, by omega⟩
  · intro i hi
    rw [dia hi]
    rcases ev_bd (hB (i * 8 + i) (by omega)) with q | q
    · exact .inl q
    · exact .inr q.2.2
  · intro i j hi hj h1 h2
    rw [dia hi] at h1 ⊢
    rw [dia hj] at h2 ⊢
    exact (sh hi hj).le2 h1 h2
  · intro a ha
    have ea : a = a / 8 * 8 + a % 8 := by omega
    rw [ea]
    rcases (sh (i := a / 8) (j := a % 8) (by omega) (by omega)).cas with q | ⟨_, q2, q3⟩ | ⟨q1, q2, q3⟩
    · exact .inl q
    · right
      rw [q2]
      exact (hB _ (by omega)).resolve_left q3
    · right
      have e1 := (ev_bd (hB (a / 8 * 8 + a / 8) (by omega))).resolve_left q1
      have e2 := (ev_bd (hB (a % 8 * 8 + a % 8) (by omega))).resolve_left q2
      omega
/-- What the program starts from. -/
structure Raw (M : Nat → Int) : Prop where
  bd : Bd2 4000 8000 M
  sym : Sym M
  zero : ∀ i, i < 8 → M (i * 8 + opp i) = 0
theorem Raw.hi {M : Nat → Int} (h : Raw M) : ∀ a, a < 64 → M a ≤ NB := by
  intro a ha
  rcases h.bd.all (by omega) a ha with q | q
  · omega
  · unfold NB; omega
theorem Raw.tc {M : Nat → Int} (h : Raw M) (hc : conF (sharp M) 8 = false) : TC (sharp M) := by
  have hc' := conF_false hc
  have hz : ∀ t, t < 8 → 0 ≤ fw M 8 (t * 8 + opp t) := by
    intro t ht
    have h1 := hc' t ht
    unfold sharp at h1
    have h2 := ahF_le (rdF (fw M 8) 8) 64 (t * 8 + opp t)
    have h3 := rdF_le (fw M 8) 8 (t * 8 + opp t)
    omega
  have hx := fw_ex h.zero hz
  have hT : Tri (fw M 8) := fw_tri h.bd 8 (Nat.le_refl _) hx
  have h0 : ∀ t, t < 8 → fw M 8 (t * 8 + opp t) = 0 := by
    intro t ht
    have h1 := fw_le M 8 (t * 8 + opp t)
    rw [h.zero t ht] at h1
    have := hz t ht
    omega
  exact sh_tc hT (fw_sym h.sym hT h.hi) (fw_bd h.bd 8 (Nat.le_refl _) hx) h0 hc'

end Go.Proofs.YtffjklakdnfeiaaDoor

namespace Go.Proofs.YtffjklakdnfeiaaDoor
open Go.RowKit

/-- The number of a variable, -1 where it is none. -/
def varOf (c : Int) : Int := if 97 ≤ c ∧ c ≤ 100 then c - 97 else -1

/-- A block of cells, none of them frozen. -/
def At (w : World) (b : Nat) (c : Array Value) (t : TypeId) : Prop := w.heap[b]? = some (.cells c t (0, 0))

theorem At.cell {w : World} {b : Nat} {c : Array Value} {t : TypeId} (h : At w b c t) (i : Nat) : w.cell? ⟨b, i, none⟩ = c[i]? := by
  unfold At at h; simp [World.cell?, h]
theorem At.free {w : World} {b : Nat} {c : Array Value} {t : TypeId} (h : At w b c t) (i : Nat) : w.frozen? ⟨b, i, none⟩ = false := by
  unfold At at h; simp [World.frozen?, h]
theorem At.lt {w : World} {b : Nat} {c : Array Value} {t : TypeId} (h : At w b c t) : b < w.heap.size := lt_of_block h
theorem At.ne {w : World} {a b : Nat} {c d : Array Value} {t u : TypeId} (h : At w a c t) (k : At w b d u) (hn : t ≠ u) : a ≠ b := by
  intro e; subst e; unfold At at h k; rw [h] at k; simp at k; exact hn k.2
theorem At.same {w w' : World} {b : Nat} {c : Array Value} {t : TypeId} (h : At w b c t) (k : w'.heap[b]? = w.heap[b]?) : At w' b c t := by
  unfold At at *; rw [k]; exact h
theorem At.other {w : World} {b : Nat} {c : Array Value} {t : TypeId} (h : At w b c t) {a : Nat} (o : Nat) (u : Value) (hn : b ≠ a) : At (w.setCell ⟨a, o, none⟩ u) b c t :=
  h.same (Below.heap_setCell _ _ _ _ hn)
theorem At.put {w : World} {b : Nat} {c : Array Value} {t : TypeId} (h : At w b c t) (o : Nat) (u : Value) : At (w.setCell ⟨b, o, none⟩ u) b (c.setIfInBounds o u) t := by
  have hlt := h.lt
  unfold At at *
  have h' : w.heap[b] = .cells c t (0, 0) := by simpa [Array.getElem?_eq_getElem hlt] using h
  show (w.heap.modify b _)[b]? = _
  rw [Array.getElem?_eq_getElem (by simpa using hlt), Array.getElem_modify_self, h']
  rfl
theorem At.drewN {w : World} {b : Nat} {c : Array Value} {t : TypeId} (h : At w b c t) (k : Nat) : At (w.drewN k) b c t := h

theorem mul_wrap (a b : Int) (h0 : -1 ≤ a) (h1 : a ≤ 1) (h2 : -99 ≤ b) (h3 : b ≤ 99) : wrap64 (a * b) = a * b := by
  have : -99 ≤ a * b ∧ a * b ≤ 99 := by
    rcases (show a = -1 ∨ a = 0 ∨ a = 1 by omega) with rfl | rfl | rfl <;> omega
  unfold wrap64; omega


end Go.Proofs.YtffjklakdnfeiaaDoor

namespace Go.Proofs.YtffjklakdnfeiaaDoor
open Go.RowKit

/-- Of the blocks that were there nothing but m has turned; new ones may have come. -/
structure Onl (m : Nat) (w w' : World) : Prop where
  os : w'.os = w.os
  tape : w'.tape = w.tape
  output : w'.output = w.output
  size : w.heap.size ≤ w'.heap.size
  block : ∀ k, k < w.heap.size → k ≠ m → w'.heap[k]? = w.heap[k]?

variable {m : Nat} {a b c w w' : World}
theorem Onl.refl (m : Nat) (w : World) : Onl m w w := ⟨rfl, rfl, rfl, Nat.le_refl _, fun _ _ _ => rfl⟩
theorem Onl.trans (h : Onl m a b) (k : Onl m b c) : Onl m a c :=
  ⟨k.os.trans h.os, k.tape.trans h.tape, k.output.trans h.output, Nat.le_trans h.size k.size, fun i hi hn => (k.block i (Nat.lt_of_lt_of_le hi h.size) hn).trans (h.block i hi hn)⟩
theorem Onl.of (h : Below w.heap.size w w') (m : Nat) : Onl m w w' := ⟨h.os, h.tape, h.output, h.size, fun k hk _ => h.block k hk⟩
/-- A block of the call's own is written. -/
theorem Onl.own (h : Onl m a b) {q : Nat} (hq : q = m ∨ a.heap.size ≤ q) (o : Nat) (u : Value) : Onl m a (b.setCell ⟨q, o, none⟩ u) :=
  ⟨h.os, h.tape, h.output, by have := h.size; simpa [World.setCell] using this, fun k hk hn => (Below.heap_setCell _ _ _ _ (by show k ≠ q; omega)).trans (h.block k hk hn)⟩
theorem Onl.setCell (h : Onl m a b) (o : Nat) (u : Value) : Onl m a (b.setCell ⟨m, o, none⟩ u) := h.own (.inl rfl) o u
theorem Onl.alloc (h : Onl m a b) (o : Obj) : Onl m a (b.alloc o) := h.trans (Onl.of ((Below.refl _ _).alloc (Nat.le_refl _) _) m)
theorem Onl.drewN (h : Onl m a b) (n : Nat) : Onl m a (b.drewN n) := ⟨h.os, h.tape, h.output, h.size, h.block⟩
theorem Onl.below (h : Onl m a b) {B : Nat} (h1 : B ≤ m) (h2 : B ≤ a.heap.size) : Below B a b := ⟨h.os, h.tape, h.output, h.size, fun k hk => h.block k (by omega) (by omega)⟩
theorem Onl.at_ {q : Nat} {c : Array Value} {t : TypeId} (h : Onl m w w') (ha : At w q c t) (hn : q ≠ m) : At w' q c t := ha.same (h.block q ha.lt hn)
theorem Onl.cell (h : Onl m w w') {q : Nat} (hq : q < w.heap.size) (hn : q ≠ m) (i : Nat) : w'.cell? ⟨q, i, none⟩ = w.cell? ⟨q, i, none⟩ := World.cell?_of_block (a := ⟨q, i, none⟩) (h.block q hq hn)
theorem At.keep {w w' : World} {B b : Nat} {c : Array Value} {t : TypeId} (h : At w b c t) (hb : Below B w w') (hlt : b < B) : At w' b c t := h.same (hb.block b hlt)
theorem At.allocH {b : Nat} {c : Array Value} {t : TypeId} (h : At w b c t) (o : Obj) : At (w.alloc o) b c t := h.keep ((Below.refl _ _).alloc (Nat.le_refl _) _) h.lt
theorem At.new (w : World) (c : Array Value) (t : TypeId) : At (w.alloc (.cells c t)) w.heap.size c t := by
  show (w.heap.push _)[w.heap.size]? = _
  simp

end Go.Proofs.YtffjklakdnfeiaaDoor

namespace Go.Proofs.YtffjklakdnfeiaaDoor
open Go.RowKit

abbrev tO : TypeId := 42
/-- An octagon's cells. -/
def oc (e : Bool) (M : Nat → Int) : Array Value := (Value.bool e :: (List.range 64).map fun k => Value.int .i64 (M k)).toArray
theorem oc_size (e : Bool) (M : Nat → Int) : (oc e M).size = 65 := by simp [oc]
theorem oc_at (e : Bool) (M : Nat → Int) (k : Nat) (h : k < 64) : (oc e M)[1 + k]? = some (.int .i64 (M k)) := by
  rw [Nat.add_comm]; simp [oc, h]
theorem oc_0 (e : Bool) (M : Nat → Int) : (oc e M)[0]? = some (.bool e) := by simp [oc]
theorem oc_set (e : Bool) (M : Nat → Int) (k : Nat) (h : k < 64) (x : Int) : (oc e M).setIfInBounds (1 + k) (.int .i64 x) = oc e (upd M k x) := by
  apply Array.ext
  · simp [oc]
  · intro i h1 h2
    simp only [oc_size] at h2
    rw [Array.getElem_setIfInBounds (by rw [oc_size]; exact h2)]
    by_cases e1 : 1 + k = i
    · subst e1
      rw [if_pos rfl]
      have := oc_at e (upd M k x) k h
      rw [Array.getElem?_eq_getElem (by rw [oc_size]; exact h2), upd_same] at this
      exact (Option.some.inj this).symm
    · rw [if_neg e1]
      cases i with
      | zero =>
        have a := oc_0 e M
        have b := oc_0 e (upd M k x)
        rw [Array.getElem?_eq_getElem (by rw [oc_size]; exact h2)] at a b
        rw [Option.some.inj a, Option.some.inj b]
      | succ i =>
        have a := oc_at e M i (by omega)
        have b := oc_at e (upd M k x) i (by omega)
        rw [show 1 + i = i + 1 by omega] at a b
        rw [Array.getElem?_eq_getElem (by rw [oc_size]; exact h2)] at a b
        rw [Option.some.inj a, Option.some.inj b, upd_other _ _ (by omega)]
theorem oc_setE (e e' : Bool) (M : Nat → Int) : (oc e M).setIfInBounds 0 (.bool e') = oc e' M := by simp [oc]
theorem oc_congr {e : Bool} {M M' : Nat → Int} (h : ∀ k, k < 64 → M k = M' k) : oc e M = oc e M' := by
  unfold oc
  congr 2
  apply List.map_congr_left
  intro k hk
  rw [h k (by simpa using hk)]

/-- Numbers that Go's own do not outgrow. -/
def Sm (M : Nat → Int) : Prop := ∀ k, k < 64 → -100000000000 ≤ M k ∧ M k ≤ 1000000

set_option maxRecDepth 100000 in
set_option maxHeartbeats 800000 in
theorem o_opposite (i : Nat) (hi : i < 8) (w : World) : Calls Tryd.prog 98 #[.int .i64 (i : Int)] w fun e w' => e = .returned (.int .i64 ((opp i : Nat) : Int)) ∧ w' = w := by
  rcases (show i = 0 ∨ i = 1 ∨ i = 2 ∨ i = 3 ∨ i = 4 ∨ i = 5 ∨ i = 6 ∨ i = 7 by omega) with rfl | rfl | rfl | rfl | rfl | rfl | rfl | rfl
  all_goals
    go_enter Tryd.func98, Tryd.ntmps98
    go_wp2_with fail
    go_ret
    exact ⟨rfl, rfl⟩

set_option maxRecDepth 100000 in
set_option maxHeartbeats 800000 in
theorem o_plus (a b : Int) (ha : -100000000000 ≤ a ∧ a ≤ 1000000) (hb : -100000000000 ≤ b ∧ b ≤ 1000000) (w : World) : Calls Tryd.prog 97 #[.int .i64 a, .int .i64 b] w fun e w' => e = .returned (.int .i64 (pl a b)) ∧ w' = w := by
  by_cases h1 : a = 1000000
  · subst h1
    have HE : Hid (pl 1000000 b = 1000000) := if_pos (.inl rfl)
    go_enter Tryd.func97, Tryd.ntmps97
    go_wp2_with fail
    go_ret
    exact ⟨by rw [HE.out]; rfl, rfl⟩
  have q1 : (a == 1000000) = false := by simpa using h1
  by_cases h2 : b = 1000000
  · subst h2
    have HE : Hid (pl a 1000000 = 1000000) := if_pos (.inr rfl)
    go_enter Tryd.func97, Tryd.ntmps97
    go_wp2_with fail
    go_ret
    exact ⟨by rw [HE.out]; rfl, rfl⟩
  have q2 : (b == 1000000) = false := by simpa using h2
  have HE : Hid (pl a b = a + b) := if_neg (fun e => e.elim h1 h2)
  obtain ⟨a0, a1⟩ := ha
  obtain ⟨b0, b1⟩ := hb
  clear h1 h2
  go_enter Tryd.func97, Tryd.ntmps97
  go_wp2_with fail
  go_ret
  exact ⟨by rw [HE.out]; rfl, rfl⟩

theorem half_floor (n : Int) : (n < n.tdiv 2 * 2 → n / 2 = n.tdiv 2 - 1) ∧ (¬ n < n.tdiv 2 * 2 → n / 2 = n.tdiv 2) := by
  have := tdiv2 n
  rcases Int.lt_or_le n 0 with e | e
  · rw [this.2 e]; omega
  · rw [this.1 e]; omega

set_option maxRecDepth 100000 in
set_option maxHeartbeats 800000 in
theorem o_halfBelow (n : Int) (hn : -100000000000 ≤ n ∧ n ≤ 1000000) (w : World) : Calls Tryd.prog 99 #[.int .i64 n] w fun e w' => e = .returned (.int .i64 (n / 2)) ∧ w' = w := by
  have hb := tdiv2_le n
  have hf := half_floor n
  obtain ⟨n0, n1⟩ := hn
  obtain ⟨b0, b1⟩ := hb
  by_cases h : n < n.tdiv 2 * 2
  · have HE : Hid (n / 2 = n.tdiv 2 - 1) := hf.1 h
    clear hf
    go_enter Tryd.func99, Tryd.ntmps99
    go_wp2_with fail
    go_ret
    exact ⟨by rw [HE.out]; rfl, rfl⟩
  · have HE : Hid (n / 2 = n.tdiv 2) := hf.2 h
    clear hf
    go_enter Tryd.func99, Tryd.ntmps99
    go_wp2_with fail
    go_ret
    exact ⟨by rw [HE.out]; rfl, rfl⟩

end Go.Proofs.YtffjklakdnfeiaaDoor

