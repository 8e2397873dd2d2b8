import Derived.Test.YtffajooegiempabDoorJ4
/- Sums that nothing more follows from: the chains, one after the other, come to them. No Go in here. -/
namespace Go.Proofs.YtffajooegiempabDoor

def mn (x y : Int) : Int := if y < x then y else x
/-- x is no more than a and b together (where there is a bound). -/
def T3 (x a b : Int) : Prop := a = NB ∨ b = NB ∨ (x ≠ NB ∧ x ≤ a + b)
def Bd (U : Int) (M : Nat → Int) : Prop := ∀ a, a < 64 → M a = NB ∨ M a ≤ U
theorem opp_opp : ∀ i : Nat, i < 8 → opp (opp i) = i := by decide
theorem opp_ne (i : Nat) : opp i ≠ i := by unfold opp; split <;> omega

theorem pl_zero_right (x : Int) : pl x 0 = x := by
  unfold pl NB
  split
  · omega
  · omega
theorem pl_zero_left (x : Int) : pl 0 x = x := by
  unfold pl NB
  split
  · omega
  · omega
theorem mn_self (x : Int) : mn x x = x := by unfold mn; split <;> rfl

/-- A chain in place does what one aside would do. -/
theorem chF_at {s : Nat} {M : Nat → Int} (hs : s < 8) (h0 : M (s * 8 + opp s) = 0) : ∀ k, k ≤ 64 → ∀ a, a < 64 → chF s M k a = if a < k then mn (M a) (pl (M (a / 8 * 8 + opp s)) (M (s * 8 + a % 8))) else M a := by
  have ho := opp_lt hs
  intro k
  induction k with
  | zero => intro _ a _; rw [chF, if_neg (by omega)]
  | succ k ih =>
    intro hk a ha
    have hc := ih (by omega)
    have e1 : chF s M k (k / 8 * 8 + opp s) = M (k / 8 * 8 + opp s) := by
      rw [hc _ (by omega)]
      split
      · rw [show (k / 8 * 8 + opp s) / 8 = k / 8 by omega, show (k / 8 * 8 + opp s) % 8 = opp s by omega, h0, pl_zero_right, mn_self]
      · rfl
    have e2 : chF s M k (s * 8 + k % 8) = M (s * 8 + k % 8) := by
      rw [hc _ (by omega)]
      split
      · rw [show (s * 8 + k % 8) / 8 = s by omega, show (s * 8 + k % 8) % 8 = k % 8 by omega, h0, pl_zero_left, mn_self]
      · rfl
    have e3 : chF s M k k = M k := by rw [hc k (by omega), if_neg (by omega)]
    rw [chF]
    unfold ch1
    rw [e1, e2, e3]
    by_cases q : a = k
    · subst q
      rw [if_pos (show a < a + 1 by omega)]
      unfold mn
      split
      · exact upd_same _ _ _
      · exact e3
    · have : (if pl (M (k / 8 * 8 + opp s)) (M (s * 8 + k % 8)) < M k then upd (chF s M k) k (pl (M (k / 8 * 8 + opp s)) (M (s * 8 + k % 8))) else chF s M k) a = chF s M k a := by
        split
        · exact upd_other _ _ q
        · rfl
      rw [this, hc a ha]
      by_cases z : a < k
      · rw [if_pos z, if_pos (by omega)]
      · rw [if_neg z, if_neg (by omega)]
theorem chain_at {s : Nat} {M : Nat → Int} (hs : s < 8) (h0 : M (s * 8 + opp s) = 0) {i j : Nat} (hi : i < 8) (hj : j < 8) : chF s M 64 (i * 8 + j) = mn (M (i * 8 + j)) (pl (M (i * 8 + opp s)) (M (s * 8 + j))) := by
  rw [chF_at hs h0 64 (Nat.le_refl _) _ (by omega), if_pos (by omega), show (i * 8 + j) / 8 = i by omega, show (i * 8 + j) % 8 = j by omega]

def TriK (M : Nat → Int) (k : Nat) : Prop := ∀ i j, i < 8 → j < 8 → T3 (M (i * 8 + j)) (M (i * 8 + opp k)) (M (k * 8 + j))

/-- What a lesser of two is, where it is a bound. -/
theorem mnpl {a p r : Int} (h : mn a (pl p r) ≠ NB) : (mn a (pl p r) = a ∧ a ≠ NB) ∨ (mn a (pl p r) = p + r ∧ p ≠ NB ∧ r ≠ NB) := by
  unfold mn at h ⊢
  split
  · rename_i q
    rw [if_pos q] at h
    obtain ⟨h1, h2, h3⟩ := pl_fin h
    exact .inr ⟨h3, h1, h2⟩
  · rename_i q
    rw [if_neg q] at h
    exact .inl ⟨rfl, h⟩
theorem mnpl_le1 {x p q U : Int} (hU : U < 1000000) (hx : x ≠ NB) (hxU : x = NB ∨ x ≤ U) : mn x (pl p q) ≠ NB ∧ mn x (pl p q) ≤ x := by
  have := hxU.resolve_left hx
  unfold mn NB at *
  split <;> omega
theorem mnpl_le2 {x p q U : Int} (hU : 2 * U < 1000000) (hp : p ≠ NB) (hq : q ≠ NB) (hpU : p = NB ∨ p ≤ U) (hqU : q = NB ∨ q ≤ U) : mn x (pl p q) ≠ NB ∧ mn x (pl p q) ≤ p + q := by
  have h1 := hpU.resolve_left hp
  have h2 := hqU.resolve_left hq
  have e : pl p q = p + q := if_neg (fun e => e.elim hp hq)
  rw [e]
  unfold mn NB at *
  split <;> omega
theorem tri_step {x a b p q r t U : Int} (hU : 2 * U < 1000000) (hU0 : 0 ≤ U) (hx : x = NB ∨ x ≤ U) (hp : p = NB ∨ p ≤ U) (hq : q = NB ∨ q ≤ U)
    (h1 : T3 x a b) (h2 : T3 p a t) (h3 : T3 q r b) (h4 : T3 0 r t) : T3 (mn x (pl p q)) (mn a (pl p r)) (mn b (pl t q)) := by
  by_cases hA : mn a (pl p r) = NB
  · exact .inl hA
  by_cases hB : mn b (pl t q) = NB
  · exact .inr (.inl hB)
  right; right
  rcases mnpl hA with ⟨eA, a1⟩ | ⟨eA, a1, a2⟩
  · rcases mnpl hB with ⟨eB, b1⟩ | ⟨eB, b1, b2⟩
    · rw [eA, eB]
      obtain ⟨z1, z2⟩ := (h1.resolve_left a1).resolve_left b1
      have := mnpl_le1 (p := p) (q := q) (by omega) z1 hx
      exact ⟨this.1, by omega⟩
    · rw [eA, eB]
      obtain ⟨z1, z2⟩ := (h2.resolve_left a1).resolve_left b1
      have := mnpl_le2 (x := x) hU z1 b2 hp hq
      exact ⟨this.1, by omega⟩
  · rcases mnpl hB with ⟨eB, b1⟩ | ⟨eB, b1, b2⟩
    · rw [eA, eB]
      obtain ⟨z1, z2⟩ := (h3.resolve_left a2).resolve_left b1
      have := mnpl_le2 (x := x) hU a1 z1 hp hq
      exact ⟨this.1, by omega⟩
    · rw [eA, eB]
      obtain ⟨z1, z2⟩ := (h4.resolve_left a2).resolve_left b1
      have := mnpl_le2 (x := x) hU a1 b2 hp hq
      exact ⟨this.1, by omega⟩
theorem tri_new {x p q U : Int} (hU : 2 * U < 1000000) (hp : p = NB ∨ p ≤ U) (hq : q = NB ∨ q ≤ U) : T3 (mn x (pl p q)) p q := by
  by_cases h1 : p = NB
  · exact .inl h1
  by_cases h2 : q = NB
  · exact .inr (.inl h2)
  exact .inr (.inr (mnpl_le2 hU h1 h2 hp hq))

theorem chain_tri {s : Nat} {M : Nat → Int} {U : Int} (hs : s < 8) (h0 : M (s * 8 + opp s) = 0) (hU : 2 * U < 1000000) (hU0 : 0 ≤ U) (hB : Bd U M) (hT : ∀ k, k < s → TriK M k) : ∀ k, k < s + 1 → TriK (chF s M 64) k := by
  have ho := opp_lt hs
  intro k hk i j hi hj
  rcases Nat.lt_or_eq_of_le (Nat.lt_succ_iff.1 hk) with hk' | hk'
  · have hk8 : k < 8 := by omega
    have hok := opp_lt hk8
    rw [chain_at hs h0 hi hj, chain_at hs h0 hi hok, chain_at hs h0 hk8 hj]
    have h4 := hT k hk' s (opp s) hs ho
    rw [h0] at h4
    exact tri_step hU hU0 (hB _ (by omega)) (hB _ (by omega)) (hB _ (by omega)) (hT k hk' i j hi hj) (hT k hk' i (opp s) hi ho) (hT k hk' s j hs hj) h4
  · subst hk'
    rw [chain_at hs h0 hi hj, chain_at hs h0 hi ho, chain_at hs h0 hs hj, h0, pl_zero_right, pl_zero_left, mn_self, mn_self]
    exact tri_new hU (hB _ (by omega)) (hB _ (by omega))

theorem mn_le_left (x y : Int) : mn x y ≤ x := by unfold mn; split <;> omega
theorem mn_le_right (x y : Int) : mn x y ≤ y := by unfold mn; split <;> omega
/-- Each chain up to here has found its own side at 0. -/
def Ex (M : Nat → Int) (s : Nat) : Prop := ∀ r, r < s → fw M r (r * 8 + opp r) = 0
theorem Ex.lt {M : Nat → Int} {s r : Nat} (h : Ex M s) (hr : r ≤ s) : Ex M r := fun q hq => h q (by omega)
/- How great a sum gets: it is made of at most seven of the first ones. -/
theorem Bd.mono {U V : Int} {M : Nat → Int} (h : Bd U M) (hUV : U ≤ V) : Bd V M := fun a ha => (h a ha).imp id (fun q => Int.le_trans q hUV)
def cntB (f : Nat → Bool) : Nat → Nat
  | 0 => 0
  | n + 1 => cntB f n + (if f n then 1 else 0)
theorem cntB_le (f : Nat → Bool) : ∀ n, cntB f n ≤ n
  | 0 => Nat.le_refl _
  | n + 1 => by have := cntB_le f n; rw [cntB]; split <;> omega
theorem cntB_mono {f g : Nat → Bool} (h : ∀ j, f j = true → g j = true) : ∀ n, cntB f n ≤ cntB g n
  | 0 => Nat.le_refl _
  | n + 1 => by
    have := cntB_mono h n
    rw [cntB, cntB]
    by_cases q : f n = true
    · rw [if_pos q, if_pos (h n q)]; omega
    · rw [if_neg q]; omega
theorem cntB_lt {f g : Nat → Bool} (h : ∀ j, f j = true → g j = true) {j : Nat} (h1 : g j = true) (h2 : ¬ f j = true) : ∀ n, j < n → cntB f n + 1 ≤ cntB g n
  | 0, hn => by omega
  | n + 1, hn => by
    rw [cntB, cntB]
    rcases Nat.lt_or_eq_of_le (Nat.lt_succ_iff.1 hn) with q | q
    · have := cntB_lt h h1 h2 n q
      by_cases z : f n = true
      · rw [if_pos z, if_pos (h n z)]; omega
      · rw [if_neg z]; omega
    · subst q
      have := cntB_mono h j
      rw [if_neg h2, if_pos h1]; omega
theorem cntB_all {f : Nat → Bool} : ∀ n, n ≤ cntB f n → ∀ j, j < n → f j = true
  | 0, _, j, hj => by omega
  | n + 1, h, j, hj => by
    have := cntB_le f n
    rw [cntB] at h
    by_cases z : f n = true
    · rw [if_pos z] at h
      rcases Nat.lt_or_eq_of_le (Nat.lt_succ_iff.1 hj) with q | q
      · exact cntB_all n (by omega) j q
      · rw [q]; exact z
    · rw [if_neg z] at h; omega
/-- What is reached among eight by steps is reached by seven. -/
theorem seven (P : Nat → Nat → Prop) (hm : ∀ k j, P k j → P (k + 1) j) (h8 : ∀ k j, P k j → j < 8) (hs : ∀ k, (∀ j, P (k + 1) j → P k j) → ∀ j, P (k + 2) j → P (k + 1) j) {i : Nat} (hi : P 0 i) : ∀ k j, P k j → P 7 j := by
  have hm' : ∀ a b j, P a j → P (a + b) j := by
    intro a b j h
    induction b with
    | zero => exact h
    | succ b ih => exact hm _ _ ih
  have hst : ∀ n, (∀ j, P (n + 1) j → P n j) → ∀ b j, P (n + b) j → P n j := by
    intro n hn
    have hall : ∀ b j, P (n + b + 1) j → P (n + b) j := by
      intro b
      induction b with
      | zero => exact hn
      | succ b ih => exact hs (n + b) ih
    intro b
    induction b with
    | zero => intro j h; exact h
    | succ b ih => intro j h; exact ih j (hall b j h)
  have dec : ∀ k j, ∃ b : Bool, b = true ↔ P k j := by
    intro k j
    rcases Classical.em (P k j) with q | q
    · exact ⟨true, by simp [q]⟩
    · exact ⟨false, by simp [q]⟩
  obtain ⟨F, hF⟩ : ∃ F : Nat → Nat → Bool, ∀ k j, F k j = true ↔ P k j := ⟨fun k j => Classical.choose (dec k j), fun k j => Classical.choose_spec (dec k j)⟩
  have main : ∀ n, (∃ k, k < n ∧ ∀ j, P (k + 1) j → P k j) ∨ n + 1 ≤ cntB (F n) 8 := by
    intro n
    induction n with
    | zero =>
      right
      have := cntB_lt (f := fun _ => false) (g := F 0) (fun j h => by cases h) ((hF 0 i).2 hi) (by decide) 8 (h8 0 i hi)
      omega
    | succ n ih =>
      rcases ih with ⟨k, hk, h⟩ | ih
      · exact .inl ⟨k, by omega, h⟩
      · rcases Classical.em (∀ j, P (n + 1) j → P n j) with q | q
        · exact .inl ⟨n, by omega, q⟩
        · obtain ⟨j, hj⟩ := Classical.not_forall.1 q
          obtain ⟨h1, h2⟩ := Classical.not_imp.1 hj
          have := cntB_lt (f := F n) (g := F (n + 1)) (fun j h => (hF _ _).2 (hm _ _ ((hF _ _).1 h))) ((hF _ _).2 h1) (fun h => h2 ((hF _ _).1 h)) 8 (h8 _ _ h1)
          right; omega
  intro k j h
  rcases main 7 with ⟨n, hn, q⟩ | q
  · have hk : P n j := by
      rcases Nat.lt_or_ge k n with z | z
      · have := hm' k (n - k) j h
        rwa [show k + (n - k) = n by omega] at this
      · exact hst n q (k - n) j (by rw [show n + (k - n) = k by omega]; exact h)
    have := hm' n (7 - n) j hk
    rwa [show n + (7 - n) = 7 by omega] at this
  · exact (hF 7 j).1 (cntB_all 8 q j (h8 _ _ h))
/-- Side j is reached from i in k steps, over sides below s. -/
def Rc (M : Nat → Int) (s i : Nat) : Nat → Nat → Prop
  | 0, j => j = i ∧ i < 8
  | k + 1, j => Rc M s i k j ∨ (j < 8 ∧ ∃ m, Rc M s i k m ∧ (m = i ∨ m < s) ∧ M (m * 8 + opp j) ≠ NB)
theorem Rc.lt {M : Nat → Int} {s i : Nat} : ∀ k j, Rc M s i k j → j < 8
  | 0, j, h => by have h' : j = i ∧ i < 8 := h; omega
  | k + 1, j, h => by
    rcases h with h | h
    · exact Rc.lt k j h
    · exact h.1
theorem Rc.seven {M : Nat → Int} {s i : Nat} (hi : i < 8) {k j : Nat} (h : Rc M s i k j) : Rc M s i 7 j := by
  refine Go.Proofs.YtffajooegiempabDoor.seven (Rc M s i) (fun k j h => .inl h) Rc.lt ?_ (i := i) ⟨rfl, hi⟩ k j h
  intro k hk j h
  rcases h with h | ⟨h8, m, h1, h2, h3⟩
  · exact h
  · exact .inr ⟨h8, m, hk m h1, h2, h3⟩
theorem Rc.up {M : Nat → Int} {s i : Nat} : ∀ k j, Rc M s i k j → Rc M (s + 1) i k j
  | 0, _, h => h
  | k + 1, j, h => by
    rcases h with h | ⟨h8, m, h1, h2, h3⟩
    · exact .inl (Rc.up k j h)
    · exact .inr ⟨h8, m, Rc.up k m h1, h2.imp id (fun q => by omega), h3⟩
theorem Rc.trans {M : Nat → Int} {s i a : Nat} (h1 : Rc M (s + 1) i a s) : ∀ k j, Rc M s s k j → Rc M (s + 1) i (a + k) j
  | 0, j, h => by have h' : j = s ∧ s < 8 := h; rw [h'.1]; exact h1
  | k + 1, j, h => by
    rcases h with h | ⟨h8, m, h2, h3, h4⟩
    · exact .inl (Rc.trans h1 k j h)
    · exact .inr ⟨h8, m, Rc.trans h1 k m h2, .inr (by omega), h4⟩
theorem fw_reach {M : Nat → Int} : ∀ s, s ≤ 8 → Ex M s → ∀ i j, i < 8 → j < 8 → fw M s (i * 8 + opp j) ≠ NB → ∃ k, Rc M s i k j := by
  intro s
  induction s with
  | zero => intro _ _ i j hi hj h; exact ⟨1, .inr ⟨hj, i, ⟨rfl, hi⟩, .inl rfl, h⟩⟩
  | succ s ih =>
    intro hs hx i j hi hj h
    have hx' := hx.lt (show s ≤ s + 1 by omega)
    rw [fw, chain_at (by omega) (hx s (by omega)) hi (opp_lt hj)] at h
    rcases mnpl h with ⟨_, z⟩ | ⟨_, z1, z2⟩
    · obtain ⟨k, hk⟩ := ih (by omega) hx' i j hi hj z
      exact ⟨k, Rc.up k j hk⟩
    · obtain ⟨a, ha⟩ := ih (by omega) hx' i s hi (by omega) z1
      obtain ⟨b, hb⟩ := ih (by omega) hx' s j (by omega) hj z2
      exact ⟨a + b, Rc.trans (Rc.up a s ha) b j hb⟩
theorem Rc.le {M T : Nat → Int} {s i : Nat} {U : Int} (hi : i < 8) (hU0 : 0 ≤ U) (hU : U < 1000000) (hB : Bd U M) (h0 : M (i * 8 + opp i) = 0) (hle : ∀ a, T a ≤ M a) (hT : ∀ k, k < s → TriK T k) : ∀ k j, Rc M s i k j → T (i * 8 + opp j) ≠ NB ∧ T (i * 8 + opp j) ≤ k * U := by
  intro k
  induction k with
  | zero =>
    intro j h
    have h' : j = i ∧ i < 8 := h
    rw [h'.1]
    have := hle (i * 8 + opp i)
    rw [h0] at this
    unfold NB
    omega
  | succ k ih =>
    intro j h
    have e : (((k + 1 : Nat) : Int)) * U = k * U + U := by rw [Int.natCast_add, Int.add_mul]; simp
    have hkU : 0 ≤ (k : Int) * U := Int.mul_nonneg (by omega) hU0
    rw [e]
    rcases h with h | ⟨h8, m, h1, h2, h3⟩
    · have := ih j h
      exact ⟨this.1, by omega⟩
    · have hm8 := Rc.lt k m h1
      have hoj := opp_lt h8
      have hb := (hB (m * 8 + opp j) (by omega)).resolve_left h3
      have hl := hle (m * 8 + opp j)
      rcases h2 with h2 | h2
      · subst h2
        unfold NB
        exact ⟨by omega, by omega⟩
      · have a := ih m h1
        have t := hT m h2 i (opp j) hi hoj
        have n2 : T (m * 8 + opp j) ≠ NB := by unfold NB; omega
        obtain ⟨t1, t2⟩ := (t.resolve_left a.1).resolve_left n2
        exact ⟨t1, by omega⟩
theorem fw_both {M : Nat → Int} {U : Int} (hU0 : 0 ≤ U) (hU : 14 * U < 1000000) (hM : Bd U M) (h0 : ∀ i, i < 8 → M (i * 8 + opp i) = 0) : ∀ s, s ≤ 8 → Ex M s → Bd (7 * U) (fw M s) ∧ ∀ k, k < s → TriK (fw M s) k := by
  intro s
  induction s with
  | zero =>
    intro _ _
    exact ⟨hM.mono (by omega), fun k hk => by omega⟩
  | succ s ih =>
    intro hs h
    obtain ⟨b, t⟩ := ih (by omega) (h.lt (by omega))
    have t' : ∀ k, k < s + 1 → TriK (fw M (s + 1)) k := by
      rw [fw]
      exact chain_tri (by omega) (h s (by omega)) (U := 7 * U) (by omega) (by omega) b t
    refine ⟨fun a ha => ?_, t'⟩
    by_cases q : fw M (s + 1) a = NB
    · exact .inl q
    · right
      have hi : a / 8 < 8 := by omega
      have hj : a % 8 < 8 := by omega
      have e : a = a / 8 * 8 + opp (opp (a % 8)) := by rw [opp_opp _ hj]; omega
      rw [e] at q ⊢
      obtain ⟨k, hk⟩ := fw_reach (s + 1) hs h (a / 8) (opp (a % 8)) hi (opp_lt hj) q
      have := (Rc.le hi hU0 (by omega) hM (h0 _ hi) (fun a => fw_le M (s + 1) a) t' 7 _ (hk.seven hi)).2
      omega
theorem fw_bd {M : Nat → Int} {U : Int} (hU0 : 0 ≤ U) (hU : 14 * U < 1000000) (hM : Bd U M) (h0 : ∀ i, i < 8 → M (i * 8 + opp i) = 0) (s : Nat) (hs : s ≤ 8) (h : Ex M s) : Bd (7 * U) (fw M s) := (fw_both hU0 hU hM h0 s hs h).1
theorem fw_tri {M : Nat → Int} {U : Int} (hU0 : 0 ≤ U) (hU : 14 * U < 1000000) (hM : Bd U M) (h0 : ∀ i, i < 8 → M (i * 8 + opp i) = 0) (s : Nat) (hs : s ≤ 8) (h : Ex M s) : ∀ k, k < s → TriK (fw M s) k := (fw_both hU0 hU hM h0 s hs h).2

/- What is closed and lies below stays below. -/
def Tri (N : Nat → Int) : Prop := ∀ k, k < 8 → TriK N k
def Le (N M : Nat → Int) : Prop := ∀ a, a < 64 → N a ≤ M a
theorem below_ch1 {N M : Nat → Int} {s k : Nat} (hs : s < 8) (hk : k < 64) (hN : Tri N) (h : Le N M) (hi : ∀ a, a < 64 → M a ≤ NB) : Le N (ch1 s M k) := by
  have ho := opp_lt hs
  intro a ha
  unfold ch1
  split
  · rename_i q
    unfold upd
    split
    · rename_i e
      subst e
      have hle := hi a ha
      obtain ⟨q1, q2, q3⟩ := pl_fin (a := M (a / 8 * 8 + opp s)) (b := M (s * 8 + a % 8)) (by omega)
      rw [q3]
      have l1 := h (a / 8 * 8 + opp s) (by omega)
      have l2 := h (s * 8 + a % 8) (by omega)
      have m1 := hi (a / 8 * 8 + opp s) (by omega)
      have m2 := hi (s * 8 + a % 8) (by omega)
      have t := hN s hs (a / 8) (a % 8) (by omega) (by omega)
      rw [show a / 8 * 8 + a % 8 = a by omega] at t
      obtain ⟨_, t2⟩ := (t.resolve_left (by omega)).resolve_left (by omega)
      omega
    · exact h a ha
  · exact h a ha
theorem below_chF {N M : Nat → Int} {s : Nat} (hs : s < 8) (hN : Tri N) (h : Le N M) (hi : ∀ a, a < 64 → M a ≤ NB) : ∀ k, k ≤ 64 → Le N (chF s M k) := by
  intro k
  induction k with
  | zero => intro _; exact h
  | succ k ih => intro hk; rw [chF]; exact below_ch1 hs (by omega) hN (ih (by omega)) (fun a ha => Int.le_trans (chF_le s M k a) (hi a ha))
theorem below_fw {N M : Nat → Int} (hN : Tri N) (h : Le N M) (hi : ∀ a, a < 64 → M a ≤ NB) : ∀ s, s ≤ 8 → Le N (fw M s) := by
  intro s
  induction s with
  | zero => intro _; exact h
  | succ s ih => intro hs; rw [fw]; exact below_chF (by omega) hN (ih (by omega)) (fun a ha => Int.le_trans (fw_le M s a) (hi a ha)) 64 (Nat.le_refl _)

def tp (M : Nat → Int) : Nat → Int := fun a => M (a % 8 * 8 + a / 8)
theorem tp_at (M : Nat → Int) {i j : Nat} (_hi : i < 8) (hj : j < 8) : tp M (i * 8 + j) = M (j * 8 + i) := by
  unfold tp
  rw [show (i * 8 + j) % 8 = j by omega, show (i * 8 + j) / 8 = i by omega]
theorem T3.comm {x a b : Int} (h : T3 x a b) : T3 x b a := by
  rcases h with h | h | ⟨h1, h2⟩
  · exact .inr (.inl h)
  · exact .inl h
  · exact .inr (.inr ⟨h1, by omega⟩)
theorem Tri.tp {N : Nat → Int} (h : Tri N) : Tri (tp N) := by
  intro k hk i j hi hj
  have ho := opp_lt hk
  rw [tp_at N hi hj, tp_at N hi ho, tp_at N hk hj]
  have t := h (opp k) ho j i hj hi
  rw [opp_opp k hk] at t
  exact t.comm
def Sym (M : Nat → Int) : Prop := ∀ i j, i < 8 → j < 8 → M (i * 8 + j) = M (j * 8 + i)
theorem fw_sym {M : Nat → Int} (hS : Sym M) (hT : Tri (fw M 8)) (hi : ∀ a, a < 64 → M a ≤ NB) : Sym (fw M 8) := by
  have hle : Le (tp (fw M 8)) M := by
    intro a ha
    have ea : a = a / 8 * 8 + a % 8 := by omega
    rw [ea, tp_at _ (by omega) (by omega), hS _ _ (by omega) (by omega)]
    exact fw_le M 8 _
  have := below_fw hT.tp hle hi 8 (Nat.le_refl _)
  intro i j hi' hj
  have h1 := this (i * 8 + j) (by omega)
  have h2 := this (j * 8 + i) (by omega)
  rw [tp_at _ hi' hj] at h1
  rw [tp_at _ hj hi'] at h2
  omega

end Go.Proofs.YtffajooegiempabDoor

/- Bounds that have been sharpened: nothing more follows from them. No Go in here. -/
namespace Go.Proofs.YtffajooegiempabDoor

theorem fw_mono (M : Nat → Int) (s : Nat) : ∀ k a, fw M (s + k) a ≤ fw M s a
  | 0, _ => Int.le_refl _
  | k + 1, a => by
    show chF (s + k) (fw M (s + k)) 64 a ≤ _
    exact Int.le_trans (chF_le _ _ 64 a) (fw_mono M s k a)
theorem fw_ex {M : Nat → Int} (h0 : ∀ t, t < 8 → M (t * 8 + opp t) = 0) (h : ∀ t, t < 8 → 0 ≤ fw M 8 (t * 8 + opp t)) : Ex M 8 := by
  intro r hr
  have h1 := fw_le M r (r * 8 + opp r)
  rw [h0 r hr] at h1
  have h2 := fw_mono M r (8 - r) (r * 8 + opp r)
  rw [show r + (8 - r) = 8 by omega] at h2
  have := h r hr
  omega

/-- What is made even. -/
def ev (x : Int) : Int := if x = NB then NB else x / 2 * 2
theorem rd_dia (M : Nat → Int) {i : Nat} (hi : i < 8) : rdF M 8 (i * 8 + i) = ev (M (i * 8 + i)) := by
  rw [rdF_at]
  unfold ev
  by_cases h : M (i * 8 + i) = NB
  · rw [if_neg (fun q => q.2.2 h), if_pos h, h]
  · rw [if_pos ⟨by omega, by omega, h⟩, if_neg h]
theorem rd_off (M : Nat → Int) {i j : Nat} (hi : i < 8) (hj : j < 8) (h : i ≠ j) : rdF M 8 (i * 8 + j) = M (i * 8 + j) := by
  rw [rdF_at, if_neg (by omega)]
theorem ev_fin {x : Int} (h : ev x ≠ NB) : x ≠ NB ∧ ev x = x / 2 * 2 := by
  unfold ev at h ⊢
  by_cases q : x = NB
  · rw [if_pos q] at h; exact absurd rfl h
  · exact ⟨q, if_neg q⟩
theorem ev_bd {x U : Int} (h : x = NB ∨ x ≤ U) : ev x = NB ∨ (x ≠ NB ∧ ev x ≤ U ∧ ev x % 2 = 0) := by
  unfold ev
  by_cases q : x = NB
  · rw [if_pos q]; exact .inl rfl
  · have := h.resolve_left q
    rw [if_neg q]
    exact .inr ⟨q, by omega, by omega⟩
theorem tdiv_even {x : Int} (h : x % 2 = 0) : x.tdiv 2 * 2 = x := by
  have h1 := tdiv2 x
  rcases Int.lt_or_le x 0 with e | e
  · rw [h1.2 e]; omega
  · rw [h1.1 e]; omega

/-- Each bound against those of the two sides alone: the bounds of one side stay. -/
theorem ahF_dia (N : Nat → Int) : ∀ k, k ≤ 64 → ∀ i, i < 8 → ahF N k (i * 8 + i) = N (i * 8 + i) := by
  intro k
  induction k with
  | zero => intro _ i _; rfl
  | succ k ih =>
    intro hk i hi
    have hc := ih (by omega)
    rw [ahF]
    unfold ah1
    split
    · rename_i q
      by_cases e : i * 8 + i = k
      · subst e
        rw [show (i * 8 + i) / 8 = i by omega, show (i * 8 + i) % 8 = i by omega, hc i hi] at q
        obtain ⟨q1, _, q3⟩ := pl_fin q.1
        have h2 := q.2
        rw [q3] at h2
        have := tdiv_even (x := N (i * 8 + i) + N (i * 8 + i)) (by omega)
        omega
      · rw [upd_other _ _ e]; exact hc i hi
    · exact hc i hi
theorem ahF_at (N : Nat → Int) : ∀ k, k ≤ 64 → ∀ a, a < 64 → ahF N k a = if a < k ∧ pl (N (a / 8 * 8 + a / 8)) (N (a % 8 * 8 + a % 8)) ≠ NB ∧ (pl (N (a / 8 * 8 + a / 8)) (N (a % 8 * 8 + a % 8))).tdiv 2 < N a then (pl (N (a / 8 * 8 + a / 8)) (N (a % 8 * 8 + a % 8))).tdiv 2 else N a := by
  intro k
  induction k with
  | zero => intro _ a _; rw [ahF, if_neg (by omega)]
  | succ k ih =>
    intro hk a ha
    have hc := ih (by omega)
    have hd := ahF_dia N k (by omega)
    rw [ahF]
    unfold ah1
    rw [hd (k / 8) (by omega), hd (k % 8) (by omega)]
    have hkk : ahF N k k = N k := by rw [hc k (by omega), if_neg (by omega)]
    rw [hkk]
    by_cases e : a = k
    · subst e
      split
      · rename_i q; rw [upd_same, if_pos ⟨by omega, q⟩]
      · rename_i q; rw [hkk, if_neg (fun z => q z.2)]
    · have : (if pl (N (k / 8 * 8 + k / 8)) (N (k % 8 * 8 + k % 8)) ≠ NB ∧ (pl (N (k / 8 * 8 + k / 8)) (N (k % 8 * 8 + k % 8))).tdiv 2 < N k then upd (ahF N k) k ((pl (N (k / 8 * 8 + k / 8)) (N (k % 8 * 8 + k % 8))).tdiv 2) else ahF N k) a = ahF N k a := by
        split
        · exact upd_other _ _ e
        · rfl
      rw [this, hc a ha]
      by_cases q : pl (N (a / 8 * 8 + a / 8)) (N (a % 8 * 8 + a % 8)) ≠ NB ∧ (pl (N (a / 8 * 8 + a / 8)) (N (a % 8 * 8 + a % 8))).tdiv 2 < N a
      · by_cases z : a < k
        · rw [if_pos ⟨z, q⟩, if_pos ⟨by omega, q⟩]
        · rw [if_neg (fun y => z y.1), if_neg (fun y => by omega)]
      · rw [if_neg (fun y => q y.2), if_neg (fun y => q y.2)]

/-- What 'sharp' comes to, for two sides. -/
structure ShAt (T : Nat → Int) (c : Int) (i j : Nat) : Prop where
  le1 : T (i * 8 + j) ≠ NB → c ≠ NB ∧ c ≤ T (i * 8 + j)
  le2 : ev (T (i * 8 + i)) ≠ NB → ev (T (j * 8 + j)) ≠ NB → c ≠ NB ∧ 2 * c ≤ ev (T (i * 8 + i)) + ev (T (j * 8 + j))
  cas : c = NB ∨ (i ≠ j ∧ c = T (i * 8 + j) ∧ T (i * 8 + j) ≠ NB) ∨ (ev (T (i * 8 + i)) ≠ NB ∧ ev (T (j * 8 + j)) ≠ NB ∧ 2 * c = ev (T (i * 8 + i)) + ev (T (j * 8 + j)))
theorem sh_at {T : Nat → Int} {U : Int} (hU : 2 * U < 1000000) (hB : Bd U T) {i j : Nat} (hi : i < 8) (hj : j < 8) : ShAt T (ahF (rdF T 8) 64 (i * 8 + j)) i j := by
  have hE : ∀ i, i < 8 → rdF T 8 (i * 8 + i) = NB ∨ rdF T 8 (i * 8 + i) % 2 = 0 := by
    intro i hi
    rw [rd_dia T hi]
    rcases ev_bd (hB (i * 8 + i) (by omega)) with q | q
    · exact .inl q
    · exact .inr q.2.2
  have hc := ahF_at (rdF T 8) 64 (Nat.le_refl _) (i * 8 + j) (by omega)
  rw [show (i * 8 + j) / 8 = i by omega, show (i * 8 + j) % 8 = j by omega, rd_dia T hi, rd_dia T hj] at hc
  have bi := ev_bd (hB (i * 8 + i) (by omega))
  have bj := ev_bd (hB (j * 8 + j) (by omega))
  have bt := hB (i * 8 + j) (by omega)
  have hN : rdF T 8 (i * 8 + j) = if i = j then ev (T (i * 8 + j)) else T (i * 8 + j) := by
    by_cases e : i = j
    · subst e; rw [if_pos rfl, rd_dia T hi]
    · rw [if_neg e, rd_off T hi hj e]
  have hNle : T (i * 8 + j) ≠ NB → rdF T 8 (i * 8 + j) ≠ NB ∧ rdF T 8 (i * 8 + j) ≤ T (i * 8 + j) := by
    intro q
    rw [hN]
    split
    · unfold ev NB at *
      rw [if_neg q]
      have := bt.resolve_left q
      constructor <;> omega
    · exact ⟨q, Int.le_refl _⟩
  generalize ahF (rdF T 8) 64 (i * 8 + j) = c at hc ⊢
  by_cases p : ev (T (i * 8 + i)) = NB ∨ ev (T (j * 8 + j)) = NB
  · have e1 : pl (ev (T (i * 8 + i))) (ev (T (j * 8 + j))) = NB := if_pos p
    rw [e1, if_neg (fun q => q.2.1 rfl)] at hc
    subst hc
    refine ⟨hNle, fun q1 q2 => absurd p (fun z => z.elim q1 q2), ?_⟩
    by_cases e : i = j
    · subst e
      left
      rw [hN, if_pos rfl]
      exact p.elim id id
    · rw [hN, if_neg e]
      by_cases z : T (i * 8 + j) = NB
      · exact .inl z
      · exact .inr (.inl ⟨e, rfl, z⟩)
  · have p1 : ev (T (i * 8 + i)) ≠ NB := fun q => p (.inl q)
    have p2 : ev (T (j * 8 + j)) ≠ NB := fun q => p (.inr q)
    obtain ⟨_, b1, b2⟩ := bi.resolve_left p1
    obtain ⟨_, c1, c2⟩ := bj.resolve_left p2
    have e1 : pl (ev (T (i * 8 + i))) (ev (T (j * 8 + j))) = ev (T (i * 8 + i)) + ev (T (j * 8 + j)) := if_neg p
    have e2 := tdiv_even (x := ev (T (i * 8 + i)) + ev (T (j * 8 + j))) (by omega)
    rw [e1] at hc
    have hn : ev (T (i * 8 + i)) + ev (T (j * 8 + j)) ≠ NB := by unfold NB; omega
    by_cases q : (ev (T (i * 8 + i)) + ev (T (j * 8 + j))).tdiv 2 < rdF T 8 (i * 8 + j)
    · rw [if_pos ⟨by omega, hn, q⟩] at hc
      subst hc
      have z : (ev (T (i * 8 + i)) + ev (T (j * 8 + j))).tdiv 2 ≠ NB := by unfold NB; omega
      refine ⟨fun t => ⟨z, ?_⟩, fun _ _ => ⟨z, by omega⟩, .inr (.inr ⟨p1, p2, by omega⟩)⟩
      have := (hNle t).2
      omega
    · rw [if_neg (fun y => q y.2.2)] at hc
      subst hc
      have hle : rdF T 8 (i * 8 + j) * 2 ≤ ev (T (i * 8 + i)) + ev (T (j * 8 + j)) := by omega
      refine ⟨hNle, fun _ _ => ⟨by unfold NB; omega, by omega⟩, ?_⟩
      by_cases e : i = j
      · subst e
        right; right
        refine ⟨p1, p2, ?_⟩
        rw [hN, if_pos rfl]
        omega
      · rw [hN, if_neg e]
        by_cases z : T (i * 8 + j) = NB
        · exact .inl z
        · exact .inr (.inl ⟨e, rfl, z⟩)

/-- Bounds from which nothing follows any more. -/
structure TC (C : Nat → Int) : Prop where
  tri : Tri C
  zero : ∀ i, i < 8 → C (i * 8 + opp i) = 0
  even : ∀ i, i < 8 → C (i * 8 + i) = NB ∨ C (i * 8 + i) % 2 = 0
  half : ∀ i j, i < 8 → j < 8 → C (i * 8 + i) ≠ NB → C (j * 8 + j) ≠ NB → C (i * 8 + j) ≠ NB ∧ 2 * C (i * 8 + j) ≤ C (i * 8 + i) + C (j * 8 + j)
  sym : Sym C
  top : Bd 432000 C
theorem conF_false {M : Nat → Int} : ∀ {n : Nat}, conF M n = false → ∀ i, i < n → 0 ≤ M (i * 8 + opp i) := by
  intro n
  induction n with
  | zero => intro _ i hi; omega
  | succ n ih =>
    intro h i hi
    rw [conF, Bool.or_eq_false_iff] at h
    rcases Nat.lt_or_eq_of_le (Nat.lt_succ_iff.1 hi) with e | e
    · exact ih h.1 i e
    · subst e; have := of_decide_eq_false h.2; omega
theorem sh_dia {T : Nat → Int} {c : Int} {i : Nat} (h : ShAt T c i i) : c = ev (T (i * 8 + i)) := by
  rcases h.cas with q | q | q
  · rw [q]
    by_cases z : ev (T (i * 8 + i)) = NB
    · exact z.symm
    · exact absurd q (h.le2 z z).1
  · exact absurd rfl q.1
  · omega
theorem tri_mix {T : Nat → Int} (hT : Tri T) (hS : Sym T) {i k : Nat} (hi : i < 8) (hk : k < 8) (h1 : T (i * 8 + opp k) ≠ NB) (h2 : ev (T (k * 8 + k)) ≠ NB) (hB : T (i * 8 + i) = NB ∨ T (i * 8 + i) ≤ 432000) : ev (T (i * 8 + i)) ≠ NB ∧ ev (T (i * 8 + i)) ≤ 2 * T (i * 8 + opp k) + ev (T (k * 8 + k)) := by
  have ho := opp_lt hk
  obtain ⟨k1, k2⟩ := ev_fin h2
  have a := hT (opp k) ho k i hk hi
  rw [opp_opp k hk, ← hS i (opp k) hi ho] at a
  obtain ⟨a1, a2⟩ := (a.resolve_left k1).resolve_left h1
  have b := hT k hk i i hi hi
  obtain ⟨b1, b2⟩ := (b.resolve_left h1).resolve_left a1
  have := hB.resolve_left b1
  have e : ev (T (i * 8 + i)) = T (i * 8 + i) / 2 * 2 := if_neg b1
  rw [e, k2]
  exact ⟨by unfold NB; omega, by omega⟩
theorem sh_tc {T : Nat → Int} (hT : Tri T) (hS : Sym T) (hB : Bd 432000 T) (h0 : ∀ i, i < 8 → T (i * 8 + opp i) = 0) (hc : ∀ i, i < 8 → 0 ≤ ahF (rdF T 8) 64 (i * 8 + opp i)) : TC (ahF (rdF T 8) 64) := by
  have sh : ∀ {i j : Nat}, i < 8 → j < 8 → ShAt T (ahF (rdF T 8) 64 (i * 8 + j)) i j := fun hi hj => sh_at (U := 432000) (by omega) hB hi hj
  have dia : ∀ {i : Nat}, i < 8 → ahF (rdF T 8) 64 (i * 8 + i) = ev (T (i * 8 + i)) := fun hi => sh_dia (sh hi hi)
  generalize hC : ahF (rdF T 8) 64 = C at sh dia hc ⊢
  have zero : ∀ i, i < 8 → C (i * 8 + opp i) = 0 := by
    intro i hi
    have := ((sh hi (opp_lt hi)).le1 (by rw [h0 i hi]; decide)).2
    rw [h0 i hi] at this
    have := hc i hi
    omega
  have dd : ∀ i, i < 8 → ev (T (i * 8 + i)) ≠ NB → ev (T (opp i * 8 + opp i)) ≠ NB → 0 ≤ ev (T (i * 8 + i)) + ev (T (opp i * 8 + opp i)) := by
    intro i hi h1 h2
    have := ((sh hi (opp_lt hi)).le2 h1 h2).2
    rw [zero i hi] at this
    omega
  have sym : Sym C := by
    intro i j hi hj
    have a := sh hi hj
    have b := sh hj hi
    have e := hS i j hi hj
    rcases a.cas with q | ⟨q1, q2, q3⟩ | ⟨q1, q2, q3⟩
    · rcases b.cas with w | ⟨w1, w2, w3⟩ | ⟨w1, w2, w3⟩
      · rw [q, w]
      · exact absurd q (a.le1 (by rw [e]; exact w3)).1
      · exact absurd q (a.le2 w2 w1).1
    · have z1 := b.le1 (by rw [← e]; exact q3)
      rcases b.cas with w | ⟨w1, w2, w3⟩ | ⟨w1, w2, w3⟩
      · exact absurd w z1.1
      · rw [q2, w2, e]
      · have := (a.le2 w2 w1).2
        omega
    · have z1 := b.le2 q2 q1
      rcases b.cas with w | ⟨w1, w2, w3⟩ | ⟨w1, w2, w3⟩
      · exact absurd w z1.1
      · have := (a.le1 (by rw [e]; exact w3)).2
        omega
      · omega
  have mixL : ∀ {i j k : Nat}, i < 8 → j < 8 → k < 8 → T (i * 8 + opp k) ≠ NB → ev (T (k * 8 + k)) ≠ NB → ev (T (j * 8 + j)) ≠ NB → C (i * 8 + j) ≠ NB ∧ 2 * C (i * 8 + j) ≤ 2 * T (i * 8 + opp k) + (ev (T (k * 8 + k)) + ev (T (j * 8 + j))) := by
    intro i j k hi hj hk h1 h2 h3
    have m := tri_mix hT hS hi hk h1 h2 (hB _ (by omega))
    have l := (sh hi hj).le2 m.1 h3
    exact ⟨l.1, by have := l.2; have := m.2; omega⟩
  refine ⟨?_, zero, ?_, ?_, sym, ?_⟩
  · intro k hk i j hi hj
    have ho := opp_lt hk
    have a := sh hi ho
    have b := sh hk hj
    rcases a.cas with q | ⟨q1, q2, q3⟩ | ⟨q1, q2, q3⟩
    · exact .inl q
    · rcases b.cas with w | ⟨w1, w2, w3⟩ | ⟨w1, w2, w3⟩
      · exact .inr (.inl w)
      · right; right
        obtain ⟨t1, t2⟩ := ((hT k hk i j hi hj).resolve_left q3).resolve_left w3
        have l := (sh hi hj).le1 t1
        exact ⟨l.1, by rw [q2, w2]; omega⟩
      · right; right
        have l := mixL hi hj hk q3 w1 w2
        exact ⟨l.1, by rw [q2]; omega⟩
    · rcases b.cas with w | ⟨w1, w2, w3⟩ | ⟨w1, w2, w3⟩
      · exact .inr (.inl w)
      · right; right
        have e : T (j * 8 + opp (opp k)) = T (k * 8 + j) := by rw [opp_opp k hk]; exact hS j k hj hk
        have l := mixL hj hi ho (by rw [e]; exact w3) q2 q1
        rw [e, sym j i hj hi] at l
        exact ⟨l.1, by rw [w2]; omega⟩
      · right; right
        have l := (sh hi hj).le2 q1 w2
        have := dd k hk w1 q2
        exact ⟨l.1, by omega⟩
  · intro i hi
    rw [dia hi]
    rcases ev_bd (hB (i * 8 + i) (by omega)) with q | q
    · exact .inl q
    · exact .inr q.2.2
  · intro i j hi hj h1 h2
    rw [dia hi] at h1 ⊢
    rw [dia hj] at h2 ⊢
    exact (sh hi hj).le2 h1 h2
  · intro a ha
    have ea : a = a / 8 * 8 + a % 8 := by omega
    rw [ea]
    rcases (sh (i := a / 8) (j := a % 8) (by omega) (by omega)).cas with q | ⟨_, q2, q3⟩ | ⟨q1, q2, q3⟩
    · exact .inl q
    · right
      rw [q2]
      exact (hB _ (by omega)).resolve_left q3
    · right
      have e1 := (ev_bd (hB (a / 8 * 8 + a / 8) (by omega))).resolve_left q1
      have e2 := (ev_bd (hB (a % 8 * 8 + a % 8) (by omega))).resolve_left q2
      omega
/-- What the program starts from. -/
structure Raw (M : Nat → Int) : Prop where
  bd : Bd 60000 M
  sym : Sym M
  zero : ∀ i, i < 8 → M (i * 8 + opp i) = 0
theorem Raw.hi {M : Nat → Int} (h : Raw M) : ∀ a, a < 64 → M a ≤ NB := by
  intro a ha
  rcases h.bd a ha with q | q
  · omega
  · unfold NB; omega
theorem Raw.tc {M : Nat → Int} (h : Raw M) (hc : conF (sharp M) 8 = false) : TC (sharp M) := by
  have hc' := conF_false hc
  have hz : ∀ t, t < 8 → 0 ≤ fw M 8 (t * 8 + opp t) := by
    intro t ht
    have h1 := hc' t ht
    unfold sharp at h1
    have h2 := ahF_le (rdF (fw M 8) 8) 64 (t * 8 + opp t)
    have h3 := rdF_le (fw M 8) 8 (t * 8 + opp t)
    omega
  have hx := fw_ex h.zero hz
  have hT : Tri (fw M 8) := fw_tri (by decide) (by decide) h.bd h.zero 8 (Nat.le_refl _) hx
  have h0 : ∀ t, t < 8 → fw M 8 (t * 8 + opp t) = 0 := by
    intro t ht
    have h1 := fw_le M 8 (t * 8 + opp t)
    rw [h.zero t ht] at h1
    have := hz t ht
    omega
  exact sh_tc hT (fw_sym h.sym hT h.hi) ((fw_bd (by decide) (by decide) h.bd h.zero 8 (Nat.le_refl _) hx).mono (by decide)) h0 hc'
/-- Where the first bounds are smaller, so are the sharp ones. -/
theorem Raw.top {M : Nat → Int} (h : Raw M) (hb : Bd 8000 M) (hc : conF (sharp M) 8 = false) : Bd 56000 (sharp M) := by
  have hc' := conF_false hc
  have hz : ∀ t, t < 8 → 0 ≤ fw M 8 (t * 8 + opp t) := by
    intro t ht
    have h1 := hc' t ht
    unfold sharp at h1
    have h2 := ahF_le (rdF (fw M 8) 8) 64 (t * 8 + opp t)
    have h3 := rdF_le (fw M 8) 8 (t * 8 + opp t)
    omega
  have hx := fw_ex h.zero hz
  have hB : Bd (7 * 8000) (fw M 8) := fw_bd (by decide) (by decide) hb h.zero 8 (Nat.le_refl _) hx
  intro a ha
  have sh := sh_at (U := 7 * 8000) (by decide) hB (i := a / 8) (j := a % 8) (by omega) (by omega)
  have he : a / 8 * 8 + a % 8 = a := by omega
  rcases sh.cas with q | ⟨_, q2, q3⟩ | ⟨q1, q2, q3⟩
  · rw [he] at q; exact .inl q
  · right
    rw [he] at q2 q3
    have := (hB a ha).resolve_left q3
    unfold sharp
    rw [q2]; omega
  · right
    rw [he] at q3
    have e1 := (ev_bd (hB (a / 8 * 8 + a / 8) (by omega))).resolve_left q1
    have e2 := (ev_bd (hB (a % 8 * 8 + a % 8) (by omega))).resolve_left q2
    unfold sharp
    omega

end Go.Proofs.YtffajooegiempabDoor

