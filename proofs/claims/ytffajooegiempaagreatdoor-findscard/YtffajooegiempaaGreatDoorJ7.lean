import Derived.Test.YtffajooegiempaaGreatDoorJ6
/- Bounds that have been sharpened: nothing more follows from them. No Go in here. -/
namespace Go.Proofs.YtffajooegiempaaGreatDoor

theorem fw_mono (M : Nat → Int) (s : Nat) : ∀ k a, fw M (s + k) a ≤ fw M s a
  | 0, _ => Int.le_refl _
  | k + 1, a => by
    show chF (s + k) (fw M (s + k)) 64 a ≤ _
    exact Int.le_trans (chF_le _ _ 64 a) (fw_mono M s k a)
theorem fw_ex {M : Nat → Int} (h0 : ∀ t, t < 8 → M (t * 8 + opp t) = 0) (h : ∀ t, t < 8 → 0 ≤ fw M 8 (t * 8 + opp t)) : Ex M 8 := by
  intro r hr
  have h1 := fw_le M r (r * 8 + opp r)
  rw [h0 r hr] at h1
  have h2 := fw_mono M r (8 - r) (r * 8 + opp r)
  rw [show r + (8 - r) = 8 by omega] at h2
  have := h r hr
  omega

/-- What is made even. -/
def ev (x : Int) : Int := if x = NB then NB else x / 2 * 2
theorem rd_dia (M : Nat → Int) {i : Nat} (hi : i < 8) : rdF M 8 (i * 8 + i) = ev (M (i * 8 + i)) := by
  rw [rdF_at]
  unfold ev
  by_cases h : M (i * 8 + i) = NB
  · rw [if_neg (fun q => q.2.2 h), if_pos h, h]
  · rw [if_pos ⟨by omega, by omega, h⟩, if_neg h]
theorem rd_off (M : Nat → Int) {i j : Nat} (hi : i < 8) (hj : j < 8) (h : i ≠ j) : rdF M 8 (i * 8 + j) = M (i * 8 + j) := by
  rw [rdF_at, if_neg (by omega)]
theorem ev_fin {x : Int} (h : ev x ≠ NB) : x ≠ NB ∧ ev x = x / 2 * 2 := by
  unfold ev at h ⊢
  by_cases q : x = NB
  · rw [if_pos q] at h; exact absurd rfl h
  · exact ⟨q, if_neg q⟩
theorem ev_bd {x U : Int} (h : x = NB ∨ x ≤ U) : ev x = NB ∨ (x ≠ NB ∧ ev x ≤ U ∧ ev x % 2 = 0) := by
  unfold ev
  by_cases q : x = NB
  · rw [if_pos q]; exact .inl rfl
  · have := h.resolve_left q
    rw [if_neg q]
    exact .inr ⟨q, by omega, by omega⟩
theorem tdiv_even {x : Int} (h : x % 2 = 0) : x.tdiv 2 * 2 = x := by
  have h1 := tdiv2 x
  rcases Int.lt_or_le x 0 with e | e
  · rw [h1.2 e]; omega
  · rw [h1.1 e]; omega

/-- Each bound against those of the two sides alone: the bounds of one side stay. -/
theorem ahF_dia (N : Nat → Int) : ∀ k, k ≤ 64 → ∀ i, i < 8 → ahF N k (i * 8 + i) = N (i * 8 + i) := by
  intro k
  induction k with
  | zero => intro _ i _; rfl
  | succ k ih =>
    intro hk i hi
    have hc := ih (by omega)
    rw [ahF]
    unfold ah1
    split
    · rename_i q
      by_cases e : i * 8 + i = k
      · subst e
        rw [show (i * 8 + i) / 8 = i by omega, show (i * 8 + i) % 8 = i by omega, hc i hi] at q
        obtain ⟨q1, _, q3⟩ := pl_fin q.1
        have h2 := q.2
        rw [q3] at h2
        have := tdiv_even (x := N (i * 8 + i) + N (i * 8 + i)) (by omega)
        omega
      · rw [upd_other _ _ e]; exact hc i hi
    · exact hc i hi
theorem ahF_at (N : Nat → Int) : ∀ k, k ≤ 64 → ∀ a, a < 64 → ahF N k a = if a < k ∧ pl (N (a / 8 * 8 + a / 8)) (N (a % 8 * 8 + a % 8)) ≠ NB ∧ (pl (N (a / 8 * 8 + a / 8)) (N (a % 8 * 8 + a % 8))).tdiv 2 < N a then (pl (N (a / 8 * 8 + a / 8)) (N (a % 8 * 8 + a % 8))).tdiv 2 else N a := by
  intro k
  induction k with
  | zero => intro _ a _; rw [ahF, if_neg (by omega)]
  | succ k ih =>
    intro hk a ha
    have hc := ih (by omega)
    have hd := ahF_dia N k (by omega)
    rw [ahF]
    unfold ah1
    rw [hd (k / 8) (by omega), hd (k % 8) (by omega)]
    have hkk : ahF N k k = N k := by rw [hc k (by omega), if_neg (by omega)]
    rw [hkk]
    by_cases e : a = k
    · subst e
      split
      · rename_i q; rw [upd_same, if_pos ⟨by omega, q⟩]
      · rename_i q; rw [hkk, if_neg (fun z => q z.2)]
    · have : (if pl (N (k / 8 * 8 + k / 8)) (N (k % 8 * 8 + k % 8)) ≠ NB ∧ (pl (N (k / 8 * 8 + k / 8)) (N (k % 8 * 8 + k % 8))).tdiv 2 < N k then upd (ahF N k) k ((pl (N (k / 8 * 8 + k / 8)) (N (k % 8 * 8 + k % 8))).tdiv 2) else ahF N k) a = ahF N k a := by
        split
        · exact upd_other _ _ e
        · rfl
      rw [this, hc a ha]
      by_cases q : pl (N (a / 8 * 8 + a / 8)) (N (a % 8 * 8 + a % 8)) ≠ NB ∧ (pl (N (a / 8 * 8 + a / 8)) (N (a % 8 * 8 + a % 8))).tdiv 2 < N a
      · by_cases z : a < k
        · rw [if_pos ⟨z, q⟩, if_pos ⟨by omega, q⟩]
        · rw [if_neg (fun y => z y.1), if_neg (fun y => by omega)]
      · rw [if_neg (fun y => q y.2), if_neg (fun y => q y.2)]

/-- What 'sharp' comes to, for two sides. -/
structure ShAt (T : Nat → Int) (c : Int) (i j : Nat) : Prop where
  le1 : T (i * 8 + j) ≠ NB → c ≠ NB ∧ c ≤ T (i * 8 + j)
  le2 : ev (T (i * 8 + i)) ≠ NB → ev (T (j * 8 + j)) ≠ NB → c ≠ NB ∧ 2 * c ≤ ev (T (i * 8 + i)) + ev (T (j * 8 + j))
  cas : c = NB ∨ (i ≠ j ∧ c = T (i * 8 + j) ∧ T (i * 8 + j) ≠ NB) ∨ (ev (T (i * 8 + i)) ≠ NB ∧ ev (T (j * 8 + j)) ≠ NB ∧ 2 * c = ev (T (i * 8 + i)) + ev (T (j * 8 + j)))
theorem sh_at {T : Nat → Int} {U : Int} (hU : 2 * U < 1000000) (hB : Bd U T) {i j : Nat} (hi : i < 8) (hj : j < 8) : ShAt T (ahF (rdF T 8) 64 (i * 8 + j)) i j := by
  have hE : ∀ i, i < 8 → rdF T 8 (i * 8 + i) = NB ∨ rdF T 8 (i * 8 + i) % 2 = 0 := by
    intro i hi
    rw [rd_dia T hi]
    rcases ev_bd (hB (i * 8 + i) (by omega)) with q | q
    · exact .inl q
    · exact .inr q.2.2
  have hc := ahF_at (rdF T 8) 64 (Nat.le_refl _) (i * 8 + j) (by omega)
  rw [show (i * 8 + j) / 8 = i by omega, show (i * 8 + j) % 8 = j by omega, rd_dia T hi, rd_dia T hj] at hc
  have bi := ev_bd (hB (i * 8 + i) (by omega))
  have bj := ev_bd (hB (j * 8 + j) (by omega))
  have bt := hB (i * 8 + j) (by omega)
  have hN : rdF T 8 (i * 8 + j) = if i = j then ev (T (i * 8 + j)) else T (i * 8 + j) := by
    by_cases e : i = j
    · subst e; rw [if_pos rfl, rd_dia T hi]
    · rw [if_neg e, rd_off T hi hj e]
  have hNle : T (i * 8 + j) ≠ NB → rdF T 8 (i * 8 + j) ≠ NB ∧ rdF T 8 (i * 8 + j) ≤ T (i * 8 + j) := by
    intro q
    rw [hN]
    split
    · unfold ev NB at *
      rw [if_neg q]
      have := bt.resolve_left q
      constructor <;> omega
    · exact ⟨q, Int.le_refl _⟩
  generalize ahF (rdF T 8) 64 (i * 8 + j) = c at hc ⊢
  by_cases p : ev (T (i * 8 + i)) = NB ∨ ev (T (j * 8 + j)) = NB
  · have e1 : pl (ev (T (i * 8 + i))) (ev (T (j * 8 + j))) = NB := if_pos p
    rw [e1, if_neg (fun q => q.2.1 rfl)] at hc
    subst hc
    refine ⟨hNle, fun q1 q2 => absurd p (fun z => z.elim q1 q2), ?_⟩
    by_cases e : i = j
    · subst e
      left
      rw [hN, if_pos rfl]
      exact p.elim id id
    · rw [hN, if_neg e]
      by_cases z : T (i * 8 + j) = NB
      · exact .inl z
      · exact .inr (.inl ⟨e, rfl, z⟩)
  · have p1 : ev (T (i * 8 + i)) ≠ NB := fun q => p (.inl q)
    have p2 : ev (T (j * 8 + j)) ≠ NB := fun q => p (.inr q)
    obtain ⟨_, b1, b2⟩ := bi.resolve_left p1
    obtain ⟨_, c1, c2⟩ := bj.resolve_left p2
    have e1 : pl (ev (T (i * 8 + i))) (ev (T (j * 8 + j))) = ev (T (i * 8 + i)) + ev (T (j * 8 + j)) := if_neg p
    have e2 := tdiv_even (x := ev (T (i * 8 + i)) + ev (T (j * 8 + j))) (by omega)
    rw [e1] at hc
    have hn : ev (T (i * 8 + i)) + ev (T (j * 8 + j)) ≠ NB := by unfold NB; omega
    by_cases q : (ev (T (i * 8 + i)) + ev (T (j * 8 + j))).tdiv 2 < rdF T 8 (i * 8 + j)
    · rw [if_pos ⟨by omega, hn, q⟩] at hc
      subst hc
      have z : (ev (T (i * 8 + i)) + ev (T (j * 8 + j))).tdiv 2 ≠ NB := by unfold NB; omega
      refine ⟨fun t => ⟨z, ?_⟩, fun _ _ => ⟨z, by omega⟩, .inr (.inr ⟨p1, p2, by omega⟩)⟩
      have := (hNle t).2
      omega
    · rw [if_neg (fun y => q y.2.2)] at hc
      subst hc
      have hle : rdF T 8 (i * 8 + j) * 2 ≤ ev (T (i * 8 + i)) + ev (T (j * 8 + j)) := by omega
      refine ⟨hNle, fun _ _ => ⟨by unfold NB; omega, by omega⟩, ?_⟩
      by_cases e : i = j
      · subst e
        right; right
        refine ⟨p1, p2, ?_⟩
        rw [hN, if_pos rfl]
        omega
      · rw [hN, if_neg e]
        by_cases z : T (i * 8 + j) = NB
        · exact .inl z
        · exact .inr (.inl ⟨e, rfl, z⟩)

/-- Bounds from which nothing follows any more. -/
structure TC (C : Nat → Int) : Prop where
  tri : Tri C
  zero : ∀ i, i < 8 → C (i * 8 + opp i) = 0
  even : ∀ i, i < 8 → C (i * 8 + i) = NB ∨ C (i * 8 + i) % 2 = 0
  half : ∀ i j, i < 8 → j < 8 → C (i * 8 + i) ≠ NB → C (j * 8 + j) ≠ NB → C (i * 8 + j) ≠ NB ∧ 2 * C (i * 8 + j) ≤ C (i * 8 + i) + C (j * 8 + j)
  sym : Sym C
  top : Bd 432000 C
theorem conF_false {M : Nat → Int} : ∀ {n : Nat}, conF M n = false → ∀ i, i < n → 0 ≤ M (i * 8 + opp i) := by
  intro n
  induction n with
  | zero => intro _ i hi; omega
  | succ n ih =>
    intro h i hi
    rw [conF, Bool.or_eq_false_iff] at h
    rcases Nat.lt_or_eq_of_le (Nat.lt_succ_iff.1 hi) with e | e
    · exact ih h.1 i e
    · subst e; have := of_decide_eq_false h.2; omega
theorem sh_dia {T : Nat → Int} {c : Int} {i : Nat} (h : ShAt T c i i) : c = ev (T (i * 8 + i)) := by
  rcases h.cas with q | q | q
  · rw [q]
    by_cases z : ev (T (i * 8 + i)) = NB
    · exact z.symm
    · exact absurd q (h.le2 z z).1
  · exact absurd rfl q.1
  · omega
theorem tri_mix {T : Nat → Int} (hT : Tri T) (hS : Sym T) {i k : Nat} (hi : i < 8) (hk : k < 8) (h1 : T (i * 8 + opp k) ≠ NB) (h2 : ev (T (k * 8 + k)) ≠ NB) (hB : T (i * 8 + i) = NB ∨ T (i * 8 + i) ≤ 432000) : ev (T (i * 8 + i)) ≠ NB ∧ ev (T (i * 8 + i)) ≤ 2 * T (i * 8 + opp k) + ev (T (k * 8 + k)) := by
  have ho := opp_lt hk
  obtain ⟨k1, k2⟩ := ev_fin h2
  have a := hT (opp k) ho k i hk hi
  rw [opp_opp k hk, ← hS i (opp k) hi ho] at a
  obtain ⟨a1, a2⟩ := (a.resolve_left k1).resolve_left h1
  have b := hT k hk i i hi hi
  obtain ⟨b1, b2⟩ := (b.resolve_left h1).resolve_left a1
  have := hB.resolve_left b1
  have e : ev (T (i * 8 + i)) = T (i * 8 + i) / 2 * 2 := if_neg b1
  rw [e, k2]
  exact ⟨by unfold NB; omega, by omega⟩
theorem sh_tc {T : Nat → Int} (hT : Tri T) (hS : Sym T) (hB : Bd 432000 T) (h0 : ∀ i, i < 8 → T (i * 8 + opp i) = 0) (hc : ∀ i, i < 8 → 0 ≤ ahF (rdF T 8) 64 (i * 8 + opp i)) : TC (ahF (rdF T 8) 64) := by
  have sh : ∀ {i j : Nat}, i < 8 → j < 8 → ShAt T (ahF (rdF T 8) 64 (i * 8 + j)) i j := fun hi hj => sh_at (U := 432000) (by omega) hB hi hj
  have dia : ∀ {i : Nat}, i < 8 → ahF (rdF T 8) 64 (i * 8 + i) = ev (T (i * 8 + i)) := fun hi => sh_dia (sh hi hi)
  generalize hC : ahF (rdF T 8) 64 = C at sh dia hc ⊢
  have zero : ∀ i, i < 8 → C (i * 8 + opp i) = 0 := by
    intro i hi
    have := ((sh hi (opp_lt hi)).le1 (by rw [h0 i hi]; decide)).2
    rw [h0 i hi] at this
    have := hc i hi
    omega
  have dd : ∀ i, i < 8 → ev (T (i * 8 + i)) ≠ NB → ev (T (opp i * 8 + opp i)) ≠ NB → 0 ≤ ev (T (i * 8 + i)) + ev (T (opp i * 8 + opp i)) := by
    intro i hi h1 h2
    have := ((sh hi (opp_lt hi)).le2 h1 h2).2
    rw [zero i hi] at this
    omega
  have sym : Sym C := by
    intro i j hi hj
    have a := sh hi hj
    have b := sh hj hi
    have e := hS i j hi hj
    rcases a.cas with q | ⟨q1, q2, q3⟩ | ⟨q1, q2, q3⟩
    · rcases b.cas with w | ⟨w1, w2, w3⟩ | ⟨w1, w2, w3⟩
      · rw [q, w]
      · exact absurd q (a.le1 (by rw [e]; exact w3)).1
      · exact absurd q (a.le2 w2 w1).1
    · have z1 := b.le1 (by rw [← e]; exact q3)
      rcases b.cas with w | ⟨w1, w2, w3⟩ | ⟨w1, w2, w3⟩
      · exact absurd w z1.1
      · rw [q2, w2, e]
      · have := (a.le2 w2 w1).2
        omega
    · have z1 := b.le2 q2 q1
      rcases b.cas with w | ⟨w1, w2, w3⟩ | ⟨w1, w2, w3⟩
      · exact absurd w z1.1
      · have := (a.le1 (by rw [e]; exact w3)).2
        omega
      · omega
  have mixL : ∀ {i j k : Nat}, i < 8 → j < 8 → k < 8 → T (i * 8 + opp k) ≠ NB → ev (T (k * 8 + k)) ≠ NB → ev (T (j * 8 + j)) ≠ NB → C (i * 8 + j) ≠ NB ∧ 2 * C (i * 8 + j) ≤ 2 * T (i * 8 + opp k) + (ev (T (k * 8 + k)) + ev (T (j * 8 + j))) := by
    intro i j k hi hj hk h1 h2 h3
    have m := tri_mix hT hS hi hk h1 h2 (hB _ (by omega))
    have l := (sh hi hj).le2 m.1 h3
    exact ⟨l.1, by have := l.2; have := m.2; omega⟩
  refine ⟨?_, zero, ?_, ?_, sym, ?_⟩
  · intro k hk i j hi hj
    have ho := opp_lt hk
    have a := sh hi ho
    have b := sh hk hj
    rcases a.cas with q | ⟨q1, q2, q3⟩ | ⟨q1, q2, q3⟩
    · exact .inl q
    · rcases b.cas with w | ⟨w1, w2, w3⟩ | ⟨w1, w2, w3⟩
      · exact .inr (.inl w)
      · right; right
        obtain ⟨t1, t2⟩ := ((hT k hk i j hi hj).resolve_left q3).resolve_left w3
        have l := (sh hi hj).le1 t1
        exact ⟨l.1, by rw [q2, w2]; omega⟩
      · right; right
        have l := mixL hi hj hk q3 w1 w2
        exact ⟨l.1, by rw [q2]; omega⟩
    · rcases b.cas with w | ⟨w1, w2, w3⟩ | ⟨w1, w2, w3⟩
      · exact .inr (.inl w)
      · right; right
        have e : T (j * 8 + opp (opp k)) = T (k * 8 + j) := by rw [opp_opp k hk]; exact hS j k hj hk
        have l := mixL hj hi ho (by rw [e]; exact w3) q2 q1
        rw [e, sym j i hj hi] at l
        exact ⟨l.1, by rw [w2]; omega⟩
      · right; right
        have l := (sh hi hj).le2 q1 w2
        have := dd k hk w1 q2
        exact ⟨l.1, by omega⟩
  · intro i hi
    rw [dia hi]
    rcases ev_bd (hB (i * 8 + i) (by omega)) with q | q
    · exact .inl q
    · exact .inr q.2.2
  · intro i j hi hj h1 h2
    rw [dia hi] at h1 ⊢
    rw [dia hj] at h2 ⊢
    exact (sh hi hj).le2 h1 h2
  · intro a ha
    have ea : a = a / 8 * 8 + a % 8 := by omega
    rw [ea]
    rcases (sh (i := a / 8) (j := a % 8) (by omega) (by omega)).cas with q | ⟨_, q2, q3⟩ | ⟨q1, q2, q3⟩
    · exact .inl q
    · right
      rw [q2]
      exact (hB _ (by omega)).resolve_left q3
    · right
      have e1 := (ev_bd (hB (a / 8 * 8 + a / 8) (by omega))).resolve_left q1
      have e2 := (ev_bd (hB (a % 8 * 8 + a % 8) (by omega))).resolve_left q2
      omega
/-- What the program starts from. -/
structure Raw (M : Nat → Int) : Prop where
  bd : Bd 60000 M
  sym : Sym M
  zero : ∀ i, i < 8 → M (i * 8 + opp i) = 0
theorem Raw.hi {M : Nat → Int} (h : Raw M) : ∀ a, a < 64 → M a ≤ NB := by
  intro a ha
  rcases h.bd a ha with q | q
  · omega
  · unfold NB; omega
theorem Raw.tc {M : Nat → Int} (h : Raw M) (hc : conF (sharp M) 8 = false) : TC (sharp M) := by
  have hc' := conF_false hc
  have hz : ∀ t, t < 8 → 0 ≤ fw M 8 (t * 8 + opp t) := by
    intro t ht
    have h1 := hc' t ht
    unfold sharp at h1
    have h2 := ahF_le (rdF (fw M 8) 8) 64 (t * 8 + opp t)
    have h3 := rdF_le (fw M 8) 8 (t * 8 + opp t)
    omega
  have hx := fw_ex h.zero hz
  have hT : Tri (fw M 8) := fw_tri (by decide) (by decide) h.bd h.zero 8 (Nat.le_refl _) hx
  have h0 : ∀ t, t < 8 → fw M 8 (t * 8 + opp t) = 0 := by
    intro t ht
    have h1 := fw_le M 8 (t * 8 + opp t)
    rw [h.zero t ht] at h1
    have := hz t ht
    omega
  exact sh_tc hT (fw_sym h.sym hT h.hi) ((fw_bd (by decide) (by decide) h.bd h.zero 8 (Nat.le_refl _) hx).mono (by decide)) h0 hc'
/-- Where the first bounds are smaller, so are the sharp ones. -/
theorem Raw.top {M : Nat → Int} (h : Raw M) (hb : Bd 8000 M) (hc : conF (sharp M) 8 = false) : Bd 56000 (sharp M) := by
  have hc' := conF_false hc
  have hz : ∀ t, t < 8 → 0 ≤ fw M 8 (t * 8 + opp t) := by
    intro t ht
    have h1 := hc' t ht
    unfold sharp at h1
    have h2 := ahF_le (rdF (fw M 8) 8) 64 (t * 8 + opp t)
    have h3 := rdF_le (fw M 8) 8 (t * 8 + opp t)
    omega
  have hx := fw_ex h.zero hz
  have hB : Bd (7 * 8000) (fw M 8) := fw_bd (by decide) (by decide) hb h.zero 8 (Nat.le_refl _) hx
  intro a ha
  have sh := sh_at (U := 7 * 8000) (by decide) hB (i := a / 8) (j := a % 8) (by omega) (by omega)
  have he : a / 8 * 8 + a % 8 = a := by omega
  rcases sh.cas with q | ⟨_, q2, q3⟩ | ⟨q1, q2, q3⟩
  · rw [he] at q; exact .inl q
  · right
    rw [he] at q2 q3
    have := (hB a ha).resolve_left q3
    unfold sharp
    rw [q2]; omega
  · right
    rw [he] at q3
    have e1 := (ev_bd (hB (a / 8 * 8 + a / 8) (by omega))).resolve_left q1
    have e2 := (ev_bd (hB (a % 8 * 8 + a % 8) (by omega))).resolve_left q2
    unfold sharp
    omega

end Go.Proofs.YtffajooegiempaaGreatDoor

/- Forms, by their signs and by their sides. -/
namespace Go.Proofs.YtffajooegiempaaGreatDoor

def sgn (i : Nat) : Int := 1 - 2 * ((i % 2 : Nat) : Int)
/-- The signs of a form. -/
def frm (f : Nat) : List Int := if f < 8 then [0, 0, 0, 0].set (f / 2) (sgn f) else ([0, 0, 0, 0].set (fs f / 2) (sgn (fs f))).set (ss f / 2) (sgn (ss f))
def gAt (l : List Int) (i : Nat) : Int := l.getD i 0
theorem fs_lo : ∀ f : Nat, f < 8 → fs f = f ∧ ss f = f := by decide
theorem fs_hi : ∀ f : Nat, f < 32 → 8 ≤ f → fs f ≠ ss f := by decide
/-- What is laid for a form. -/
def bv (l : List Int) (f : Nat) : Int := if fs f = ss f ∧ l.getD f 0 ≠ NB then 2 * l.getD f 0 else l.getD f 0
theorem lay_form (l : List Int) : ∀ f, f < 32 → lay l 32 (fs f * 8 + ss f) = bv l f ∧ lay l 32 (ss f * 8 + fs f) = bv l f
  | 0, _ => ⟨rfl, rfl⟩
  | 1, _ => ⟨rfl, rfl⟩
  | 2, _ => ⟨rfl, rfl⟩
  | 3, _ => ⟨rfl, rfl⟩
  | 4, _ => ⟨rfl, rfl⟩
  | 5, _ => ⟨rfl, rfl⟩
  | 6, _ => ⟨rfl, rfl⟩
  | 7, _ => ⟨rfl, rfl⟩
  | 8, _ => ⟨rfl, rfl⟩
  | 9, _ => ⟨rfl, rfl⟩
  | 10, _ => ⟨rfl, rfl⟩
  | 11, _ => ⟨rfl, rfl⟩
  | 12, _ => ⟨rfl, rfl⟩
  | 13, _ => ⟨rfl, rfl⟩
  | 14, _ => ⟨rfl, rfl⟩
  | 15, _ => ⟨rfl, rfl⟩
  | 16, _ => ⟨rfl, rfl⟩
  | 17, _ => ⟨rfl, rfl⟩
  | 18, _ => ⟨rfl, rfl⟩
  | 19, _ => ⟨rfl, rfl⟩
  | 20, _ => ⟨rfl, rfl⟩
  | 21, _ => ⟨rfl, rfl⟩
  | 22, _ => ⟨rfl, rfl⟩
  | 23, _ => ⟨rfl, rfl⟩
  | 24, _ => ⟨rfl, rfl⟩
  | 25, _ => ⟨rfl, rfl⟩
  | 26, _ => ⟨rfl, rfl⟩
  | 27, _ => ⟨rfl, rfl⟩
  | 28, _ => ⟨rfl, rfl⟩
  | 29, _ => ⟨rfl, rfl⟩
  | 30, _ => ⟨rfl, rfl⟩
  | 31, _ => ⟨rfl, rfl⟩
  | n + 32, h => absurd h (by omega)
 
theorem lay_opp (l : List Int) : ∀ i, i < 8 → lay l 32 (i * 8 + opp i) = 0
  | 0, _ => rfl
  | 1, _ => rfl
  | 2, _ => rfl
  | 3, _ => rfl
  | 4, _ => rfl
  | 5, _ => rfl
  | 6, _ => rfl
  | 7, _ => rfl
  | n + 8, h => absurd h (by omega)
 
/-- The bounds that come out are no greater than those that went in. -/
theorem bd_le {o : List Int} {M : Nat → Int} (hok : ∀ i, i < 32 → isB (o.getD i 0) = true) (hM : ∀ k, M k ≤ lay o 32 k) (f : Nat) (hf : f < 32) : bd M f ≤ gAt o f := by
  have hl := (lay_form o f hf).1
  have hm := hM (fs f * 8 + ss f)
  have hr := (lay_range o 32 hok (fs f * 8 + ss f)).2
  have hb := hok f hf
  unfold isB at hb
  have hb := of_decide_eq_true hb
  rw [hl] at hm hr
  unfold bd gAt
  unfold bv at hm hr
  by_cases h8 : f < 8
  · obtain ⟨q1, q2⟩ := fs_lo f h8
    rw [q1, q2] at hm hr ⊢
    by_cases hn : o.getD f 0 = NB
    · rw [if_neg (fun q => q.2 hn)] at hm hr
      rw [hn] at hm ⊢
      by_cases hz : M (f * 8 + f) = NB
      · rw [if_neg (fun q => q.2 hz)]; exact hm
      · rw [if_pos ⟨rfl, hz⟩]
        have := tdiv2 (M (f * 8 + f))
        unfold NB at *
        rcases Int.lt_or_le (M (f * 8 + f)) 0 with e | e
        · rw [this.2 e]; omega
        · rw [this.1 e]; omega
    · rw [if_pos ⟨rfl, hn⟩] at hm hr
      have hz : M (f * 8 + f) ≠ NB := by unfold NB at *; omega
      rw [if_pos ⟨rfl, hz⟩]
      have := tdiv2 (M (f * 8 + f))
      rcases Int.lt_or_le (M (f * 8 + f)) 0 with e | e
      · rw [this.2 e]; omega
      · rw [this.1 e]; omega
  · have hne := fs_hi f hf (by omega)
    rw [if_neg (fun q => hne q.1)] at hm ⊢
    exact hm

theorem bdL_get (M : Nat → Int) (f : Nat) (hf : f < 32) : gAt (bdL M) f = bd M f := by simp [gAt, bdL, List.getD, hf]

end Go.Proofs.YtffajooegiempaaGreatDoor

/- The document's rounds, plain. -/
namespace Go.Proofs.YtffajooegiempaaGreatDoor

/-- Two forms added: the signs. -/
def vadd (f g : Nat) : List Int := [gAt (frm f) 0 + gAt (frm g) 0, gAt (frm f) 1 + gAt (frm g) 1, gAt (frm f) 2 + gAt (frm g) 2, gAt (frm f) 3 + gAt (frm g) 3]
def onesV (v : List Int) : Nat := v.countP fun x => x == 1 || x == -1
def twosV (v : List Int) : Nat := v.countP fun x => x == 2 || x == -2
def nst (v : List Int) : Nat → Option (Int × Int)
  | 0 => some (-1, -1)
  | i + 1 => match nst v i with
    | none => none
    | some (x, y) => if gAt v i < -1 ∨ gAt v i > 1 ∨ (gAt v i ≠ 0 ∧ 0 ≤ y) then none else some (if gAt v i ≠ 0 ∧ x < 0 then (i : Int) else x, if gAt v i ≠ 0 ∧ 0 ≤ x then (i : Int) else y)
/-- The number of a form by its signs. -/
def numV (v : List Int) : Int := match nst v 4 with
  | none => -1
  | some (x, y) => if x < 0 then -1 else if y < 0 then 2 * x + (1 - gAt v x.toNat).tdiv 2 else 8 + 4 * ((x * (8 - x - 1)).tdiv 2 + y - x - 1) + (1 - gAt v x.toNat).tdiv 2 * 2 + (1 - gAt v y.toNat).tdiv 2
def halfV (v : List Int) : List Int := v.map fun x => x.tdiv 2
/-- What follows: 1 nothing is left, 2 twice a variable, 3 a form, 0 nothing. -/
def kd (v : List Int) : Nat := if onesV v = 0 ∧ twosV v = 0 then 1 else if onesV v = 0 ∧ twosV v = 1 then 2 else if twosV v = 0 ∧ 0 < onesV v ∧ onesV v < 3 then 3 else 0
def folV (v : List Int) (c : Int) : Int × Int := if kd v = 1 ∧ c < 0 then (-2, 0) else if kd v = 2 then (numV (halfV v), c / 2) else if kd v = 3 then (numV v, c) else (-1, 0)
def kdT (f g : Nat) : Nat := kd (vadd f g)
def nmT (f g : Nat) : Nat := if kdT f g = 2 then (numV (halfV (vadd f g))).toNat else (numV (vadd f g)).toNat
/-- The form of two sides. -/
def nf (i j : Nat) : Nat := if i = j then i else if i < j then 8 + 4 * (i / 2 * (7 - i / 2) / 2 + j / 2 - i / 2 - 1) + i % 2 * 2 + j % 2 else 8 + 4 * (j / 2 * (7 - j / 2) / 2 + i / 2 - j / 2 - 1) + j % 2 * 2 + i % 2

theorem nf_ok : ∀ i : Nat, i < 8 → ∀ j, j < 8 → j ≠ opp i → nf i j < 32 ∧ ((fs (nf i j) = i ∧ ss (nf i j) = j) ∨ (fs (nf i j) = j ∧ ss (nf i j) = i)) := by decide +kernel
theorem nf_self (i : Nat) : nf i i = i := if_pos rfl
theorem nf_fs : ∀ f : Nat, f < 32 → fs f < 8 ∧ ss f < 8 ∧ nf (fs f) (ss f) = f ∧ ss f ≠ opp (fs f) ∧ (f < 8 → fs f = f ∧ ss f = f) ∧ (8 ≤ f → fs f ≠ ss f) := by decide +kernel
theorem nm_ok : ∀ f : Nat, f < 32 → ∀ g, g < 32 → (kdT f g = 2 → numV (halfV (vadd f g)) = (nmT f g : Int) ∧ nmT f g < 8) ∧ (kdT f g = 3 → numV (vadd f g) = (nmT f g : Int) ∧ nmT f g < 32) := by decide +kernel
def Tab1 (i s j : Nat) : Prop := (i ≠ s ∧ i ≠ opp s ∧ j ≠ s ∧ j ≠ opp s) → (j = opp i → kdT (nf i (opp s)) (nf s j) = 1) ∧ (j = i → kdT (nf i (opp s)) (nf s j) = 2 ∧ nmT (nf i (opp s)) (nf s j) = i) ∧ (j ≠ i ∧ j ≠ opp i → kdT (nf i (opp s)) (nf s j) = 3 ∧ nmT (nf i (opp s)) (nf s j) = nf i j)
instance (i s j : Nat) : Decidable (Tab1 i s j) := by unfold Tab1; infer_instance
theorem tab1 : ∀ i : Nat, i < 8 → ∀ s, s < 8 → ∀ j, j < 8 → Tab1 i s j := by decide +kernel
theorem tab2 : ∀ s : Nat, s < 8 → ∀ j, j < 8 → (j ≠ s ∧ j ≠ opp s) → kdT (opp s) (nf s j) = 3 ∧ nmT (opp s) (nf s j) = j ∧ kdT (nf j s) (opp s) = 3 ∧ nmT (nf j s) (opp s) = j := by decide +kernel
theorem tab3 : ∀ i : Nat, i < 8 → ∀ j, j < 8 → (j = opp i → kdT i j = 1) ∧ (j ≠ i ∧ j ≠ opp i → kdT i j = 3 ∧ nmT i j = nf i j) := by decide +kernel
/-- All that two forms may come to. -/
def tabB (f g : Nat) : Bool := decide (kdT f g = 0) || (decide (f < 8) && decide (g < 8) && ((decide (g = opp f) && decide (kdT f g = 1)) || (decide (g = f) && decide (kdT f g = 2) && decide (nmT f g = f)) || (decide (g ≠ f) && decide (g ≠ opp f) && decide (kdT f g = 3) && decide (nmT f g = nf f g)))) ||
  (decide (f < 8) && decide (8 ≤ g) && decide (kdT f g = 3) && ((decide (fs g = opp f) && decide (nmT f g = ss g)) || (decide (ss g = opp f) && decide (nmT f g = fs g)))) ||
  (decide (8 ≤ f) && decide (g < 8) && decide (kdT f g = 3) && ((decide (fs f = opp g) && decide (nmT f g = ss f)) || (decide (ss f = opp g) && decide (nmT f g = fs f)))) ||
  (decide (8 ≤ f) && decide (8 ≤ g) && [true, false].any fun b1 => [true, false].any fun b2 =>
    decide ((if b1 = true then ss f else fs f) = opp (if b2 = true then fs g else ss g)) && ((decide (kdT f g = 1) && decide ((if b2 = true then ss g else fs g) = opp (if b1 = true then fs f else ss f))) || (decide (kdT f g = 2) && decide ((if b2 = true then ss g else fs g) = (if b1 = true then fs f else ss f)) && decide (nmT f g = if b1 = true then fs f else ss f)) ||
      (decide (kdT f g = 3) && decide ((if b2 = true then ss g else fs g) ≠ (if b1 = true then fs f else ss f)) && decide ((if b2 = true then ss g else fs g) ≠ opp (if b1 = true then fs f else ss f)) && decide (nmT f g = nf (if b1 = true then fs f else ss f) (if b2 = true then ss g else fs g)))))
theorem tab_all : ∀ f : Nat, f < 32 → ∀ g, g < 32 → tabB f g = true := by decide +kernel

/-- What one round has done. -/
structure RdO (R R' : Nat → Int) : Prop where
  le : ∀ f, f < 32 → R' f ≤ R f
  zer : ∀ f g, f < 32 → g < 32 → kdT f g = 1 → R f ≠ NB → R g ≠ NB → 0 ≤ R f + R g
  dou : ∀ f g, f < 32 → g < 32 → kdT f g = 2 → R f ≠ NB → R g ≠ NB → R' (nmT f g) ≤ (R f + R g) / 2
  sum : ∀ f g, f < 32 → g < 32 → kdT f g = 3 → R f ≠ NB → R g ≠ NB → R' (nmT f g) ≤ R f + R g
/-- The document's bounds are no greater than the program's. -/
structure Un (R M : Nat → Int) : Prop where
  dia : ∀ i, i < 8 → M (i * 8 + i) ≠ NB → 2 * R i ≤ M (i * 8 + i)
  off : ∀ i j, i < 8 → j < 8 → i ≠ j → j ≠ opp i → M (i * 8 + j) ≠ NB → R (nf i j) ≤ M (i * 8 + j)
  zer : ∀ i, i < 8 → 0 ≤ M (i * 8 + opp i)
theorem Un.rd {R R' M : Nat → Int} (h : Un R M) (hr : RdO R R') : Un R' M := by
  refine ⟨fun i hi q => ?_, fun i j hi hj h1 h2 q => ?_, h.zer⟩
  · have := h.dia i hi q
    have := hr.le i (by omega)
    omega
  · have := h.off i j hi hj h1 h2 q
    have := hr.le (nf i j) (nf_ok i hi j hj h2).1
    omega
theorem opp_eq {i j : Nat} (hi : i < 8) (h : j = opp i) : i = opp j := by rw [h, opp_opp i hi]
/-- A chain of the program's is met within two rounds. -/
theorem Un.chain {R R' R2 M : Nat → Int} {U : Int} {s : Nat} (hs : s < 8) (hU : 2 * U < 1000000) (hU0 : 0 ≤ U) (hB : Bd U M) (h0 : M (s * 8 + opp s) = 0) (h : Un R M) (h1 : RdO R R') (h2 : RdO R' R2) : Un R2 (chF s M 64) := by
  have ho := opp_lt hs
  have hoo := opp_opp s hs
  have hne := opp_ne s
  have hm : Un R2 M := (h.rd h1).rd h2
  have h1s := h.rd h1
  -- the bounds of one side, of two
  have one : ∀ i, i < 8 → M (i * 8 + i) ≠ NB → R i ≠ NB ∧ 2 * R i ≤ U := by
    intro i hi q
    have a := h.dia i hi q
    have b := (hB (i * 8 + i) (by omega)).resolve_left q
    exact ⟨by unfold NB; omega, by omega⟩
  have one' : ∀ i, i < 8 → M (i * 8 + i) ≠ NB → R' i ≠ NB := by
    intro i hi q
    have a := h1s.dia i hi q
    have b := (hB (i * 8 + i) (by omega)).resolve_left q
    unfold NB
    omega
  have two : ∀ i j, i < 8 → j < 8 → i ≠ j → j ≠ opp i → M (i * 8 + j) ≠ NB → R (nf i j) ≠ NB ∧ R (nf i j) ≤ U := by
    intro i j hi hj e1 e2 q
    have a := h.off i j hi hj e1 e2 q
    have b := (hB (i * 8 + j) (by omega)).resolve_left q
    exact ⟨by unfold NB; omega, by omega⟩
  have le2 : ∀ f, f < 32 → R2 f ≤ R' f := h2.le
  -- a sum of two that are bounds
  have gen : ∀ i j, i < 8 → j < 8 → i ≠ s → j ≠ opp s → M (i * 8 + opp s) ≠ NB → M (s * 8 + j) ≠ NB →
      (j = opp i → 0 ≤ M (i * 8 + opp s) + M (s * 8 + j)) ∧ (j = i → 2 * R2 i ≤ M (i * 8 + opp s) + M (s * 8 + j)) ∧ (j ≠ i → j ≠ opp i → R2 (nf i j) ≤ M (i * 8 + opp s) + M (s * 8 + j)) := by
    intro i j hi hj n1 n2 f1 f2
    by_cases ei : i = opp s
    · subst ei
      by_cases ej : j = s
      · subst ej
        obtain ⟨a1, a2⟩ := one (opp j) ho f1
        obtain ⟨b1, b2⟩ := one j hs f2
        have a := h.dia (opp j) ho f1
        have b := h.dia j hs f2
        have z := h1.zer (opp j) j (by omega) (by omega) ((tab3 (opp j) ho j hs).1 hoo.symm) a1 b1
        exact ⟨fun _ => by omega, fun e => absurd e.symm hne, fun _ e => absurd hoo.symm e⟩
      · have t := tab2 s hs j hj ⟨ej, n2⟩
        obtain ⟨a1, a2⟩ := one (opp s) ho f1
        obtain ⟨b1, b2⟩ := two s j hs hj (fun e => ej e.symm) n2 f2
        have a := h.dia (opp s) ho f1
        have b := h.off s j hs hj (fun e => ej e.symm) n2 f2
        have hnf := (nf_ok s hs j hj n2).1
        have x := h1.sum (opp s) (nf s j) (by omega) hnf t.1 a1 b1
        rw [t.2.1] at x
        have y1 : R' j ≠ NB := by unfold NB; omega
        have y := h2.sum (opp s) j (by omega) (by omega) ((tab3 (opp s) ho j hj).2 ⟨n2, by rw [hoo]; exact ej⟩).1 (one' (opp s) ho f1) y1
        rw [((tab3 (opp s) ho j hj).2 ⟨n2, by rw [hoo]; exact ej⟩).2] at y
        have w := h1.le (opp s) (by omega)
        exact ⟨fun e => absurd (e.trans hoo) ej, fun e => absurd e n2, fun _ _ => by omega⟩
    · by_cases ej : j = s
      · subst ej
        have n3 : opp j ≠ opp i := by
          intro e
          exact n1 (by rw [← opp_opp i hi, ← e, hoo])
        have n4 : i ≠ opp (opp j) := by rw [hoo]; exact n1
        have t := tab2 (opp j) ho i hi ⟨ei, n4⟩
        rw [hoo] at t
        obtain ⟨a1, a2⟩ := two i (opp j) hi ho ei n3 f1
        obtain ⟨b1, b2⟩ := one j hs f2
        have a := h.off i (opp j) hi ho ei n3 f1
        have b := h.dia j hs f2
        have hnf := (nf_ok i hi (opp j) ho n3).1
        have x := h1.sum (nf i (opp j)) j hnf (by omega) t.2.2.1 a1 b1
        rw [t.2.2.2] at x
        have y1 : R' i ≠ NB := by unfold NB; omega
        have n5 : j ≠ opp i := by
          intro e
          exact ei (opp_eq hi e)
        have y := h2.sum i j (by omega) (by omega) ((tab3 i hi j hj).2 ⟨fun e => n1 e.symm, n5⟩).1 y1 (one' j hs f2)
        rw [((tab3 i hi j hj).2 ⟨fun e => n1 e.symm, n5⟩).2] at y
        have w := h1.le j (by omega)
        exact ⟨fun e => absurd e n5, fun e => absurd e.symm n1, fun _ _ => by omega⟩
      · have t := tab1 i hi s hs j hj ⟨n1, ei, ej, n2⟩
        have n3 : opp s ≠ opp i := by
          intro e
          exact n1 (by rw [← opp_opp i hi, ← e, hoo])
        obtain ⟨a1, a2⟩ := two i (opp s) hi ho ei n3 f1
        obtain ⟨b1, b2⟩ := two s j hs hj (fun e => ej e.symm) n2 f2
        have a := h.off i (opp s) hi ho ei n3 f1
        have b := h.off s j hs hj (fun e => ej e.symm) n2 f2
        have g1 := (nf_ok i hi (opp s) ho n3).1
        have g2 := (nf_ok s hs j hj n2).1
        refine ⟨fun e => ?_, fun e => ?_, fun e1 e2 => ?_⟩
        · have := h1.zer _ _ g1 g2 (t.1 e) a1 b1
          omega
        · have x := h1.dou _ _ g1 g2 (t.2.1 e).1 a1 b1
          rw [(t.2.1 e).2] at x
          have := le2 i (by omega)
          omega
        · have x := h1.sum _ _ g1 g2 (t.2.2 ⟨e1, e2⟩).1 a1 b1
          rw [(t.2.2 ⟨e1, e2⟩).2] at x
          have := le2 (nf i j) (nf_ok i hi j hj e2).1
          omega
  refine ⟨fun i hi q => ?_, fun i j hi hj e1 e2 q => ?_, fun i hi => ?_⟩
  · rw [chain_at hs h0 hi hi] at q ⊢
    rcases mnpl q with ⟨e, z⟩ | ⟨e, z1, z2⟩
    · rw [e]; exact hm.dia i hi z
    · rw [e]
      by_cases x1 : i = s
      · subst x1; rw [h0]; have := hm.dia i hi z2; omega
      · by_cases x2 : i = opp s
        · have := (gen i i hi hi x1)
          subst x2
          rw [hoo] at *
          have := hm.dia (opp s) ho z1
          rw [show s * 8 + opp s = s * 8 + opp s from rfl, h0]
          omega
        · exact (gen i i hi hi x1 x2 z1 z2).2.1 rfl
  · rw [chain_at hs h0 hi hj] at q ⊢
    rcases mnpl q with ⟨e, z⟩ | ⟨e, z1, z2⟩
    · rw [e]; exact hm.off i j hi hj e1 e2 z
    · rw [e]
      by_cases x1 : i = s
      · subst x1; rw [h0]; have := hm.off i j hi hj e1 e2 z2; omega
      · by_cases x2 : j = opp s
        · subst x2; rw [h0]; have := hm.off i (opp s) hi hj e1 e2 z1; omega
        · exact (gen i j hi hj x1 x2 z1 z2).2.2 (fun e => e1 e.symm) e2
  · have hoi := opp_lt hi
    rw [chain_at hs h0 hi hoi]
    by_cases q : mn (M (i * 8 + opp i)) (pl (M (i * 8 + opp s)) (M (s * 8 + opp i))) = NB
    · rw [q]; decide
    · rcases mnpl q with ⟨e, z⟩ | ⟨e, z1, z2⟩
      · rw [e]; exact h.zer i hi
      · rw [e]
        by_cases x1 : i = s
        · subst x1; rw [h0]; exact Int.le_refl _
        · have x2 : opp i ≠ opp s := by
            intro e
            exact x1 (by rw [← opp_opp i hi, e, hoo])
          exact (gen i (opp i) hi hoi x1 x2 z1 z2).1 rfl

end Go.Proofs.YtffajooegiempaaGreatDoor

/- The document's rounds come to what the program comes to. No Go in here. -/
namespace Go.Proofs.YtffajooegiempaaGreatDoor

theorem fol1 {f g : Nat} {c : Int} (h : kdT f g = 1) : (c < 0 → folV (vadd f g) c = (-2, 0)) ∧ (¬ c < 0 → folV (vadd f g) c = (-1, 0)) := by
  have h' : kd (vadd f g) = 1 := h
  unfold folV
  rw [h']
  exact ⟨fun q => if_pos ⟨rfl, q⟩, fun q => by rw [if_neg (fun z => q z.2), if_neg (by decide), if_neg (by decide)]⟩
theorem fol2 {f g : Nat} {c : Int} (hf : f < 32) (hg : g < 32) (h : kdT f g = 2) : folV (vadd f g) c = ((nmT f g : Int), c / 2) := by
  have h' : kd (vadd f g) = 2 := h
  unfold folV
  rw [h', if_neg (fun z => absurd z.1 (by decide)), if_pos rfl, ((nm_ok f hf g hg).1 h).1]
theorem fol3 {f g : Nat} {c : Int} (hf : f < 32) (hg : g < 32) (h : kdT f g = 3) : folV (vadd f g) c = ((nmT f g : Int), c) := by
  have h' : kd (vadd f g) = 3 := h
  unfold folV
  rw [h', if_neg (fun z => absurd z.1 (by decide)), if_neg (by decide), if_pos rfl, ((nm_ok f hf g hg).2 h).1]
theorem fol0 {f g : Nat} {c : Int} (h1 : kdT f g ≠ 1) (h2 : kdT f g ≠ 2) (h3 : kdT f g ≠ 3) : folV (vadd f g) c = (-1, 0) := by
  unfold folV
  rw [if_neg (fun z => h1 z.1), if_neg (show ¬ kd (vadd f g) = 2 from h2), if_neg (show ¬ kd (vadd f g) = 3 from h3)]

/-- One step of a round. -/
def rs1 (R : Nat → Int) (b : Bool) (f g : Nat) : Option ((Nat → Int) × Bool) :=
  if R f = NB ∨ R g = NB then some (R, b)
  else if (folV (vadd f g) (R f + R g)).1 = -2 then none
  else if 0 ≤ (folV (vadd f g) (R f + R g)).1 ∧ (folV (vadd f g) (R f + R g)).2 < R (folV (vadd f g) (R f + R g)).1.toNat then some (upd R (folV (vadd f g) (R f + R g)).1.toNat (folV (vadd f g) (R f + R g)).2, true)
  else some (R, b)
def rF (R : Nat → Int) : Nat → Option ((Nat → Int) × Bool)
  | 0 => some (R, false)
  | k + 1 => match rF R k with
    | none => none
    | some (R', b) => rs1 R' b (k / 32) (k % 32)
/-- What a step does, by what two forms come to. -/
inductive Rs (R : Nat → Int) (b : Bool) (f g : Nat) : Option ((Nat → Int) × Bool) → Prop
  | none : R f ≠ NB → R g ≠ NB → kdT f g = 1 → R f + R g < 0 → Rs R b f g none
  | same : (R f ≠ NB → R g ≠ NB → (kdT f g = 1 → 0 ≤ R f + R g) ∧ (kdT f g = 2 → R (nmT f g) ≤ (R f + R g) / 2) ∧ (kdT f g = 3 → R (nmT f g) ≤ R f + R g)) → Rs R b f g (some (R, b))
  | put (n : Nat) (c : Int) : R f ≠ NB → R g ≠ NB → n < 32 → n = nmT f g → c < R n → (kdT f g = 2 ∧ c = (R f + R g) / 2) ∨ (kdT f g = 3 ∧ c = R f + R g) → Rs R b f g (some (upd R n c, true))
theorem rs1_is (R : Nat → Int) (b : Bool) {f g : Nat} (hf : f < 32) (hg : g < 32) : Rs R b f g (rs1 R b f g) := by
  unfold rs1
  by_cases q : R f = NB ∨ R g = NB
  · rw [if_pos q]
    exact .same fun h1 h2 => absurd q (fun z => z.elim h1 h2)
  · rw [if_neg q]
    have q1 : R f ≠ NB := fun z => q (.inl z)
    have q2 : R g ≠ NB := fun z => q (.inr z)
    by_cases k1 : kdT f g = 1
    · by_cases c : R f + R g < 0
      · rw [(fol1 k1).1 c, if_pos rfl]
        exact .none q1 q2 k1 c
      · rw [(fol1 k1).2 c, if_neg (by decide), if_neg (fun z => absurd z.1 (by decide))]
        exact .same fun _ _ => ⟨fun _ => by omega, fun z => absurd (k1.symm.trans z) (by decide), fun z => absurd (k1.symm.trans z) (by decide)⟩
    · by_cases k2 : kdT f g = 2
      · rw [fol2 hf hg k2, if_neg (by show ¬ ((nmT f g : Nat) : Int) = -2; omega)]
        show Rs R b f g (if 0 ≤ ((nmT f g : Nat) : Int) ∧ (R f + R g) / 2 < R (((nmT f g : Nat) : Int)).toNat then some (upd R (((nmT f g : Nat) : Int)).toNat ((R f + R g) / 2), true) else some (R, b))
        rw [Int.toNat_natCast]
        by_cases c : (R f + R g) / 2 < R (nmT f g)
        · rw [if_pos ⟨by omega, c⟩]
          exact .put _ _ q1 q2 (by have := ((nm_ok f hf g hg).1 k2).2; omega) rfl c (.inl ⟨k2, rfl⟩)
        · rw [if_neg (fun z => c z.2)]
          exact .same fun _ _ => ⟨fun z => absurd z k1, fun _ => by omega, fun z => absurd (k2.symm.trans z) (by decide)⟩
      · by_cases k3 : kdT f g = 3
        · rw [fol3 hf hg k3, if_neg (by show ¬ ((nmT f g : Nat) : Int) = -2; omega)]
          show Rs R b f g (if 0 ≤ ((nmT f g : Nat) : Int) ∧ (R f + R g) < R (((nmT f g : Nat) : Int)).toNat then some (upd R (((nmT f g : Nat) : Int)).toNat (R f + R g), true) else some (R, b))
          rw [Int.toNat_natCast]
          by_cases c : R f + R g < R (nmT f g)
          · rw [if_pos ⟨by omega, c⟩]
            exact .put _ _ q1 q2 ((nm_ok f hf g hg).2 k3).2 rfl c (.inr ⟨k3, rfl⟩)
          · rw [if_neg (fun z => c z.2)]
            exact .same fun _ _ => ⟨fun z => absurd z k1, fun z => absurd (k3.symm.trans z) (by decide), fun _ => by omega⟩
        · rw [fol0 k1 k2 k3, if_neg (by decide), if_neg (fun z => absurd z.1 (by decide))]
          exact .same fun _ _ => ⟨fun z => absurd z k1, fun z => absurd z k2, fun z => absurd z k3⟩

/-- What stands when part of a round is done. -/
structure RI (R : Nat → Int) (k : Nat) (R' : Nat → Int) (b : Bool) : Prop where
  le : ∀ f, f < 32 → R' f ≤ R f
  same : b = false → ∀ f, f < 32 → R' f = R f
  more : b = true → ∃ f, f < 32 ∧ R' f < R f
  done : ∀ m, m < k → R (m / 32) ≠ NB → R (m % 32) ≠ NB → (kdT (m / 32) (m % 32) = 1 → 0 ≤ R (m / 32) + R (m % 32)) ∧ (kdT (m / 32) (m % 32) = 2 → R' (nmT (m / 32) (m % 32)) ≤ (R (m / 32) + R (m % 32)) / 2) ∧ (kdT (m / 32) (m % 32) = 3 → R' (nmT (m / 32) (m % 32)) ≤ R (m / 32) + R (m % 32))
theorem nm_lt {f g : Nat} (hf : f < 32) (hg : g < 32) (h : kdT f g = 2 ∨ kdT f g = 3) : nmT f g < 32 := by
  rcases h with h | h
  · have := ((nm_ok f hf g hg).1 h).2; omega
  · exact ((nm_ok f hf g hg).2 h).2
theorem rF_inv {R : Nat → Int} (hR : ∀ f, f < 32 → R f ≤ NB) : ∀ k, k ≤ 1024 → ∀ R' b, rF R k = some (R', b) → RI R k R' b := by
  intro k
  induction k with
  | zero =>
    intro _ R' b h
    rw [rF] at h
    cases h
    exact ⟨fun _ _ => Int.le_refl _, fun _ _ _ => rfl, fun q => Bool.noConfusion q, fun m hm => by omega⟩
  | succ k ih =>
    intro hk R' b h
    rw [rF] at h
    generalize hp : rF R k = p at h
    match p, hp, h with
    | some (R1, b1), hp, h =>
      have hi := ih (by omega) R1 b1 hp
      have hf : k / 32 < 32 := by omega
      have hg : k % 32 < 32 := by omega
      have s := rs1_is R1 b1 hf hg
      replace h : rs1 R1 b1 (k / 32) (k % 32) = some (R', b) := h
      rw [h] at s
      have fin : ∀ f, f < 32 → R f ≠ NB → R1 f ≠ NB := by
        intro f hf q
        have := hR f hf
        have := hi.le f hf
        omega
      cases s with
      | same hs =>
        refine ⟨hi.le, hi.same, hi.more, fun m hm q1 q2 => ?_⟩
        rcases Nat.lt_or_eq_of_le (Nat.lt_succ_iff.1 hm) with e | e
        · exact hi.done m e q1 q2
        · subst e
          obtain ⟨a1, a2, a3⟩ := hs (fin _ hf q1) (fin _ hg q2)
          have l1 := hi.le _ hf
          have l2 := hi.le _ hg
          exact ⟨fun z => by have := a1 z; omega, fun z => by have := a2 z; omega, fun z => by have := a3 z; omega⟩
      | put n c q1 q2 hn en hc hk' =>
        have le' : ∀ f, f < 32 → upd R1 n c f ≤ R1 f := by
          intro f hf
          unfold upd
          split
          · rename_i e; subst e; omega
          · exact Int.le_refl _
        refine ⟨fun f hf => Int.le_trans (le' f hf) (hi.le f hf), fun q => Bool.noConfusion q, fun _ => ⟨n, hn, ?_⟩, fun m hm w1 w2 => ?_⟩
        · rw [upd_same]
          have := hi.le n hn
          omega
        · rcases Nat.lt_or_eq_of_le (Nat.lt_succ_iff.1 hm) with e | e
          · obtain ⟨a1, a2, a3⟩ := hi.done m e w1 w2
            refine ⟨a1, fun z => ?_, fun z => ?_⟩
            · exact Int.le_trans (le' _ (nm_lt (by omega) (by omega) (.inl z))) (a2 z)
            · exact Int.le_trans (le' _ (nm_lt (by omega) (by omega) (.inr z))) (a3 z)
          · subst e
            have l1 := hi.le _ hf
            have l2 := hi.le _ hg
            rw [← en, upd_same]
            rcases hk' with ⟨k2, ec⟩ | ⟨k3, ec⟩
            · exact ⟨fun z => absurd (k2.symm.trans z) (by decide), fun _ => by omega, fun z => absurd (k2.symm.trans z) (by decide)⟩
            · exact ⟨fun z => absurd (k3.symm.trans z) (by decide), fun z => absurd (k3.symm.trans z) (by decide), fun _ => by omega⟩
theorem rF_rd {R R' : Nat → Int} {b : Bool} (hR : ∀ f, f < 32 → R f ≤ NB) (h : rF R 1024 = some (R', b)) : RdO R R' := by
  have hi := rF_inv hR 1024 (Nat.le_refl _) R' b h
  have hd : ∀ f g, f < 32 → g < 32 → R f ≠ NB → R g ≠ NB → (kdT f g = 1 → 0 ≤ R f + R g) ∧ (kdT f g = 2 → R' (nmT f g) ≤ (R f + R g) / 2) ∧ (kdT f g = 3 → R' (nmT f g) ≤ R f + R g) := by
    intro f g hf hg
    have := hi.done (f * 32 + g) (by omega)
    rw [show (f * 32 + g) / 32 = f by omega, show (f * 32 + g) % 32 = g by omega] at this
    exact this
  exact ⟨hi.le, fun f g hf hg k q1 q2 => (hd f g hf hg q1 q2).1 k, fun f g hf hg k q1 q2 => (hd f g hf hg q1 q2).2.1 k, fun f g hf hg k q1 q2 => (hd f g hf hg q1 q2).2.2 k⟩

/- Seventeen rounds. -/
theorem Raw.rounds {M : Nat → Int} (h : Raw M) {R : Nat → Nat → Int} (hr : ∀ r, r < 16 → RdO (R r) (R (r + 1))) (h0 : Un (R 0) M) : ∀ s, s ≤ 8 → Ex M s ∧ Un (R (2 * s)) (fw M s) := by
  intro s
  induction s with
  | zero => intro _; exact ⟨fun r hr => by omega, h0⟩
  | succ s ih =>
    intro hs
    obtain ⟨hx, hu⟩ := ih (by omega)
    have hz : fw M s (s * 8 + opp s) = 0 := by
      have a := hu.zer s (by omega)
      have b := fw_le M s (s * 8 + opp s)
      rw [h.zero s (by omega)] at b
      omega
    refine ⟨fun r hr => ?_, ?_⟩
    · rcases Nat.lt_or_eq_of_le (Nat.lt_succ_iff.1 hr) with e | e
      · exact hx r e
      · rw [e]; exact hz
    · rw [fw, show 2 * (s + 1) = 2 * s + 1 + 1 by omega]
      exact hu.chain (by omega) (U := 7 * 60000) (by decide) (by decide) (fw_bd (by decide) (by decide) h.bd h.zero s (by omega) hx) hz (hr (2 * s) (by omega)) (hr (2 * s + 1) (by omega))
theorem Un.sharp {R R' T : Nat → Int} (hB : Bd 432000 T) (h : Un R T) (hr : RdO R R') : Un R' (ahF (rdF T 8) 64) := by
  have sh : ∀ {i j : Nat}, i < 8 → j < 8 → ShAt T (ahF (rdF T 8) 64 (i * 8 + j)) i j := fun hi hj => sh_at (U := 432000) (by omega) hB hi hj
  generalize ahF (rdF T 8) 64 = C at sh ⊢
  have h' := h.rd hr
  have one : ∀ i, i < 8 → ev (T (i * 8 + i)) ≠ NB → R i ≠ NB ∧ 2 * R i ≤ ev (T (i * 8 + i)) := by
    intro i hi q
    obtain ⟨k1, k2⟩ := ev_fin q
    have a := h.dia i hi k1
    have b := (hB (i * 8 + i) (by omega)).resolve_left k1
    rw [k2]
    exact ⟨by unfold NB; omega, by omega⟩
  refine ⟨fun i hi q => ?_, fun i j hi hj e1 e2 q => ?_, fun i hi => ?_⟩
  · rw [sh_dia (sh hi hi)] at q ⊢
    have := (one i hi q).2
    have := hr.le i (by omega)
    omega
  · rcases (sh hi hj).cas with z | ⟨_, z2, z3⟩ | ⟨z1, z2, z3⟩
    · exact absurd z q
    · rw [z2]; exact h'.off i j hi hj e1 e2 z3
    · obtain ⟨a1, a2⟩ := one i hi z1
      obtain ⟨b1, b2⟩ := one j hj z2
      have t := (tab3 i hi j hj).2 ⟨fun e => e1 e.symm, e2⟩
      have x := hr.sum i j (by omega) (by omega) t.1 a1 b1
      rw [t.2] at x
      omega
  · rcases (sh hi (opp_lt hi)).cas with z | ⟨_, z2, z3⟩ | ⟨z1, z2, z3⟩
    · rw [z]; decide
    · rw [z2]; exact h.zer i hi
    · obtain ⟨a1, a2⟩ := one i hi z1
      obtain ⟨b1, b2⟩ := one (opp i) (opp_lt hi) z2
      have x := hr.zer i (opp i) (by omega) (by have := opp_lt hi; omega) ((tab3 i hi (opp i) (opp_lt hi)).1 rfl) a1 b1
      omega
theorem Raw.rounds17 {M : Nat → Int} (h : Raw M) {R : Nat → Nat → Int} (hr : ∀ r, r < 17 → RdO (R r) (R (r + 1))) (h0 : Un (R 0) M) : Un (R 17) (sharp M) := by
  obtain ⟨hx, hu⟩ := h.rounds (fun r hr' => hr r (by omega)) h0 8 (Nat.le_refl _)
  exact hu.sharp ((fw_bd (by decide) (by decide) h.bd h.zero 8 (Nat.le_refl _) hx).mono (by decide)) (hr 16 (by omega))

end Go.Proofs.YtffajooegiempaaGreatDoor

