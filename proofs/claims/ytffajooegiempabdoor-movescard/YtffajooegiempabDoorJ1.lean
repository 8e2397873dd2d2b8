import Derived.Test.YtffajooegiempabDoorJ0
import Derived.Test.YtffajooegiempabDoorRows
import Derived.WalkKit
import Derived.WalkSpells
import Derived.WalkLawsBesides
import Derived.BigQuiet
import Derived.Deep.QuietTactic
import Derived.Laws.CopyOwn
import Derived.Laws.MakeOwn
/- Bounds that have been sharpened: nothing more follows from them. No Go in here. -/
namespace Go.Proofs.YtffajooegiempabDoor

theorem fw_mono (M : Nat → Int) (s : Nat) : ∀ k a, fw M (s + k) a ≤ fw M s a
  | 0, _ => Int.le_refl _
  | k + 1, a => by
    show chF (s + k) (fw M (s + k)) 64 a ≤ _
    exact Int.le_trans (chF_le _ _ 64 a) (fw_mono M s k a)
theorem fw_ex {M : Nat → Int} (h0 : ∀ t, t < 8 → M (t * 8 + opp t) = 0) (h : ∀ t, t < 8 → 0 ≤ fw M 8 (t * 8 + opp t)) : Ex M 8 := by
  intro r hr
  have h1 := fw_le M r (r * 8 + opp r)
  rw [h0 r hr] at h1
  have h2 := fw_mono M r (8 - r) (r * 8 + opp r)
  rw [show r + (8 - r) = 8 by omega] at h2
  have := h r hr
  omega

/-- What is made even. -/
def ev (x : Int) : Int := if x = NB then NB else x / 2 * 2
theorem rd_dia (M : Nat → Int) {i : Nat} (hi : i < 8) : rdF M 8 (i * 8 + i) = ev (M (i * 8 + i)) := by
  rw [rdF_at]
  unfold ev
  by_cases h : M (i * 8 + i) = NB
  · rw [if_neg (fun q => q.2.2 h), if_pos h, h]
  · rw [if_pos ⟨by omega, by omega, h⟩, if_neg h]
theorem rd_off (M : Nat → Int) {i j : Nat} (hi : i < 8) (hj : j < 8) (h : i ≠ j) : rdF M 8 (i * 8 + j) = M (i * 8 + j) := by
  rw [rdF_at, if_neg (by omega)]
theorem ev_fin {x : Int} (h : ev x ≠ NB) : x ≠ NB ∧ ev x = x / 2 * 2 := by
  unfold ev at h ⊢
  by_cases q : x = NB
  · rw [if_pos q] at h; exact absurd rfl h
  · exact ⟨q, if_neg q⟩
theorem ev_bd {x U : Int} (h : x = NB ∨ x ≤ U) : ev x = NB ∨ (x ≠ NB ∧ ev x ≤ U ∧ ev x % 2 = 0) := by
  unfold ev
  by_cases q : x = NB
  · rw [if_pos q]; exact .inl rfl
  · have := h.resolve_left q
    rw [if_neg q]
    exact .inr ⟨q, by omega, by omega⟩
theorem tdiv_even {x : Int} (h : x % 2 = 0) : x.tdiv 2 * 2 = x := by
  have h1 := tdiv2 x
  rcases Int.lt_or_le x 0 with e | e
  · rw [h1.2 e]; omega
  · rw [h1.1 e]; omega

/-- Each bound against those of the two sides alone: the bounds of one side stay. -/
theorem ahF_dia (N : Nat → Int) : ∀ k, k ≤ 64 → ∀ i, i < 8 → ahF N k (i * 8 + i) = N (i * 8 + i) := by
  intro k
  induction k with
  | zero => intro _ i _; rfl
  | succ k ih =>
    intro hk i hi
    have hc := ih (by omega)
    rw [ahF]
    unfold ah1
    split
    · rename_i q
      by_cases e : i * 8 + i = k
      · subst e
        rw [show (i * 8 + i) / 8 = i by omega, show (i * 8 + i) % 8 = i by omega, hc i hi] at q
        obtain ⟨q1, _, q3⟩ := pl_fin q.1
        have h2 := q.2
        rw [q3] at h2
        have := tdiv_even (x := N (i * 8 + i) + N (i * 8 + i)) (by omega)
        omega
      · rw [upd_other _ _ e]; exact hc i hi
    · exact hc i hi
theorem ahF_at (N : Nat → Int) : ∀ k, k ≤ 64 → ∀ a, a < 64 → ahF N k a = if a < k ∧ pl (N (a / 8 * 8 + a / 8)) (N (a % 8 * 8 + a % 8)) ≠ NB ∧ (pl (N (a / 8 * 8 + a / 8)) (N (a % 8 * 8 + a % 8))).tdiv 2 < N a then (pl (N (a / 8 * 8 + a / 8)) (N (a % 8 * 8 + a % 8))).tdiv 2 else N a := by
  intro k
  induction k with
  | zero => intro _ a _; rw [ahF, if_neg (by omega)]
  | succ k ih =>
    intro hk a ha
    have hc := ih (by omega)
    have hd := ahF_dia N k (by omega)
    rw [ahF]
    unfold ah1
    rw [hd (k / 8) (by omega), hd (k % 8) (by omega)]
    have hkk : ahF N k k = N k := by rw [hc k (by omega), if_neg (by omega)]
    rw [hkk]
    by_cases e : a = k
    · subst e
      split
      · rename_i q; rw [upd_same, if_pos ⟨by omega, q⟩]
      · rename_i q; rw [hkk, if_neg (fun z => q z.2)]
    · have : (if pl (N (k / 8 * 8 + k / 8)) (N (k % 8 * 8 + k % 8)) ≠ NB ∧ (pl (N (k / 8 * 8 + k / 8)) (N (k % 8 * 8 + k % 8))).tdiv 2 < N k then upd (ahF N k) k ((pl (N (k / 8 * 8 + k / 8)) (N (k % 8 * 8 + k % 8))).tdiv 2) else ahF N k) a = ahF N k a := by
        split
        · exact upd_other _ _ e
        · rfl
      rw [this, hc a ha]
      by_cases q : pl (N (a / 8 * 8 + a / 8)) (N (a % 8 * 8 + a % 8)) ≠ NB ∧ (pl (N (a / 8 * 8 + a / 8)) (N (a % 8 * 8 + a % 8))).tdiv 2 < N a
      · by_cases z : a < k
        · rw [if_pos ⟨z, q⟩, if_pos ⟨by omega, q⟩]
        · rw [if_neg (fun y => z y.1), if_neg (fun y => by omega)]
      · rw [if_neg (fun y => q y.2), if_neg (fun y => q y.2)]

/-- What 'sharp' comes to, for two sides. -/
structure ShAt (T : Nat → Int) (c : Int) (i j : Nat) : Prop where
  le1 : T (i * 8 + j) ≠ NB → c ≠ NB ∧ c ≤ T (i * 8 + j)
  le2 : ev (T (i * 8 + i)) ≠ NB → ev (T (j * 8 + j)) ≠ NB → c ≠ NB ∧ 2 * c ≤ ev (T (i * 8 + i)) + ev (T (j * 8 + j))
  cas : c = NB ∨ (i ≠ j ∧ c = T (i * 8 + j) ∧ T (i * 8 + j) ≠ NB) ∨ (ev (T (i * 8 + i)) ≠ NB ∧ ev (T (j * 8 + j)) ≠ NB ∧ 2 * c = ev (T (i * 8 + i)) + ev (T (j * 8 + j)))
theorem sh_at {T : Nat → Int} {U : Int} (hU : 2 * U < 1000000) (hB : Bd U T) {i j : Nat} (hi : i < 8) (hj : j < 8) : ShAt T (ahF (rdF T 8) 64 (i * 8 + j)) i j := by
  have hE : ∀ i, i < 8 → rdF T 8 (i * 8 + i) = NB ∨ rdF T 8 (i * 8 + i) % 2 = 0 := by
    intro i hi
    rw [rd_dia T hi]
    rcases ev_bd (hB (i * 8 + i) (by omega)) with q | q
    · exact .inl q
    · exact .inr q.2.2
  have hc := ahF_at (rdF T 8) 64 (Nat.le_refl _) (i * 8 + j) (by omega)
  rw [show (i * 8 + j) / 8 = i by omega, show (i * 8 + j) % 8 = j by omega, rd_dia T hi, rd_dia T hj] at hc
  have bi := ev_bd (hB (i * 8 + i) (by omega))
  have bj := ev_bd (hB (j * 8 + j) (by omega))
  have bt := hB (i * 8 + j) (by omega)
  have hN : rdF T 8 (i * 8 + j) = if i = j then ev (T (i * 8 + j)) else T (i * 8 + j) := by
    by_cases e : i = j
    · subst e; rw [if_pos rfl, rd_dia T hi]
    · rw [if_neg e, rd_off T hi hj e]
  have hNle : T (i * 8 + j) ≠ NB → rdF T 8 (i * 8 + j) ≠ NB ∧ rdF T 8 (i * 8 + j) ≤ T (i * 8 + j) := by
    intro q
    rw [hN]
    split
    · unfold ev NB at *
      rw [if_neg q]
      have := bt.resolve_left q
      constructor <;> omega
    · exact ⟨q, Int.le_refl _⟩
  generalize ahF (rdF T 8) 64 (i * 8 + j) = c at hc ⊢
  by_cases p : ev (T (i * 8 + i)) = NB ∨ ev (T (j * 8 + j)) = NB
  · have e1 : pl (ev (T (i * 8 + i))) (ev (T (j * 8 + j))) = NB := if_pos p
    rw [e1, if_neg (fun q => q.2.1 rfl)] at hc
    subst hc
    refine ⟨hNle, fun q1 q2 => absurd p (fun z => z.elim q1 q2), ?_⟩
    by_cases e : i = j
    · subst e
      left
      rw [hN, if_pos rfl]
      exact p.elim id id
    · rw [hN, if_neg e]
      by_cases z : T (i * 8 + j) = NB
      · exact .inl z
      · exact .inr (.inl ⟨e, rfl, z⟩)
  · have p1 : ev (T (i * 8 + i)) ≠ NB := fun q => p (.inl q)
    have p2 : ev (T (j * 8 + j)) ≠ NB := fun q => p (.inr q)
    obtain ⟨_, b1, b2⟩ := bi.resolve_left p1
    obtain ⟨_, c1, c2⟩ := bj.resolve_left p2
    have e1 : pl (ev (T (i * 8 + i))) (ev (T (j * 8 + j))) = ev (T (i * 8 + i)) + ev (T (j * 8 + j)) := if_neg p
    have e2 := tdiv_even (x := ev (T (i * 8 + i)) + ev (T (j * 8 + j))) (by omega)
    rw [e1] at hc
    have hn : ev (T (i * 8 + i)) + ev (T (j * 8 + j)) ≠ NB := by unfold NB; omega
    by_cases q : (ev (T (i * 8 + i)) + ev (T (j * 8 + j))).tdiv 2 < rdF T 8 (i * 8 + j)
    · rw [if_pos ⟨by omega, hn, q⟩] at hc
      subst hc
      have z : (ev (T (i * 8 + i)) + ev (T (j * 8 + j))).tdiv 2 ≠ NB := by unfold NB; omega
      refine ⟨fun t => ⟨z, ?_⟩, fun _ _ => ⟨z, by omega⟩, .inr (.inr ⟨p1, p2, by omega⟩)⟩
      have := (hNle t).2
      omega
    · rw [if_neg (fun y => q y.2.2)] at hc
      subst hc
      have hle : rdF T 8 (i * 8 + j) * 2 ≤ ev (T (i * 8 + i)) + ev (T (j * 8 + j)) := by omega
      refine ⟨hNle, fun _ _ => ⟨by unfold NB; omega, by omega⟩, ?_⟩
      by_cases e : i = j
      · subst e
        right; right
        refine ⟨p1, p2, ?_⟩
        rw [hN, if_pos rfl]
        omega
      · rw [hN, if_neg e]
        by_cases z : T (i * 8 + j) = NB
        · exact .inl z
        · exact .inr (.inl ⟨e, rfl, z⟩)

/-- Bounds from which nothing follows any more. -/
structure TC (C : Nat → Int) : Prop where
  tri : Tri C
  zero : ∀ i, i < 8 → C (i * 8 + opp i) = 0
  even : ∀ i, i < 8 → C (i * 8 + i) = NB ∨ C (i * 8 + i) % 2 = 0
  half : ∀ i j, i < 8 → j < 8 → C (i * 8 + i) ≠ NB → C (j * 8 + j) ≠ NB → C (i * 8 + j) ≠ NB ∧ 2 * C (i * 8 + j) ≤ C (i * 8 + i) + C (j * 8 + j)
  sym : Sym C
  top : Bd 432000 C
theorem conF_false {M : Nat → Int} : ∀ {n : Nat}, conF M n = false → ∀ i, i < n → 0 ≤ M (i * 8 + opp i) := by
  intro n
  induction n with
  | zero => intro _ i hi; omega
  | succ n ih =>
    intro h i hi
    rw [conF, Bool.or_eq_false_iff] at h
    rcases Nat.lt_or_eq_of_le (Nat.lt_succ_iff.1 hi) with e | e
    · exact ih h.1 i e
    · subst e; have := of_decide_eq_false h.2; omega
theorem sh_dia {T : Nat → Int} {c : Int} {i : Nat} (h : ShAt T c i i) : c = ev (T (i * 8 + i)) := by
  rcases h.cas with q | q | q
  · rw [q]
    by_cases z : ev (T (i * 8 + i)) = NB
    · exact z.symm
    · exact absurd q (h.le2 z z).1
  · exact absurd rfl q.1
  · omega
theorem tri_mix {T : Nat → Int} (hT : Tri T) (hS : Sym T) {i k : Nat} (hi : i < 8) (hk : k < 8) (h1 : T (i * 8 + opp k) ≠ NB) (h2 : ev (T (k * 8 + k)) ≠ NB) (hB : T (i * 8 + i) = NB ∨ T (i * 8 + i) ≤ 432000) : ev (T (i * 8 + i)) ≠ NB ∧ ev (T (i * 8 + i)) ≤ 2 * T (i * 8 + opp k) + ev (T (k * 8 + k)) := by
  have ho := opp_lt hk
  obtain ⟨k1, k2⟩ := ev_fin h2
  have a := hT (opp k) ho k i hk hi
  rw [opp_opp k hk, ← hS i (opp k) hi ho] at a
  obtain ⟨a1, a2⟩ := (a.resolve_left k1).resolve_left h1
  have b := hT k hk i i hi hi
  obtain ⟨b1, b2⟩ := (b.resolve_left h1).resolve_left a1
  have := hB.resolve_left b1
  have e : ev (T (i * 8 + i)) = T (i * 8 + i) / 2 * 2 := if_neg b1
  rw [e, k2]
  exact ⟨by unfold NB; omega, by omega⟩
theorem sh_tc {T : Nat → Int} (hT : Tri T) (hS : Sym T) (hB : Bd 432000 T) (h0 : ∀ i, i < 8 → T (i * 8 + opp i) = 0) (hc : ∀ i, i < 8 → 0 ≤ ahF (rdF T 8) 64 (i * 8 + opp i)) : TC (ahF (rdF T 8) 64) := by
  have sh : ∀ {i j : Nat}, i < 8 → j < 8 → ShAt T (ahF (rdF T 8) 64 (i * 8 + j)) i j := fun hi hj => sh_at (U := 432000) (by omega) hB hi hj
  have dia : ∀ {i : Nat}, i < 8 → ahF (rdF T 8) 64 (i * 8 + i) = ev (T (i * 8 + i)) := fun hi => sh_dia (sh hi hi)
  generalize hC : ahF (rdF T 8) 64 = C at sh dia hc ⊢
  have zero : ∀ i, i < 8 → C (i * 8 + opp i) = 0 := by
    intro i hi
    have := ((sh hi (opp_lt hi)).le1 (by rw [h0 i hi]; decide)).2
    rw [h0 i hi] at this
    have := hc i hi
    omega
  have dd : ∀ i, i < 8 → ev (T (i * 8 + i)) ≠ NB → ev (T (opp i * 8 + opp i)) ≠ NB → 0 ≤ ev (T (i * 8 + i)) + ev (T (opp i * 8 + opp i)) := by
    intro i hi h1 h2
    have := ((sh hi (opp_lt hi)).le2 h1 h2).2
    rw [zero i hi] at this
    omega
  have sym : Sym C := by
    intro i j hi hj
    have a := sh hi hj
    have b := sh hj hi
    have e := hS i j hi hj
    rcases a.cas with q | ⟨q1, q2, q3⟩ | ⟨q1, q2, q3⟩
    · rcases b.cas with w | ⟨w1, w2, w3⟩ | ⟨w1, w2, w3⟩
      · rw [q, w]
      · exact absurd q (a.le1 (by rw [e]; exact w3)).1
      · exact absurd q (a.le2 w2 w1).1
    · have z1 := b.le1 (by rw [← e]; exact q3)
      rcases b.cas with w | ⟨w1, w2, w3⟩ | ⟨w1, w2, w3⟩
      · exact absurd w z1.1
      · rw [q2, w2, e]
      · have := (a.le2 w2 w1).2
        omega
    · have z1 := b.le2 q2 q1
      rcases b.cas with w | ⟨w1, w2, w3⟩ | ⟨w1, w2, w3⟩
      · exact absurd w z1.1
      · have := (a.le1 (by rw [e]; exact w3)).2
        omega
      · omega
  have mixL : ∀ {i j k : Nat}, i < 8 → j < 8 → k < 8 → T (i * 8 + opp k) ≠ NB → ev (T (k * 8 + k)) ≠ NB → ev (T (j * 8 + j)) ≠ NB → C (i * 8 + j) ≠ NB ∧ 2 * C (i * 8 + j) ≤ 2 * T (i * 8 + opp k) + (ev (T (k * 8 + k)) + ev (T (j * 8 + j))) := by
    intro i j k hi hj hk h1 h2 h3
    have m := tri_mix hT hS hi hk h1 h2 (hB _ (by omega))
    have l := (sh hi hj).le2 m.1 h3
    exact ⟨l.1, by have := l.2; have := m.2; omega⟩
  refine ⟨?_, zero, ?_, ?_, sym, ?_⟩
  · intro k hk i j hi hj
    have ho := opp_lt hk
    have a := sh hi ho
    have b := sh hk hj
    rcases a.cas with q | ⟨q1, q2, q3⟩ | ⟨q1, q2, q3⟩
    · exact .inl q
    · rcases b.cas with w | ⟨w1, w2, w3⟩ | ⟨w1, w2, w3⟩
      · exact .inr (.inl w)
      · right; right
        obtain ⟨t1, t2⟩ := ((hT k hk i j hi hj).resolve_left q3).resolve_left w3
        have l := (sh hi hj).le1 t1
        exact ⟨l.1, by rw [q2, w2]; omega⟩
      · right; right
        have l := mixL hi hj hk q3 w1 w2
        exact ⟨l.1, by rw [q2]; omega⟩
    · rcases b.cas with w | ⟨w1, w2, w3⟩ | ⟨w1, w2, w3⟩
      · exact .inr (.inl w)
      · right; right
        have e : T (j * 8 + opp (opp k)) = T (k * 8 + j) := by rw [opp_opp k hk]; exact hS j k hj hk
        have l := mixL hj hi ho (by rw [e]; exact w3) q2 q1
        rw [e, sym j i hj hi] at l
        exact ⟨l.1, by rw [w2]; omega⟩
      · right; right
        have l := (sh hi hj).le2 q1 w2
        have := dd k hk w1 q2
        exact ⟨l.1, by omega⟩
  · intro i hi
    rw [dia hi]
    rcases ev_bd (hB (i * 8 + i) (by omega)) with q | q
    · exact .inl q
    · exact .inr q.2.2
  · intro i j hi hj h1 h2
    rw [dia hi] at h1 ⊢
    rw [dia hj] at h2 ⊢
    exact (sh hi hj).le2 h1 h2
  · intro a ha
    have ea : a = a / 8 * 8 + a % 8 := by omega
    rw [ea]
    rcases (sh (i := a / 8) (j := a % 8) (by omega) (by omega)).cas with q | ⟨_, q2, q3⟩ | ⟨q1, q2, q3⟩
    · exact .inl q
    · right
      rw [q2]
      exact (hB _ (by omega)).resolve_left q3
    · right
      have e1 := (ev_bd (hB (a / 8 * 8 + a / 8) (by omega))).resolve_left q1
      have e2 := (ev_bd (hB (a % 8 * 8 + a % 8) (by omega))).resolve_left q2
      omega
/-- What the program starts from. -/
structure Raw (M : Nat → Int) : Prop where
  bd : Bd 60000 M
  sym : Sym M
  zero : ∀ i, i < 8 → M (i * 8 + opp i) = 0
theorem Raw.hi {M : Nat → Int} (h : Raw M) : ∀ a, a < 64 → M a ≤ NB := by
  intro a ha
  rcases h.bd a ha with q | q
  · omega
  · unfold NB; omega
theorem Raw.tc {M : Nat → Int} (h : Raw M) (hc : conF (sharp M) 8 = false) : TC (sharp M) := by
  have hc' := conF_false hc
  have hz : ∀ t, t < 8 → 0 ≤ fw M 8 (t * 8 + opp t) := by
    intro t ht
    have h1 := hc' t ht
    unfold sharp at h1
    have h2 := ahF_le (rdF (fw M 8) 8) 64 (t * 8 + opp t)
    have h3 := rdF_le (fw M 8) 8 (t * 8 + opp t)
    omega
  have hx := fw_ex h.zero hz
  have hT : Tri (fw M 8) := fw_tri (by decide) (by decide) h.bd h.zero 8 (Nat.le_refl _) hx
  have h0 : ∀ t, t < 8 → fw M 8 (t * 8 + opp t) = 0 := by
    intro t ht
    have h1 := fw_le M 8 (t * 8 + opp t)
    rw [h.zero t ht] at h1
    have := hz t ht
    omega
  exact sh_tc hT (fw_sym h.sym hT h.hi) ((fw_bd (by decide) (by decide) h.bd h.zero 8 (Nat.le_refl _) hx).mono (by decide)) h0 hc'
/-- Where the first bounds are smaller, so are the sharp ones. -/
theorem Raw.top {M : Nat → Int} (h : Raw M) (hb : Bd 8000 M) (hc : conF (sharp M) 8 = false) : Bd 56000 (sharp M) := by
  have hc' := conF_false hc
  have hz : ∀ t, t < 8 → 0 ≤ fw M 8 (t * 8 + opp t) := by
    intro t ht
    have h1 := hc' t ht
    unfold sharp at h1
    have h2 := ahF_le (rdF (fw M 8) 8) 64 (t * 8 + opp t)
    have h3 := rdF_le (fw M 8) 8 (t * 8 + opp t)
    omega
  have hx := fw_ex h.zero hz
  have hB : Bd (7 * 8000) (fw M 8) := fw_bd (by decide) (by decide) hb h.zero 8 (Nat.le_refl _) hx
  intro a ha
  have sh := sh_at (U := 7 * 8000) (by decide) hB (i := a / 8) (j := a % 8) (by omega) (by omega)
  have he : a / 8 * 8 + a % 8 = a := by omega
  rcases sh.cas with q | ⟨_, q2, q3⟩ | ⟨q1, q2, q3⟩
  · rw [he] at q; exact .inl q
  · right
    rw [he] at q2 q3
    have := (hB a ha).resolve_left q3
    unfold sharp
    rw [q2]; omega
  · right
    rw [he] at q3
    have e1 := (ev_bd (hB (a / 8 * 8 + a / 8) (by omega))).resolve_left q1
    have e2 := (ev_bd (hB (a % 8 * 8 + a % 8) (by omega))).resolve_left q2
    unfold sharp
    omega

end Go.Proofs.YtffajooegiempabDoor

namespace Go.Proofs.YtffajooegiempabDoor
open Go.RowKit

/-- The number of a variable, -1 where it is none. -/
def varOf (c : Int) : Int := if 97 ≤ c ∧ c ≤ 100 then c - 97 else -1

/-- A block of cells, none of them frozen. -/
def At (w : World) (b : Nat) (c : Array Value) (t : TypeId) : Prop := w.heap[b]? = some (.cells c t (0, 0))

theorem At.cell {w : World} {b : Nat} {c : Array Value} {t : TypeId} (h : At w b c t) (i : Nat) : w.cell? ⟨b, i, none⟩ = c[i]? := by
  unfold At at h; simp [World.cell?, h]
theorem At.free {w : World} {b : Nat} {c : Array Value} {t : TypeId} (h : At w b c t) (i : Nat) : w.frozen? ⟨b, i, none⟩ = false := by
  unfold At at h; simp [World.frozen?, h]
theorem At.lt {w : World} {b : Nat} {c : Array Value} {t : TypeId} (h : At w b c t) : b < w.heap.size := lt_of_block h
theorem At.ne {w : World} {a b : Nat} {c d : Array Value} {t u : TypeId} (h : At w a c t) (k : At w b d u) (hn : t ≠ u) : a ≠ b := by
  intro e; subst e; unfold At at h k; rw [h] at k; simp at k; exact hn k.2
theorem At.same {w w' : World} {b : Nat} {c : Array Value} {t : TypeId} (h : At w b c t) (k : w'.heap[b]? = w.heap[b]?) : At w' b c t := by
  unfold At at *; rw [k]; exact h
theorem At.other {w : World} {b : Nat} {c : Array Value} {t : TypeId} (h : At w b c t) {a : Nat} (o : Nat) (u : Value) (hn : b ≠ a) : At (w.setCell ⟨a, o, none⟩ u) b c t :=
  h.same (Below.heap_setCell _ _ _ _ hn)
theorem At.put {w : World} {b : Nat} {c : Array Value} {t : TypeId} (h : At w b c t) (o : Nat) (u : Value) : At (w.setCell ⟨b, o, none⟩ u) b (c.setIfInBounds o u) t := by
  have hlt := h.lt
  unfold At at *
  have h' : w.heap[b] = .cells c t (0, 0) := by simpa [Array.getElem?_eq_getElem hlt] using h
  show (w.heap.modify b _)[b]? = _
  rw [Array.getElem?_eq_getElem (by simpa using hlt), Array.getElem_modify_self, h']
  rfl
theorem At.drewN {w : World} {b : Nat} {c : Array Value} {t : TypeId} (h : At w b c t) (k : Nat) : At (w.drewN k) b c t := h

theorem mul_wrap (a b : Int) (h0 : -1 ≤ a) (h1 : a ≤ 1) (h2 : -99 ≤ b) (h3 : b ≤ 99) : wrap64 (a * b) = a * b := by
  have : -99 ≤ a * b ∧ a * b ≤ 99 := by
    rcases (show a = -1 ∨ a = 0 ∨ a = 1 by omega) with rfl | rfl | rfl <;> omega
  unfold wrap64; omega


end Go.Proofs.YtffajooegiempabDoor

namespace Go.Proofs.YtffajooegiempabDoor
open Go.RowKit

/-- Of the blocks that were there nothing but m has turned; new ones may have come. -/
structure Onl (m : Nat) (w w' : World) : Prop where
  os : w'.os = w.os
  tape : w'.tape = w.tape
  output : w'.output = w.output
  size : w.heap.size ≤ w'.heap.size
  block : ∀ k, k < w.heap.size → k ≠ m → w'.heap[k]? = w.heap[k]?

variable {m : Nat} {a b c w w' : World}
theorem Onl.refl (m : Nat) (w : World) : Onl m w w := ⟨rfl, rfl, rfl, Nat.le_refl _, fun _ _ _ => rfl⟩
theorem Onl.trans (h : Onl m a b) (k : Onl m b c) : Onl m a c :=
  ⟨k.os.trans h.os, k.tape.trans h.tape, k.output.trans h.output, Nat.le_trans h.size k.size, fun i hi hn => (k.block i (Nat.lt_of_lt_of_le hi h.size) hn).trans (h.block i hi hn)⟩
theorem Onl.of (h : Below w.heap.size w w') (m : Nat) : Onl m w w' := ⟨h.os, h.tape, h.output, h.size, fun k hk _ => h.block k hk⟩
/-- A block of the call's own is written. -/
theorem Onl.own (h : Onl m a b) {q : Nat} (hq : q = m ∨ a.heap.size ≤ q) (o : Nat) (u : Value) : Onl m a (b.setCell ⟨q, o, none⟩ u) :=
  ⟨h.os, h.tape, h.output, by have := h.size; simpa [World.setCell] using this, fun k hk hn => (Below.heap_setCell _ _ _ _ (by show k ≠ q; omega)).trans (h.block k hk hn)⟩
theorem Onl.setCell (h : Onl m a b) (o : Nat) (u : Value) : Onl m a (b.setCell ⟨m, o, none⟩ u) := h.own (.inl rfl) o u
theorem Onl.alloc (h : Onl m a b) (o : Obj) : Onl m a (b.alloc o) := h.trans (Onl.of ((Below.refl _ _).alloc (Nat.le_refl _) _) m)
theorem Onl.drewN (h : Onl m a b) (n : Nat) : Onl m a (b.drewN n) := ⟨h.os, h.tape, h.output, h.size, h.block⟩
theorem Onl.below (h : Onl m a b) {B : Nat} (h1 : B ≤ m) (h2 : B ≤ a.heap.size) : Below B a b := ⟨h.os, h.tape, h.output, h.size, fun k hk => h.block k (by omega) (by omega)⟩
theorem Onl.at_ {q : Nat} {c : Array Value} {t : TypeId} (h : Onl m w w') (ha : At w q c t) (hn : q ≠ m) : At w' q c t := ha.same (h.block q ha.lt hn)
theorem Onl.cell (h : Onl m w w') {q : Nat} (hq : q < w.heap.size) (hn : q ≠ m) (i : Nat) : w'.cell? ⟨q, i, none⟩ = w.cell? ⟨q, i, none⟩ := World.cell?_of_block (a := ⟨q, i, none⟩) (h.block q hq hn)
theorem At.keep {w w' : World} {B b : Nat} {c : Array Value} {t : TypeId} (h : At w b c t) (hb : Below B w w') (hlt : b < B) : At w' b c t := h.same (hb.block b hlt)
theorem At.allocH {b : Nat} {c : Array Value} {t : TypeId} (h : At w b c t) (o : Obj) : At (w.alloc o) b c t := h.keep ((Below.refl _ _).alloc (Nat.le_refl _) _) h.lt
theorem At.new (w : World) (c : Array Value) (t : TypeId) : At (w.alloc (.cells c t)) w.heap.size c t := by
  show (w.heap.push _)[w.heap.size]? = _
  simp

end Go.Proofs.YtffajooegiempabDoor

namespace Go.Proofs.YtffajooegiempabDoor
open Go.RowKit

abbrev tO : TypeId := 55
/-- An octagon's cells. -/
def oc (e : Bool) (M : Nat → Int) : Array Value := (Value.bool e :: (List.range 64).map fun k => Value.int .i64 (M k)).toArray
theorem oc_size (e : Bool) (M : Nat → Int) : (oc e M).size = 65 := by simp [oc]
theorem oc_at (e : Bool) (M : Nat → Int) (k : Nat) (h : k < 64) : (oc e M)[1 + k]? = some (.int .i64 (M k)) := by
  rw [Nat.add_comm]; simp [oc, h]
theorem oc_0 (e : Bool) (M : Nat → Int) : (oc e M)[0]? = some (.bool e) := by simp [oc]
theorem oc_set (e : Bool) (M : Nat → Int) (k : Nat) (h : k < 64) (x : Int) : (oc e M).setIfInBounds (1 + k) (.int .i64 x) = oc e (upd M k x) := by
  apply Array.ext
  · simp [oc]
  · intro i h1 h2
    simp only [oc_size] at h2
    rw [Array.getElem_setIfInBounds (by rw [oc_size]; exact h2)]
    by_cases e1 : 1 + k = i
    · subst e1
      rw [if_pos rfl]
      have := oc_at e (upd M k x) k h
      rw [Array.getElem?_eq_getElem (by rw [oc_size]; exact h2), upd_same] at this
      exact (Option.some.inj this).symm
    · rw [if_neg e1]
      cases i with
      | zero =>
        have a := oc_0 e M
        have b := oc_0 e (upd M k x)
        rw [Array.getElem?_eq_getElem (by rw [oc_size]; exact h2)] at a b
        rw [Option.some.inj a, Option.some.inj b]
      | succ i =>
        have a := oc_at e M i (by omega)
        have b := oc_at e (upd M k x) i (by omega)
        rw [show 1 + i = i + 1 by omega] at a b
        rw [Array.getElem?_eq_getElem (by rw [oc_size]; exact h2)] at a b
        rw [Option.some.inj a, Option.some.inj b, upd_other _ _ (by omega)]
theorem oc_setE (e e' : Bool) (M : Nat → Int) : (oc e M).setIfInBounds 0 (.bool e') = oc e' M := by simp [oc]
/-- Numbers that Go's own do not outgrow. -/
def Sm (M : Nat → Int) : Prop := ∀ k, k < 64 → -100000000000000000 ≤ M k ∧ M k ≤ 1000000

set_option maxRecDepth 100000 in
set_option maxHeartbeats 800000 in
theorem o_opposite (i : Nat) (hi : i < 8) (w : World) : Calls Tryd.prog 85 #[.int .i64 (i : Int)] w fun e w' => e = .returned (.int .i64 ((opp i : Nat) : Int)) ∧ w' = w := by
  rcases (show i = 0 ∨ i = 1 ∨ i = 2 ∨ i = 3 ∨ i = 4 ∨ i = 5 ∨ i = 6 ∨ i = 7 by omega) with rfl | rfl | rfl | rfl | rfl | rfl | rfl | rfl
  all_goals
    go_enter Tryd.func85, Tryd.ntmps85
    go_wp2_with fail
    go_ret
    exact ⟨rfl, rfl⟩

set_option maxRecDepth 100000 in
set_option maxHeartbeats 800000 in
theorem o_plus (a b : Int) (ha : -100000000000000000 ≤ a ∧ a ≤ 1000000) (hb : -100000000000000000 ≤ b ∧ b ≤ 1000000) (w : World) : Calls Tryd.prog 84 #[.int .i64 a, .int .i64 b] w fun e w' => e = .returned (.int .i64 (pl a b)) ∧ w' = w := by
  by_cases h1 : a = 1000000
  · subst h1
    have HE : Hid (pl 1000000 b = 1000000) := if_pos (.inl rfl)
    go_enter Tryd.func84, Tryd.ntmps84
    go_wp2_with fail
    go_ret
    exact ⟨by rw [HE.out]; rfl, rfl⟩
  have q1 : (a == 1000000) = false := by simpa using h1
  by_cases h2 : b = 1000000
  · subst h2
    have HE : Hid (pl a 1000000 = 1000000) := if_pos (.inr rfl)
    go_enter Tryd.func84, Tryd.ntmps84
    go_wp2_with fail
    go_ret
    exact ⟨by rw [HE.out]; rfl, rfl⟩
  have q2 : (b == 1000000) = false := by simpa using h2
  have HE : Hid (pl a b = a + b) := if_neg (fun e => e.elim h1 h2)
  obtain ⟨a0, a1⟩ := ha
  obtain ⟨b0, b1⟩ := hb
  clear h1 h2
  go_enter Tryd.func84, Tryd.ntmps84
  go_wp2_with fail
  go_ret
  exact ⟨by rw [HE.out]; rfl, rfl⟩

theorem half_floor (n : Int) : (n < n.tdiv 2 * 2 → n / 2 = n.tdiv 2 - 1) ∧ (¬ n < n.tdiv 2 * 2 → n / 2 = n.tdiv 2) := by
  have := tdiv2 n
  rcases Int.lt_or_le n 0 with e | e
  · rw [this.2 e]; omega
  · rw [this.1 e]; omega

set_option maxRecDepth 100000 in
set_option maxHeartbeats 800000 in
theorem o_halfBelow (n : Int) (hn : -100000000000000000 ≤ n ∧ n ≤ 1000000) (w : World) : Calls Tryd.prog 86 #[.int .i64 n] w fun e w' => e = .returned (.int .i64 (n / 2)) ∧ w' = w := by
  have hb := tdiv2_le n
  have hf := half_floor n
  obtain ⟨n0, n1⟩ := hn
  obtain ⟨b0, b1⟩ := hb
  by_cases h : n < n.tdiv 2 * 2
  · have HE : Hid (n / 2 = n.tdiv 2 - 1) := hf.1 h
    clear hf
    go_enter Tryd.func86, Tryd.ntmps86
    go_wp2_with fail
    go_ret
    exact ⟨by rw [HE.out]; rfl, rfl⟩
  · have HE : Hid (n / 2 = n.tdiv 2) := hf.2 h
    clear hf
    go_enter Tryd.func86, Tryd.ntmps86
    go_wp2_with fail
    go_ret
    exact ⟨by rw [HE.out]; rfl, rfl⟩

end Go.Proofs.YtffajooegiempabDoor

namespace Go.Proofs.YtffajooegiempabDoor
open Go.RowKit
variable {w : World} {b : Nat} {e0 : Bool} {M : Nat → Int}

/-- An octagon's block, and what a step on it leaves. -/
def OAt (w : World) (b : Nat) (e : Bool) (M : Nat → Int) : Prop := At w b (oc e M) tO
theorem OAt.cell (h : OAt w b e0 M) (k : Nat) (hk : k < 64) : w.cell? ⟨b, 1 + k, none⟩ = some (.int .i64 (M k)) := by rw [At.cell h]; exact oc_at _ _ _ hk
theorem OAt.put (h : OAt w b e0 M) (k : Nat) (hk : k < 64) (x : Int) : OAt (w.setCell ⟨b, 1 + k, none⟩ (.int .i64 x)) b e0 (upd M k x) := by
  have := At.put h (1 + k) (.int .i64 x)
  rw [oc_set _ _ _ hk] at this
  exact this

set_option maxRecDepth 100000 in
set_option maxHeartbeats 1600000 in
theorem o_chain (h : OAt w b e0 M) (s : Nat) (hs : s < 8) (hS : ∀ k, k ≤ 64 → Sm (chF s M k)) :
    Calls Tryd.prog 67 #[.pointer (some ⟨b, 0, none⟩), .int .i64 (s : Int)] w fun e w' => e = .returned (.tuple #[]) ∧ OAt w' b e0 (chF s M 64) ∧ Onl b w w' := by
  have HA : Hid (OAt w b e0 M) := h
  have HS : Hid (∀ k, k ≤ 64 → Sm (chF s M k)) := hS
  have hsi : (s : Int) < 8 := by omega
  have hs0 : ¬ (s : Int) < 0 := by omega
  have hs8 : ¬ (8 : Int) ≤ (s : Int) := by omega
  have hosl := opp_lt hs
  clear h hS
  go_enter Tryd.func67, Tryd.ntmps67
  go_wp2_with fail
  go_loopw [4] (fun i wr => ∃ (p : Nat), p ≤ 8 ∧ i = .int .i64 p ∧ Hid (OAt wr b e0 (chF s M (p * 8)) ∧ Onl b w wr)) (fun i _ => 8 - (intOf i).toNat)
  case atStart => exact ⟨0, by omega, rfl, HA.out, Onl.refl _ _⟩
  case round =>
    obtain ⟨p, hp, rfl, HR⟩ := hrel
    by_cases hlt : p < 8
    · have hpi : (p : Int) < 8 := by omega
      obtain ⟨w4, rfl⟩ : ∃ w4, w4 = wr := ⟨_, rfl⟩
      go_wp2_with fail
      go_loopw [5] (fun j wr => ∃ (q : Nat), q ≤ 8 ∧ j = .int .i64 q ∧ Hid (OAt wr b e0 (chF s M (p * 8 + q)) ∧ Onl b w wr)) (fun j _ => 8 - (intOf j).toNat)
      case atStart => exact ⟨0, by omega, rfl, HR.out⟩
      case round =>
        obtain ⟨q, hq, rfl, HQ⟩ := hrel
        by_cases hlt2 : q < 8
        · have hqi : (q : Int) < 8 := by omega
          have hk : p * 8 + q < 64 := by omega
          have hsm := HS.out (p * 8 + q) (by omega)
          have HE0 : Hid (chF s M (p * 8 + (q + 1)) = if pl (chF s M (p * 8 + q) (p * 8 + opp s)) (chF s M (p * 8 + q) (s * 8 + q)) < chF s M (p * 8 + q) (p * 8 + q) then upd (chF s M (p * 8 + q)) (p * 8 + q) (pl (chF s M (p * 8 + q) (p * 8 + opp s)) (chF s M (p * 8 + q) (s * 8 + q))) else chF s M (p * 8 + q)) := by show chF s M (p * 8 + q + 1) = _; rw [chF]; unfold ch1; rw [show (p * 8 + q) / 8 = p by omega, show (p * 8 + q) % 8 = q by omega]
          generalize chF s M (p * 8 + q) = N at *
          have hm1 := hsm (p * 8 + opp s) (by omega)
          have hm2 := hsm (s * 8 + q) (by omega)
          have HOp : Hid (∀ n, Calls Tryd.prog 85 #[.int .i64 (s : Int)] (wr.drewN n) fun e w' => e = .returned (.int .i64 ((opp s : Nat) : Int)) ∧ w' = wr.drewN n) := fun n => o_opposite s hs _
          have hoi : ((opp s : Nat) : Int) < 8 := by omega
          generalize opp s = os at *
          have c1 : wr.cell? ⟨b, 1 + p * 8 + os, none⟩ = some (.int .i64 (N (p * 8 + os))) := by rw [Nat.add_assoc]; exact HQ.out.1.cell (p * 8 + os) (by omega)
          have c2 : wr.cell? ⟨b, 1 + s * 8 + q, none⟩ = some (.int .i64 (N (s * 8 + q))) := by rw [Nat.add_assoc]; exact HQ.out.1.cell (s * 8 + q) (by omega)
          have c3 : wr.cell? ⟨b, 1 + p * 8 + q, none⟩ = some (.int .i64 (N (p * 8 + q))) := by rw [Nat.add_assoc]; exact HQ.out.1.cell (p * 8 + q) (by omega)
          have cf : wr.frozen? ⟨b, 1 + p * 8 + q, none⟩ = false := At.free HQ.out.1 _
          have hbl : b < wr.heap.size := At.lt HQ.out.1
          have HPl : Hid (∀ n, Calls Tryd.prog 84 #[.int .i64 (N (p * 8 + os)), .int .i64 (N (s * 8 + q))] (wr.drewN n) fun e w' => e = .returned (.int .i64 (pl (N (p * 8 + os)) (N (s * 8 + q)))) ∧ w' = wr.drewN n) := fun n => o_plus _ _ hm1 hm2 _
          clear hsm hm1 hm2
          generalize pl (N (p * 8 + os)) (N (s * 8 + q)) = n at *
          by_cases hn : n < N (p * 8 + q)
          · have HE : Hid (_ = _) := HE0.out.trans (if_pos hn)
            clear HE0
            go_wp2_with fail
            go_quiet (first
              | (go_at_call 85; refine Calls.quiet_of_same (HOp.out _))
              | (go_at_call 84; refine Calls.quiet_of_same (HPl.out _)))
            go_wp2_with fail
            go_roundw
            case rel =>
              refine ⟨q + 1, by omega, by go_num, ?_, (HQ.out.2.drewN _).setCell _ _⟩
              rw [HE.out, Nat.add_assoc]
              exact OAt.put (w := wr.drewN nq) (At.drewN HQ.out.1 nq) (p * 8 + q) hk n
            case measure => simp [intOf]; omega
          · have HE : Hid (_ = _) := HE0.out.trans (if_neg hn)
            clear HE0
            go_wp2_with fail
            go_quiet (first
              | (go_at_call 85; refine Calls.quiet_of_same (HOp.out _))
              | (go_at_call 84; refine Calls.quiet_of_same (HPl.out _)))
            go_wp2_with fail
            go_roundw
            case rel =>
              refine ⟨q + 1, by omega, by go_num, ?_, HQ.out.2.drewN _⟩
              rw [HE.out]
              exact At.drewN HQ.out.1 nq
            case measure => simp [intOf]; omega
        · have hq8 : q = 8 := by omega
          subst hq8
          go_wp2_with fail
          go_roundw
          case rel => exact ⟨p + 1, by omega, by go_num, by rw [show (p + 1) * 8 = p * 8 + 8 by omega]; exact HQ.out.1, HQ.out.2⟩
          case measure => simp [intOf]; omega
    · have hp8 : p = 8 := by omega
      subst hp8
      go_wp2_with fail
      go_end0
      exact ⟨rfl, HR.out⟩

end Go.Proofs.YtffajooegiempabDoor

namespace Go.Proofs.YtffajooegiempabDoor
open Go.RowKit

/-- Numbers as cells. -/
def ic (l : List Int) : Array Value := (l.map (Value.int .i64)).toArray
theorem ic_get (l : List Int) (i : Nat) (h : i < l.length) : (ic l)[i]? = some (.int .i64 (l.getD i 0)) := by
  simp [ic, List.getD, h]
theorem ic_set (l : List Int) (i : Nat) (x : Int) : (ic l).setIfInBounds i (.int .i64 x) = ic (l.set i x) := by simp [ic, List.map_set]
/-- A slice that reads as these numbers. -/
def Reads (w : World) (v : Value) (l : List Int) : Prop :=
  ∃ ao cap, v = .slice ao l.length cap ∧ l.length ≤ cap ∧ (l.length ≠ 0 → ∃ b off, ao = some ⟨b, off, none⟩ ∧ b < w.heap.size ∧ ∀ i, i < l.length → w.cell? ⟨b, off + i, none⟩ = some (.int .i64 (l.getD i 0)))

theorem Reads.keep {w w' : World} {v : Value} {l : List Int} (h : Reads w v l) (hb : Below w.heap.size w w') : Reads w' v l := by
  obtain ⟨ao, cap, hv, hc, h0⟩ := h
  refine ⟨ao, cap, hv, hc, fun hn => ?_⟩
  obtain ⟨b, off, ha, hlt, hcell⟩ := h0 hn
  exact ⟨b, off, ha, Nat.lt_of_lt_of_le hlt hb.size, fun i hi => (hb.cell (by exact hlt)).trans (hcell i hi)⟩
theorem Reads.at_ {w : World} {g n cap : Nat} {l : List Int} {c : Array Value} {t : TypeId} (h : At w g c t) (hn : l.length = n) (hcap : n ≤ cap) (hc : ∀ i, i < n → c[i]? = some (.int .i64 (l.getD i 0))) : Reads w (.slice (some ⟨g, 0, none⟩) n cap) l := by
  subst hn
  exact ⟨_, cap, rfl, hcap, fun _ => ⟨g, 0, rfl, h.lt, fun i hi => by rw [Nat.zero_add, h.cell]; exact hc i hi⟩⟩

theorem drewN_two (w : World) (j k : Nat) : (w.drewN j).drewN k = w.drewN (j + k) := by
  first | rfl | (induction k with | zero => rfl | succ k ih => rw [← Nat.add_assoc]; show ((w.drewN j).drewN k).drew = _; rw [ih]; rfl) | simp [World.drewN, Nat.add_assoc]

end Go.Proofs.YtffajooegiempabDoor

namespace Go.Proofs.YtffajooegiempabDoor
open Go.RowKit


end Go.Proofs.YtffajooegiempabDoor

namespace Go.Proofs.YtffajooegiempabDoor
open Go.RowKit
variable {w : World}

/-- May it be a bound? -/
def isB (n : Int) : Bool := decide (n = NB ∨ (-4000 ≤ n ∧ n ≤ 4000))
/-- May the list be handed in? -/
def okL (l : List Int) : Prop := l.length = 32 ∧ ∀ i, i < 32 → isB (l.getD i 0) = true

set_option maxRecDepth 100000 in
set_option maxHeartbeats 1600000 in
theorem o_isBound (n : Int) : Calls Tryd.prog 65 #[.int .i64 n] w fun e w' => e = .returned (.bool (isB n)) ∧ w' = w := by
  by_cases h1 : n = 1000000
  · subst h1
    go_enter Tryd.func65, Tryd.ntmps65
    go_wp2_with fail
    go_ret
    exact ⟨rfl, rfl⟩
  have q1 : (n == 1000000) = false := by simpa using h1
  by_cases h2 : -4000 ≤ n
  · by_cases h3 : n ≤ 4000
    · have HE : Hid (isB n = true) := by show isB n = true; unfold isB; exact decide_eq_true (.inr ⟨h2, h3⟩)
      clear h1
      go_enter Tryd.func65, Tryd.ntmps65
      go_wp2_with fail
      go_ret
      exact ⟨by rw [HE.out]; rfl, rfl⟩
    · have HE : Hid (isB n = false) := by show isB n = false; unfold isB; exact decide_eq_false (fun e => e.elim h1 (fun e => h3 e.2))
      clear h1
      go_enter Tryd.func65, Tryd.ntmps65
      go_wp2_with fail
      go_ret
      exact ⟨by rw [HE.out]; rfl, rfl⟩
  · have HE : Hid (isB n = false) := by show isB n = false; unfold isB; exact decide_eq_false (fun e => e.elim h1 (fun e => h2 e.1))
    clear h1
    go_enter Tryd.func65, Tryd.ntmps65
    go_wp2_with fail
    go_ret
    exact ⟨by rw [HE.out]; rfl, rfl⟩

/-- May it be handed in? -/
def gdF (l : List Int) : Nat → Bool
  | 0 => true
  | f + 1 => gdF l f && isB (l.getD f 0)
def gdB (l : List Int) : Bool := decide (l.length = 32) && gdF l 32
theorem gdF_all {l : List Int} : ∀ {n : Nat}, gdF l n = true ↔ ∀ f, f < n → isB (l.getD f 0) = true := by
  intro n
  induction n with
  | zero => exact ⟨fun _ f hf => absurd hf (by omega), fun _ => rfl⟩
  | succ n ih =>
    show (gdF l n && isB (l.getD n 0)) = true ↔ _
    rw [Bool.and_eq_true, ih]
    constructor
    · rintro ⟨h1, h2⟩ f hf
      rcases Nat.lt_or_eq_of_le (Nat.lt_succ_iff.1 hf) with q | q
      · exact h1 f q
      · rw [q]; exact h2
    · intro h
      exact ⟨fun f hf => h f (by omega), h n (by omega)⟩
theorem gdB_ok {l : List Int} : gdB l = true ↔ okL l := by
  unfold gdB okL
  rw [Bool.and_eq_true, decide_eq_true_eq, gdF_all]
theorem gdF_no {l : List Int} {f : Nat} (hf : f < 32) (h : isB (l.getD f 0) = false) : gdF l 32 = false := by
  cases e : gdF l 32 with
  | false => rfl
  | true => rw [gdF_all.1 e f hf] at h; cases h



set_option maxRecDepth 100000 in
set_option maxHeartbeats 1600000 in
/-- The program's test of a list. -/
theorem o_isList (u : Value) (l : List Int) (hu : Reads w u l) :
    Calls Tryd.prog 39 #[u] w fun e w' => e = .returned (.bool (gdB l)) ∧ w' = w := by
  obtain ⟨au, cu, rfl, hcu, h0⟩ := hu
  have kb := fun (n : Int) => o_isBound (w := w) n
  by_cases h32 : l.length = 32
  · have HE : Hid (gdB l = gdF l 32) := by show gdB l = _; unfold gdB; rw [decide_eq_true h32]; rfl
    obtain ⟨p, off, rfl, hp, hcell⟩ := h0 (by omega)
    have HC : Hid (∀ i, i < 32 → w.cell? ⟨p, off + i, none⟩ = some (.int .i64 (l.getD i 0))) := fun i hi => hcell i (by omega)
    rw [h32]
    clear h0 hcell hcu h32
    go_enter Tryd.func39, Tryd.ntmps39
    go_wp2_with fail
    go_loopw [10] (fun i wr => ∃ (f : Nat), f ≤ 32 ∧ i = .int .i64 f ∧ wr = w ∧ Hid (gdF l f = true)) (fun i _ => 32 - (intOf i).toNat)
    case atStart => exact ⟨0, by omega, rfl, rfl, rfl⟩
    case round =>
      obtain ⟨f, hf, rfl, rfl, HR⟩ := hrel
      by_cases hlt : f < 32
      · have hfi : (f : Int) < 32 := by omega
        have HEq : Hid (gdF l (f + 1) = (gdF l f && isB (l.getD f 0))) := rfl
        have cx := HC.out f hlt
        have HNo : Hid (isB (l.getD f 0) = false → gdF l 32 = false) := fun h => gdF_no hlt h
        generalize l.getD f 0 = x at *
        cases hb : isB x with
        | true =>
          have kx := kb x
          rw [hb] at kx
          have HY : Hid (isB x = true) := hb
          clear hb kb
          go_wp2_with fail
          refine kx.mono ?_
          rintro e w2 ⟨rfl, rfl⟩
          go_wp2_with fail
          go_roundw
          case rel => exact ⟨f + 1, by omega, by go_num, by simp, by show gdF l (f + 1) = true; rw [HEq.out, HR.out, HY.out]; rfl⟩
          case measure => simp [intOf]; omega
        | false =>
          have kx := kb x
          rw [hb] at kx
          have HF : Hid (gdF l 32 = false) := HNo.out hb
          clear hb kb
          go_wp2_with fail
          refine kx.mono ?_
          rintro e w2 ⟨rfl, rfl⟩
          go_wp2_with fail
          go_ret
          exact ⟨by rw [HE.out, HF.out]; rfl, rfl⟩
      · have hf32 : f = 32 := by omega
        subst hf32
        go_wp2_with fail
        go_ret
        exact ⟨by rw [HE.out, HR.out]; rfl, rfl⟩
  · have HE : Hid (gdB l = false) := by show gdB l = _; unfold gdB; rw [decide_eq_false h32]; rfl
    have hb : ((l.length : Int) != 32) = true := by rw [bne_iff_ne]; omega
    clear h0 h32
    go_enter Tryd.func39, Tryd.ntmps39
    go_wp2_with fail
    go_ret
    exact ⟨by rw [HE.out]; rfl, rfl⟩

end Go.Proofs.YtffajooegiempabDoor

