import Derived.Test.YtadhimimdmoodaaGa
import Derived.Test.YtadhimimdmoodaaGr
import Derived.Test.YtadhimimdmoodaaGp
namespace Go.Proofs.Ytadhimimdmoodaa

variable {F : List Ds} {S : List St}

theorem getD_some {α : Type} {l : List α} {i : Nat} {x d : α} (h : l[i]? = some x) : l.getD i d = x := by rw [List.getD_eq_getElem?_getD, h]; rfl

theorem firstGo_hit {p b fr : Int} : ∀ (l : List Ds) (i j : Nat) (x : Ds), l[j]? = some x → fr ≤ ((i + j : Nat) : Int) → x.parent = p → x.block = b → (∀ k y, k < j → l[k]? = some y → fr ≤ ((i + k : Nat) : Int) → ¬ (y.parent = p ∧ y.block = b)) → firstGo p b fr l i = ((i + j : Nat) : Int) := by
  intro l
  induction l with
  | nil => intro i j x h; simp at h
  | cons y l ih =>
    intro i j x h hf hp hb hno
    cases j with
    | zero =>
      simp at h
      subst h
      simp only [firstGo]
      rw [if_pos ⟨by simpa using hf, hp, hb⟩]; rfl
    | succ j =>
      simp only [firstGo]
      rw [if_neg (by
        rintro ⟨h1, h2⟩
        exact hno 0 y (by omega) rfl (by simpa using h1) h2)]
      rw [ih (i + 1) j x (by simpa using h) (by rw [show i + 1 + j = i + (j + 1) by omega]; exact hf) hp hb (fun k z hk hz hfk => hno (k + 1) z (by omega) (by simpa using hz) (by rw [show i + (k + 1) = i + 1 + k by omega]; exact hfk))]
      rw [show i + 1 + j = i + (j + 1) by omega]
theorem firstGo_miss {p b fr : Int} : ∀ (l : List Ds) (i : Nat), (∀ k y, l[k]? = some y → fr ≤ ((i + k : Nat) : Int) → ¬ (y.parent = p ∧ y.block = b)) → firstGo p b fr l i = -1 := by
  intro l
  induction l with
  | nil => intro i _; rfl
  | cons y l ih =>
    intro i hno
    simp only [firstGo]
    rw [if_neg (by
      rintro ⟨h1, h2⟩
      exact hno 0 y rfl (by simpa using h1) h2)]
    exact ih (i + 1) (fun k z hz hfk => hno (k + 1) z (by simpa using hz) (by rw [show i + (k + 1) = i + 1 + k by omega]; exact hfk))

theorem lastOpen_hit {i q : Nat} : ∀ (k : Nat), q < k → i < (S.getD q noSt).fin → (∀ j, q < j → j < k → (S.getD j noSt).fin ≤ i) → lastOpen S i k = q := by
  intro k
  induction k with
  | zero => intro h; omega
  | succ k ih =>
    intro h1 h2 h3
    unfold lastOpen
    by_cases e : q = k
    · subst e; rw [if_pos h2]
    · rw [if_neg (by have := h3 k (by omega) (by omega); omega)]
      exact ih (by omega) h2 (fun j hj hjk => h3 j hj (by omega))
theorem lastOpen_miss {i : Nat} : ∀ (k : Nat), (∀ j, j < k → (S.getD j noSt).fin ≤ i) → lastOpen S i k = -1 := by
  intro k
  induction k with
  | zero => intro _; rfl
  | succ k ih =>
    intro h
    unfold lastOpen
    rw [if_neg (by have := h k (by omega); omega)]
    exact ih (fun j hj => h j (by omega))

theorem StmOk.par {g : Nat} {p b : Int} {a e : Nat} (h : StmOk F S (Blk F S g) p b a e) (j : Nat) (h1 : a < j) (h2 : j < e) : ∃ x, F[j]? = some x ∧ (a : Int) ≤ x.parent := by
  obtain ⟨x, u, hx, hu, hp, hb, hf, hae, hk⟩ := h
  rcases hk with ⟨_, hk⟩ | ⟨_, hk⟩ | ⟨_, q1, q2, hk1, hk2⟩
  · omega
  · obtain ⟨y, hy, h3⟩ := hk.par j (by omega) h2
    exact ⟨y, hy, by rcases h3 with ⟨h3, _⟩ | h3 <;> omega⟩
  · by_cases hjq : j < u.mid
    · obtain ⟨y, hy, h3⟩ := hk1.par j (by omega) hjq
      exact ⟨y, hy, by rcases h3 with ⟨h3, _⟩ | h3 <;> omega⟩
    · obtain ⟨y, hy, h3⟩ := hk2.par j (by omega) h2
      exact ⟨y, hy, by rcases h3 with ⟨h3, _⟩ | h3 <;> omega⟩

theorem Ctx.det {p b : Int} {a c a' c' : Nat} (h : Ctx F S p b a c) (k : Ctx F S p b a' c') : a = a' ∧ c = c' := by
  rcases h with ⟨h1, h2, h3, h4⟩ | ⟨q, x, u, h1, hx, hu, h2⟩
  · rcases k with ⟨k1, k2, k3, k4⟩ | ⟨q', x', u', k1, kx, ku, k2⟩
    · exact ⟨by omega, by omega⟩
    · omega
  · rcases k with ⟨k1, k2, k3, k4⟩ | ⟨q', x', u', k1, kx, ku, k2⟩
    · omega
    · have e : q = q' := by omega
      subst e
      rw [hx] at kx
      rw [hu] at ku
      cases kx
      cases ku
      rcases h2 with h2 | h2 | h2 <;> rcases k2 with k2 | k2 | k2 <;> omega

/-- All that is known of one statement. -/
theorem Whole.at_ (h : Whole F S) (i : Nat) (hi : i < F.length) : ∃ x u a0 c0 g, F[i]? = some x ∧ S[i]? = some u ∧ Cor x u ∧ a0 ≤ i ∧ i < u.fin ∧ u.fin ≤ c0 ∧ Ctx F S x.parent x.block a0 c0 ∧
    StmOk F S (Blk F S g) x.parent x.block i u.fin ∧ Blk F S g x.parent x.block u.fin c0 ∧ (∀ k, a0 ≤ k → k < i → (S.getD k noSt).fin ≤ i) := by
  obtain ⟨x, a0, c0, hx, ha, hc, hC, g, hg⟩ := h.pos i hi
  obtain ⟨h1, g', e, he, hs, hr⟩ := hg.at_ hC.lt i x ha hc hx rfl
  obtain ⟨y, u, hy, hu, hp, hb, hf, hae, hk⟩ := hs
  rw [hx] at hy
  cases hy
  subst hf
  exact ⟨x, u, a0, c0, g', hx, hu, h.1.cor i x u hx hu, ha, hae, he, hC, ⟨x, u, hx, hu, hp, hb, rfl, hae, hk⟩, hr, fun k hk1 hk2 => by
    obtain ⟨v, hv, hvf⟩ := h1 k hk1 hk2
    rw [getD_some hv]; exact hvf⟩

/-- What comes next in the block. -/
theorem Whole.first (h : Whole F S) {i : Nat} {x : Ds} {u : St} {a0 c0 g : Nat} (_hx : F[i]? = some x) (ha : a0 ≤ i) (hfc : u.fin ≤ c0) (hif : i < u.fin) (hC : Ctx F S x.parent x.block a0 c0) (hs : StmOk F S (Blk F S g) x.parent x.block i u.fin) (hr : Blk F S g x.parent x.block u.fin c0) :
    firstP F x.parent x.block (i + 1) = if u.fin < c0 then (u.fin : Int) else -1 := by
  have hplt := hC.lt
  have hin : ∀ k y, i < k → k < u.fin → F[k]? = some y → ¬ (y.parent = x.parent ∧ y.block = x.block) := by
    rintro k y h1 h2 hy ⟨h3, _⟩
    obtain ⟨z, hz, h4⟩ := hs.par k h1 h2
    rw [hy] at hz
    cases hz
    omega
  by_cases hlt : u.fin < c0
  · rw [if_pos hlt]
    obtain ⟨y, hy, hyp⟩ : ∃ y, F[u.fin]? = some y ∧ y.parent = x.parent ∧ y.block = x.block := by
      cases g with
      | zero => have h' : u.fin = c0 := hr; omega
      | succ g =>
        rcases hr with hr | ⟨e, he, hs2, _⟩
        · omega
        · obtain ⟨y, v, hy, _, hp, hb, _⟩ := hs2
          exact ⟨y, hy, hp, hb⟩
    have := firstGo_hit (p := x.parent) (b := x.block) (fr := (i : Int) + 1) F 0 u.fin y hy (by omega) hyp.1 hyp.2 (fun k z hk hz hf => hin k z (by omega) hk hz)
    rw [Nat.zero_add] at this
    exact this
  · rw [if_neg hlt]
    refine firstGo_miss F 0 (fun k y hy hf hm => ?_)
    have hk : k < F.length := by
      rcases Nat.lt_or_ge k F.length with h' | h'
      · exact h'
      · simp [List.getElem?_eq_none h'] at hy
    obtain ⟨z, a1, c1, hz, _, hkc, hC1, _⟩ := h.pos k hk
    rw [hy] at hz
    cases hz
    rw [hm.1, hm.2] at hC1
    have := hC.det hC1
    exact hin k y (by omega) (by omega) hy hm

/-- The statement in whose block it stands. -/
theorem Whole.open_ (h : Whole F S) {i : Nat} (_hi : i < F.length) {x : Ds} {a0 c0 : Nat} (hC : Ctx F S x.parent x.block a0 c0) (hic : i < c0) (hai : a0 ≤ i) (hk : ∀ k, a0 ≤ k → k < i → (S.getD k noSt).fin ≤ i) : lastOpen S i i = x.parent := by
  rcases hC with ⟨h1, h2, h3, h4⟩ | ⟨q, y, v, h1, hy, hv, h2⟩
  · rw [h1]; exact lastOpen_miss i (fun j hj => hk j (by omega) hj)
  · rw [h1]
    have hq : q < F.length := by
      rcases Nat.lt_or_ge q F.length with h' | h'
      · exact h'
      · simp [List.getElem?_eq_none h'] at hy
    have hvD : S.getD q noSt = v := getD_some hv
    obtain ⟨y', v', a1, c1, g1, hy', hv', _, _, hq1, _, _, hs, _, _⟩ := h.at_ q hq
    rw [hy] at hy'
    rw [hv] at hv'
    cases hy'
    cases hv'
    refine lastOpen_hit i (by rcases h2 with h2 | h2 | h2 <;> omega) (by rw [hvD]; rcases h2 with h2 | h2 | h2 <;> omega) (fun j hj1 hj2 => ?_)
    by_cases hja : a0 ≤ j
    · exact hk j hja hj2
    · obtain ⟨y2, v2, hy2, hv2, _, _, _, _, hkk⟩ := hs
      rw [hy] at hy2
      rw [hv] at hv2
      cases hy2
      cases hv2
      rcases hkk with ⟨hk0, _⟩ | ⟨hk3, _⟩ | ⟨_, q1, q2, hk1, _⟩
      · rcases h2 with h2 | h2 | h2 <;> omega
      · rcases h2 with h2 | h2 | h2 <;> omega
      · have hjm : j < v.mid := by rcases h2 with h2 | h2 | h2 <;> omega
        obtain ⟨t, ht, _, htf⟩ := hk1.fins j (by omega) hjm
        rw [getD_some ht]
        rcases h2 with h2 | h2 | h2 <;> omega

theorem follow_same (h : Whole F S) : ∀ (n i : Nat), i < F.length → i < n → followP F n i = followR S n i := by
  intro n
  induction n with
  | zero => intro i _ hi; omega
  | succ n ih =>
    intro i hi hn
    obtain ⟨x, u, a0, c0, g, hx, hu, hcor, ha, hif, hfc, hC, hs, hr, hk⟩ := h.at_ i hi
    have hxD : F.getD i (newDs 0 0) = x := getD_some hx
    have huD : S.getD i noSt = u := getD_some hu
    have hfirst := h.first hx ha hfc hif hC hs hr
    have hopen := h.open_ hi hC (by omega) ha hk
    have e1 : followP F (n + 1) i = if firstP F x.parent x.block (i + 1) ≠ -1 then firstP F x.parent x.block (i + 1) else if isRepP F x.parent = true then x.parent else followP F n x.parent := by
      rw [followP, if_neg (by omega)]
      simp only [Int.toNat_natCast]
      rw [hxD]
    have e2 : followR S (n + 1) i = if x.parent < 0 then (u.fin : Int) else if u.fin < endOf (S.getD x.parent.toNat noSt) i then (u.fin : Int) else if (S.getD x.parent.toNat noSt).kind = 64 then x.parent else followR S n x.parent.toNat := by
      rw [followR, hopen, huD]
    rw [e1, e2, hfirst]
    rcases hC with ⟨h1, h2, h3, h4⟩ | ⟨q, y, v, h1, hy, hv, h2⟩
    · rw [h1, if_pos (by decide : (-1 : Int) < 0)]
      by_cases hlt : u.fin < c0
      · rw [if_pos hlt, if_pos (show ((u.fin : Int) ≠ -1) by omega)]
      · rw [if_neg hlt, if_neg (show ¬ ((-1 : Int) ≠ -1) by decide), if_neg (show ¬ (isRepP F (-1) = true) by simp [isRepP])]
        cases n with
        | zero => show (F.length : Int) = _; omega
        | succ n => rw [followP, if_pos (.inl (by decide))]; omega
    · have hyD : F.getD q (newDs 0 0) = y := getD_some hy
      have hvD : S.getD q noSt = v := getD_some hv
      have hq : q < F.length := by
        rcases Nat.lt_or_ge q F.length with h' | h'
        · exact h'
        · simp [List.getElem?_eq_none h'] at hy
      have hcor2 := h.1.cor q y v hy hv
      rw [h1, if_neg (show ¬ ((q : Int) < 0) by omega)]
      simp only [Int.toNat_natCast]
      rw [hvD]
      have hend : endOf v i = c0 := by
        unfold endOf
        rcases h2 with ⟨k3, _, _, hc⟩ | ⟨k2, _, _, hc, _⟩ | ⟨k2, _, hm, hc, _⟩
        · rw [if_neg (by rw [hcor2.1, k3]; rintro ⟨e, _⟩; exact absurd e (by decide))]; exact hc.symm
        · rw [if_pos ⟨by rw [hcor2.1, k2]; rfl, by omega⟩]; exact hc.symm
        · rw [if_neg (by omega)]; exact hc.symm
      rw [hend]
      by_cases hlt : u.fin < c0
      · rw [if_pos hlt, if_pos (show ((u.fin : Int) ≠ -1) by omega), if_pos hlt]
      · rw [if_neg hlt, if_neg (show ¬ ((-1 : Int) ≠ -1) by decide), if_neg hlt]
        have hqi : q < i := by rcases h2 with h2 | h2 | h2 <;> omega
        have hrep : isRepP F q = decide (y.kind = 3) := by
          have e : (F.getD ((q : Int)).toNat (newDs 0 0)).kind = y.kind := by rw [Int.toNat_natCast, hyD]
          unfold isRepP
          simp only [e]
          rw [decide_eq_true (show (0 : Int) ≤ q by omega), decide_eq_true (show (q : Int) < F.length by omega)]
          rfl
        have hkind : v.kind = 64 ↔ y.kind = 3 := by
          rw [hcor2.1]
          rcases h2 with h2 | h2 | h2
          · rw [h2.1]; decide
          · rw [h2.1]; decide
          · rw [h2.1]; decide
        rw [hrep]
        by_cases hk3 : y.kind = 3
        · rw [if_pos (by simp [hk3]), if_pos (hkind.2 hk3)]
        · rw [if_neg (by simp [hk3]), if_neg (fun e => hk3 (hkind.1 e))]
          exact ih q hq (by omega)

end Go.Proofs.Ytadhimimdmoodaa
