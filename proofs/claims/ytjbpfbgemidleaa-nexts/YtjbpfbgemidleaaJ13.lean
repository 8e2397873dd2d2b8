import Derived.Test.YtjbpfbgemidleaaJ12
namespace Go.Proofs.Ytjbpfbgemidleaa

variable {F : List Ds} {S : List St}

theorem getD_some {α : Type} {l : List α} {i : Nat} {x d : α} (h : l[i]? = some x) : l.getD i d = x := by rw [List.getD_eq_getElem?_getD, h]; rfl

theorem firstGo_hit {p b fr : Int} : ∀ (l : List Ds) (i j : Nat) (x : Ds), l[j]? = some x → fr ≤ ((i + j : Nat) : Int) → x.parent = p → x.block = b → (∀ k y, k < j → l[k]? = some y → fr ≤ ((i + k : Nat) : Int) → ¬ (y.parent = p ∧ y.block = b)) → firstGo p b fr l i = ((i + j : Nat) : Int) := by
  intro l
  induction l with
  | nil => intro i j x h; simp at h
  | cons y l ih =>
    intro i j x h hf hp hb hno
    cases j with
    | zero =>
      simp at h
      subst h
      simp only [firstGo]
      rw [if_pos ⟨by simpa using hf, hp, hb⟩]; rfl
    | succ j =>
      simp only [firstGo]
      rw [if_neg (by
        rintro ⟨h1, h2⟩
        exact hno 0 y (by omega) rfl (by simpa using h1) h2)]
      rw [ih (i + 1) j x (by simpa using h) (by rw [show i + 1 + j = i + (j + 1) by omega]; exact hf) hp hb (fun k z hk hz hfk => hno (k + 1) z (by omega) (by simpa using hz) (by rw [show i + (k + 1) = i + 1 + k by omega]; exact hfk))]
      rw [show i + 1 + j = i + (j + 1) by omega]
theorem firstGo_miss {p b fr : Int} : ∀ (l : List Ds) (i : Nat), (∀ k y, l[k]? = some y → fr ≤ ((i + k : Nat) : Int) → ¬ (y.parent = p ∧ y.block = b)) → firstGo p b fr l i = -1 := by
  intro l
  induction l with
  | nil => intro i _; rfl
  | cons y l ih =>
    intro i hno
    simp only [firstGo]
    rw [if_neg (by
      rintro ⟨h1, h2⟩
      exact hno 0 y rfl (by simpa using h1) h2)]
    exact ih (i + 1) (fun k z hz hfk => hno (k + 1) z (by simpa using hz) (by rw [show i + (k + 1) = i + 1 + k by omega]; exact hfk))

theorem lastOpen_hit {i q : Nat} : ∀ (k : Nat), q < k → i < (S.getD q noSt).fin → (∀ j, q < j → j < k → (S.getD j noSt).fin ≤ i) → lastOpen S i k = q := by
  intro k
  induction k with
  | zero => intro h; omega
  | succ k ih =>
    intro h1 h2 h3
    unfold lastOpen
    by_cases e : q = k
    · subst e; rw [if_pos h2]
    · rw [if_neg (by have := h3 k (by omega) (by omega); omega)]
      exact ih (by omega) h2 (fun j hj hjk => h3 j hj (by omega))
theorem lastOpen_miss {i : Nat} : ∀ (k : Nat), (∀ j, j < k → (S.getD j noSt).fin ≤ i) → lastOpen S i k = -1 := by
  intro k
  induction k with
  | zero => intro _; rfl
  | succ k ih =>
    intro h
    unfold lastOpen
    rw [if_neg (by have := h k (by omega); omega)]
    exact ih (fun j hj => h j (by omega))

theorem StmOk.par {g : Nat} {p b : Int} {a e : Nat} (h : StmOk F S (Blk F S g) p b a e) (j : Nat) (h1 : a < j) (h2 : j < e) : ∃ x, F[j]? = some x ∧ (a : Int) ≤ x.parent := by
  obtain ⟨x, u, hx, hu, hp, hb, hf, hae, hk⟩ := h
  rcases hk with ⟨_, hk⟩ | ⟨_, hk⟩ | ⟨_, q1, q2, hk1, hk2⟩
  · omega
  · obtain ⟨y, hy, h3⟩ := hk.par j (by omega) h2
    exact ⟨y, hy, by rcases h3 with ⟨h3, _⟩ | h3 <;> omega⟩
  · by_cases hjq : j < u.mid
    · obtain ⟨y, hy, h3⟩ := hk1.par j (by omega) hjq
      exact ⟨y, hy, by rcases h3 with ⟨h3, _⟩ | h3 <;> omega⟩
    · obtain ⟨y, hy, h3⟩ := hk2.par j (by omega) h2
      exact ⟨y, hy, by rcases h3 with ⟨h3, _⟩ | h3 <;> omega⟩

theorem Ctx.det {p b : Int} {a c a' c' : Nat} (h : Ctx F S p b a c) (k : Ctx F S p b a' c') : a = a' ∧ c = c' := by
  rcases h with ⟨h1, h2, h3, h4⟩ | ⟨q, x, u, h1, hx, hu, h2⟩
  · rcases k with ⟨k1, k2, k3, k4⟩ | ⟨q', x', u', k1, kx, ku, k2⟩
    · exact ⟨by omega, by omega⟩
    · omega
  · rcases k with ⟨k1, k2, k3, k4⟩ | ⟨q', x', u', k1, kx, ku, k2⟩
    · omega
    · have e : q = q' := by omega
      subst e
      rw [hx] at kx
      rw [hu] at ku
      cases kx
      cases ku
      rcases h2 with h2 | h2 | h2 <;> rcases k2 with k2 | k2 | k2 <;> omega

/-- All that is known of one statement. -/
theorem Whole.at_ (h : Whole F S) (i : Nat) (hi : i < F.length) : ∃ x u a0 c0 g, F[i]? = some x ∧ S[i]? = some u ∧ Cor x u ∧ a0 ≤ i ∧ i < u.fin ∧ u.fin ≤ c0 ∧ Ctx F S x.parent x.block a0 c0 ∧
    StmOk F S (Blk F S g) x.parent x.block i u.fin ∧ Blk F S g x.parent x.block u.fin c0 ∧ (∀ k, a0 ≤ k → k < i → (S.getD k noSt).fin ≤ i) := by
  obtain ⟨x, a0, c0, hx, ha, hc, hC, g, hg⟩ := h.pos i hi
  obtain ⟨h1, g', e, he, hs, hr⟩ := hg.at_ hC.lt i x ha hc hx rfl
  obtain ⟨y, u, hy, hu, hp, hb, hf, hae, hk⟩ := hs
  rw [hx] at hy
  cases hy
  subst hf
  exact ⟨x, u, a0, c0, g', hx, hu, h.1.cor i x u hx hu, ha, hae, he, hC, ⟨x, u, hx, hu, hp, hb, rfl, hae, hk⟩, hr, fun k hk1 hk2 => by
    obtain ⟨v, hv, hvf⟩ := h1 k hk1 hk2
    rw [getD_some hv]; exact hvf⟩

/-- What comes next in the block. -/
theorem Whole.first (h : Whole F S) {i : Nat} {x : Ds} {u : St} {a0 c0 g : Nat} (_hx : F[i]? = some x) (ha : a0 ≤ i) (hfc : u.fin ≤ c0) (hif : i < u.fin) (hC : Ctx F S x.parent x.block a0 c0) (hs : StmOk F S (Blk F S g) x.parent x.block i u.fin) (hr : Blk F S g x.parent x.block u.fin c0) :
    firstP F x.parent x.block (i + 1) = if u.fin < c0 then (u.fin : Int) else -1 := by
  have hplt := hC.lt
  have hin : ∀ k y, i < k → k < u.fin → F[k]? = some y → ¬ (y.parent = x.parent ∧ y.block = x.block) := by
    rintro k y h1 h2 hy ⟨h3, _⟩
    obtain ⟨z, hz, h4⟩ := hs.par k h1 h2
    rw [hy] at hz
    cases hz
    omega
  by_cases hlt : u.fin < c0
  · rw [if_pos hlt]
    obtain ⟨y, hy, hyp⟩ : ∃ y, F[u.fin]? = some y ∧ y.parent = x.parent ∧ y.block = x.block := by
      cases g with
      | zero => have h' : u.fin = c0 := hr; omega
      | succ g =>
        rcases hr with hr | ⟨e, he, hs2, _⟩
        · omega
        · obtain ⟨y, v, hy, _, hp, hb, _⟩ := hs2
          exact ⟨y, hy, hp, hb⟩
    have := firstGo_hit (p := x.parent) (b := x.block) (fr := (i : Int) + 1) F 0 u.fin y hy (by omega) hyp.1 hyp.2 (fun k z hk hz hf => hin k z (by omega) hk hz)
    rw [Nat.zero_add] at this
    exact this
  · rw [if_neg hlt]
    refine firstGo_miss F 0 (fun k y hy hf hm => ?_)
    have hk : k < F.length := by
      rcases Nat.lt_or_ge k F.length with h' | h'
      · exact h'
      · simp [List.getElem?_eq_none h'] at hy
    obtain ⟨z, a1, c1, hz, _, hkc, hC1, _⟩ := h.pos k hk
    rw [hy] at hz
    cases hz
    rw [hm.1, hm.2] at hC1
    have := hC.det hC1
    exact hin k y (by omega) (by omega) hy hm

/-- The statement in whose block it stands. -/
theorem Whole.open_ (h : Whole F S) {i : Nat} (_hi : i < F.length) {x : Ds} {a0 c0 : Nat} (hC : Ctx F S x.parent x.block a0 c0) (hic : i < c0) (hai : a0 ≤ i) (hk : ∀ k, a0 ≤ k → k < i → (S.getD k noSt).fin ≤ i) : lastOpen S i i = x.parent := by
  rcases hC with ⟨h1, h2, h3, h4⟩ | ⟨q, y, v, h1, hy, hv, h2⟩
  · rw [h1]; exact lastOpen_miss i (fun j hj => hk j (by omega) hj)
  · rw [h1]
    have hq : q < F.length := by
      rcases Nat.lt_or_ge q F.length with h' | h'
      · exact h'
      · simp [List.getElem?_eq_none h'] at hy
    have hvD : S.getD q noSt = v := getD_some hv
    obtain ⟨y', v', a1, c1, g1, hy', hv', _, _, hq1, _, _, hs, _, _⟩ := h.at_ q hq
    rw [hy] at hy'
    rw [hv] at hv'
    cases hy'
    cases hv'
    refine lastOpen_hit i (by rcases h2 with h2 | h2 | h2 <;> omega) (by rw [hvD]; rcases h2 with h2 | h2 | h2 <;> omega) (fun j hj1 hj2 => ?_)
    by_cases hja : a0 ≤ j
    · exact hk j hja hj2
    · obtain ⟨y2, v2, hy2, hv2, _, _, _, _, hkk⟩ := hs
      rw [hy] at hy2
      rw [hv] at hv2
      cases hy2
      cases hv2
      rcases hkk with ⟨hk0, _⟩ | ⟨hk3, _⟩ | ⟨_, q1, q2, hk1, _⟩
      · rcases h2 with h2 | h2 | h2 <;> omega
      · rcases h2 with h2 | h2 | h2 <;> omega
      · have hjm : j < v.mid := by rcases h2 with h2 | h2 | h2 <;> omega
        obtain ⟨t, ht, _, htf⟩ := hk1.fins j (by omega) hjm
        rw [getD_some ht]
        rcases h2 with h2 | h2 | h2 <;> omega

theorem follow_same (h : Whole F S) : ∀ (n i : Nat), i < F.length → i < n → followP F n i = followR S n i := by
  intro n
  induction n with
  | zero => intro i _ hi; omega
  | succ n ih =>
    intro i hi hn
    obtain ⟨x, u, a0, c0, g, hx, hu, hcor, ha, hif, hfc, hC, hs, hr, hk⟩ := h.at_ i hi
    have hxD : F.getD i (newDs 0 0) = x := getD_some hx
    have huD : S.getD i noSt = u := getD_some hu
    have hfirst := h.first hx ha hfc hif hC hs hr
    have hopen := h.open_ hi hC (by omega) ha hk
    have e1 : followP F (n + 1) i = if firstP F x.parent x.block (i + 1) ≠ -1 then firstP F x.parent x.block (i + 1) else if isRepP F x.parent = true then x.parent else followP F n x.parent := by
      rw [followP, if_neg (by omega)]
      simp only [Int.toNat_natCast]
      rw [hxD]
    have e2 : followR S (n + 1) i = if x.parent < 0 then (u.fin : Int) else if u.fin < endOf (S.getD x.parent.toNat noSt) i then (u.fin : Int) else if (S.getD x.parent.toNat noSt).kind = 64 then x.parent else followR S n x.parent.toNat := by
      rw [followR, hopen, huD]
    rw [e1, e2, hfirst]
    rcases hC with ⟨h1, h2, h3, h4⟩ | ⟨q, y, v, h1, hy, hv, h2⟩
    · rw [h1, if_pos (by decide : (-1 : Int) < 0)]
      by_cases hlt : u.fin < c0
      · rw [if_pos hlt, if_pos (show ((u.fin : Int) ≠ -1) by omega)]
      · rw [if_neg hlt, if_neg (show ¬ ((-1 : Int) ≠ -1) by decide), if_neg (show ¬ (isRepP F (-1) = true) by simp [isRepP])]
        cases n with
        | zero => show (F.length : Int) = _; omega
        | succ n => rw [followP, if_pos (.inl (by decide))]; omega
    · have hyD : F.getD q (newDs 0 0) = y := getD_some hy
      have hvD : S.getD q noSt = v := getD_some hv
      have hq : q < F.length := by
        rcases Nat.lt_or_ge q F.length with h' | h'
        · exact h'
        · simp [List.getElem?_eq_none h'] at hy
      have hcor2 := h.1.cor q y v hy hv
      rw [h1, if_neg (show ¬ ((q : Int) < 0) by omega)]
      simp only [Int.toNat_natCast]
      rw [hvD]
      have hend : endOf v i = c0 := by
        unfold endOf
        rcases h2 with ⟨k3, _, _, hc⟩ | ⟨k2, _, _, hc, _⟩ | ⟨k2, _, hm, hc, _⟩
        · rw [if_neg (by rw [hcor2.1, k3]; rintro ⟨e, _⟩; exact absurd e (by decide))]; exact hc.symm
        · rw [if_pos ⟨by rw [hcor2.1, k2]; rfl, by omega⟩]; exact hc.symm
        · rw [if_neg (by omega)]; exact hc.symm
      rw [hend]
      by_cases hlt : u.fin < c0
      · rw [if_pos hlt, if_pos (show ((u.fin : Int) ≠ -1) by omega), if_pos hlt]
      · rw [if_neg hlt, if_neg (show ¬ ((-1 : Int) ≠ -1) by decide), if_neg hlt]
        have hqi : q < i := by rcases h2 with h2 | h2 | h2 <;> omega
        have hrep : isRepP F q = decide (y.kind = 3) := by
          have e : (F.getD ((q : Int)).toNat (newDs 0 0)).kind = y.kind := by rw [Int.toNat_natCast, hyD]
          unfold isRepP
          simp only [e]
          rw [decide_eq_true (show (0 : Int) ≤ q by omega), decide_eq_true (show (q : Int) < F.length by omega)]
          rfl
        have hkind : v.kind = 64 ↔ y.kind = 3 := by
          rw [hcor2.1]
          rcases h2 with h2 | h2 | h2
          · rw [h2.1]; decide
          · rw [h2.1]; decide
          · rw [h2.1]; decide
        rw [hrep]
        by_cases hk3 : y.kind = 3
        · rw [if_pos (by simp [hk3]), if_pos (hkind.2 hk3)]
        · rw [if_neg (by simp [hk3]), if_neg (fun e => hk3 (hkind.1 e))]
          exact ih q hq (by omega)

end Go.Proofs.Ytjbpfbgemidleaa

namespace Go.Proofs.Ytjbpfbgemidleaa

variable {F : List Ds} {S : List St}

theorem Whole.par (h : Whole F S) (k : Nat) (x : Ds) (hx : F[k]? = some x) : -1 ≤ x.parent ∧ x.parent < (k : Int) := by
  have hk : k < F.length := by
    rcases Nat.lt_or_ge k F.length with h' | h'
    · exact h'
    · simp [List.getElem?_eq_none h'] at hx
  obtain ⟨y, a0, c0, hy, ha, _, hC, _⟩ := h.pos k hk
  rw [hx] at hy
  cases hy
  have hlt := hC.lt
  rcases hC with ⟨h1, _⟩ | ⟨q, _, _, h1, _⟩ <;> omega

/-- The first statement of a block of statement i. -/
theorem Whole.inner (h : Whole F S) {i : Nat} {b : Int} {a c g : Nat} (hC : Ctx F S i b a c) (hB : Blk F S g i b a c) : firstP F i b ((i : Int) + 1) = if a < c then (a : Int) else -1 := by
  have hia : (i : Int) < a := hC.lt
  have hno : ∀ (k : Nat) (y : Ds), F[k]? = some y → y.parent = (i : Int) → y.block = b → a ≤ k ∧ k < c := by
    intro k y hy hp hb
    have hk : k < F.length := by
      rcases Nat.lt_or_ge k F.length with h' | h'
      · exact h'
      · simp [List.getElem?_eq_none h'] at hy
    obtain ⟨z, a1, c1, hz, h1, h2, hC1, _⟩ := h.pos k hk
    rw [hy] at hz
    cases hz
    rw [hp, hb] at hC1
    have := hC.det hC1
    omega
  by_cases hlt : a < c
  · rw [if_pos hlt]
    obtain ⟨y, hy, hyp⟩ : ∃ y, F[a]? = some y ∧ y.parent = i ∧ y.block = b := by
      cases g with
      | zero => have h' : a = c := hB; omega
      | succ g =>
        rcases hB with hB | ⟨e, he, hs2, _⟩
        · omega
        · obtain ⟨y, v, hy, _, hp, hb, _⟩ := hs2
          exact ⟨y, hy, hp, hb⟩
    have := firstGo_hit (p := i) (b := b) (fr := (i : Int) + 1) F 0 a y hy (by omega) hyp.1 hyp.2 (fun k z hk hz _ hm => by have := hno k z hz hm.1 hm.2; omega)
    rw [Nat.zero_add] at this
    exact this
  · rw [if_neg hlt]
    refine firstGo_miss F 0 (fun k y hy _ hm => ?_)
    have := hno k y hy hm.1 hm.2
    omega

/-- Where a way leads: both ways of telling. -/
theorem next_same (h : Whole F S) (hl : F.length ≤ 20) (k : Nat) (hk : k < F.length) (way : Int) :
    nextP F k way = if way < 0 ∨ waysR (S.getD k noSt) ≤ way then (0, 2) else (nextR S k way, 0) := by
  obtain ⟨x, u, a0, c0, g, hx, hu, hcor, ha, hif, hfc, hC, hs, hr, hkk⟩ := h.at_ k hk
  have hxD : F.getD k (newDs 0 0) = x := getD_some hx
  have huD : S.getD k noSt = u := getD_some hu
  have hfol := follow_same h 21 k hk (by omega)
  have e1 : nextP F k way = if way < 0 ∨ waysP x.kind ≤ way then (0, 2) else if blocksOf x.kind ≤ way then (followP F 21 k, 0) else if firstP F k way ((k : Int) + 1) ≠ -1 then (firstP F k way ((k : Int) + 1), 0) else if x.kind = 3 then ((k : Int), 0) else (followP F 21 k, 0) := by
    unfold nextP
    rw [if_neg (by omega), Int.toNat_natCast, hxD]
  have e2 : nextR S k way = if u.kind = 61 ∨ u.kind = 33 ∨ (u.kind = 64 ∧ way = 1) then followR S 21 k else if u.kind = 64 ∧ u.fin = k + 1 then (k : Int) else if u.kind = 64 then (k : Int) + 1 else if way = 0 ∧ k + 1 < u.mid then (k : Int) + 1 else if way = 1 ∧ u.mid < u.fin then (u.mid : Int) else followR S 21 k := by
    unfold nextR
    simp only [huD]
  rw [e1, huD, e2, hfol]
  obtain ⟨x', u', hx', hu', _, _, _, _, hkd⟩ := hs
  rw [hx] at hx'
  rw [hu] at hu'
  cases hx'
  cases hu'
  have hkind := hcor.1
  rcases hkd with ⟨hk01, _⟩ | ⟨hk3, hB⟩ | ⟨hk2, q1, q2, hB1, hB2⟩
  · have hu61 : u.kind = 61 ∨ u.kind = 33 := by
      rcases hk01 with e | e
      · left; rw [hkind, e]; rfl
      · right; rw [hkind, e]; rfl
    have hw : waysP x.kind = 1 ∧ waysR u = 1 ∧ blocksOf x.kind = 0 := by
      refine ⟨?_, ?_, ?_⟩
      · rcases hk01 with e | e <;> rw [e] <;> decide
      · unfold waysR; rw [if_pos hu61]
      · rcases hk01 with e | e <;> rw [e] <;> decide
    rw [hw.1, hw.2.1, hw.2.2]
    by_cases hbad : way < 0 ∨ (1 : Int) ≤ way
    · rw [if_pos hbad, if_pos hbad]
    · rw [if_neg hbad, if_neg hbad, if_pos (show (0 : Int) ≤ way by omega), if_pos (show u.kind = 61 ∨ u.kind = 33 ∨ (u.kind = 64 ∧ way = 1) from hu61.elim .inl (fun e => .inr (.inl e)))]
  · have hu64 : u.kind = 64 := by rw [hkind, hk3]; rfl
    have hw : waysP x.kind = 2 ∧ waysR u = 2 ∧ blocksOf x.kind = 1 := by
      refine ⟨by rw [hk3]; decide, ?_, by rw [hk3]; decide⟩
      unfold waysR; rw [hu64]; decide
    rw [hw.1, hw.2.1, hw.2.2]
    by_cases hbad : way < 0 ∨ (2 : Int) ≤ way
    · rw [if_pos hbad, if_pos hbad]
    · rw [if_neg hbad, if_neg hbad]
      have hin := h.inner (b := 0) (.inr ⟨k, x, u, rfl, hx, hu, .inl ⟨hk3, rfl, rfl, rfl⟩⟩) hB
      by_cases w1 : way = 1
      · rw [if_pos (show (1 : Int) ≤ way by omega), if_pos (show u.kind = 61 ∨ u.kind = 33 ∨ (u.kind = 64 ∧ way = 1) from .inr (.inr ⟨hu64, w1⟩))]
      · have w0 : way = 0 := by omega
        subst w0
        rw [if_neg (show ¬ (1 : Int) ≤ 0 by decide), hin, if_neg (show ¬ (u.kind = 61 ∨ u.kind = 33 ∨ (u.kind = 64 ∧ (0 : Int) = 1)) by rw [hu64]; decide)]
        by_cases hlt : k + 1 < u.fin
        · rw [if_pos hlt, if_pos (show ((k + 1 : Nat) : Int) ≠ -1 by omega), if_neg (show ¬ (u.kind = 64 ∧ u.fin = k + 1) by omega), if_pos hu64]
          rfl
        · rw [if_neg hlt, if_neg (show ¬ ((-1 : Int) ≠ -1) by decide), if_pos hk3, if_pos (show u.kind = 64 ∧ u.fin = k + 1 from ⟨hu64, by omega⟩)]
  · have hu63 : u.kind = 63 := by rw [hkind, hk2]; rfl
    have hw : waysP x.kind = 2 ∧ waysR u = 2 ∧ blocksOf x.kind = 2 := by
      refine ⟨by rw [hk2]; decide, ?_, by rw [hk2]; decide⟩
      unfold waysR; rw [hu63]; decide
    rw [hw.1, hw.2.1, hw.2.2]
    by_cases hbad : way < 0 ∨ (2 : Int) ≤ way
    · rw [if_pos hbad, if_pos hbad]
    · rw [if_neg hbad, if_neg hbad, if_neg (show ¬ (2 : Int) ≤ way by omega)]
      have n1 : ¬ (u.kind = 61 ∨ u.kind = 33 ∨ (u.kind = 64 ∧ way = 1)) := by omega
      have n2 : ¬ (u.kind = 64 ∧ u.fin = k + 1) := by omega
      have n3 : ¬ u.kind = 64 := by omega
      have n4 : ¬ x.kind = 3 := by omega
      rw [if_neg n1, if_neg n2, if_neg n3]
      have hin0 := h.inner (b := 0) (.inr ⟨k, x, u, rfl, hx, hu, .inr (.inl ⟨hk2, rfl, rfl, rfl, q2⟩)⟩) hB1
      have hin1 := h.inner (b := 1) (.inr ⟨k, x, u, rfl, hx, hu, .inr (.inr ⟨hk2, rfl, rfl, rfl, q1⟩)⟩) hB2
      by_cases w0 : way = 0
      · subst w0
        rw [hin0]
        by_cases hlt : k + 1 < u.mid
        · rw [if_pos hlt, if_pos (show ((k + 1 : Nat) : Int) ≠ -1 by omega), if_pos (show (0 : Int) = 0 ∧ k + 1 < u.mid from ⟨rfl, hlt⟩)]
          rfl
        · rw [if_neg hlt, if_neg (show ¬ ((-1 : Int) ≠ -1) by decide), if_neg n4, if_neg (show ¬ ((0 : Int) = 0 ∧ k + 1 < u.mid) from fun e => hlt e.2), if_neg (show ¬ ((0 : Int) = 1 ∧ u.mid < u.fin) from fun e => absurd e.1 (by decide))]
      · have w1 : way = 1 := by omega
        subst w1
        rw [hin1, if_neg (show ¬ ((1 : Int) = 0 ∧ k + 1 < u.mid) from fun e => absurd e.1 (by decide))]
        by_cases hlt : u.mid < u.fin
        · rw [if_pos hlt, if_pos (show ((u.mid : Nat) : Int) ≠ -1 by omega), if_pos (show (1 : Int) = 1 ∧ u.mid < u.fin from ⟨rfl, hlt⟩)]
        · rw [if_neg hlt, if_neg (show ¬ ((-1 : Int) ≠ -1) by decide), if_neg n4, if_neg (show ¬ ((1 : Int) = 1 ∧ u.mid < u.fin) from fun e => hlt e.2)]

end Go.Proofs.Ytjbpfbgemidleaa

/- The program's run and the document's. -/
namespace Go.Proofs.Ytjbpfbgemidleaa
variable {F : List Ds} {S : List St} {L : List Int}

def runR (S : List St) : Nat → Wk → Wk
  | 0, k => k
  | n + 1, k => if k.st = 0 ∧ k.pt < S.length then runR S n (stpR S k) else k

/-- The two runs stand alike. -/
structure Alike (n : Nat) (L : List Int) (s : Ms) (k : Wk) : Prop where
  pt : s.pt = k.pt
  v : s.v = k.v
  inp : k.inp = L.drop s.used
  st : s.st = if k.pt = n then 1 else k.st
  lo : 0 ≤ k.pt
  hi : k.pt ≤ n

theorem inP_head (L : List Int) (u : Nat) : (inP L u).1 = (L.drop u).headD 0 ∧ L.drop (inP L u).2 = (L.drop u).tail := by
  unfold inP
  split
  · rename_i h
    rw [List.drop_eq_getElem_cons h]
    simp [List.getD, h]
  · rename_i h
    rw [List.drop_of_length_le (by omega)]
    simp

theorem lea_alike {p : Nat} (hW : Whole F S) (hl : F.length ≤ 20) (hp : p < F.length) (way : Int) (hw0 : 0 ≤ way) (hw1 : way < waysR (S.getD p noSt)) {s : Ms} {k : Wk} (hs : s.pt = p) (h0 : s.st = 0) (hv : s.v = k.v) (hi : k.inp = L.drop s.used) (hk : k.st = 0) (hkp : k.pt = nextR S p way) :
    Alike F.length L (leaP F s way) k := by
  have hn := next_same hW hl p hp way
  rw [if_neg (by omega)] at hn
  unfold leaP
  rw [hs, hn, if_pos rfl]
  have hin := nextP_in (F := F) p way (by rw [hn])
  rw [hn] at hin
  exact ⟨hkp.symm, hv, hi, by show (if nextR S p way = F.length then 1 else s.st) = _; rw [hkp, h0, hk], by rw [hkp]; exact hin.1, by rw [hkp]; exact hin.2⟩

theorem stp_alike (hW : Whole F S) (hl : F.length ≤ 20) {s : Ms} {k : Wk} (h : Alike F.length L s k) (h0 : s.st = 0) (hk0 : k.st = 0) (hlt : k.pt < F.length) : Alike F.length L (stpP F L s) (stpR S k) := by
  obtain ⟨p, hp⟩ : ∃ p : Nat, k.pt = p := ⟨k.pt.toNat, by have := h.lo; omega⟩
  have hpl : p < F.length := by omega
  have hlen := hW.1.len
  have hx : F[p]? = some (F.getD p (newDs 0 0)) := gets' hpl
  have hu : S[p]? = some (S.getD p noSt) := by rw [List.getD_eq_getElem?_getD, List.getElem?_eq_getElem (by omega)]; rfl
  obtain ⟨c1, c2, c3, c4, c5⟩ := hW.1.cor p _ _ hx hu
  have hspt : s.pt = p := by rw [h.pt, hp]
  have hin := inP_head L s.used
  have hlea := fun (way : Int) (hw0 : 0 ≤ way) (hw1 : way < waysR (S.getD p noSt)) (s' : Ms) (k' : Wk) => lea_alike (L := L) (s := s') (k := k') hW hl hpl way hw0 hw1
  unfold stpP stpR
  rw [if_neg (by omega), hspt, hp, Int.toNat_natCast]
  generalize F.getD p (newDs 0 0) = x at *
  generalize S.getD p noSt = u at *
  have hpn : ¬ (p : Int) = (F.length : Int) := by omega
  have ks : (if (p : Int) = (F.length : Int) then (1 : Int) else 0) = 0 := if_neg hpn
  unfold stpRu
  by_cases k0 : x.kind = 0
  · have hk61 : u.kind = 61 := by rw [c1, k0]; rfl
    have hwy : waysR u = 1 := by unfold waysR; rw [if_pos (.inl hk61)]
    rw [if_pos k0, if_pos hk61]
    unfold asgP
    rw [c3, c2, c4, c5]
    cases ha : x.any
    · have hv : valP L x s = (sumTo x.sg s.v 4 + x.num, s.used) := by unfold valP; rw [ha]; rfl
      rw [hv, if_neg (show ¬ false = true by decide), ← h.v]
      simp only
      split
      · exact ⟨by rw [hspt, hp], rfl, h.inp, by show (2 : Int) = if k.pt = _ then _ else _; rw [hp, if_neg hpn], by show 0 ≤ k.pt; omega, by show k.pt ≤ _; omega⟩
      · exact hlea 0 (by omega) (by omega) _ _ hspt h0 rfl h.inp hk0 rfl
    · have hv : valP L x s = (clampI (k.inp.headD 0), (inP L s.used).2) := by unfold valP; rw [ha, if_pos rfl, hin.1, ← h.inp]
      have hcl := clampI_le (k.inp.headD 0)
      rw [hv, if_pos (show true = true from rfl)]
      simp only
      rw [if_neg (show ¬ (999 < clampI (k.inp.headD 0) ∨ clampI (k.inp.headD 0) < -999) by omega)]
      exact hlea 0 (by omega) (by omega) _ _ hspt h0 (by rw [← h.v]) (by show k.inp.tail = _; rw [h.inp, ← hin.2]) hk0 rfl
  have hk61 : u.kind ≠ 61 := by
    rw [c1]; unfold kindOf; rw [if_neg k0]
    split
    · decide
    · split <;> decide
  rw [if_neg k0, if_neg hk61]
  by_cases k1 : x.kind = 1
  · have hk33 : u.kind = 33 := by rw [c1, k1]; rfl
    have hwy : waysR u = 1 := by unfold waysR; rw [if_pos (.inr hk33)]
    rw [if_pos k1]
    unfold astP
    rw [c3, c4, c5]
    cases ha : x.any
    · have hv : holP L x s = (decide (sumTo x.sg s.v 4 ≤ x.num), s.used) := by unfold holP; rw [ha]; rfl
      rw [hv, if_neg (show ¬ false = true by decide), ← h.v]
      by_cases hle : sumTo x.sg s.v 4 ≤ x.num
      · simp only [decide_eq_true_eq]
        rw [if_pos hle, if_pos hle]
        exact hlea 0 (by omega) (by omega) _ _ hspt h0 rfl h.inp hk0 rfl
      · simp only [decide_eq_true_eq]
        rw [if_neg hle, if_neg hle, if_pos hk33]
        exact ⟨by rw [hspt, hp], rfl, h.inp, by show (3 : Int) = if k.pt = _ then _ else _; rw [hp, if_neg hpn], by show 0 ≤ k.pt; omega, by show k.pt ≤ _; omega⟩
    · have hv : holP L x s = (k.inp.headD 0 != 0, (inP L s.used).2) := by unfold holP; rw [ha, if_pos rfl, hin.1, ← h.inp]
      rw [hv, if_pos (show true = true from rfl)]
      by_cases hz : k.inp.headD 0 = 0
      · simp only [bne_iff_ne]
        rw [if_neg (fun e => e hz), if_neg (fun e => e hz), if_pos hk33]
        exact ⟨by rw [hspt, hp], h.v, by show k.inp.tail = _; rw [h.inp, ← hin.2], by show (3 : Int) = if k.pt = _ then _ else _; rw [hp, if_neg hpn], by show 0 ≤ k.pt; omega, by show k.pt ≤ _; omega⟩
      · simp only [bne_iff_ne]
        rw [if_pos hz, if_pos hz]
        exact hlea 0 (by omega) (by omega) _ _ hspt h0 h.v (by show k.inp.tail = _; rw [h.inp, ← hin.2]) hk0 rfl
  · have hk33 : u.kind ≠ 33 := by
      rw [c1]; unfold kindOf; rw [if_neg k0, if_neg k1]
      split <;> decide
    have hwy : waysR u = 2 := by unfold waysR; rw [if_neg (fun e => e.elim hk61 hk33)]
    rw [if_neg k1]
    unfold braP
    rw [c3, c4, c5]
    cases ha : x.any
    · have hv : holP L x s = (decide (sumTo x.sg s.v 4 ≤ x.num), s.used) := by unfold holP; rw [ha]; rfl
      rw [hv, if_neg (show ¬ false = true by decide), ← h.v]
      by_cases hle : sumTo x.sg s.v 4 ≤ x.num
      · simp only [decide_eq_true_eq]
        rw [if_pos hle, if_pos hle]
        exact hlea 0 (by omega) (by omega) _ _ hspt h0 rfl h.inp hk0 rfl
      · simp only [decide_eq_true_eq]
        rw [if_neg hle, if_neg hle, if_neg hk33]
        exact hlea 1 (by omega) (by omega) _ _ hspt h0 rfl h.inp hk0 rfl
    · have hv : holP L x s = (k.inp.headD 0 != 0, (inP L s.used).2) := by unfold holP; rw [ha, if_pos rfl, hin.1, ← h.inp]
      rw [hv, if_pos (show true = true from rfl)]
      by_cases hz : k.inp.headD 0 = 0
      · simp only [bne_iff_ne]
        rw [if_neg (fun e => e hz), if_neg (fun e => e hz), if_neg hk33]
        exact hlea 1 (by omega) (by omega) _ _ hspt h0 h.v (by show k.inp.tail = _; rw [h.inp, ← hin.2]) hk0 rfl
      · simp only [bne_iff_ne]
        rw [if_pos hz, if_pos hz]
        exact hlea 0 (by omega) (by omega) _ _ hspt h0 h.v (by show k.inp.tail = _; rw [h.inp, ← hin.2]) hk0 rfl

theorem run_alike (hW : Whole F S) (hl : F.length ≤ 20) : ∀ (n : Nat) {s : Ms} {k : Wk}, Alike F.length L s k → Alike F.length L (runP F L n s) (runR S n k) := by
  intro n
  have hlen := hW.1.len
  induction n with
  | zero => intro s k h; exact h
  | succ n ih =>
    intro s k h
    have hs := h.st
    have hlo := h.lo
    have hhi := h.hi
    rw [runP, runR]
    by_cases h0 : s.st = 0
    · have hlt : k.pt < F.length := by
        rcases Int.lt_or_eq_of_le hhi with e | e
        · exact e
        · rw [if_pos e] at hs; omega
      rw [if_neg (by omega)] at hs
      rw [if_pos h0, if_pos ⟨by omega, by omega⟩]
      exact ih (stp_alike hW hl h h0 (by omega) hlt)
    · rw [if_neg h0, if_neg (fun e => h0 (by rw [hs, if_neg (by omega)]; exact e.1))]
      exact h

/-- The document's run, whole. -/
def finR (S : List St) (L : List Int) (steps : Int) : Wk := runR S (min steps.toNat 2000) ⟨0, 0, [0, 0, 0, 0], L⟩
theorem fin_alike (hW : Whole F S) (hl : F.length ≤ 20) (L : List Int) (steps : Int) : Alike F.length L (finP F L steps) (finR S L steps) :=
  run_alike hW hl _ ⟨rfl, rfl, rfl, rfl, Int.le_refl _, by show (0 : Int) ≤ _; omega⟩

theorem stpR_inp (S : List St) (k : Wk) : (stpR S k).inp.length ≤ k.inp.length := by
  have ht : k.inp.tail.length ≤ k.inp.length := by simp
  unfold stpR stpRu
  split
  · split
    · exact ht
    · split <;> exact Nat.le_refl _
  · split
    · split
      · exact ht
      · split <;> exact ht
    · split
      · exact Nat.le_refl _
      · split <;> exact Nat.le_refl _

/-- The document's run stays within the program. -/
theorem stpR_in (hW : Whole F S) (hl : F.length ≤ 20) {k : Wk} (hk0 : k.st = 0) (hlo : 0 ≤ k.pt) (hlt : k.pt < F.length) : 0 ≤ (stpR S k).pt ∧ (stpR S k).pt ≤ F.length := by
  have h : Alike F.length k.inp ⟨0, 0, k.pt, k.v⟩ k := ⟨rfl, rfl, rfl, by show (0 : Int) = _; rw [if_neg (by omega), hk0], hlo, by omega⟩
  have := stp_alike hW hl h rfl hk0 hlt
  exact ⟨this.lo, this.hi⟩

end Go.Proofs.Ytjbpfbgemidleaa

namespace Go.Proofs.Ytjbpfbgemidleaa
open Go.RowKit

/-- A statement as a value. -/
def dsv (x : Ds) : Value := .agg #[.int .i64 x.kind, .int .i64 x.target, .bool x.any, .int .i64 (sgAt x.sg 0), .int .i64 (sgAt x.sg 1), .int .i64 (sgAt x.sg 2), .int .i64 (sgAt x.sg 3), .int .i64 x.num, .int .i64 x.parent, .int .i64 x.block]
def vv (l : List Int) : Value := .agg #[.int .i64 (sgAt l 0), .int .i64 (sgAt l 1), .int .i64 (sgAt l 2), .int .i64 (sgAt l 3)]

set_option maxRecDepth 100000 in
set_option maxHeartbeats 1600000 in
theorem x_sum (x : Ds) (l : List Int) (hx : ∀ i, -1 ≤ sgAt x.sg i ∧ sgAt x.sg i ≤ 1) (hv : ∀ i, -999 ≤ sgAt l i ∧ sgAt l i ≤ 999) (w : World) :
    Calls Try.prog 65 #[dsv x, vv l] w fun e w' => e = .returned (.int .i64 (sumTo x.sg l 4)) ∧ Below w.heap.size w w' := by
  unfold dsv vv
  obtain ⟨w0, hw0⟩ : ∃ w0, w0 = (w.alloc (.cells #[.int .i64 x.kind, .int .i64 x.target, .bool x.any, .int .i64 (sgAt x.sg 0), .int .i64 (sgAt x.sg 1), .int .i64 (sgAt x.sg 2), .int .i64 (sgAt x.sg 3), .int .i64 x.num, .int .i64 x.parent, .int .i64 x.block] tDs)).alloc (.cells #[.int .i64 (sgAt l 0), .int .i64 (sgAt l 1), .int .i64 (sgAt l 2), .int .i64 (sgAt l 3)] 63) := ⟨_, rfl⟩
  have HW0 : Hid (w0 = _) := hw0
  clear hw0
  have HB : Hid (Below w.heap.size w w0) := by rw [HW0.out]; exact ((Below.refl _ _).alloc (Nat.le_refl _) _).alloc (by simp) _
  go_enter Try.func65, Try.ntmps65
  go_wp2_with fail
  go_loopw [5, 6] (fun sm i wr => ∃ (j k : Nat), j ≤ 4 ∧ i = .int .i64 j ∧ sm = .int .i64 (sumTo x.sg l j) ∧ wr = w0.drewN k) (fun _ i _ => 4 - (intOf i).toNat)
  case atStart => exact ⟨0, 0, by omega, rfl, rfl, HW0.out.symm⟩
  case round =>
    obtain ⟨j, k, hj, rfl, rfl, hwr⟩ := hrel
    have HW : Hid (∃ k, wr = w0.drewN k) := ⟨k, hwr⟩
    have k1 : ∀ a, wr.cell? a = w0.cell? a := fun a => by rw [hwr]; rfl
    have q0 : ∀ i : Nat, wr.cell? ⟨w.heap.size, i, none⟩ = #[.int .i64 x.kind, .int .i64 x.target, .bool x.any, .int .i64 (sgAt x.sg 0), .int .i64 (sgAt x.sg 1), .int .i64 (sgAt x.sg 2), .int .i64 (sgAt x.sg 3), .int .i64 x.num, .int .i64 x.parent, .int .i64 x.block][i]? := by
      intro i
      rw [k1, HW0.out, World.cell?_alloc_past _ _ _ (by simp)]
      exact World.cell?_alloc_at _ _ _ _ rfl
    have q1 : ∀ i : Nat, wr.cell? ⟨w.heap.size + 1, i, none⟩ = #[.int .i64 (sgAt l 0), .int .i64 (sgAt l 1), .int .i64 (sgAt l 2), .int .i64 (sgAt l 3)][i]? := by
      intro i
      rw [k1, HW0.out]
      exact World.cell?_alloc_at _ _ _ _ (by simp)
    have a0 := q0 3
    have a1 := q0 4
    have a2 := q0 5
    have a3 := q0 6
    have b0 := q1 0
    have b1 := q1 1
    have b2 := q1 2
    have b3 := q1 3
    simp at a0 a1 a2 a3 b0 b1 b2 b3
    have hsz : w.heap.size + 1 < wr.heap.size := by rw [hwr, HW0.out]; simp
    clear hwr k1 q0 q1
    rcases (show j = 0 ∨ j = 1 ∨ j = 2 ∨ j = 3 ∨ j = 4 by omega) with rfl | rfl | rfl | rfl | rfl
    · have hp := mul_sg (sgAt x.sg 0) (sgAt l 0) (hx 0).1 (hx 0).2 (hv 0).1 (hv 0).2
      have hs := sumTo_le hx hv 0
      have hmw : wrap64 (sgAt x.sg 0 * sgAt l 0) = sgAt x.sg 0 * sgAt l 0 := by unfold wrap64; omega
      have hL : Hid (sumTo x.sg l (0 + 1) = sumTo x.sg l 0 + sgAt x.sg 0 * sgAt l 0) := rfl
      have hlo : -4000 ≤ sumTo x.sg l 0 := by omega
      have hhi : sumTo x.sg l 0 ≤ 4000 := by omega
      clear hs
      generalize sumTo x.sg l 0 = sm at *
      go_wp2_with fail
      go_quiet (fail)
      go_wp2_with fail
      go_roundw
      case rel => obtain ⟨k', e⟩ := HW.out; exact ⟨0 + 1, _, by omega, rfl, by rw [hL.out], by rw [e]; exact drewN_two _ _ _⟩
      case measure => simp [intOf]
    · have hp := mul_sg (sgAt x.sg 1) (sgAt l 1) (hx 1).1 (hx 1).2 (hv 1).1 (hv 1).2
      have hs := sumTo_le hx hv 1
      have hmw : wrap64 (sgAt x.sg 1 * sgAt l 1) = sgAt x.sg 1 * sgAt l 1 := by unfold wrap64; omega
      have hL : Hid (sumTo x.sg l (1 + 1) = sumTo x.sg l 1 + sgAt x.sg 1 * sgAt l 1) := rfl
      have hlo : -4000 ≤ sumTo x.sg l 1 := by omega
      have hhi : sumTo x.sg l 1 ≤ 4000 := by omega
      clear hs
      generalize sumTo x.sg l 1 = sm at *
      go_wp2_with fail
      go_quiet (fail)
      go_wp2_with fail
      go_roundw
      case rel => obtain ⟨k', e⟩ := HW.out; exact ⟨1 + 1, _, by omega, rfl, by rw [hL.out], by rw [e]; exact drewN_two _ _ _⟩
      case measure => simp [intOf]
    · have hp := mul_sg (sgAt x.sg 2) (sgAt l 2) (hx 2).1 (hx 2).2 (hv 2).1 (hv 2).2
      have hs := sumTo_le hx hv 2
      have hmw : wrap64 (sgAt x.sg 2 * sgAt l 2) = sgAt x.sg 2 * sgAt l 2 := by unfold wrap64; omega
      have hL : Hid (sumTo x.sg l (2 + 1) = sumTo x.sg l 2 + sgAt x.sg 2 * sgAt l 2) := rfl
      have hlo : -4000 ≤ sumTo x.sg l 2 := by omega
      have hhi : sumTo x.sg l 2 ≤ 4000 := by omega
      clear hs
      generalize sumTo x.sg l 2 = sm at *
      go_wp2_with fail
      go_quiet (fail)
      go_wp2_with fail
      go_roundw
      case rel => obtain ⟨k', e⟩ := HW.out; exact ⟨2 + 1, _, by omega, rfl, by rw [hL.out], by rw [e]; exact drewN_two _ _ _⟩
      case measure => simp [intOf]
    · have hp := mul_sg (sgAt x.sg 3) (sgAt l 3) (hx 3).1 (hx 3).2 (hv 3).1 (hv 3).2
      have hs := sumTo_le hx hv 3
      have hmw : wrap64 (sgAt x.sg 3 * sgAt l 3) = sgAt x.sg 3 * sgAt l 3 := by unfold wrap64; omega
      have hL : Hid (sumTo x.sg l (3 + 1) = sumTo x.sg l 3 + sgAt x.sg 3 * sgAt l 3) := rfl
      have hlo : -4000 ≤ sumTo x.sg l 3 := by omega
      have hhi : sumTo x.sg l 3 ≤ 4000 := by omega
      clear hs
      generalize sumTo x.sg l 3 = sm at *
      go_wp2_with fail
      go_quiet (fail)
      go_wp2_with fail
      go_roundw
      case rel => obtain ⟨k', e⟩ := HW.out; exact ⟨3 + 1, _, by omega, rfl, by rw [hL.out], by rw [e]; exact drewN_two _ _ _⟩
      case measure => simp [intOf]
    · go_wp2_with fail
      go_ret
      refine ⟨rfl, ?_⟩
      obtain ⟨k', e⟩ := HW.out
      rw [e]
      exact below_drewN HB.out _

end Go.Proofs.Ytjbpfbgemidleaa

namespace Go.Proofs.Ytjbpfbgemidleaa
open Go.RowKit
variable {w : World} {m : Nat} {pv iv : Value} {L : List Int} {s : Ms} {F : List Ds}

set_option maxRecDepth 100000 in
set_option maxHeartbeats 1600000 in
theorem x_value (x : Ds) (hx : DsOk x) (h : At w m (mCells pv iv s) tM) (hi : Inp w m iv L) (ho : MsOk L s) (hL : L.length ≤ 1073741824) :
    Calls Try.prog 56 #[.pointer (some ⟨m, 0, none⟩), dsv x] w fun e w' => e = .returned (.int .i64 (valP L x s).1) ∧ MPost m w pv iv ⟨(valP L x s).2, s.st, s.pt, s.v⟩ w' := by
  have hlt := h.lt
  have HB : Hid (∀ o, Below w.heap.size w (w.alloc o)) := fun o => (Below.refl _ _).alloc (Nat.le_refl _) _
  have HA : Hid (At w m _ tM) := h
  have HI : Hid (Inp w m iv L) := hi
  have HO : Hid (MsOk L s) := ho
  have HX : Hid (DsOk x) := hx
  cases ha : x.any
  · have HE : Hid (valP L x s = (sumTo x.sg s.v 4 + x.num, s.used)) := by show valP L x s = _; unfold valP; rw [ha]; rfl
    obtain ⟨c0, c1, c2, c3, c4, c5, c6, c7, c8, cf⟩ := mcells h
    have hsum := sumTo_le hx.sg ho.v 4
    obtain ⟨hn0, hn1⟩ := hx.num
    have HS : Hid (∀ w1, Below (w.heap.size + 1) (w.alloc (.cells (dsCells x) tDs)) w1 → Calls Try.prog 65 #[dsv x, vv s.v] w1 fun e w' => e = .returned (.int .i64 (sumTo x.sg s.v 4)) ∧ w'.cell? ⟨w.heap.size, 7, none⟩ = some (.int .i64 x.num) ∧ Hid (Below w.heap.size w w')) := by
      intro w1 hb1
      refine (x_sum x s.v HX.out.sg HO.out.v w1).mono ?_
      rintro e w2 ⟨rfl, hb2⟩
      have hsz := hb1.size
      simp at hsz
      refine ⟨rfl, ?_, ((HB.out _).trans (hb1.mono (by omega))).trans (hb2.mono (by omega))⟩
      rw [hb2.cell (by show w.heap.size < _; omega), hb1.cell (by show w.heap.size < _; omega), World.cell?_alloc_at _ _ _ _ rfl]
      rfl
    unfold dsv vv dsCells at *
    rw [ha] at *
    generalize sumTo x.sg s.v 4 = sm at *
    have e1 : -3996 ≤ sm := by omega
    have e2 : sm ≤ 3996 := by omega
    have hw : IntKind.i64.wrap (sm + x.num) = sm + x.num := by rw [IntKind.wrap_i64]; omega
    clear h hi ho hx hsum ha
    go_enter Try.func56, Try.ntmps56
    go_wp2_with fail
    go_region_with (go_at_call 65; refine (HS.out _ (by first | exact Below.refl _ _ | exact (Below.refl _ _).drew)).mono ?_; rintro e w1 ⟨rfl, hN, hB⟩)
    all_goals
      go_wp2_with fail
      go_ret
      refine ⟨by rw [HE.out]; first | rfl | (show Ending.returned (Value.int .i64 (IntKind.i64.wrap (sm + x.num))) = _; rw [hw]), ?_, ?_⟩
      · rw [HE.out]; exact HA.out.keep hB.out hlt
      · exact Onl.of hB.out m
  · have HE : Hid (valP L x s = (clampI (inP L s.used).1, (inP L s.used).2)) := by show valP L x s = _; unfold valP; rw [ha]; rfl
    have HIn : Hid (∀ w', Below w.heap.size w w' → Calls Try.prog 63 #[.pointer (some ⟨m, 0, none⟩)] w' fun e w2 => e = .returned (.int .i64 (inP L s.used).1) ∧ MPost m w' pv iv ⟨(inP L s.used).2, s.st, s.pt, s.v⟩ w2) :=
      fun w' hb => x_input (HA.out.keep hb hlt) (HI.out.keep ⟨hb.os, hb.tape, hb.output, hb.size, fun k hk => hb.block k (by omega)⟩) HO.out.used hL
    unfold dsv at *
    rw [ha] at *
    generalize inP L s.used = y at *
    clear h hi ho hx ha
    go_enter Try.func56, Try.ntmps56
    go_wp2_with fail
    refine (HIn.out _ (HB.out _)).mono ?_
    rintro e w2 ⟨rfl, hat, hb2⟩
    have HA2 : Hid (At w2 m _ tM) := hat
    clear hat
    go_wp2_with fail
    refine (x_clamp _ _).mono ?_
    rintro e w3 ⟨rfl, rfl⟩
    go_wp2_with fail
    go_ret
    refine ⟨by rw [HE.out]; rfl, ?_, ?_⟩
    · rw [HE.out]; exact HA2.out
    · exact (Onl.of (HB.out _) m).trans hb2

end Go.Proofs.Ytjbpfbgemidleaa

namespace Go.Proofs.Ytjbpfbgemidleaa
open Go.RowKit
variable {w : World} {m : Nat} {pv iv : Value} {L : List Int} {s : Ms} {F : List Ds}

set_option maxRecDepth 100000 in
set_option maxHeartbeats 1600000 in
theorem x_holds (x : Ds) (hx : DsOk x) (h : At w m (mCells pv iv s) tM) (hi : Inp w m iv L) (ho : MsOk L s) (hL : L.length ≤ 1073741824) :
    Calls Try.prog 58 #[.pointer (some ⟨m, 0, none⟩), dsv x] w fun e w' => e = .returned (.bool (holP L x s).1) ∧ MPost m w pv iv ⟨(holP L x s).2, s.st, s.pt, s.v⟩ w' := by
  have hlt := h.lt
  have HB : Hid (∀ o, Below w.heap.size w (w.alloc o)) := fun o => (Below.refl _ _).alloc (Nat.le_refl _) _
  have HA : Hid (At w m _ tM) := h
  have HI : Hid (Inp w m iv L) := hi
  have HO : Hid (MsOk L s) := ho
  have HX : Hid (DsOk x) := hx
  cases ha : x.any
  · have HE : Hid (holP L x s = (decide (sumTo x.sg s.v 4 ≤ x.num), s.used)) := by show holP L x s = _; unfold holP; rw [ha]; rfl
    obtain ⟨c0, c1, c2, c3, c4, c5, c6, c7, c8, cf⟩ := mcells h
    have hsum := sumTo_le hx.sg ho.v 4
    obtain ⟨hn0, hn1⟩ := hx.num
    have HS : Hid (∀ w1, Below (w.heap.size + 1) (w.alloc (.cells (dsCells x) tDs)) w1 → Calls Try.prog 65 #[dsv x, vv s.v] w1 fun e w' => e = .returned (.int .i64 (sumTo x.sg s.v 4)) ∧ w'.cell? ⟨w.heap.size, 7, none⟩ = some (.int .i64 x.num) ∧ Hid (Below w.heap.size w w')) := by
      intro w1 hb1
      refine (x_sum x s.v HX.out.sg HO.out.v w1).mono ?_
      rintro e w2 ⟨rfl, hb2⟩
      have hsz := hb1.size
      simp at hsz
      refine ⟨rfl, ?_, ((HB.out _).trans (hb1.mono (by omega))).trans (hb2.mono (by omega))⟩
      rw [hb2.cell (by show w.heap.size < _; omega), hb1.cell (by show w.heap.size < _; omega), World.cell?_alloc_at _ _ _ _ rfl]
      rfl
    unfold dsv vv dsCells at *
    rw [ha] at *
    generalize sumTo x.sg s.v 4 = sm at *
    have e1 : -3996 ≤ sm := by omega
    have e2 : sm ≤ 3996 := by omega
    clear h hi ho hx hsum ha
    go_enter Try.func58, Try.ntmps58
    go_wp2_with fail
    go_region_with (go_at_call 65; refine (HS.out _ (by first | exact Below.refl _ _ | exact (Below.refl _ _).drew)).mono ?_; rintro e w1 ⟨rfl, hN, hB⟩)
    all_goals
      go_wp2_with fail
      go_ret
      refine ⟨by rw [HE.out]; rfl, ?_, ?_⟩
      · rw [HE.out]; exact HA.out.keep hB.out hlt
      · exact Onl.of hB.out m
  · have HE : Hid (holP L x s = ((inP L s.used).1 != 0, (inP L s.used).2)) := by show holP L x s = _; unfold holP; rw [ha]; rfl
    have HIn : Hid (∀ w', Below w.heap.size w w' → Calls Try.prog 63 #[.pointer (some ⟨m, 0, none⟩)] w' fun e w2 => e = .returned (.int .i64 (inP L s.used).1) ∧ MPost m w' pv iv ⟨(inP L s.used).2, s.st, s.pt, s.v⟩ w2) :=
      fun w' hb => x_input (HA.out.keep hb hlt) (HI.out.keep ⟨hb.os, hb.tape, hb.output, hb.size, fun k hk => hb.block k (by omega)⟩) HO.out.used hL
    unfold dsv at *
    rw [ha] at *
    generalize inP L s.used = y at *
    clear h hi ho hx ha
    go_enter Try.func58, Try.ntmps58
    go_wp2_with fail
    refine (HIn.out _ (HB.out _)).mono ?_
    rintro e w2 ⟨rfl, hat, hb2⟩
    have HA2 : Hid (At w2 m _ tM) := hat
    clear hat
    go_wp2_with fail
    go_ret
    refine ⟨by rw [HE.out]; rfl, ?_, ?_⟩
    · rw [HE.out]; exact HA2.out
    · exact (Onl.of (HB.out _) m).trans hb2

end Go.Proofs.Ytjbpfbgemidleaa

