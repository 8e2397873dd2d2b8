import Derived.Test.YtadhimimdmoodaaGb
namespace Go.Proofs.Ytadhimimdmoodaa

variable {F : List Ds} {S : List St}

theorem Whole.par (h : Whole F S) (k : Nat) (x : Ds) (hx : F[k]? = some x) : -1 ≤ x.parent ∧ x.parent < (k : Int) := by
  have hk : k < F.length := by
    rcases Nat.lt_or_ge k F.length with h' | h'
    · exact h'
    · simp [List.getElem?_eq_none h'] at hx
  obtain ⟨y, a0, c0, hy, ha, _, hC, _⟩ := h.pos k hk
  rw [hx] at hy
  cases hy
  have hlt := hC.lt
  rcases hC with ⟨h1, _⟩ | ⟨q, _, _, h1, _⟩ <;> omega

/-- The first statement of a block of statement i. -/
theorem Whole.inner (h : Whole F S) {i : Nat} {b : Int} {a c g : Nat} (hC : Ctx F S i b a c) (hB : Blk F S g i b a c) : firstP F i b ((i : Int) + 1) = if a < c then (a : Int) else -1 := by
  have hia : (i : Int) < a := hC.lt
  have hno : ∀ (k : Nat) (y : Ds), F[k]? = some y → y.parent = (i : Int) → y.block = b → a ≤ k ∧ k < c := by
    intro k y hy hp hb
    have hk : k < F.length := by
      rcases Nat.lt_or_ge k F.length with h' | h'
      · exact h'
      · simp [List.getElem?_eq_none h'] at hy
    obtain ⟨z, a1, c1, hz, h1, h2, hC1, _⟩ := h.pos k hk
    rw [hy] at hz
    cases hz
    rw [hp, hb] at hC1
    have := hC.det hC1
    omega
  by_cases hlt : a < c
  · rw [if_pos hlt]
    obtain ⟨y, hy, hyp⟩ : ∃ y, F[a]? = some y ∧ y.parent = i ∧ y.block = b := by
      cases g with
      | zero => have h' : a = c := hB; omega
      | succ g =>
        rcases hB with hB | ⟨e, he, hs2, _⟩
        · omega
        · obtain ⟨y, v, hy, _, hp, hb, _⟩ := hs2
          exact ⟨y, hy, hp, hb⟩
    have := firstGo_hit (p := i) (b := b) (fr := (i : Int) + 1) F 0 a y hy (by omega) hyp.1 hyp.2 (fun k z hk hz _ hm => by have := hno k z hz hm.1 hm.2; omega)
    rw [Nat.zero_add] at this
    exact this
  · rw [if_neg hlt]
    refine firstGo_miss F 0 (fun k y hy _ hm => ?_)
    have := hno k y hy hm.1 hm.2
    omega

/-- Where a way leads: both ways of telling. -/
theorem next_same (h : Whole F S) (hl : F.length ≤ 20) (k : Nat) (hk : k < F.length) (way : Int) :
    nextP F k way = if way < 0 ∨ waysR (S.getD k noSt) ≤ way then (0, 2) else (nextR S k way, 0) := by
  obtain ⟨x, u, a0, c0, g, hx, hu, hcor, ha, hif, hfc, hC, hs, hr, hkk⟩ := h.at_ k hk
  have hxD : F.getD k (newDs 0 0) = x := getD_some hx
  have huD : S.getD k noSt = u := getD_some hu
  have hfol := follow_same h 21 k hk (by omega)
  have e1 : nextP F k way = if way < 0 ∨ waysP x.kind ≤ way then (0, 2) else if blocksOf x.kind ≤ way then (followP F 21 k, 0) else if firstP F k way ((k : Int) + 1) ≠ -1 then (firstP F k way ((k : Int) + 1), 0) else if x.kind = 3 then ((k : Int), 0) else (followP F 21 k, 0) := by
    unfold nextP
    rw [if_neg (by omega), Int.toNat_natCast, hxD]
  have e2 : nextR S k way = if u.kind = 61 ∨ u.kind = 33 ∨ (u.kind = 64 ∧ way = 1) then followR S 21 k else if u.kind = 64 ∧ u.fin = k + 1 then (k : Int) else if u.kind = 64 then (k : Int) + 1 else if way = 0 ∧ k + 1 < u.mid then (k : Int) + 1 else if way = 1 ∧ u.mid < u.fin then (u.mid : Int) else followR S 21 k := by
    unfold nextR
    simp only [huD]
  rw [e1, huD, e2, hfol]
  obtain ⟨x', u', hx', hu', _, _, _, _, hkd⟩ := hs
  rw [hx] at hx'
  rw [hu] at hu'
  cases hx'
  cases hu'
  have hkind := hcor.1
  rcases hkd with ⟨hk01, _⟩ | ⟨hk3, hB⟩ | ⟨hk2, q1, q2, hB1, hB2⟩
  · have hu61 : u.kind = 61 ∨ u.kind = 33 := by
      rcases hk01 with e | e
      · left; rw [hkind, e]; rfl
      · right; rw [hkind, e]; rfl
    have hw : waysP x.kind = 1 ∧ waysR u = 1 ∧ blocksOf x.kind = 0 := by
      refine ⟨?_, ?_, ?_⟩
      · rcases hk01 with e | e <;> rw [e] <;> decide
      · unfold waysR; rw [if_pos hu61]
      · rcases hk01 with e | e <;> rw [e] <;> decide
    rw [hw.1, hw.2.1, hw.2.2]
    by_cases hbad : way < 0 ∨ (1 : Int) ≤ way
    · rw [if_pos hbad, if_pos hbad]
    · rw [if_neg hbad, if_neg hbad, if_pos (show (0 : Int) ≤ way by omega), if_pos (show u.kind = 61 ∨ u.kind = 33 ∨ (u.kind = 64 ∧ way = 1) from hu61.elim .inl (fun e => .inr (.inl e)))]
  · have hu64 : u.kind = 64 := by rw [hkind, hk3]; rfl
    have hw : waysP x.kind = 2 ∧ waysR u = 2 ∧ blocksOf x.kind = 1 := by
      refine ⟨by rw [hk3]; decide, ?_, by rw [hk3]; decide⟩
      unfold waysR; rw [hu64]; decide
    rw [hw.1, hw.2.1, hw.2.2]
    by_cases hbad : way < 0 ∨ (2 : Int) ≤ way
    · rw [if_pos hbad, if_pos hbad]
    · rw [if_neg hbad, if_neg hbad]
      have hin := h.inner (b := 0) (.inr ⟨k, x, u, rfl, hx, hu, .inl ⟨hk3, rfl, rfl, rfl⟩⟩) hB
      by_cases w1 : way = 1
      · rw [if_pos (show (1 : Int) ≤ way by omega), if_pos (show u.kind = 61 ∨ u.kind = 33 ∨ (u.kind = 64 ∧ way = 1) from .inr (.inr ⟨hu64, w1⟩))]
      · have w0 : way = 0 := by omega
        subst w0
        rw [if_neg (show ¬ (1 : Int) ≤ 0 by decide), hin, if_neg (show ¬ (u.kind = 61 ∨ u.kind = 33 ∨ (u.kind = 64 ∧ (0 : Int) = 1)) by rw [hu64]; decide)]
        by_cases hlt : k + 1 < u.fin
        · rw [if_pos hlt, if_pos (show ((k + 1 : Nat) : Int) ≠ -1 by omega), if_neg (show ¬ (u.kind = 64 ∧ u.fin = k + 1) by omega), if_pos hu64]
          rfl
        · rw [if_neg hlt, if_neg (show ¬ ((-1 : Int) ≠ -1) by decide), if_pos hk3, if_pos (show u.kind = 64 ∧ u.fin = k + 1 from ⟨hu64, by omega⟩)]
  · have hu63 : u.kind = 63 := by rw [hkind, hk2]; rfl
    have hw : waysP x.kind = 2 ∧ waysR u = 2 ∧ blocksOf x.kind = 2 := by
      refine ⟨by rw [hk2]; decide, ?_, by rw [hk2]; decide⟩
      unfold waysR; rw [hu63]; decide
    rw [hw.1, hw.2.1, hw.2.2]
    by_cases hbad : way < 0 ∨ (2 : Int) ≤ way
    · rw [if_pos hbad, if_pos hbad]
    · rw [if_neg hbad, if_neg hbad, if_neg (show ¬ (2 : Int) ≤ way by omega)]
      have n1 : ¬ (u.kind = 61 ∨ u.kind = 33 ∨ (u.kind = 64 ∧ way = 1)) := by omega
      have n2 : ¬ (u.kind = 64 ∧ u.fin = k + 1) := by omega
      have n3 : ¬ u.kind = 64 := by omega
      have n4 : ¬ x.kind = 3 := by omega
      rw [if_neg n1, if_neg n2, if_neg n3]
      have hin0 := h.inner (b := 0) (.inr ⟨k, x, u, rfl, hx, hu, .inr (.inl ⟨hk2, rfl, rfl, rfl, q2⟩)⟩) hB1
      have hin1 := h.inner (b := 1) (.inr ⟨k, x, u, rfl, hx, hu, .inr (.inr ⟨hk2, rfl, rfl, rfl, q1⟩)⟩) hB2
      by_cases w0 : way = 0
      · subst w0
        rw [hin0]
        by_cases hlt : k + 1 < u.mid
        · rw [if_pos hlt, if_pos (show ((k + 1 : Nat) : Int) ≠ -1 by omega), if_pos (show (0 : Int) = 0 ∧ k + 1 < u.mid from ⟨rfl, hlt⟩)]
          rfl
        · rw [if_neg hlt, if_neg (show ¬ ((-1 : Int) ≠ -1) by decide), if_neg n4, if_neg (show ¬ ((0 : Int) = 0 ∧ k + 1 < u.mid) from fun e => hlt e.2), if_neg (show ¬ ((0 : Int) = 1 ∧ u.mid < u.fin) from fun e => absurd e.1 (by decide))]
      · have w1 : way = 1 := by omega
        subst w1
        rw [hin1, if_neg (show ¬ ((1 : Int) = 0 ∧ k + 1 < u.mid) from fun e => absurd e.1 (by decide))]
        by_cases hlt : u.mid < u.fin
        · rw [if_pos hlt, if_pos (show ((u.mid : Nat) : Int) ≠ -1 by omega), if_pos (show (1 : Int) = 1 ∧ u.mid < u.fin from ⟨rfl, hlt⟩)]
        · rw [if_neg hlt, if_neg (show ¬ ((-1 : Int) ≠ -1) by decide), if_neg n4, if_neg (show ¬ ((1 : Int) = 1 ∧ u.mid < u.fin) from fun e => hlt e.2)]

end Go.Proofs.Ytadhimimdmoodaa
