import Derived.Test.YtadhimimdmoodabPq
namespace Go.Proofs.Ytadhimimdmoodab

theorem readFrom_inv : ∀ (l : List Int) (m0 : Rd) (k : Nat), ∃ n m, feed m0 (l.take n) = some m ∧ n ≤ l.length ∧ ((readFrom m0 l k = (k + n, none) ∧ ∃ c, l[n]? = some c ∧ byteStep m c = none) ∨ (readFrom m0 l k = (k + n, some m) ∧ n = l.length)) := by
  intro l
  induction l with
  | nil => intro m0 k; exact ⟨0, m0, rfl, Nat.le_refl _, .inr ⟨rfl, rfl⟩⟩
  | cons a l ih =>
    intro m0 k
    cases hb : byteStep m0 a with
    | none => exact ⟨0, m0, rfl, Nat.zero_le _, .inl ⟨by simp [readFrom, hb], a, rfl, hb⟩⟩
    | some m1 =>
      obtain ⟨n, m, h1, h2, h3⟩ := ih m1 (k + 1)
      refine ⟨n + 1, m, by simp only [List.take_succ_cons, feed, hb]; exact h1, by simp; omega, ?_⟩
      have e : k + (n + 1) = k + 1 + n := by omega
      rcases h3 with ⟨h3, c, h4, h5⟩ | ⟨h3, h4⟩
      · exact .inl ⟨by simp only [readFrom, hb]; rw [h3, e], c, by simpa using h4, h5⟩
      · exact .inr ⟨by simp only [readFrom, hb]; rw [h3, e], by simp; exact h4⟩

theorem scanOf_none {l : List Int} {n : Nat} (hl : l.length ≤ 160) (h : readFrom init l 0 = (n, none)) : scanOf l = (0, 1, (n : Int)) := by
  unfold scanOf; rw [if_neg (by omega), h]
theorem scanOf_some {l : List Int} {n : Nat} {m : Rd} (hl : l.length ≤ 160) (h : readFrom init l 0 = (n, some m)) : scanOf l = if isDone m then ((m.st.length : Int) + 1, 0, 0) else (0, 1, (n : Int)) := by
  unfold scanOf; rw [if_neg (by omega), h]

/-- The three kinds of answers. -/
theorem scan_cases (l : List Int) : (160 < l.length ∧ scanOf l = (0, 1, 0)) ∨ (l.length ≤ 160 ∧ ∃ k : Nat, scanOf l = ((k : Int) + 1, 0, 0)) ∨
    (l.length ≤ 160 ∧ ∃ n m, n ≤ l.length ∧ scanOf l = (0, 1, (n : Int)) ∧ feed init (l.take n) = some m ∧ (n < l.length → ∃ c, l[n]? = some c ∧ byteStep m c = none)) := by
  by_cases h : 160 < l.length
  · exact .inl ⟨h, by unfold scanOf; rw [if_pos h]⟩
  · have hl : l.length ≤ 160 := by omega
    obtain ⟨n, m, h1, h2, h3⟩ := readFrom_inv l init 0
    rw [Nat.zero_add] at h3
    rcases h3 with ⟨h3, c, h4, h5⟩ | ⟨h3, h4⟩
    · exact .inr (.inr ⟨hl, n, m, h2, scanOf_none hl h3, h1, fun _ => ⟨c, h4, h5⟩⟩)
    · have e := scanOf_some hl h3
      cases hd : isDone m
      · rw [hd] at e
        exact .inr (.inr ⟨hl, n, m, h2, e, h1, fun h => absurd h (by omega)⟩)
      · rw [hd] at e
        exact .inr (.inl ⟨hl, m.st.length, e⟩)

/-- A readable beginning by itself. -/
theorem scan_pre {l : List Int} {n : Nat} {m : Rd} (hf : feed init (l.take n) = some m) (hn : n ≤ l.length) (h160 : n ≤ 160) : (∃ k : Nat, scanOf (l.take n) = ((k : Int) + 1, 0, 0)) ∨ scanOf (l.take n) = (0, 1, (n : Int)) := by
  have hl : (l.take n).length = n := by simp; omega
  have e := scanOf_some (by omega) (readFrom_some (n := 0) hf)
  rw [hl, Nat.zero_add] at e
  cases hd : isDone m
  · rw [hd] at e; exact .inr e
  · rw [hd] at e; exact .inl ⟨m.st.length, e⟩

/-- What stands behind the first byte that cannot be read does not matter. -/
theorem scan_bad {l l' : List Int} {n : Nat} {m : Rd} {c : Int} (hf : feed init (l.take n) = some m) (ht : l'.take n = l.take n) (hc : l'[n]? = some c) (hb : byteStep m c = none) (hl : l'.length ≤ 160) : scanOf l' = (0, 1, (n : Int)) := by
  have := scanOf_none hl (readFrom_none (n := 0) (by rw [ht]; exact hf) hc hb)
  rw [Nat.zero_add] at this
  exact this

end Go.Proofs.Ytadhimimdmoodab
