import Derived.Test.YtadhimimdmoodaaEe
/- What follows a statement: the program's way and the document's. No Go in here. -/
namespace Go.Proofs.Ytadhimimdmoodaa

variable {F : List Ds} {S : List St}

/-- Whose parents lie where. -/
theorem Blk.par {f : Nat} : ∀ {p b : Int} {a c : Nat}, Blk F S f p b a c → ∀ j, a ≤ j → j < c → ∃ x, F[j]? = some x ∧ ((x.parent = p ∧ x.block = b) ∨ ((a : Int) ≤ x.parent ∧ x.parent < j)) := by
  induction f with
  | zero => intro p b a c h j h1 h2; have h' : a = c := h; omega
  | succ f ih =>
    intro p b a c h j h1 h2
    rcases h with h | ⟨e, he, hs, hr⟩
    · omega
    · obtain ⟨x, u, hx, hu, hp, hb, hf, hae, hk⟩ := hs
      by_cases hj : j = a
      · subst hj; exact ⟨x, hx, .inl ⟨hp, hb⟩⟩
      · by_cases hje : j < e
        · rcases hk with ⟨_, hk⟩ | ⟨_, hk⟩ | ⟨_, q1, q2, hk1, hk2⟩
          · omega
          · obtain ⟨y, hy, h3⟩ := ih hk j (by omega) hje
            refine ⟨y, hy, .inr ?_⟩
            rcases h3 with ⟨h3, _⟩ | h3 <;> omega
          · by_cases hjq : j < u.mid
            · obtain ⟨y, hy, h3⟩ := ih hk1 j (by omega) hjq
              refine ⟨y, hy, .inr ?_⟩
              rcases h3 with ⟨h3, _⟩ | h3 <;> omega
            · obtain ⟨y, hy, h3⟩ := ih hk2 j (by omega) hje
              refine ⟨y, hy, .inr ?_⟩
              rcases h3 with ⟨h3, _⟩ | h3 <;> omega
        · obtain ⟨y, hy, h3⟩ := ih hr j (by omega) h2
          refine ⟨y, hy, ?_⟩
          rcases h3 with h3 | h3
          · exact .inl h3
          · exact .inr (by omega)

/-- No statement ends behind its block. -/
theorem Blk.fins {f : Nat} : ∀ {p b : Int} {a c : Nat}, Blk F S f p b a c → ∀ j, a ≤ j → j < c → ∃ u, S[j]? = some u ∧ j < u.fin ∧ u.fin ≤ c := by
  induction f with
  | zero => intro p b a c h j h1 h2; have h' : a = c := h; omega
  | succ f ih =>
    intro p b a c h j h1 h2
    rcases h with h | ⟨e, he, hs, hr⟩
    · omega
    · obtain ⟨x, u, hx, hu, hp, hb, hf, hae, hk⟩ := hs
      by_cases hj : j = a
      · subst hj; exact ⟨u, hu, by omega, by omega⟩
      · by_cases hje : j < e
        · rcases hk with ⟨_, hk⟩ | ⟨_, hk⟩ | ⟨_, q1, q2, hk1, hk2⟩
          · omega
          · obtain ⟨v, hv, h3, h4⟩ := ih hk j (by omega) hje
            exact ⟨v, hv, h3, by omega⟩
          · by_cases hjq : j < u.mid
            · obtain ⟨v, hv, h3, h4⟩ := ih hk1 j (by omega) hjq
              exact ⟨v, hv, h3, by omega⟩
            · obtain ⟨v, hv, h3, h4⟩ := ih hk2 j (by omega) hje
              exact ⟨v, hv, h3, by omega⟩
        · exact ih hr j (by omega) h2

/-- A statement of the block itself: those ahead of it end there at the latest; from it on the block goes on. -/
theorem Blk.at_ {f : Nat} : ∀ {p b : Int} {a c : Nat}, Blk F S f p b a c → p < a → ∀ i x, a ≤ i → i < c → F[i]? = some x → x.parent = p → (∀ k, a ≤ k → k < i → ∃ u, S[k]? = some u ∧ u.fin ≤ i) ∧ ∃ g e, e ≤ c ∧ StmOk F S (Blk F S g) p b i e ∧ Blk F S g p b e c := by
  induction f with
  | zero => intro p b a c h _ i x h1 h2; have h' : a = c := h; omega
  | succ f ih =>
    intro p b a c h hpa i x h1 h2 hx hp
    rcases h with h | ⟨e, he, hs, hr⟩
    · omega
    · have hae := hs.lt
      by_cases hi : i = a
      · subst hi
        exact ⟨fun k h3 h4 => by omega, f, e, he, hs, hr⟩
      · have hall : Blk F S (f + 1) p b a c := .inr ⟨e, he, hs, hr⟩
        have hone : Blk F S (f + 1) p b a e := .inr ⟨e, Nat.le_refl _, hs, by cases f with | zero => exact rfl | succ f => exact .inl rfl⟩
        by_cases hie : i < e
        · exfalso
          obtain ⟨y, u, hy, hu, hp', hb', hf, hae', hk⟩ := hs
          have inner : ∀ (b : Int) (a1 c1 : Nat), a + 1 ≤ a1 → Blk F S f a b a1 c1 → a1 ≤ i → i < c1 → False := by
            intro b a1 c1 ha1 hB h3 h4
            obtain ⟨z, hz, h5⟩ := hB.par i h3 h4
            rw [hx] at hz
            cases hz
            rcases h5 with ⟨h5, _⟩ | h5 <;> omega
          rcases hk with ⟨_, hk⟩ | ⟨_, hk⟩ | ⟨_, q1, q2, hk1, hk2⟩
          · omega
          · exact inner _ _ _ (by omega) hk (by omega) hie
          · by_cases hjq : i < u.mid
            · exact inner _ _ _ (by omega) hk1 (by omega) hjq
            · exact inner _ _ _ (by omega) hk2 (by omega) hie
        · obtain ⟨h3, h4⟩ := ih hr (by omega) i x (by omega) h2 hx hp
          refine ⟨fun k hk1 hk2 => ?_, h4⟩
          by_cases hke : k < e
          · obtain ⟨v, hv, _, h6⟩ := hone.fins k hk1 hke
            exact ⟨v, hv, by omega⟩
          · exact h3 k (by omega) hk2

/-- Where the block of a statement begins and ends. -/
def Ctx (F : List Ds) (S : List St) (p b : Int) (a c : Nat) : Prop :=
  (p = -1 ∧ b = 0 ∧ a = 0 ∧ c = F.length) ∨ ∃ (q : Nat) (x : Ds) (u : St), p = q ∧ F[q]? = some x ∧ S[q]? = some u ∧
    ((x.kind = 3 ∧ b = 0 ∧ a = q + 1 ∧ c = u.fin) ∨ (x.kind = 2 ∧ b = 0 ∧ a = q + 1 ∧ c = u.mid ∧ u.mid ≤ u.fin) ∨ (x.kind = 2 ∧ b = 1 ∧ a = u.mid ∧ c = u.fin ∧ q + 1 ≤ u.mid))

theorem Ctx.lt {p b : Int} {a c : Nat} (h : Ctx F S p b a c) : p < a := by
  rcases h with ⟨h1, _, h3, _⟩ | ⟨q, x, u, h1, _, _, h2⟩
  · omega
  · rcases h2 with h2 | h2 | h2 <;> omega

/-- Each statement stands in a block. -/
theorem Blk.pos {f : Nat} : ∀ {p b : Int} {a c : Nat}, Blk F S f p b a c → (∃ a0, a0 ≤ a ∧ Ctx F S p b a0 c ∧ ∃ g, Blk F S g p b a0 c) → ∀ i, a ≤ i → i < c → ∃ x a0 c0, F[i]? = some x ∧ a0 ≤ i ∧ i < c0 ∧ Ctx F S x.parent x.block a0 c0 ∧ ∃ g, Blk F S g x.parent x.block a0 c0 := by
  induction f with
  | zero => intro p b a c h _ i h1 h2; have h' : a = c := h; omega
  | succ f ih =>
    intro p b a c h hctx i h1 h2
    obtain ⟨a0, ha0, hC, g, hg⟩ := hctx
    rcases h with h | ⟨e, he, hs, hr⟩
    · omega
    · obtain ⟨x, u, hx, hu, hp, hb, hf, hae, hk⟩ := hs
      by_cases hi : i = a
      · subst hi
        exact ⟨x, a0, c, hx, ha0, h2, by rw [hp, hb]; exact hC, g, by rw [hp, hb]; exact hg⟩
      · by_cases hie : i < e
        · rcases hk with ⟨_, hk⟩ | ⟨k3, hk⟩ | ⟨k2, q1, q2, hk1, hk2⟩
          · omega
          · exact ih hk ⟨a + 1, Nat.le_refl _, .inr ⟨a, x, u, rfl, hx, hu, .inl ⟨k3, rfl, rfl, hf.symm⟩⟩, f, hk⟩ i (by omega) hie
          · by_cases hiq : i < u.mid
            · exact ih hk1 ⟨a + 1, Nat.le_refl _, .inr ⟨a, x, u, rfl, hx, hu, .inr (.inl ⟨k2, rfl, rfl, rfl, by omega⟩)⟩, f, hk1⟩ i (by omega) hiq
            · exact ih hk2 ⟨u.mid, Nat.le_refl _, .inr ⟨a, x, u, rfl, hx, hu, .inr (.inr ⟨k2, rfl, rfl, hf.symm, by omega⟩)⟩, f, hk2⟩ i (by omega) hie
        · exact ih hr ⟨a0, by omega, hC, g, hg⟩ i (by omega) h2

/-- The whole program. -/
def Whole (F : List Ds) (S : List St) : Prop := CorL F S ∧ ∃ f, Blk F S f (-1) 0 0 F.length

theorem Whole.pos (h : Whole F S) (i : Nat) (hi : i < F.length) : ∃ x a0 c0, F[i]? = some x ∧ a0 ≤ i ∧ i < c0 ∧ Ctx F S x.parent x.block a0 c0 ∧ ∃ g, Blk F S g x.parent x.block a0 c0 := by
  obtain ⟨_, f, hf⟩ := h
  exact hf.pos ⟨0, Nat.le_refl _, .inl ⟨rfl, rfl, rfl, rfl⟩, f, hf⟩ i (Nat.zero_le _) hi

end Go.Proofs.Ytadhimimdmoodaa
