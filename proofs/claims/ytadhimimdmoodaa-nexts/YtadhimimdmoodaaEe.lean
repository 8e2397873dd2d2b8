import Derived.Test.YtadhimimdmoodaaEd
namespace Go.Proofs.Ytadhimimdmoodaa
variable {s : ByteArray} {d : Nat × Bool} {m m' : Rd}

/-- The machine's sign of a kind. -/
def kindOf (k : Int) : Int := if k = 0 then 61 else if k = 1 then 33 else if k = 2 then 63 else 64
/-- A statement of the program's, and the machine's. -/
def Cor (x : Ds) (u : St) : Prop := u.kind = kindOf x.kind ∧ u.var = x.target ∧ u.star = x.any ∧ u.sg = x.sg ∧ u.num = x.num
structure CorL (F : List Ds) (S : List St) : Prop where
  len : F.length = S.length
  cor : ∀ (i : Nat) (x : Ds) (u : St), F[i]? = some x → S[i]? = some u → Cor x u
def Pre {α : Type} (l l' : List α) : Prop := ∀ i, i < l.length → l'[i]? = l[i]?
theorem Pre.refl {α : Type} (l : List α) : Pre l l := fun _ _ => rfl
theorem Pre.trans {α : Type} {a b c : List α} (h : Pre a b) (k : Pre b c) (hl : a.length ≤ b.length) : Pre a c := fun i hi => (k i (by omega)).trans (h i hi)
theorem Pre.snoc {α : Type} (l : List α) (x : α) : Pre l (l ++ [x]) := fun _ hi => List.getElem?_append_left hi

/-- The statement at a, of block b of p, up to e: its own parts. 'R p b a c': the statements from a to c are those of block b of p. -/
def StmOk (F : List Ds) (S : List St) (R : Int → Int → Nat → Nat → Prop) (p b : Int) (a e : Nat) : Prop :=
  ∃ x u, F[a]? = some x ∧ S[a]? = some u ∧ x.parent = p ∧ x.block = b ∧ u.fin = e ∧ a < e ∧
    (((x.kind = 0 ∨ x.kind = 1) ∧ e = a + 1) ∨ (x.kind = 3 ∧ R a 0 (a + 1) e) ∨ (x.kind = 2 ∧ a + 1 ≤ u.mid ∧ u.mid ≤ e ∧ R a 0 (a + 1) u.mid ∧ R a 1 u.mid e))
def Blk (F : List Ds) (S : List St) : Nat → Int → Int → Nat → Nat → Prop
  | 0, _, _, a, c => a = c
  | f + 1, p, b, a, c => a = c ∨ ∃ e, e ≤ c ∧ StmOk F S (Blk F S f) p b a e ∧ Blk F S f p b e c

theorem StmOk.into {F F' : List Ds} {S S' : List St} {R R' : Int → Int → Nat → Nat → Prop} {p b : Int} {a e : Nat} (h : StmOk F S R p b a e) (h1 : F'[a]? = F[a]?) (h2 : S'[a]? = S[a]?) (h3 : ∀ p b i j, a < i → i ≤ j → j ≤ e → R p b i j → R' p b i j) : StmOk F' S' R' p b a e := by
  obtain ⟨x, u, hx, hu, hp, hb, hf, hae, hk⟩ := h
  refine ⟨x, u, by rw [h1]; exact hx, by rw [h2]; exact hu, hp, hb, hf, hae, ?_⟩
  rcases hk with hk | ⟨k3, hk⟩ | ⟨k2, q1, q2, hk1, hk2⟩
  · exact .inl hk
  · exact .inr (.inl ⟨k3, h3 _ _ _ _ (by omega) (by omega) (Nat.le_refl _) hk⟩)
  · exact .inr (.inr ⟨k2, q1, q2, h3 _ _ _ _ (by omega) q1 (by omega) hk1, h3 _ _ _ _ (by omega) q2 (Nat.le_refl _) hk2⟩)
theorem StmOk.lt {F : List Ds} {S : List St} {R : Int → Int → Nat → Nat → Prop} {p b : Int} {a e : Nat} (h : StmOk F S R p b a e) : a < e := by
  obtain ⟨x, u, hx, hu, hp, hb, hf, hae, hk⟩ := h
  exact hae
theorem Blk.succ {F : List Ds} {S : List St} {f : Nat} : ∀ {p b : Int} {a c : Nat}, Blk F S f p b a c → Blk F S (f + 1) p b a c := by
  induction f with
  | zero => intro p b a c h; exact .inl h
  | succ f ih =>
    intro p b a c h
    rcases h with h | ⟨e, he, hs, hr⟩
    · exact .inl h
    · exact .inr ⟨e, he, hs.into rfl rfl (fun _ _ _ _ _ _ _ hR => ih hR), ih hr⟩
theorem Blk.more {F : List Ds} {S : List St} {f : Nat} (g : Nat) {p b : Int} {a c : Nat} (h : Blk F S f p b a c) : Blk F S (f + g) p b a c := by
  induction g with
  | zero => exact h
  | succ g ih => exact ih.succ
/-- It hangs on the statements from a to c alone. -/
theorem Blk.keep {F F' : List Ds} {S S' : List St} {f : Nat} : ∀ {p b : Int} {a c : Nat}, Blk F S f p b a c → (∀ i, a ≤ i → i < c → F'[i]? = F[i]?) → (∀ i, a ≤ i → i < c → S'[i]? = S[i]?) → Blk F' S' f p b a c := by
  induction f with
  | zero => intro p b a c h _ _; exact h
  | succ f ih =>
    intro p b a c h h1 h2
    rcases h with h | ⟨e, he, hs, hr⟩
    · exact .inl h
    · have hae := hs.lt
      refine .inr ⟨e, he, hs.into (h1 a (by omega) (by omega)) (h2 a (by omega) (by omega)) (fun _ _ i j hi hij hj hR => ih hR (fun k hk1 hk2 => h1 k (by omega) (by omega)) (fun k hk1 hk2 => h2 k (by omega) (by omega))), ih hr (fun k hk1 hk2 => h1 k (by omega) hk2) (fun k hk1 hk2 => h2 k (by omega) hk2)⟩

theorem CorL.snoc {F : List Ds} {S : List St} (h : CorL F S) {x : Ds} {u : St} (hc : Cor x u) : CorL (F ++ [x]) (S ++ [u]) := by
  refine ⟨by simp [h.len], fun i y v hy hv => ?_⟩
  by_cases hi : i < F.length
  · rw [List.getElem?_append_left hi] at hy
    rw [List.getElem?_append_left (by rw [← h.len]; exact hi)] at hv
    exact h.cor i y v hy hv
  · have hl := h.len
    have : i = F.length := by
      have : i < (F ++ [x]).length := by
        rcases Nat.lt_or_ge i (F ++ [x]).length with h' | h'
        · exact h'
        · simp [List.getElem?_eq_none h'] at hy
      simp at this; omega
    subst this
    simp at hy
    rw [hl] at hv
    simp at hv
    subst hy; subst hv; exact hc
theorem CorL.set {F : List Ds} {S : List St} (h : CorL F S) {k : Nat} {u u' : St} (hk : S[k]? = some u) (hc : ∀ x, Cor x u → Cor x u') : CorL F (S.set k u') := by
  refine ⟨by simp [h.len], fun i y v hy hv => ?_⟩
  rw [List.getElem?_set] at hv
  split at hv
  · rename_i e
    subst e
    split at hv
    · simp at hv; subst hv; exact hc y (h.cor k y u hy hk)
    · cases hv
  · exact h.cor i y v hy hv

/-- What a run of readStatements comes to. -/
structure Out (s : ByteArray) (z : Zt) (m : Rd) (z' : Zt) (m' : Rd) : Prop where
  sync : Sync s z'.1 m'
  st : m'.state = 115
  op : m'.op = m.op
  cor : CorL z'.2 m'.st
  preF : Pre z.2 z'.2
  preS : Pre m.st m'.st
  len : z.2.length ≤ z'.2.length

def Says (s : ByteArray) (n : Nat) : Prop := ∀ (p b dp : Int) (z : Zt) (m : Rd), Sync s z.1 m → m.state = 115 → (m.op.length : Int) = dp → CorL z.2 m.st → Mz z < n →
  Dead s (rStmts s n p b dp z).1 ∨ ∃ m', Out s z m (rStmts s n p b dp z) m' ∧ (∃ f, Blk (rStmts s n p b dp z).2 m'.st f p b z.2.length (rStmts s n p b dp z).2.length) ∧ (pk s (rStmts s n p b dp z).1 = 0 ∨ pk s (rStmts s n p b dp z).1 = 125)

theorem Dead.dStmts {z : Zt} (h : Dead s z.1) (n : Nat) (p b dp : Int) : rStmts s n p b dp z = z := by
  cases n with
  | zero => rfl
  | succ n => unfold rStmts; rw [if_pos (.inl h.dpk)]
theorem Dead.dBlock {z : Zt} (h : Dead s z.1) (n : Nat) (p b dp : Int) : rBlockWith s (rStmts s n) p b dp z = z := by
  unfold rBlockWith
  rw [h.dnd (by decide), Dead.dStmts (z := (z.1, z.2)) h, h.dnd (by decide)]

theorem byte_115 (h : m.state = 115) (c : Int) : byteStep m c = startStep m c := by unfold byteStep; rw [if_pos h]
theorem byte_125 (h : m.state = 125) (c : Int) : byteStep m c = if c = 123 then some { m with op := m.op.set (m.op.length - 1) { top m with second := true }, state := 115 } else none := by
  rw [byte_cond (by rw [h]; decide)]; unfold condStep; rw [h, if_neg (by decide), if_neg (by decide), if_neg (by decide), if_neg (by decide), if_neg (by decide), if_neg (by decide), if_neg (by decide), if_neg (by decide), if_neg (by decide)]

/-- A block, from behind its brace to behind its end: the machine is where the block is shut. -/
theorem block_in {n : Nat} (H : Says s n) {z : Zt} (p b dp : Int) (h : Sync s z.1 m) (hs : m.state = 115) (hop : 0 < m.op.length) (hdp : (m.op.length : Int) = dp) (hc : CorL z.2 m.st) (hm : Mz z < n) :
    Dead s (nd s (rStmts s n p b dp z).1 125) ∨ ∃ m2 m3, Out s z m (rStmts s n p b dp z) m2 ∧ (∃ f, Blk (rStmts s n p b dp z).2 m2.st f p b z.2.length (rStmts s n p b dp z).2.length) ∧ shutStep m2 = some m3 ∧ Sync s (nd s (rStmts s n p b dp z).1 125) m3 := by
  rcases H p b dp z m h hs hdp hc hm with hd | ⟨m2, ho, hf, hpk⟩
  · left; rw [hd.dnd (by decide)]; exact hd
  · have hb := byte_115 ho.st (pk s (rStmts s n p b dp z).1)
    have hop2 : 0 < m2.op.length := by rw [ho.op]; exact hop
    by_cases e : pk s (rStmts s n p b dp z).1 = 125
    · right
      rw [e] at hb
      have hst : startStep m2 125 = shutStep m2 := by unfold startStep; rw [if_neg (by decide), if_neg (by decide), if_neg (by decide), if_pos ⟨rfl, hop2⟩]
      rw [hst] at hb
      obtain ⟨m3, hm3⟩ : ∃ m3, shutStep m2 = some m3 := by
        simp only [shutStep]
        split
        · exact ⟨_, rfl⟩
        · exact ⟨_, rfl⟩
      refine ⟨m2, m3, ho, hf, hm3, ?_⟩
      have en : nd s (rStmts s n p b dp z).1 125 = adv (rStmts s n p b dp z).1 := if_pos e
      rw [en]
      exact ho.sync.aadv (by omega) (by rw [e, hb, hm3])
    · left
      have e0 : pk s (rStmts s n p b dp z).1 = 0 := hpk.elim id (fun h => absurd h e)
      have en : nd s (rStmts s n p b dp z).1 125 = stk (rStmts s n p b dp z).1 := if_neg e
      rw [en]
      refine ho.sync.adead ?_ (fun _ => ?_)
      · rw [hb, e0]; unfold startStep; rw [if_neg (by decide), if_neg (by decide), if_neg (by decide), if_neg (by omega)]
      · unfold isDone; simp; intro _ h0; rw [h0] at hop2; exact absurd hop2 (by simp)

end Go.Proofs.Ytadhimimdmoodaa
