import Derived.Test.YtadhimimdmoodaaEe
namespace Go.Proofs.Ytadhimimdmoodaa
variable {s : ByteArray} {d : Nat × Bool} {m m' : Rd}

theorem top_snoc {o : List Bk} {b : Bk} (h : m.op = o ++ [b]) : top m = b ∧ m.op.take (m.op.length - 1) = o ∧ 0 < m.op.length := by
  unfold top
  rw [h]
  simp
theorem rValue_same (s : ByteArray) (d : Nat × Bool) (x : Ds) : (rValue s d x).1.kind = x.kind ∧ (rValue s d x).1.target = x.target ∧ (rValue s d x).1.parent = x.parent ∧ (rValue s d x).1.block = x.block := by
  unfold rValue
  split
  · exact ⟨rfl, rfl, rfl, rfl⟩
  split
  · exact ⟨rfl, rfl, rfl, rfl⟩
  · exact ⟨rfl, rfl, rfl, rfl⟩
theorem rSecond_same (s : ByteArray) (d : Nat × Bool) (x : Ds) (f : Int) : (rSecond s d x f).1.kind = x.kind ∧ (rSecond s d x f).1.target = x.target ∧ (rSecond s d x f).1.parent = x.parent ∧ (rSecond s d x f).1.block = x.block := by
  unfold rSecond
  split
  · exact ⟨rfl, rfl, rfl, rfl⟩
  · exact ⟨rfl, rfl, rfl, rfl⟩
theorem rCond_same (s : ByteArray) (d : Nat × Bool) (x : Ds) : (rCond s d x).1.kind = x.kind ∧ (rCond s d x).1.target = x.target ∧ (rCond s d x).1.parent = x.parent ∧ (rCond s d x).1.block = x.block := by
  unfold rCond
  split
  · exact ⟨rfl, rfl, rfl, rfl⟩
  · exact rSecond_same _ _ _ _

/-- A statement that has just begun. -/
def u0 (m : Rd) (k v : Int) : St := ⟨k, v, false, [0, 0, 0, 0], 0, 0, m.st.length + 1⟩
def begun0 (m : Rd) (k v x : Int) : Rd := { m with st := m.st ++ [u0 m k v], state := x }
theorem begin_yes {k v x : Int} (h : m.st.length ≠ 20) : beginStep m k v x = some (begun0 m k v x) := by unfold beginStep; rw [if_neg h]; rfl
theorem cur_begun (k v x : Int) : cur (begun0 m k v x) = u0 m k v := by unfold cur begun0; simp
theorem setCur_begun (k v x : Int) (u : St) : (setCur (begun0 m k v x) u).st = m.st ++ [u] := by unfold setCur begun0; simp
theorem start_full (hl : m.st.length = 20) {c : Int} (hc : c ≠ 125) : startStep m c = none := by
  unfold startStep beginStep
  split
  · first | rfl | rw [if_pos hl]
  split
  · split
    · first | rfl | rw [if_pos hl]
    · rfl
  split
  · first | rfl | rw [if_pos hl]
  · rw [if_neg (fun e => hc e.1)]

/-- A statement without blocks. -/
theorem simple_says {n : Nat} {z : Zt} {p b dp : Int} {x : Ds} {d1 : Nat × Bool} {u : St} (hc : CorL z.2 m.st) (h20 : ¬ 20 ≤ z.2.length) (hh : rHead s z.1 (newDs p b) dp = (x, d1)) (hk : x.kind = 0 ∨ x.kind = 1) (hp : x.parent = p ∧ x.block = b) (hcor : Cor x u) (hfin : u.fin = m.st.length + 1)
    (hr : Res s d1 (fun y => y.state = 115 ∧ y.op = m.op ∧ y.st = m.st ++ [u])) :
    Dead s (rStmtWith s (rStmts s n) p b dp z).1 ∨ ∃ m1, Out s z m (rStmtWith s (rStmts s n) p b dp z) m1 ∧ ∃ f, StmOk (rStmtWith s (rStmts s n) p b dp z).2 m1.st (Blk (rStmtWith s (rStmts s n) p b dp z).2 m1.st f) p b z.2.length (rStmtWith s (rStmts s n) p b dp z).2.length := by
  have hb0 : blocksOf x.kind = 0 := by
    rcases hk with e | e <;> rw [e] <;> decide
  have hl := hc.len
  rcases hr with hd | ⟨m1, h1, hst, hop, hS⟩
  · left
    have e : rStmtWith s (rStmts s n) p b dp z = (d1, z.2) := by unfold rStmtWith; rw [if_neg h20, hh, if_pos hd.st]
    rw [e]; exact hd
  · right
    have e : rStmtWith s (rStmts s n) p b dp z = (d1, z.2 ++ [x]) := by unfold rStmtWith; rw [if_neg h20, hh, if_neg (by rw [h1.ns]; decide)]; simp only; rw [hb0]; rfl
    rw [e]
    refine ⟨m1, ⟨h1, hst, hop, by rw [hS]; exact hc.snoc hcor, Pre.snoc _ _, by rw [hS]; exact Pre.snoc _ _, by simp⟩, 0, x, u, by simp, by rw [hS, hl]; simp, hp.1, hp.2, by rw [hfin, ← hl]; simp, by simp, .inl ⟨hk, by simp⟩⟩

/-- A statement with blocks. -/
theorem blocks_says {n : Nat} (H : Says s n) {z : Zt} {p b dp : Int} {x : Ds} {d1 : Nat × Bool} {u : St} (hz : z.1.2 = false) (hm : Mz z ≤ n) (hdp : (m.op.length : Int) = dp) (hc : CorL z.2 m.st) (h20 : ¬ 20 ≤ z.2.length) (hh : rHead s z.1 (newDs p b) dp = (x, d1)) (hk : x.kind = 2 ∨ x.kind = 3) (hp : x.parent = p ∧ x.block = b) (hcor : Cor x u)
    (hr : Res s (nd s d1 123) (fun y => y.state = 115 ∧ y.op = m.op ++ [⟨m.st.length, false⟩] ∧ y.st = m.st ++ [u])) :
    Dead s (rStmtWith s (rStmts s n) p b dp z).1 ∨ ∃ m1, Out s z m (rStmtWith s (rStmts s n) p b dp z) m1 ∧ ∃ f, StmOk (rStmtWith s (rStmts s n) p b dp z).2 m1.st (Blk (rStmtWith s (rStmts s n) p b dp z).2 m1.st f) p b z.2.length (rStmtWith s (rStmts s n) p b dp z).2.length := by
  have hl := hc.len
  have hMz : Mz z = 21 - z.2.length := by unfold Mz; rw [hz]; rfl
  by_cases hst1 : d1.2 = true
  · left
    have e : rStmtWith s (rStmts s n) p b dp z = (d1, z.2) := by unfold rStmtWith; rw [if_neg h20, hh, if_pos hst1]
    rw [e]
    have epk : pk s d1 = 0 := by unfold pk; rw [hst1]; rfl
    have en : nd s d1 123 = d1 := by unfold nd; rw [if_neg (by rw [epk]; decide), ← hst1]
    rw [en] at hr
    rcases hr with hd | ⟨m1, h1, _⟩
    · exact hd
    · exact absurd h1.ns (by rw [hst1]; decide)
  obtain ⟨z1, hz1⟩ : ∃ z1, z1 = rBlockWith s (rStmts s n) z.2.length 0 (dp + 1) (d1, z.2 ++ [x]) := ⟨_, rfl⟩
  have e3 : x.kind = 3 → rStmtWith s (rStmts s n) p b dp z = z1 := by
    intro e; unfold rStmtWith; rw [if_neg h20, hh, if_neg hst1]; simp only; rw [e, hz1]; rfl
  have e2 : x.kind = 2 → rStmtWith s (rStmts s n) p b dp z = rBlockWith s (rStmts s n) z.2.length 1 (dp + 1) z1 := by
    intro e; unfold rStmtWith; rw [if_neg h20, hh, if_neg hst1]; simp only; rw [e, hz1]; rfl
  have deadAll : Dead s z1.1 → Dead s (rStmtWith s (rStmts s n) p b dp z).1 := by
    intro hd
    rcases hk with e | e
    · rw [e2 e, hd.dBlock]; exact hd
    · rw [e3 e]; exact hd
  rcases hr with hd | ⟨m2, h2, s2, o2, t2⟩
  · left
    refine deadAll ?_
    rw [hz1]
    unfold rBlockWith
    rw [Dead.dStmts (z := (nd s d1 123, z.2 ++ [x])) hd]
    show Dead s (nd s (nd s d1 123) 125)
    rw [hd.dnd (by decide)]; exact hd
  have ht2 := top_snoc o2
  have hc2 : CorL (z.2 ++ [x]) m2.st := by rw [t2]; exact hc.snoc hcor
  have hM2 : Mz (nd s d1 123, z.2 ++ [x]) < n := by
    unfold Mz; rw [h2.ns]; simp; omega
  have hdp2 : (m2.op.length : Int) = dp + 1 := by rw [o2]; simp; omega
  have hz1' : z1 = (nd s (rStmts s n z.2.length 0 (dp + 1) (nd s d1 123, z.2 ++ [x])).1 125, (rStmts s n z.2.length 0 (dp + 1) (nd s d1 123, z.2 ++ [x])).2) := hz1
  rcases block_in H (z := (nd s d1 123, z.2 ++ [x])) z.2.length 0 (dp + 1) h2 s2 ht2.2.2 hdp2 hc2 hM2 with hd | ⟨m3, m4, ho3, ⟨f3, hf3⟩, hsh, h4⟩
  · left; refine deadAll ?_; rw [hz1']; exact hd
  obtain ⟨y, hy⟩ : ∃ y, y = rStmts s n z.2.length 0 (dp + 1) (nd s d1 123, z.2 ++ [x]) := ⟨_, rfl⟩
  rw [← hy] at ho3 hf3 h4 hz1'
  have hlen1 : z.2.length + 1 ≤ y.2.length := by have := ho3.len; simp at this; omega
  have hu3 : m3.st[z.2.length]? = some u := by
    rw [ho3.preS _ (by rw [t2]; simp; omega), t2, hl]; simp
  have hx3 : y.2[z.2.length]? = some x := by
    rw [ho3.preF _ (by simp)]; simp
  have hS3 : m3.st.length = y.2.length := ho3.cor.len.symm
  have o3 : m3.op = m.op ++ [⟨m.st.length, false⟩] := ho3.op.trans o2
  have ht3 := top_snoc o3
  have hg3 : m3.st.getD m.st.length noSt = u := by rw [← hl, List.getD_eq_getElem?_getD, hu3]; rfl
  have preS0 : ∀ i, i < m.st.length → m3.st[i]? = m.st[i]? := fun i hi => by
    rw [ho3.preS i (by rw [t2]; simp; omega), t2, List.getElem?_append_left hi]
  have preF0 : ∀ i, i < z.2.length → y.2[i]? = z.2[i]? := fun i hi => by
    rw [ho3.preF i (by simp; omega)]; exact List.getElem?_append_left hi
  simp only [shutStep] at hsh
  rw [ht3.1, ht3.2.1] at hsh
  simp only at hsh
  rw [hg3] at hsh
  rcases hk with hk | hk
  · -- two blocks
    have hku : u.kind = 63 := by rw [hcor.1, hk]; rfl
    rw [if_pos ⟨hku, by first | rfl | trivial⟩] at hsh
    simp only [Option.some.injEq] at hsh
    rw [e2 hk, hz1']
    have hb4 := byte_125 (m := m4) (by rw [← hsh]) (pk s (nd s y.1 125))
    have o4 : m4.op = m.op ++ [⟨m.st.length, false⟩] := by rw [← hsh]; exact o3
    have ht4 := top_snoc o4
    have hS4 : m4.st = m3.st.set m.st.length { u with fin := m3.st.length, mid := m3.st.length } := by rw [← hsh]
    unfold rBlockWith
    simp only
    rcases h4.aneed (c := 123) (m' := { m4 with op := m4.op.set (m4.op.length - 1) { top m4 with second := true }, state := 115 }) (by decide) (fun e => by rw [e, if_pos rfl] at hb4; exact hb4) (fun e => by rw [if_neg e] at hb4; exact hb4) (notDone (by rw [← hsh]; show (125 : Int) ≠ 115; decide)) with hd | ⟨m5, h5, e5⟩
    · left
      rw [Dead.dStmts (z := (nd s (nd s y.1 125) 123, y.2)) hd]
      show Dead s (nd s (nd s (nd s y.1 125) 123) 125)
      rw [hd.dnd (by decide)]; exact hd
    have o5 : m5.op = m.op ++ [⟨m.st.length, true⟩] := by rw [e5]; show m4.op.set _ _ = _; rw [ht4.1, o4]; simp
    have t5 : m5.st = m4.st := by rw [e5]
    have ht5 := top_snoc o5
    have hc5 : CorL y.2 m5.st := by rw [t5, hS4, ← hl]; exact ho3.cor.set hu3 (fun w hw => hw)
    have hM5 : Mz (nd s (nd s y.1 125) 123, y.2) < n := by
      unfold Mz; rw [h5.ns]; simp; omega
    have hdp5 : (m5.op.length : Int) = dp + 1 := by rw [o5]; simp; omega
    rcases block_in H (z := (nd s (nd s y.1 125) 123, y.2)) z.2.length 1 (dp + 1) h5 (by rw [e5]) ht5.2.2 hdp5 hc5 hM5 with hd | ⟨m6, m7, ho6, ⟨f6, hf6⟩, hsh7, h7⟩
    · left; exact hd
    right
    obtain ⟨y2, hy2⟩ : ∃ y2, y2 = rStmts s n z.2.length 1 (dp + 1) (nd s (nd s y.1 125) 123, y.2) := ⟨_, rfl⟩
    rw [← hy2] at ho6 hf6 h7 ⊢
    have hlen2 : y.2.length ≤ y2.2.length := ho6.len
    have o6 : m6.op = m.op ++ [⟨m.st.length, true⟩] := ho6.op.trans o5
    have ht6 := top_snoc o6
    have hl5 : m5.st.length = y.2.length := hc5.len.symm
    have hu6 : m6.st[m.st.length]? = some { u with fin := m3.st.length, mid := m3.st.length } := by
      rw [ho6.preS _ (by rw [hl5]; omega), t5, hS4, List.getElem?_set, if_pos rfl, if_pos (by rw [hS3]; omega)]
    have hg6 : m6.st.getD m.st.length noSt = { u with fin := m3.st.length, mid := m3.st.length } := by rw [List.getD_eq_getElem?_getD, hu6]; rfl
    simp only [shutStep] at hsh7
    rw [ht6.1, ht6.2.1] at hsh7
    simp only at hsh7
    rw [hg6, if_neg (by simp)] at hsh7
    simp only [Option.some.injEq] at hsh7
    have hS7 : m7.st = m6.st.set m.st.length { u with fin := m6.st.length, mid := m3.st.length } := by rw [← hsh7]
    have hS6 : m6.st.length = y2.2.length := ho6.cor.len.symm
    have far7 : ∀ i, i ≠ m.st.length → m7.st[i]? = m6.st[i]? := fun i hi => by rw [hS7, List.getElem?_set, if_neg (fun e => hi e.symm)]
    have far4 : ∀ i, i ≠ m.st.length → m4.st[i]? = m3.st[i]? := fun i hi => by rw [hS4, List.getElem?_set, if_neg (fun e => hi e.symm)]
    have pre6 : ∀ i, i < y.2.length → m6.st[i]? = m4.st[i]? := fun i hi => by rw [ho6.preS i (by rw [hl5]; exact hi), t5]
    refine ⟨m7, ⟨h7, by rw [← hsh7]; exact ho6.st, by rw [← hsh7], by rw [hS7]; exact ho6.cor.set hu6 (fun w hw => hw), fun i hi => (ho6.preF i (by show i < y.2.length; omega)).trans (preF0 i hi), fun i hi => by
      rw [far7 i (by omega), pre6 i (by omega), far4 i (by omega), preS0 i hi], by show z.2.length ≤ y2.2.length; omega⟩, f3 + f6, x, { u with fin := m6.st.length, mid := m3.st.length }, ?_, ?_, hp.1, hp.2, by show m6.st.length = y2.2.length; exact hS6, by show z.2.length < y2.2.length; omega, .inr (.inr ⟨hk, by show z.2.length + 1 ≤ m3.st.length; omega, by show m3.st.length ≤ y2.2.length; omega, ?_, ?_⟩)⟩
    · show y2.2[z.2.length]? = some x
      rw [ho6.preF _ (by show z.2.length < y.2.length; omega)]; exact hx3
    · rw [hS7, hl, List.getElem?_set, if_pos rfl, if_pos (by omega)]
    · show Blk y2.2 m7.st (f3 + f6) z.2.length 0 (z.2.length + 1) m3.st.length
      rw [hS3]
      have hb : Blk y.2 m3.st f3 z.2.length 0 (z.2.length + 1) y.2.length := by
        have h := hf3
        simp at h
        exact h
      exact (hb.keep (fun i h1 h2 => ho6.preF i h2) (fun i h1 h2 => by rw [far7 i (by omega), pre6 i h2, far4 i (by omega)])).more f6
    · show Blk y2.2 m7.st (f3 + f6) z.2.length 1 m3.st.length y2.2.length
      rw [hS3, Nat.add_comm]
      exact (hf6.keep (fun i _ _ => rfl) (fun i h1 h2 => far7 i (by have h1' : y.2.length ≤ i := h1; omega))).more f3
  · -- one block
    have hku : u.kind = 64 := by rw [hcor.1, hk]; rfl
    rw [if_neg (by rw [hku]; simp)] at hsh
    simp only [Option.some.injEq] at hsh
    right
    rw [e3 hk, hz1']
    have hS4 : m4.st = m3.st.set m.st.length { u with fin := m3.st.length } := by rw [← hsh]
    have far4 : ∀ i, i ≠ m.st.length → m4.st[i]? = m3.st[i]? := fun i hi => by rw [hS4, List.getElem?_set, if_neg (fun e => hi e.symm)]
    refine ⟨m4, ⟨h4, by rw [← hsh]; exact ho3.st, by rw [← hsh], by rw [hS4, ← hl]; exact ho3.cor.set hu3 (fun w hw => hw), preF0, fun i hi => by rw [far4 i (by omega), preS0 i hi], by show z.2.length ≤ y.2.length; omega⟩, f3, x, { u with fin := m3.st.length }, hx3, ?_, hp.1, hp.2, by show m3.st.length = y.2.length; exact hS3, by show z.2.length < y.2.length; omega, .inr (.inl ⟨hk, ?_⟩)⟩
    · rw [hS4, hl, List.getElem?_set, if_pos rfl, if_pos (by omega)]
    · show Blk y.2 m4.st f3 z.2.length 0 (z.2.length + 1) y.2.length
      have hb : Blk y.2 m3.st f3 z.2.length 0 (z.2.length + 1) y.2.length := by
        have h := hf3
        simp at h
        exact h
      exact hb.keep (fun i _ _ => rfl) (fun i h1 h2 => far4 i (by omega))

end Go.Proofs.Ytadhimimdmoodaa
