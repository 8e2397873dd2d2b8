import Derived.Test.YtffajooegiempaaJ4
namespace Go.Proofs.Ytffajooegiempaa
variable {s : ByteArray} {d : Nat × Bool} {m m' : Rd}

theorem top_snoc {o : List Bk} {b : Bk} (h : m.op = o ++ [b]) : top m = b ∧ m.op.take (m.op.length - 1) = o ∧ 0 < m.op.length := by
  unfold top
  rw [h]
  simp
theorem rValue_same (s : ByteArray) (d : Nat × Bool) (x : Ds) : (rValue s d x).1.kind = x.kind ∧ (rValue s d x).1.target = x.target ∧ (rValue s d x).1.parent = x.parent ∧ (rValue s d x).1.block = x.block := by
  unfold rValue
  split
  · exact ⟨rfl, rfl, rfl, rfl⟩
  split
  · exact ⟨rfl, rfl, rfl, rfl⟩
  · exact ⟨rfl, rfl, rfl, rfl⟩
theorem rSecond_same (s : ByteArray) (d : Nat × Bool) (x : Ds) (f : Int) : (rSecond s d x f).1.kind = x.kind ∧ (rSecond s d x f).1.target = x.target ∧ (rSecond s d x f).1.parent = x.parent ∧ (rSecond s d x f).1.block = x.block := by
  unfold rSecond
  split
  · exact ⟨rfl, rfl, rfl, rfl⟩
  · exact ⟨rfl, rfl, rfl, rfl⟩
theorem rCond_same (s : ByteArray) (d : Nat × Bool) (x : Ds) : (rCond s d x).1.kind = x.kind ∧ (rCond s d x).1.target = x.target ∧ (rCond s d x).1.parent = x.parent ∧ (rCond s d x).1.block = x.block := by
  unfold rCond
  split
  · exact ⟨rfl, rfl, rfl, rfl⟩
  · exact rSecond_same _ _ _ _

/-- A statement that has just begun. -/
def u0 (m : Rd) (k v : Int) : St := ⟨k, v, false, [0, 0, 0, 0], 0, 0, m.st.length + 1⟩
def begun0 (m : Rd) (k v x : Int) : Rd := { m with st := m.st ++ [u0 m k v], state := x }
theorem begin_yes {k v x : Int} (h : m.st.length ≠ 20) : beginStep m k v x = some (begun0 m k v x) := by unfold beginStep; rw [if_neg h]; rfl
theorem cur_begun (k v x : Int) : cur (begun0 m k v x) = u0 m k v := by unfold cur begun0; simp
theorem setCur_begun (k v x : Int) (u : St) : (setCur (begun0 m k v x) u).st = m.st ++ [u] := by unfold setCur begun0; simp
theorem start_full (hl : m.st.length = 20) {c : Int} (hc : c ≠ 125) : startStep m c = none := by
  unfold startStep beginStep
  split
  · first | rfl | rw [if_pos hl]
  split
  · split
    · first | rfl | rw [if_pos hl]
    · rfl
  split
  · first | rfl | rw [if_pos hl]
  · rw [if_neg (fun e => hc e.1)]

/-- A statement without blocks. -/
theorem simple_says {n : Nat} {z : Zt} {p b dp : Int} {x : Ds} {d1 : Nat × Bool} {u : St} (hc : CorL z.2 m.st) (h20 : ¬ 20 ≤ z.2.length) (hh : rHead s z.1 (newDs p b) dp = (x, d1)) (hk : x.kind = 0 ∨ x.kind = 1) (hp : x.parent = p ∧ x.block = b) (hcor : Cor x u) (hfin : u.fin = m.st.length + 1)
    (hr : Res s d1 (fun y => y.state = 115 ∧ y.op = m.op ∧ y.st = m.st ++ [u])) :
    Dead s (rStmtWith s (rStmts s n) p b dp z).1 ∨ ∃ m1, Out s z m (rStmtWith s (rStmts s n) p b dp z) m1 ∧ ∃ f, StmOk (rStmtWith s (rStmts s n) p b dp z).2 m1.st (Blk (rStmtWith s (rStmts s n) p b dp z).2 m1.st f) p b z.2.length (rStmtWith s (rStmts s n) p b dp z).2.length := by
  have hb0 : blocksOf x.kind = 0 := by
    rcases hk with e | e <;> rw [e] <;> decide
  have hl := hc.len
  rcases hr with hd | ⟨m1, h1, hst, hop, hS⟩
  · left
    have e : rStmtWith s (rStmts s n) p b dp z = (d1, z.2) := by unfold rStmtWith; rw [if_neg h20, hh, if_pos hd.st]
    rw [e]; exact hd
  · right
    have e : rStmtWith s (rStmts s n) p b dp z = (d1, z.2 ++ [x]) := by unfold rStmtWith; rw [if_neg h20, hh, if_neg (by rw [h1.ns]; decide)]; simp only; rw [hb0]; rfl
    rw [e]
    refine ⟨m1, ⟨h1, hst, hop, by rw [hS]; exact hc.snoc hcor, Pre.snoc _ _, by rw [hS]; exact Pre.snoc _ _, by simp⟩, 0, x, u, by simp, by rw [hS, hl]; simp, hp.1, hp.2, by rw [hfin, ← hl]; simp, by simp, .inl ⟨hk, by simp⟩⟩

/-- A statement with blocks. -/
theorem blocks_says {n : Nat} (H : Says s n) {z : Zt} {p b dp : Int} {x : Ds} {d1 : Nat × Bool} {u : St} (hz : z.1.2 = false) (hm : Mz z ≤ n) (hdp : (m.op.length : Int) = dp) (hc : CorL z.2 m.st) (h20 : ¬ 20 ≤ z.2.length) (hh : rHead s z.1 (newDs p b) dp = (x, d1)) (hk : x.kind = 2 ∨ x.kind = 3) (hp : x.parent = p ∧ x.block = b) (hcor : Cor x u)
    (hr : Res s (nd s d1 123) (fun y => y.state = 115 ∧ y.op = m.op ++ [⟨m.st.length, false⟩] ∧ y.st = m.st ++ [u])) :
    Dead s (rStmtWith s (rStmts s n) p b dp z).1 ∨ ∃ m1, Out s z m (rStmtWith s (rStmts s n) p b dp z) m1 ∧ ∃ f, StmOk (rStmtWith s (rStmts s n) p b dp z).2 m1.st (Blk (rStmtWith s (rStmts s n) p b dp z).2 m1.st f) p b z.2.length (rStmtWith s (rStmts s n) p b dp z).2.length := by
  have hl := hc.len
  have hMz : Mz z = 21 - z.2.length := by unfold Mz; rw [hz]; rfl
  by_cases hst1 : d1.2 = true
  · left
    have e : rStmtWith s (rStmts s n) p b dp z = (d1, z.2) := by unfold rStmtWith; rw [if_neg h20, hh, if_pos hst1]
    rw [e]
    have epk : pk s d1 = 0 := by unfold pk; rw [hst1]; rfl
    have en : nd s d1 123 = d1 := by unfold nd; rw [if_neg (by rw [epk]; decide), ← hst1]
    rw [en] at hr
    rcases hr with hd | ⟨m1, h1, _⟩
    · exact hd
    · exact absurd h1.ns (by rw [hst1]; decide)
  obtain ⟨z1, hz1⟩ : ∃ z1, z1 = rBlockWith s (rStmts s n) z.2.length 0 (dp + 1) (d1, z.2 ++ [x]) := ⟨_, rfl⟩
  have e3 : x.kind = 3 → rStmtWith s (rStmts s n) p b dp z = z1 := by
    intro e; unfold rStmtWith; rw [if_neg h20, hh, if_neg hst1]; simp only; rw [e, hz1]; rfl
  have e2 : x.kind = 2 → rStmtWith s (rStmts s n) p b dp z = rBlockWith s (rStmts s n) z.2.length 1 (dp + 1) z1 := by
    intro e; unfold rStmtWith; rw [if_neg h20, hh, if_neg hst1]; simp only; rw [e, hz1]; rfl
  have deadAll : Dead s z1.1 → Dead s (rStmtWith s (rStmts s n) p b dp z).1 := by
    intro hd
    rcases hk with e | e
    · rw [e2 e, hd.dBlock]; exact hd
    · rw [e3 e]; exact hd
  rcases hr with hd | ⟨m2, h2, s2, o2, t2⟩
  · left
    refine deadAll ?_
    rw [hz1]
    unfold rBlockWith
    rw [Dead.dStmts (z := (nd s d1 123, z.2 ++ [x])) hd]
    show Dead s (nd s (nd s d1 123) 125)
    rw [hd.dnd (by decide)]; exact hd
  have ht2 := top_snoc o2
  have hc2 : CorL (z.2 ++ [x]) m2.st := by rw [t2]; exact hc.snoc hcor
  have hM2 : Mz (nd s d1 123, z.2 ++ [x]) < n := by
    unfold Mz; rw [h2.ns]; simp; omega
  have hdp2 : (m2.op.length : Int) = dp + 1 := by rw [o2]; simp; omega
  have hz1' : z1 = (nd s (rStmts s n z.2.length 0 (dp + 1) (nd s d1 123, z.2 ++ [x])).1 125, (rStmts s n z.2.length 0 (dp + 1) (nd s d1 123, z.2 ++ [x])).2) := hz1
  rcases block_in H (z := (nd s d1 123, z.2 ++ [x])) z.2.length 0 (dp + 1) h2 s2 ht2.2.2 hdp2 hc2 hM2 with hd | ⟨m3, m4, ho3, ⟨f3, hf3⟩, hsh, h4⟩
  · left; refine deadAll ?_; rw [hz1']; exact hd
  obtain ⟨y, hy⟩ : ∃ y, y = rStmts s n z.2.length 0 (dp + 1) (nd s d1 123, z.2 ++ [x]) := ⟨_, rfl⟩
  rw [← hy] at ho3 hf3 h4 hz1'
  have hlen1 : z.2.length + 1 ≤ y.2.length := by have := ho3.len; simp at this; omega
  have hu3 : m3.st[z.2.length]? = some u := by
    rw [ho3.preS _ (by rw [t2]; simp; omega), t2, hl]; simp
  have hx3 : y.2[z.2.length]? = some x := by
    rw [ho3.preF _ (by simp)]; simp
  have hS3 : m3.st.length = y.2.length := ho3.cor.len.symm
  have o3 : m3.op = m.op ++ [⟨m.st.length, false⟩] := ho3.op.trans o2
  have ht3 := top_snoc o3
  have hg3 : m3.st.getD m.st.length noSt = u := by rw [← hl, List.getD_eq_getElem?_getD, hu3]; rfl
  have preS0 : ∀ i, i < m.st.length → m3.st[i]? = m.st[i]? := fun i hi => by
    rw [ho3.preS i (by rw [t2]; simp; omega), t2, List.getElem?_append_left hi]
  have preF0 : ∀ i, i < z.2.length → y.2[i]? = z.2[i]? := fun i hi => by
    rw [ho3.preF i (by simp; omega)]; exact List.getElem?_append_left hi
  simp only [shutStep] at hsh
  rw [ht3.1, ht3.2.1] at hsh
  simp only at hsh
  rw [hg3] at hsh
  rcases hk with hk | hk
  · -- two blocks
    have hku : u.kind = 63 := by rw [hcor.1, hk]; rfl
    rw [if_pos ⟨hku, by first | rfl | trivial⟩] at hsh
    simp only [Option.some.injEq] at hsh
    rw [e2 hk, hz1']
    have hb4 := byte_125 (m := m4) (by rw [← hsh]) (pk s (nd s y.1 125))
    have o4 : m4.op = m.op ++ [⟨m.st.length, false⟩] := by rw [← hsh]; exact o3
    have ht4 := top_snoc o4
    have hS4 : m4.st = m3.st.set m.st.length { u with fin := m3.st.length, mid := m3.st.length } := by rw [← hsh]
    unfold rBlockWith
    simp only
    rcases h4.aneed (c := 123) (m' := { m4 with op := m4.op.set (m4.op.length - 1) { top m4 with second := true }, state := 115 }) (by decide) (fun e => by rw [e, if_pos rfl] at hb4; exact hb4) (fun e => by rw [if_neg e] at hb4; exact hb4) (notDone (by rw [← hsh]; show (125 : Int) ≠ 115; decide)) with hd | ⟨m5, h5, e5⟩
    · left
      rw [Dead.dStmts (z := (nd s (nd s y.1 125) 123, y.2)) hd]
      show Dead s (nd s (nd s (nd s y.1 125) 123) 125)
      rw [hd.dnd (by decide)]; exact hd
    have o5 : m5.op = m.op ++ [⟨m.st.length, true⟩] := by rw [e5]; show m4.op.set _ _ = _; rw [ht4.1, o4]; simp
    have t5 : m5.st = m4.st := by rw [e5]
    have ht5 := top_snoc o5
    have hc5 : CorL y.2 m5.st := by rw [t5, hS4, ← hl]; exact ho3.cor.set hu3 (fun w hw => hw)
    have hM5 : Mz (nd s (nd s y.1 125) 123, y.2) < n := by
      unfold Mz; rw [h5.ns]; simp; omega
    have hdp5 : (m5.op.length : Int) = dp + 1 := by rw [o5]; simp; omega
    rcases block_in H (z := (nd s (nd s y.1 125) 123, y.2)) z.2.length 1 (dp + 1) h5 (by rw [e5]) ht5.2.2 hdp5 hc5 hM5 with hd | ⟨m6, m7, ho6, ⟨f6, hf6⟩, hsh7, h7⟩
    · left; exact hd
    right
    obtain ⟨y2, hy2⟩ : ∃ y2, y2 = rStmts s n z.2.length 1 (dp + 1) (nd s (nd s y.1 125) 123, y.2) := ⟨_, rfl⟩
    rw [← hy2] at ho6 hf6 h7 ⊢
    have hlen2 : y.2.length ≤ y2.2.length := ho6.len
    have o6 : m6.op = m.op ++ [⟨m.st.length, true⟩] := ho6.op.trans o5
    have ht6 := top_snoc o6
    have hl5 : m5.st.length = y.2.length := hc5.len.symm
    have hu6 : m6.st[m.st.length]? = some { u with fin := m3.st.length, mid := m3.st.length } := by
      rw [ho6.preS _ (by rw [hl5]; omega), t5, hS4, List.getElem?_set, if_pos rfl, if_pos (by rw [hS3]; omega)]
    have hg6 : m6.st.getD m.st.length noSt = { u with fin := m3.st.length, mid := m3.st.length } := by rw [List.getD_eq_getElem?_getD, hu6]; rfl
    simp only [shutStep] at hsh7
    rw [ht6.1, ht6.2.1] at hsh7
    simp only at hsh7
    rw [hg6, if_neg (by simp)] at hsh7
    simp only [Option.some.injEq] at hsh7
    have hS7 : m7.st = m6.st.set m.st.length { u with fin := m6.st.length, mid := m3.st.length } := by rw [← hsh7]
    have hS6 : m6.st.length = y2.2.length := ho6.cor.len.symm
    have far7 : ∀ i, i ≠ m.st.length → m7.st[i]? = m6.st[i]? := fun i hi => by rw [hS7, List.getElem?_set, if_neg (fun e => hi e.symm)]
    have far4 : ∀ i, i ≠ m.st.length → m4.st[i]? = m3.st[i]? := fun i hi => by rw [hS4, List.getElem?_set, if_neg (fun e => hi e.symm)]
    have pre6 : ∀ i, i < y.2.length → m6.st[i]? = m4.st[i]? := fun i hi => by rw [ho6.preS i (by rw [hl5]; exact hi), t5]
    refine ⟨m7, ⟨h7, by rw [← hsh7]; exact ho6.st, by rw [← hsh7], by rw [hS7]; exact ho6.cor.set hu6 (fun w hw => hw), fun i hi => (ho6.preF i (by show i < y.2.length; omega)).trans (preF0 i hi), fun i hi => by
      rw [far7 i (by omega), pre6 i (by omega), far4 i (by omega), preS0 i hi], by show z.2.length ≤ y2.2.length; omega⟩, f3 + f6, x, { u with fin := m6.st.length, mid := m3.st.length }, ?_, ?_, hp.1, hp.2, by show m6.st.length = y2.2.length; exact hS6, by show z.2.length < y2.2.length; omega, .inr (.inr ⟨hk, by show z.2.length + 1 ≤ m3.st.length; omega, by show m3.st.length ≤ y2.2.length; omega, ?_, ?_⟩)⟩
    · show y2.2[z.2.length]? = some x
      rw [ho6.preF _ (by show z.2.length < y.2.length; omega)]; exact hx3
    · rw [hS7, hl, List.getElem?_set, if_pos rfl, if_pos (by omega)]
    · show Blk y2.2 m7.st (f3 + f6) z.2.length 0 (z.2.length + 1) m3.st.length
      rw [hS3]
      have hb : Blk y.2 m3.st f3 z.2.length 0 (z.2.length + 1) y.2.length := by
        have h := hf3
        simp at h
        exact h
      exact (hb.keep (fun i h1 h2 => ho6.preF i h2) (fun i h1 h2 => by rw [far7 i (by omega), pre6 i h2, far4 i (by omega)])).more f6
    · show Blk y2.2 m7.st (f3 + f6) z.2.length 1 m3.st.length y2.2.length
      rw [hS3, Nat.add_comm]
      exact (hf6.keep (fun i _ _ => rfl) (fun i h1 h2 => far7 i (by have h1' : y.2.length ≤ i := h1; omega))).more f3
  · -- one block
    have hku : u.kind = 64 := by rw [hcor.1, hk]; rfl
    rw [if_neg (by rw [hku]; simp)] at hsh
    simp only [Option.some.injEq] at hsh
    right
    rw [e3 hk, hz1']
    have hS4 : m4.st = m3.st.set m.st.length { u with fin := m3.st.length } := by rw [← hsh]
    have far4 : ∀ i, i ≠ m.st.length → m4.st[i]? = m3.st[i]? := fun i hi => by rw [hS4, List.getElem?_set, if_neg (fun e => hi e.symm)]
    refine ⟨m4, ⟨h4, by rw [← hsh]; exact ho3.st, by rw [← hsh], by rw [hS4, ← hl]; exact ho3.cor.set hu3 (fun w hw => hw), preF0, fun i hi => by rw [far4 i (by omega), preS0 i hi], by show z.2.length ≤ y.2.length; omega⟩, f3, x, { u with fin := m3.st.length }, hx3, ?_, hp.1, hp.2, by show m3.st.length = y.2.length; exact hS3, by show z.2.length < y.2.length; omega, .inr (.inl ⟨hk, ?_⟩)⟩
    · rw [hS4, hl, List.getElem?_set, if_pos rfl, if_pos (by omega)]
    · show Blk y.2 m4.st f3 z.2.length 0 (z.2.length + 1) y.2.length
      have hb : Blk y.2 m3.st f3 z.2.length 0 (z.2.length + 1) y.2.length := by
        have h := hf3
        simp at h
        exact h
      exact hb.keep (fun i _ _ => rfl) (fun i h1 h2 => far4 i (by omega))

end Go.Proofs.Ytffajooegiempaa

namespace Go.Proofs.Ytffajooegiempaa
variable {s : ByteArray} {d : Nat × Bool} {m m' : Rd}

theorem rHead_val {x x1 : Ds} {d1 : Nat × Bool} {dp : Int} {y : Ds × (Nat × Bool)} (ek : rKind s d x dp = (x1, d1)) (h0 : x1.kind = 0) (hy : y = rValue s (nd s d1 61) x1) (hb : blocksOf y.1.kind = 0) : rHead s d x dp = (y.1, nd s y.2 59) := by
  unfold rHead
  rw [ek]
  have e : (if x1.kind = 0 then rValue s (nd s d1 61) x1 else rCond s d1 x1) = y := by rw [if_pos h0, hy]
  show (if blocksOf (if x1.kind = 0 then rValue s (nd s d1 61) x1 else rCond s d1 x1).1.kind = 0 then ((if x1.kind = 0 then rValue s (nd s d1 61) x1 else rCond s d1 x1).1, nd s (if x1.kind = 0 then rValue s (nd s d1 61) x1 else rCond s d1 x1).2 59) else (if x1.kind = 0 then rValue s (nd s d1 61) x1 else rCond s d1 x1)) = _
  rw [e, if_pos hb]
theorem rHead_cond {x x1 : Ds} {d1 : Nat × Bool} {dp : Int} {y : Ds × (Nat × Bool)} (ek : rKind s d x dp = (x1, d1)) (h0 : x1.kind ≠ 0) (hy : y = rCond s d1 x1) : rHead s d x dp = if blocksOf y.1.kind = 0 then (y.1, nd s y.2 59) else y := by
  unfold rHead
  rw [ek]
  have e : (if x1.kind = 0 then rValue s (nd s d1 61) x1 else rCond s d1 x1) = y := by rw [if_neg h0, hy]
  show (if blocksOf (if x1.kind = 0 then rValue s (nd s d1 61) x1 else rCond s d1 x1).1.kind = 0 then ((if x1.kind = 0 then rValue s (nd s d1 61) x1 else rCond s d1 x1).1, nd s (if x1.kind = 0 then rValue s (nd s d1 61) x1 else rCond s d1 x1).2 59) else (if x1.kind = 0 then rValue s (nd s d1 61) x1 else rCond s d1 x1)) = _
  rw [e]

theorem stmt_says {n : Nat} (H : Says s n) {z : Zt} (p b dp : Int) (h : Sync s z.1 m) (hs : m.state = 115) (hdp : (m.op.length : Int) = dp) (hc : CorL z.2 m.st) (hm : Mz z ≤ n) (h0 : pk s z.1 ≠ 0) (h125 : pk s z.1 ≠ 125) :
    Dead s (rStmtWith s (rStmts s n) p b dp z).1 ∨ ∃ m1, Out s z m (rStmtWith s (rStmts s n) p b dp z) m1 ∧ ∃ f, StmOk (rStmtWith s (rStmts s n) p b dp z).2 m1.st (Blk (rStmtWith s (rStmts s n) p b dp z).2 m1.st f) p b z.2.length (rStmtWith s (rStmts s n) p b dp z).2.length := by
  have hl := hc.len
  have hlen := h.aok.len
  have hb := byte_115 hs (pk s z.1)
  have hlt := (pk_lt rfl h0).1
  have dead0 : byteStep m (pk s z.1) = none → Dead s (stk z.1) := fun hn => h.adead hn (fun e => absurd hlt (by omega))
  by_cases h20 : 20 ≤ z.2.length
  · left
    have e : rStmtWith s (rStmts s n) p b dp z = (stk z.1, z.2) := if_pos h20
    rw [e]
    exact dead0 (by rw [hb]; exact start_full (by omega) h125)
  have hne : m.st.length ≠ 20 := by omega
  by_cases h33 : pk s z.1 = 33
  · have hst : startStep m (pk s z.1) = some (begun0 m 33 0 99) := by unfold startStep; rw [h33, if_neg (by decide), if_neg (by decide), if_pos rfl, begin_yes hne]
    rw [hst] at hb
    have h1 := h.aadv h0 hb
    have hcond := h1.cond rfl (.inl (by rw [cur_begun]; rfl)) { newDs p b with kind := 1 } (by rw [cur_begun]; exact ⟨rfl, rfl, rfl, rfl⟩) (by rw [cur_begun]; rfl)
    have hsame := rCond_same s (adv z.1) { newDs p b with kind := 1 }
    have hbh : behindOf (begun0 m 33 0 99) = 59 := by unfold behindOf; rw [cur_begun]; rfl
    have hopA : opAft (begun0 m 33 0 99) = m.op := by unfold opAft; rw [cur_begun]; rfl
    rw [hbh] at hcond
    obtain ⟨y, hy⟩ : ∃ y, y = rCond s (adv z.1) { newDs p b with kind := 1 } := ⟨_, rfl⟩
    rw [← hy] at hcond hsame
    have hh : rHead s z.1 (newDs p b) dp = (y.1, nd s y.2 59) := by
      have ek : rKind s z.1 (newDs p b) dp = ({ newDs p b with kind := 1 }, adv z.1) := if_pos h33
      exact (rHead_cond ek (by show (1 : Int) ≠ 0; decide) hy).trans (if_pos (by rw [hsame.1]; show blocksOf 1 = 0; decide))
    refine simple_says (u := { u0 m 33 0 with star := y.1.any, sg := y.1.sg, num := y.1.num }) hc h20 hh (.inr hsame.1) ⟨hsame.2.2.1, hsame.2.2.2⟩ ⟨by rw [hsame.1]; rfl, by rw [hsame.2.1]; rfl, rfl, rfl, rfl⟩ rfl ?_
    refine hcond.mono ?_
    rintro w - ⟨a, b', c⟩
    rw [cur_begun, setCur_begun] at b'
    exact ⟨a, c.trans hopA, b'⟩
  by_cases hq : pk s z.1 = 63 ∨ pk s z.1 = 64
  · obtain ⟨kk, hkk⟩ : ∃ kk : Int, (kk = 2 ∧ pk s z.1 = 63) ∨ (kk = 3 ∧ pk s z.1 = 64) := by
      rcases hq with e | e
      · exact ⟨2, .inl ⟨rfl, e⟩⟩
      · exact ⟨3, .inr ⟨rfl, e⟩⟩
    have ek : rKind s z.1 (newDs p b) dp = ({ newDs p b with kind := kk }, if 4 ≤ dp then stk z.1 else adv z.1) := by
      unfold rKind; rw [if_neg h33]
      rcases hkk with ⟨rfl, e⟩ | ⟨rfl, e⟩
      · rw [if_pos e]
      · rw [if_neg (by omega), if_pos e]
    have hkb : blocksOf kk ≠ 0 ∧ kk ≠ 0 := by rcases hkk with ⟨rfl, _⟩ | ⟨rfl, _⟩ <;> decide
    by_cases h4 : m.op.length < 4
    · have hst : startStep m (pk s z.1) = some (begun0 m (pk s z.1) 0 99) := by unfold startStep; rw [if_neg (by omega), if_pos hq, if_pos h4, begin_yes hne]
      rw [hst] at hb
      have h1 := h.aadv h0 hb
      have hcond := h1.cond rfl (.inr (by show m.op.length ≠ 4; omega)) { newDs p b with kind := kk } (by rw [cur_begun]; exact ⟨rfl, rfl, rfl, rfl⟩) (by rw [cur_begun]; rfl)
      have hsame := rCond_same s (adv z.1) { newDs p b with kind := kk }
      have hn33 : ¬ (cur (begun0 m (pk s z.1) 0 99)).kind = 33 := by rw [cur_begun]; exact h33
      have hbh : behindOf (begun0 m (pk s z.1) 0 99) = 123 := if_neg hn33
      have hopA : opAft (begun0 m (pk s z.1) 0 99) = m.op ++ [⟨m.st.length, false⟩] := by
        unfold opAft; rw [if_neg hn33]; show m.op ++ [⟨(m.st ++ [u0 m (pk s z.1) 0]).length - 1, false⟩] = _; simp
      rw [hbh] at hcond
      obtain ⟨y, hy⟩ : ∃ y, y = rCond s (adv z.1) { newDs p b with kind := kk } := ⟨_, rfl⟩
      rw [← hy] at hcond hsame
      have hh : rHead s z.1 (newDs p b) dp = (y.1, y.2) := by
        rw [if_neg (by omega)] at ek
        exact (rHead_cond ek hkb.2 hy).trans (if_neg (by rw [hsame.1]; exact hkb.1))
      refine blocks_says H (u := { u0 m (pk s z.1) 0 with star := y.1.any, sg := y.1.sg, num := y.1.num }) h.ns hm hdp hc h20 hh (by rw [hsame.1]; exact hkk.elim (fun e => .inl e.1) (fun e => .inr e.1)) ⟨hsame.2.2.1, hsame.2.2.2⟩ ⟨?_, by rw [hsame.2.1]; rfl, rfl, rfl, rfl⟩ ?_
      · show pk s z.1 = kindOf y.1.kind
        rw [hsame.1]
        rcases hkk with ⟨rfl, e⟩ | ⟨rfl, e⟩ <;> rw [e] <;> rfl
      · refine hcond.mono ?_
        rintro w - ⟨a, b', c⟩
        rw [cur_begun, setCur_begun] at b'
        exact ⟨a, c.trans hopA, b'⟩
    · left
      have hst : startStep m (pk s z.1) = none := by unfold startStep; rw [if_neg (by omega), if_pos hq, if_neg h4]
      have hd := dead0 (by rw [hb]; exact hst)
      have hh : (rHead s z.1 (newDs p b) dp).2 = stk z.1 := by
        rw [if_pos (by omega)] at ek
        rw [(rHead_cond ek hkb.2 rfl).trans (if_neg (by rw [(rCond_same s (stk z.1) { newDs p b with kind := kk }).1]; exact hkb.1))]
        exact hd.dCond _
      have e : (rStmtWith s (rStmts s n) p b dp z).1 = stk z.1 := by unfold rStmtWith; rw [if_neg h20, hh]; rfl
      rw [e]; exact hd
  by_cases hv : 97 ≤ pk s z.1 ∧ pk s z.1 ≤ 100
  · have hst : startStep m (pk s z.1) = some (begun0 m 61 (pk s z.1 - 97) 61) := by unfold startStep; rw [if_pos hv, begin_yes hne]
    rw [hst] at hb
    have h1 := h.aadv h0 hb
    have ev : rVar s z.1 (-1) = (pk s z.1 - 97, adv z.1) := by unfold rVar; rw [varOf_pos hv, if_neg (by omega)]
    have ek : rKind s z.1 (newDs p b) dp = ({ newDs p b with kind := 0, target := pk s z.1 - 97 }, adv z.1) := by
      unfold rKind; rw [if_neg h33, if_neg (fun e => hq (.inl e)), if_neg (fun e => hq (.inr e)), ev]
    obtain ⟨y, hy⟩ : ∃ y, y = rValue s (nd s (adv z.1) 61) { newDs p b with kind := 0, target := pk s z.1 - 97 } := ⟨_, rfl⟩
    have hsame := rValue_same s (nd s (adv z.1) 61) { newDs p b with kind := 0, target := pk s z.1 - 97 }
    rw [← hy] at hsame
    have hh : rHead s z.1 (newDs p b) dp = (y.1, nd s y.2 59) := by
      exact rHead_val ek rfl hy (by rw [hsame.1]; show blocksOf 0 = 0; decide)
    refine simple_says (u := { u0 m 61 (pk s z.1 - 97) with star := y.1.any, sg := y.1.sg, num := y.1.num }) hc h20 hh (.inl hsame.1) ⟨hsame.2.2.1, hsame.2.2.2⟩ ⟨by rw [hsame.1]; rfl, by rw [hsame.2.1]; rfl, rfl, rfl, rfl⟩ rfl ?_
    rcases h1.aneed (c := 61) (m' := { begun0 m 61 (pk s z.1 - 97) 61 with state := 118 }) (by decide) (fun e => by rw [byte_61 rfl, if_pos rfl]) (fun e => by rw [byte_61 rfl, if_neg e]) (notDone (by decide : (61 : Int) ≠ 115)) with hd | ⟨m2, h2, e2⟩
    · have e : y.2 = nd s (adv z.1) 61 := by rw [hy]; exact hd.dValue _
      rw [e, hd.dnd (by decide)]
      exact .inl hd
    · have ec : cur m2 = u0 m 61 (pk s z.1 - 97) := by rw [e2]; exact cur_begun 61 _ 61
      have hval := h2.value (by rw [e2]) (by rw [ec]; rfl) { newDs p b with kind := 0, target := pk s z.1 - 97 } (by rw [ec]; exact ⟨rfl, rfl, rfl, rfl⟩)
      rw [← hy] at hval
      refine hval.mono ?_
      rintro w - ⟨a, b', c⟩
      refine ⟨a, b'.trans (by rw [e2]; rfl), c.trans ?_⟩
      rw [ec, e2]
      exact setCur_begun 61 _ 61 _
  · left
    have hst : startStep m (pk s z.1) = none := by unfold startStep; rw [if_neg hv, if_neg hq, if_neg h33, if_neg (fun e => h125 e.1)]
    have hd := dead0 (by rw [hb]; exact hst)
    have ev : rVar s z.1 (-1) = (0, stk z.1) := by unfold rVar; rw [if_pos (.inl (varOf_neg hv))]
    have ek : rKind s z.1 (newDs p b) dp = ({ newDs p b with kind := 0, target := 0 }, stk z.1) := by
      unfold rKind; rw [if_neg h33, if_neg (fun e => hq (.inl e)), if_neg (fun e => hq (.inr e)), ev]
    have hh : (rHead s z.1 (newDs p b) dp).2 = stk z.1 := by
      rw [rHead_val ek rfl rfl (by rw [(rValue_same s (nd s (stk z.1) 61) { newDs p b with kind := 0, target := 0 }).1]; show blocksOf 0 = 0; decide)]
      show nd s (rValue s (nd s (stk z.1) 61) _).2 59 = _
      rw [hd.dnd (by decide), hd.dValue, hd.dnd (by decide)]
    have e : (rStmtWith s (rStmts s n) p b dp z).1 = stk z.1 := by unfold rStmtWith; rw [if_neg h20, hh]; rfl
    rw [e]; exact hd

theorem says_all (s : ByteArray) (n : Nat) : Says s n := by
  induction n with
  | zero => intro p b dp z m _ _ _ _ hm; omega
  | succ n ih =>
    intro p b dp z m h hs hdp hc hm
    by_cases he : pk s z.1 = 0 ∨ pk s z.1 = 125
    · right
      have e : rStmts s (n + 1) p b dp z = z := by unfold rStmts; rw [if_pos he]
      rw [e]
      exact ⟨m, ⟨h, hs, rfl, hc, Pre.refl _, Pre.refl _, Nat.le_refl _⟩, ⟨0, rfl⟩, he⟩
    · have e : rStmts s (n + 1) p b dp z = rStmts s n p b dp (rStmtWith s (rStmts s n) p b dp z) := by rw [rStmts, if_neg he]
      have hzok : Zok s z := ⟨h.le, by rw [hc.len]; exact h.aok.len⟩
      have hMd := Mz_stmt (rStmts s n) (rStmts_goes s n) p b dp hzok h.ns
      rw [e]
      rcases stmt_says ih p b dp h hs hdp hc (by omega) (fun e => he (.inl e)) (fun e => he (.inr e)) with hd | ⟨m1, ho, f1, hst⟩
      · left; rw [hd.dStmts]; exact hd
      obtain ⟨y, hy⟩ : ∃ y, y = rStmtWith s (rStmts s n) p b dp z := ⟨_, rfl⟩
      rw [← hy] at ho hst hMd ⊢
      rcases ih p b dp y m1 ho.sync ho.st (by rw [ho.op]; exact hdp) ho.cor (by omega) with hd | ⟨m2, ho2, ⟨f2, hf2⟩, hpk⟩
      · left; exact hd
      · right
        have hlen1 := ho.cor.len
        refine ⟨m2, ⟨ho2.sync, ho2.st, ho2.op.trans ho.op, ho2.cor, ho.preF.trans ho2.preF ho.len, ho.preS.trans ho2.preS (by rw [← hlen1, ← hc.len]; exact ho.len), Nat.le_trans ho.len ho2.len⟩, ⟨f1 + f2 + 1, .inr ⟨y.2.length, ho2.len, ?_, ?_⟩⟩, hpk⟩
        · have hlt := hst.lt
          refine hst.into (ho2.preF _ hlt) (ho2.preS _ (by rw [← hlen1]; exact hlt)) (fun _ _ i j hi hij hj hR => ?_)
          exact (Blk.keep hR (fun k h1 h2 => ho2.preF k (by omega)) (fun k h1 h2 => ho2.preS k (by rw [← hlen1]; omega))).more f2
        · rw [Nat.add_comm f1 f2]; exact hf2.more f1

/-- What is read of the whole text. -/
theorem read_says (s : ByteArray) : Dead s (readZ s).1 ∨ ∃ m, Out s ((0, false), []) init (readZ s) m ∧ (∃ f, Blk (readZ s).2 m.st f (-1) 0 0 (readZ s).2.length) ∧ (pk s (readZ s).1 = 0 ∨ pk s (readZ s).1 = 125) :=
  says_all s 22 (-1) 0 0 ((0, false), []) init ⟨rfl, Nat.zero_le _, rfl⟩ rfl rfl ⟨rfl, fun i x u h => by simp at h⟩ (by decide)

theorem take_all (s : ByteArray) : (bytesOf s).take s.size = bytesOf s := List.take_of_length_le (by rw [bytesOf_len]; exact Nat.le_refl _)
theorem getD_get {s : ByteArray} {k : Nat} (h : k < s.size) : (bytesOf s)[k]? = some ((bytesOf s).getD k 0) := by rw [List.getD_eq_getElem?_getD, bytesOf_get s k h]; rfl

/-- Both Scans answer the same. -/
theorem scan_same (s : ByteArray) : scanD s = scanOf (bytesOf s) := by
  have hl := bytesOf_len s
  by_cases h : 160 < s.size
  · unfold scanD scanOf; rw [if_pos h, if_pos (by omega)]
  have hof : ∀ x, scanOf (bytesOf s) = x ↔ (match readFrom init (bytesOf s) 0 with
    | (n, none) => (0, 1, n)
    | (n, some m) => if isDone m then ((m.st.length : Int) + 1, 0, 0) else (0, 1, n)) = x := by intro x; unfold scanOf; rw [if_neg (by omega)]; exact Iff.rfl
  symm
  rw [hof]
  have rest : ∀ (m : Rd), feed init ((bytesOf s).take (readZ s).1.1) = some m → (readZ s).1.1 < s.size → byteStep m ((bytesOf s).getD (readZ s).1.1 0) = none → readGood s = false → (match readFrom init (bytesOf s) 0 with
    | (n, none) => (0, 1, (n : Int))
    | (n, some m) => if isDone m then ((m.st.length : Int) + 1, 0, 0) else (0, 1, n)) = scanD s := by
    intro m hf hlt hb hg
    rw [readFrom_none (n := 0) hf (getD_get hlt) hb]
    unfold scanD; rw [if_neg h, hg]; simp
  rcases read_says s with hd | ⟨m, ho, _, hpk⟩
  · obtain ⟨m, hf, hle, h1, h2⟩ := hd.ex
    have hg : readGood s = false := by unfold readGood; rw [hd.st]; rfl
    by_cases hlt : (readZ s).1.1 < s.size
    · exact rest m hf hlt (h1 hlt) hg
    · have he : (readZ s).1.1 = s.size := by omega
      rw [he, take_all] at hf
      rw [readFrom_some (n := 0) hf]
      simp only
      rw [h2 he]
      unfold scanD; rw [if_neg h, hg]; simp; omega
  · have hf := ho.sync.fd
    have hop : m.op = [] := ho.op
    by_cases hlt : (readZ s).1.1 < s.size
    · have hg : readGood s = false := by unfold readGood; rw [ho.sync.ns]; simp; omega
      refine rest m hf hlt ?_ hg
      rw [← ho.sync.apk, byte_115 ho.st]
      rcases hpk with e | e
      · rw [e]; unfold startStep; rw [if_neg (by decide), if_neg (by decide), if_neg (by decide), if_neg (by omega)]
      · rw [e]; unfold startStep; rw [if_neg (by decide), if_neg (by decide), if_neg (by decide), if_neg (by rw [hop]; simp)]
    · have hg : readGood s = true := by unfold readGood; rw [ho.sync.ns]; simp; omega
      have he : (readZ s).1.1 = s.size := by have := ho.sync.le; omega
      rw [he, take_all] at hf
      rw [readFrom_some (n := 0) hf]
      have hdn : isDone m = true := by unfold isDone; rw [ho.st, hop]; rfl
      simp only
      rw [hdn]
      unfold scanD; rw [if_neg h, hg, ho.cor.len]; rfl

end Go.Proofs.Ytffajooegiempaa

namespace Go.Proofs.Ytffajooegiempaa
open Go.RowKit

set_option maxHeartbeats 400000 in
theorem d_end (ao : Option Addr) (n cap : Nat) (w : World) (_hn : n ≤ 20) :
    Calls Try.prog 27 #[.agg #[.slice ao n cap]] w fun e w' => e = .returned (.int .i64 n) ∧ ∃ o, w' = w.alloc o := by
  go_enter Try.func27, Try.ntmps27
  go_wp2
  go_ret
  exact ⟨rfl, _, rfl⟩

end Go.Proofs.Ytffajooegiempaa

namespace Go.Proofs.Ytffajooegiempaa
open Go.RowKit
variable {w w' : World} {s : ByteArray}

set_option maxRecDepth 100000 in
set_option maxHeartbeats 1600000 in
theorem d_scan (s : ByteArray) (w : World) (hm : s.size ≤ maxLen) :
    Calls Try.prog 8 #[.string s] w fun e w' => e = three (scanD s) ∧ Below w.heap.size w w' := by
  have hr := d_read s w hm
  by_cases h : 160 < s.size
  · have HS : Hid (scanD s = (0, 1, 0)) := if_pos h
    have hr' := hr.mono (R' := fun e w' => e = .returned (.tuple #[.agg #[.slice none 0 0], .int .i64 1, .int .i64 0]) ∧ Below w.heap.size w w') (by
      rintro e w' ⟨hb, h1 | h1 | h1⟩
      · exact ⟨h1.2, hb⟩
      · exact absurd h1.1 (by omega)
      · exact absurd h1.1 (by omega))
    clear hr hm
    go_enter Try.func8, Try.ntmps8
    go_wp2_with fail
    refine hr'.mono ?_
    rintro e w2 ⟨rfl, hb⟩
    go_wp2
    go_ret3
    exact ⟨by rw [HS.out]; rfl, hb.alloc hb.size _⟩
  · by_cases hg : readGood s = true
    · have HS : Hid (scanD s = (((readZ s).2.length : Int) + 1, 0, 0)) := by show scanD s = _; unfold scanD; rw [if_neg h, if_pos hg]
      have hlen : (readZ s).2.length ≤ 20 := (rStmts_goes s 22 (-1) 0 0 ((0, false), []) ⟨Nat.zero_le _, Nat.zero_le _⟩).ok.len
      have hr' := hr.mono (R' := fun e w' => ∃ ao cap, e = .returned (.tuple #[.agg #[.slice ao (readZ s).2.length cap], .int .i64 0, .int .i64 0]) ∧ Below w.heap.size w w') (by
        rintro e w' ⟨hb, h1 | h1 | h1⟩
        · exact absurd h1.1 h
        · exact absurd h1.2.1 (by rw [hg]; decide)
        · obtain ⟨_, _, v, he, hrow⟩ := h1
          obtain ⟨_, h2⟩ := hrow
          rcases h2 with ⟨rfl, e0⟩ | ⟨g, cap, c, rfl, _⟩
          · exact ⟨none, 0, by rw [e0]; exact he, hb⟩
          · exact ⟨_, cap, he, hb⟩)
      clear hr hm h hg
      generalize (readZ s).2.length = n at *
      go_enter Try.func8, Try.ntmps8
      go_wp2_with fail
      refine hr'.mono ?_
      rintro e w2 ⟨ao, cap, rfl, hb⟩
      go_wp2_with fail
      refine (d_end ao n cap _ hlen).mono ?_
      rintro e w3 ⟨rfl, o, rfl⟩
      go_wp2
      go_ret3
      exact ⟨by rw [HS.out]; rfl, (hb.alloc hb.size _).alloc (by have := hb.size; simp; omega) _⟩
    · have HS : Hid (scanD s = (0, 1, ((readZ s).1.1 : Int))) := by show scanD s = _; unfold scanD; rw [if_neg h, if_neg hg]
      have hr' := hr.mono (R' := fun e w' => e = .returned (.tuple #[.agg #[.slice none 0 0], .int .i64 1, .int .i64 (readZ s).1.1]) ∧ Below w.heap.size w w') (by
        rintro e w' ⟨hb, h1 | h1 | h1⟩
        · exact absurd h1.1 h
        · exact ⟨h1.2.2, hb⟩
        · exact absurd h1.2.1 hg)
      clear hr hm
      generalize (readZ s).1.1 = n at *
      go_enter Try.func8, Try.ntmps8
      go_wp2_with fail
      refine hr'.mono ?_
      rintro e w2 ⟨rfl, hb⟩
      go_wp2
      go_ret3
      exact ⟨by rw [HS.out]; rfl, hb.alloc hb.size _⟩

end Go.Proofs.Ytffajooegiempaa

namespace Go.Proofs.Ytffajooegiempaa
open Go.RowKit

set_option maxHeartbeats 400000 in
theorem variable_any (c : Int) (w : World) (h0 : 0 ≤ c) (h1 : c ≤ 255) :
    Calls Try.prog 72 #[.int .u8 c] w fun e w' => e = .returned (.int .i64 (varOf c)) ∧ w' = w := by
  unfold varOf
  by_cases ha : 97 ≤ c
  · by_cases hb : c ≤ 100
    · go_enter Try.func72, Try.ntmps72
      go_wp2
      go_ret
      exact ⟨rfl, rfl⟩
    · go_enter Try.func72, Try.ntmps72
      go_wp2
      go_ret
      exact ⟨rfl, rfl⟩
  · go_enter Try.func72, Try.ntmps72
    go_wp2
    go_ret
    exact ⟨rfl, rfl⟩

set_option maxHeartbeats 400000 in
theorem now_any (r g p : Nat) (n cap : Nat) (w : World) (hn : 0 < n) (hcap : n ≤ 20)
    (hs : w.cell? ⟨r, 1, none⟩ = some (.slice (some ⟨g, 0, none⟩) n cap))
    (hp : w.cell? ⟨g, n - 1, none⟩ = some (.pointer (some ⟨p, 0, none⟩))) :
    Calls Try.prog 75 #[.pointer (some ⟨r, 0, none⟩)] w fun e w' => e = .returned (.pointer (some ⟨p, 0, none⟩)) ∧ ∃ k, w' = w.drewN k := by
  go_enter Try.func75, Try.ntmps75
  go_wp2
  go_quiet (fail)
  go_wp2
  go_ret
  exact ⟨rfl, _, rfl⟩

end Go.Proofs.Ytffajooegiempaa

namespace Go.Proofs.Ytffajooegiempaa
open Go.RowKit

def ptr (p : Nat) : Value := .pointer (some ⟨p, 0, none⟩)
def stCells (q : Nat) (s : St) : Array Value := #[.int .u8 s.kind, .int .i64 s.var, .bool s.star, .slice (some ⟨q, 0, none⟩) 4 4, .int .i64 s.num, .int .i64 s.mid, .int .i64 s.fin]
def rdCells (m : Rd) (vs vo : Value) : Array Value := #[.int .u8 m.state, vs, vo, .int .i64 m.sign, .bool m.neg, .int .i64 m.dig]
def sgCells (l : List Int) : Array Value := (l.map (Value.int .i64)).toArray
def bkCells (b : Bk) : Array Value := #[.int .i64 b.of_, .bool b.second]

abbrev tR : TypeId := 59
abbrev tS : TypeId := 86
abbrev tB : TypeId := 99
abbrev tPS : TypeId := 84
abbrev tPB : TypeId := 97
abbrev tI : TypeId := 3

/-- The reader's memory: its block, the two rows of pointers, each statement with its signs, each open block. -/
structure Rep (B : Nat) (w : World) (r : Nat) (m : Rd) (vs vo : Value) (P Q O : Nat → Nat) : Prop where
  rd : At w r (rdCells m vs vo) tR
  rs : w.ownsRow B tPS 1 vs m.st.length ((List.range m.st.length).map fun i => ptr (P i))
  ro : w.ownsRow B tPB 1 vo m.op.length ((List.range m.op.length).map fun i => ptr (O i))
  st : ∀ i s, m.st[i]? = some s → At w (P i) (stCells (Q i) s) tS ∧ At w (Q i) (sgCells s.sg) tI
  op : ∀ i b, m.op[i]? = some b → At w (O i) (bkCells b) tB
  injP : ∀ i j, i < m.st.length → j < m.st.length → P i = P j → i = j
  injQ : ∀ i j, i < m.st.length → j < m.st.length → Q i = Q j → i = j
  injO : ∀ i j, i < m.op.length → j < m.op.length → O i = O j → i = j
  geR : B ≤ r
  geP : ∀ i, i < m.st.length → B ≤ P i ∧ B ≤ Q i
  geO : ∀ i, i < m.op.length → B ≤ O i

variable {B : Nat} {w w' : World} {r : Nat} {m : Rd} {vs vo : Value} {P Q O : Nat → Nat}

theorem ownsRow_at {e : TypeId} {v : Value} {n : Nat} {xs : List Value} (h : w.ownsRow B e 1 v n xs) (hn : 0 < n) : ∃ g cap c, v = .slice (some ⟨g, 0, none⟩) n cap ∧ B ≤ g ∧ At w g c e ∧ n ≤ cap := by
  obtain ⟨h1, h2 | ⟨g, cap, c, hv, hg, hh, h3, h4, h5, h6⟩⟩ := h
  · omega
  · exact ⟨g, cap, c, hv, hg, hh, h3⟩

theorem ownsRow_same {e : TypeId} {v : Value} {n : Nat} {xs : List Value} (h : w.ownsRow B e 1 v n xs) (k : ∀ g, v.ownBlock = some g → w'.heap[g]? = w.heap[g]?) : w'.ownsRow B e 1 v n xs := by
  obtain ⟨h1, h2⟩ := h
  refine ⟨h1, ?_⟩
  rcases h2 with h2 | ⟨g, cap, c, hv, hg, hh, r⟩
  · exact .inl h2
  · subst hv; exact .inr ⟨g, cap, c, rfl, hg, by rw [k g rfl]; exact hh, r⟩

theorem ownsRow_type {e : TypeId} {v : Value} {n : Nat} {xs : List Value} (h : w.ownsRow B e 1 v n xs) {b : Nat} {c : Array Value} {t : TypeId} (k : At w b c t) (hn : e ≠ t) : v.ownBlock ≠ some b := by
  obtain ⟨h1, h2⟩ := h
  rcases h2 with ⟨rfl, _⟩ | ⟨g, cap, c', rfl, hg, hh, r⟩
  · simp [Value.ownBlock]
  · intro e'
    simp [Value.ownBlock] at e'
    exact (At.ne (show At w g c' e from hh) k hn) e'

theorem ownsRow_put {e : TypeId} {v : Value} {n : Nat} {xs : List Value} (h : w.ownsRow B e 1 v n xs) {b : Nat} {c : Array Value} {t : TypeId} (k : At w b c t) (hn : e ≠ t) (o : Nat) (u : Value) : (w.setCell ⟨b, o, none⟩ u).ownsRow B e 1 v n xs :=
  ownsRow_setCell_other h (ownsRow_type h k hn) u

theorem Rep.drewN (h : Rep B w r m vs vo P Q O) (k : Nat) : Rep B (w.drewN k) r m vs vo P Q O := ⟨h.rd, h.rs, h.ro, h.st, h.op, h.injP, h.injQ, h.injO, h.geR, h.geP, h.geO⟩

/-- A field of the reader is written. -/
theorem Rep.setRd (h : Rep B w r m vs vo P Q O) (o : Nat) (u : Value) (m' : Rd) (hc : (rdCells m vs vo).setIfInBounds o u = rdCells m' vs vo) (hs : m'.st = m.st) (ho : m'.op = m.op) :
    Rep B (w.setCell ⟨r, o, none⟩ u) r m' vs vo P Q O where
  rd := by rw [← hc]; exact h.rd.put o u
  rs := by rw [hs]; exact ownsRow_put h.rs h.rd (by decide) o u
  ro := by rw [ho]; exact ownsRow_put h.ro h.rd (by decide) o u
  st := by
    intro i s hi; rw [hs] at hi
    obtain ⟨a, b⟩ := h.st i s hi
    exact ⟨a.other o u (a.ne h.rd (by decide)), b.other o u (b.ne h.rd (by decide))⟩
  op := by
    intro i s hi; rw [ho] at hi
    have a := h.op i s hi
    exact a.other o u (a.ne h.rd (by decide))
  injP := by rw [hs]; exact h.injP
  injQ := by rw [hs]; exact h.injQ
  injO := by rw [ho]; exact h.injO
  geR := h.geR
  geP := by rw [hs]; exact h.geP
  geO := by rw [ho]; exact h.geO

/-- A field of a statement is written. -/
theorem Rep.setSt (h : Rep B w r m vs vo P Q O) (k : Nat) (s s' : St) (hk : m.st[k]? = some s) (o : Nat) (u : Value) (m' : Rd) (hc : (stCells (Q k) s).setIfInBounds o u = stCells (Q k) s') (hsg : s'.sg = s.sg) (hm : m' = { m with st := m.st.set k s' }) :
    Rep B (w.setCell ⟨P k, o, none⟩ u) r m' vs vo P Q O := by
  subst hm
  have hlt : k < m.st.length := by
    rcases Nat.lt_or_ge k m.st.length with h' | h'
    · exact h'
    · simp [List.getElem?_eq_none h'] at hk
  obtain ⟨ka, kb⟩ := h.st k s hk
  exact {
    rd := h.rd.other o u (h.rd.ne ka (by decide))
    rs := by simp only [List.length_set]; exact ownsRow_put h.rs ka (by decide) o u
    ro := ownsRow_put h.ro ka (by decide) o u
    st := by
      intro i x hi
      by_cases e : i = k
      · subst e
        simp [hlt] at hi
        subst hi
        exact ⟨by rw [← hc]; exact ka.put o u, by rw [hsg]; exact kb.other o u (kb.ne ka (by decide))⟩
      · simp only [List.getElem?_set, if_neg (Ne.symm e)] at hi
        have hil : i < m.st.length := by
          rcases Nat.lt_or_ge i m.st.length with h' | h'
          · exact h'
          · simp [List.getElem?_eq_none h'] at hi
        obtain ⟨a, b⟩ := h.st i x hi
        exact ⟨a.other o u (fun q => e (h.injP i k hil hlt q)), b.other o u (b.ne ka (by decide))⟩
    op := by
      intro i x hi
      have a := h.op i x hi
      exact a.other o u (a.ne ka (by decide))
    injP := by simp only [List.length_set]; exact h.injP
    injQ := by simp only [List.length_set]; exact h.injQ
    injO := h.injO
    geR := h.geR
    geP := by simp only [List.length_set]; exact h.geP
    geO := h.geO }

/-- A sign of a statement is written. -/
theorem Rep.setSg (h : Rep B w r m vs vo P Q O) (k : Nat) (s : St) (hk : m.st[k]? = some s) (o : Nat) (x : Int) (m' : Rd) (hm : m' = { m with st := m.st.set k { s with sg := s.sg.set o x } }) :
    Rep B (w.setCell ⟨Q k, o, none⟩ (.int .i64 x)) r m' vs vo P Q O := by
  subst hm
  have hlt : k < m.st.length := by
    rcases Nat.lt_or_ge k m.st.length with h' | h'
    · exact h'
    · simp [List.getElem?_eq_none h'] at hk
  obtain ⟨ka, kb⟩ := h.st k s hk
  have hsg : (sgCells s.sg).setIfInBounds o (.int .i64 x) = sgCells (s.sg.set o x) := by simp [sgCells, List.map_set]
  exact {
    rd := h.rd.other o _ (h.rd.ne kb (by decide))
    rs := by simp only [List.length_set]; exact ownsRow_put h.rs kb (by decide) o _
    ro := ownsRow_put h.ro kb (by decide) o _
    st := by
      intro i y hi
      by_cases e : i = k
      · subst e
        simp [hlt] at hi
        subst hi
        exact ⟨ka.other o _ (ka.ne kb (by decide)), by show At _ _ (sgCells (s.sg.set o x)) _; rw [← hsg]; exact kb.put o _⟩
      · simp only [List.getElem?_set, if_neg (Ne.symm e)] at hi
        have hil : i < m.st.length := by
          rcases Nat.lt_or_ge i m.st.length with h' | h'
          · exact h'
          · simp [List.getElem?_eq_none h'] at hi
        obtain ⟨a, b⟩ := h.st i y hi
        exact ⟨a.other o _ (a.ne kb (by decide)), b.other o _ (fun q => e (h.injQ i k hil hlt q))⟩
    op := by
      intro i y hi
      have a := h.op i y hi
      exact a.other o _ (a.ne kb (by decide))
    injP := by simp only [List.length_set]; exact h.injP
    injQ := by simp only [List.length_set]; exact h.injQ
    injO := h.injO
    geR := h.geR
    geP := by simp only [List.length_set]; exact h.geP
    geO := h.geO }

/-- An open block is written. -/
theorem Rep.setBk (h : Rep B w r m vs vo P Q O) (k : Nat) (b b' : Bk) (hk : m.op[k]? = some b) (o : Nat) (u : Value) (m' : Rd) (hc : (bkCells b).setIfInBounds o u = bkCells b') (hm : m' = { m with op := m.op.set k b' }) :
    Rep B (w.setCell ⟨O k, o, none⟩ u) r m' vs vo P Q O := by
  subst hm
  have hlt : k < m.op.length := by
    rcases Nat.lt_or_ge k m.op.length with h' | h'
    · exact h'
    · simp [List.getElem?_eq_none h'] at hk
  have ka := h.op k b hk
  exact {
    rd := h.rd.other o u (h.rd.ne ka (by decide))
    rs := ownsRow_put h.rs ka (by decide) o u
    ro := by simp only [List.length_set]; exact ownsRow_put h.ro ka (by decide) o u
    st := by
      intro i x hi
      obtain ⟨a, b⟩ := h.st i x hi
      exact ⟨a.other o u (a.ne ka (by decide)), b.other o u (b.ne ka (by decide))⟩
    op := by
      intro i x hi
      by_cases e : i = k
      · subst e
        simp [hlt] at hi
        subst hi
        rw [← hc]; exact ka.put o u
      · simp only [List.getElem?_set, if_neg (Ne.symm e)] at hi
        have hil : i < m.op.length := by
          rcases Nat.lt_or_ge i m.op.length with h' | h'
          · exact h'
          · simp [List.getElem?_eq_none h'] at hi
        exact (h.op i x hi).other o u (fun q => e (h.injO i k hil hlt q))
    injP := h.injP
    injQ := h.injQ
    injO := by simp only [List.length_set]; exact h.injO
    geR := h.geR
    geP := h.geP
    geO := by simp only [List.length_set]; exact h.geO }

/-- What a step answers and leaves. -/
def Post (B : Nat) (w : World) (r : Nat) (o : Option Rd) : Ending → World → Prop := fun e w' =>
  e = .returned (.bool o.isSome) ∧ Below B w w' ∧ ∀ m', o = some m' → ∃ vs vo P Q O, Rep B w' r m' vs vo P Q O

end Go.Proofs.Ytffajooegiempaa

