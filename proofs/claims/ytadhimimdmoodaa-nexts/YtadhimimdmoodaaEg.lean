import Derived.Test.YtadhimimdmoodaaEf
namespace Go.Proofs.Ytadhimimdmoodaa
variable {s : ByteArray} {d : Nat × Bool} {m m' : Rd}

theorem rHead_val {x x1 : Ds} {d1 : Nat × Bool} {dp : Int} {y : Ds × (Nat × Bool)} (ek : rKind s d x dp = (x1, d1)) (h0 : x1.kind = 0) (hy : y = rValue s (nd s d1 61) x1) (hb : blocksOf y.1.kind = 0) : rHead s d x dp = (y.1, nd s y.2 59) := by
  unfold rHead
  rw [ek]
  have e : (if x1.kind = 0 then rValue s (nd s d1 61) x1 else rCond s d1 x1) = y := by rw [if_pos h0, hy]
  show (if blocksOf (if x1.kind = 0 then rValue s (nd s d1 61) x1 else rCond s d1 x1).1.kind = 0 then ((if x1.kind = 0 then rValue s (nd s d1 61) x1 else rCond s d1 x1).1, nd s (if x1.kind = 0 then rValue s (nd s d1 61) x1 else rCond s d1 x1).2 59) else (if x1.kind = 0 then rValue s (nd s d1 61) x1 else rCond s d1 x1)) = _
  rw [e, if_pos hb]
theorem rHead_cond {x x1 : Ds} {d1 : Nat × Bool} {dp : Int} {y : Ds × (Nat × Bool)} (ek : rKind s d x dp = (x1, d1)) (h0 : x1.kind ≠ 0) (hy : y = rCond s d1 x1) : rHead s d x dp = if blocksOf y.1.kind = 0 then (y.1, nd s y.2 59) else y := by
  unfold rHead
  rw [ek]
  have e : (if x1.kind = 0 then rValue s (nd s d1 61) x1 else rCond s d1 x1) = y := by rw [if_neg h0, hy]
  show (if blocksOf (if x1.kind = 0 then rValue s (nd s d1 61) x1 else rCond s d1 x1).1.kind = 0 then ((if x1.kind = 0 then rValue s (nd s d1 61) x1 else rCond s d1 x1).1, nd s (if x1.kind = 0 then rValue s (nd s d1 61) x1 else rCond s d1 x1).2 59) else (if x1.kind = 0 then rValue s (nd s d1 61) x1 else rCond s d1 x1)) = _
  rw [e]

theorem stmt_says {n : Nat} (H : Says s n) {z : Zt} (p b dp : Int) (h : Sync s z.1 m) (hs : m.state = 115) (hdp : (m.op.length : Int) = dp) (hc : CorL z.2 m.st) (hm : Mz z ≤ n) (h0 : pk s z.1 ≠ 0) (h125 : pk s z.1 ≠ 125) :
    Dead s (rStmtWith s (rStmts s n) p b dp z).1 ∨ ∃ m1, Out s z m (rStmtWith s (rStmts s n) p b dp z) m1 ∧ ∃ f, StmOk (rStmtWith s (rStmts s n) p b dp z).2 m1.st (Blk (rStmtWith s (rStmts s n) p b dp z).2 m1.st f) p b z.2.length (rStmtWith s (rStmts s n) p b dp z).2.length := by
  have hl := hc.len
  have hlen := h.aok.len
  have hb := byte_115 hs (pk s z.1)
  have hlt := (pk_lt rfl h0).1
  have dead0 : byteStep m (pk s z.1) = none → Dead s (stk z.1) := fun hn => h.adead hn (fun e => absurd hlt (by omega))
  by_cases h20 : 20 ≤ z.2.length
  · left
    have e : rStmtWith s (rStmts s n) p b dp z = (stk z.1, z.2) := if_pos h20
    rw [e]
    exact dead0 (by rw [hb]; exact start_full (by omega) h125)
  have hne : m.st.length ≠ 20 := by omega
  by_cases h33 : pk s z.1 = 33
  · have hst : startStep m (pk s z.1) = some (begun0 m 33 0 99) := by unfold startStep; rw [h33, if_neg (by decide), if_neg (by decide), if_pos rfl, begin_yes hne]
    rw [hst] at hb
    have h1 := h.aadv h0 hb
    have hcond := h1.cond rfl (.inl (by rw [cur_begun]; rfl)) { newDs p b with kind := 1 } (by rw [cur_begun]; exact ⟨rfl, rfl, rfl, rfl⟩) (by rw [cur_begun]; rfl)
    have hsame := rCond_same s (adv z.1) { newDs p b with kind := 1 }
    have hbh : behindOf (begun0 m 33 0 99) = 59 := by unfold behindOf; rw [cur_begun]; rfl
    have hopA : opAft (begun0 m 33 0 99) = m.op := by unfold opAft; rw [cur_begun]; rfl
    rw [hbh] at hcond
    obtain ⟨y, hy⟩ : ∃ y, y = rCond s (adv z.1) { newDs p b with kind := 1 } := ⟨_, rfl⟩
    rw [← hy] at hcond hsame
    have hh : rHead s z.1 (newDs p b) dp = (y.1, nd s y.2 59) := by
      have ek : rKind s z.1 (newDs p b) dp = ({ newDs p b with kind := 1 }, adv z.1) := if_pos h33
      exact (rHead_cond ek (by show (1 : Int) ≠ 0; decide) hy).trans (if_pos (by rw [hsame.1]; show blocksOf 1 = 0; decide))
    refine simple_says (u := { u0 m 33 0 with star := y.1.any, sg := y.1.sg, num := y.1.num }) hc h20 hh (.inr hsame.1) ⟨hsame.2.2.1, hsame.2.2.2⟩ ⟨by rw [hsame.1]; rfl, by rw [hsame.2.1]; rfl, rfl, rfl, rfl⟩ rfl ?_
    refine hcond.mono ?_
    rintro w - ⟨a, b', c⟩
    rw [cur_begun, setCur_begun] at b'
    exact ⟨a, c.trans hopA, b'⟩
  by_cases hq : pk s z.1 = 63 ∨ pk s z.1 = 64
  · obtain ⟨kk, hkk⟩ : ∃ kk : Int, (kk = 2 ∧ pk s z.1 = 63) ∨ (kk = 3 ∧ pk s z.1 = 64) := by
      rcases hq with e | e
      · exact ⟨2, .inl ⟨rfl, e⟩⟩
      · exact ⟨3, .inr ⟨rfl, e⟩⟩
    have ek : rKind s z.1 (newDs p b) dp = ({ newDs p b with kind := kk }, if 4 ≤ dp then stk z.1 else adv z.1) := by
      unfold rKind; rw [if_neg h33]
      rcases hkk with ⟨rfl, e⟩ | ⟨rfl, e⟩
      · rw [if_pos e]
      · rw [if_neg (by omega), if_pos e]
    have hkb : blocksOf kk ≠ 0 ∧ kk ≠ 0 := by rcases hkk with ⟨rfl, _⟩ | ⟨rfl, _⟩ <;> decide
    by_cases h4 : m.op.length < 4
    · have hst : startStep m (pk s z.1) = some (begun0 m (pk s z.1) 0 99) := by unfold startStep; rw [if_neg (by omega), if_pos hq, if_pos h4, begin_yes hne]
      rw [hst] at hb
      have h1 := h.aadv h0 hb
      have hcond := h1.cond rfl (.inr (by show m.op.length ≠ 4; omega)) { newDs p b with kind := kk } (by rw [cur_begun]; exact ⟨rfl, rfl, rfl, rfl⟩) (by rw [cur_begun]; rfl)
      have hsame := rCond_same s (adv z.1) { newDs p b with kind := kk }
      have hn33 : ¬ (cur (begun0 m (pk s z.1) 0 99)).kind = 33 := by rw [cur_begun]; exact h33
      have hbh : behindOf (begun0 m (pk s z.1) 0 99) = 123 := if_neg hn33
      have hopA : opAft (begun0 m (pk s z.1) 0 99) = m.op ++ [⟨m.st.length, false⟩] := by
        unfold opAft; rw [if_neg hn33]; show m.op ++ [⟨(m.st ++ [u0 m (pk s z.1) 0]).length - 1, false⟩] = _; simp
      rw [hbh] at hcond
      obtain ⟨y, hy⟩ : ∃ y, y = rCond s (adv z.1) { newDs p b with kind := kk } := ⟨_, rfl⟩
      rw [← hy] at hcond hsame
      have hh : rHead s z.1 (newDs p b) dp = (y.1, y.2) := by
        rw [if_neg (by omega)] at ek
        exact (rHead_cond ek hkb.2 hy).trans (if_neg (by rw [hsame.1]; exact hkb.1))
      refine blocks_says H (u := { u0 m (pk s z.1) 0 with star := y.1.any, sg := y.1.sg, num := y.1.num }) h.ns hm hdp hc h20 hh (by rw [hsame.1]; exact hkk.elim (fun e => .inl e.1) (fun e => .inr e.1)) ⟨hsame.2.2.1, hsame.2.2.2⟩ ⟨?_, by rw [hsame.2.1]; rfl, rfl, rfl, rfl⟩ ?_
      · show pk s z.1 = kindOf y.1.kind
        rw [hsame.1]
        rcases hkk with ⟨rfl, e⟩ | ⟨rfl, e⟩ <;> rw [e] <;> rfl
      · refine hcond.mono ?_
        rintro w - ⟨a, b', c⟩
        rw [cur_begun, setCur_begun] at b'
        exact ⟨a, c.trans hopA, b'⟩
    · left
      have hst : startStep m (pk s z.1) = none := by unfold startStep; rw [if_neg (by omega), if_pos hq, if_neg h4]
      have hd := dead0 (by rw [hb]; exact hst)
      have hh : (rHead s z.1 (newDs p b) dp).2 = stk z.1 := by
        rw [if_pos (by omega)] at ek
        rw [(rHead_cond ek hkb.2 rfl).trans (if_neg (by rw [(rCond_same s (stk z.1) { newDs p b with kind := kk }).1]; exact hkb.1))]
        exact hd.dCond _
      have e : (rStmtWith s (rStmts s n) p b dp z).1 = stk z.1 := by unfold rStmtWith; rw [if_neg h20, hh]; rfl
      rw [e]; exact hd
  by_cases hv : 97 ≤ pk s z.1 ∧ pk s z.1 ≤ 100
  · have hst : startStep m (pk s z.1) = some (begun0 m 61 (pk s z.1 - 97) 61) := by unfold startStep; rw [if_pos hv, begin_yes hne]
    rw [hst] at hb
    have h1 := h.aadv h0 hb
    have ev : rVar s z.1 (-1) = (pk s z.1 - 97, adv z.1) := by unfold rVar; rw [varOf_pos hv, if_neg (by omega)]
    have ek : rKind s z.1 (newDs p b) dp = ({ newDs p b with kind := 0, target := pk s z.1 - 97 }, adv z.1) := by
      unfold rKind; rw [if_neg h33, if_neg (fun e => hq (.inl e)), if_neg (fun e => hq (.inr e)), ev]
    obtain ⟨y, hy⟩ : ∃ y, y = rValue s (nd s (adv z.1) 61) { newDs p b with kind := 0, target := pk s z.1 - 97 } := ⟨_, rfl⟩
    have hsame := rValue_same s (nd s (adv z.1) 61) { newDs p b with kind := 0, target := pk s z.1 - 97 }
    rw [← hy] at hsame
    have hh : rHead s z.1 (newDs p b) dp = (y.1, nd s y.2 59) := by
      exact rHead_val ek rfl hy (by rw [hsame.1]; show blocksOf 0 = 0; decide)
    refine simple_says (u := { u0 m 61 (pk s z.1 - 97) with star := y.1.any, sg := y.1.sg, num := y.1.num }) hc h20 hh (.inl hsame.1) ⟨hsame.2.2.1, hsame.2.2.2⟩ ⟨by rw [hsame.1]; rfl, by rw [hsame.2.1]; rfl, rfl, rfl, rfl⟩ rfl ?_
    rcases h1.aneed (c := 61) (m' := { begun0 m 61 (pk s z.1 - 97) 61 with state := 118 }) (by decide) (fun e => by rw [byte_61 rfl, if_pos rfl]) (fun e => by rw [byte_61 rfl, if_neg e]) (notDone (by decide : (61 : Int) ≠ 115)) with hd | ⟨m2, h2, e2⟩
    · have e : y.2 = nd s (adv z.1) 61 := by rw [hy]; exact hd.dValue _
      rw [e, hd.dnd (by decide)]
      exact .inl hd
    · have ec : cur m2 = u0 m 61 (pk s z.1 - 97) := by rw [e2]; exact cur_begun 61 _ 61
      have hval := h2.value (by rw [e2]) (by rw [ec]; rfl) { newDs p b with kind := 0, target := pk s z.1 - 97 } (by rw [ec]; exact ⟨rfl, rfl, rfl, rfl⟩)
      rw [← hy] at hval
      refine hval.mono ?_
      rintro w - ⟨a, b', c⟩
      refine ⟨a, b'.trans (by rw [e2]; rfl), c.trans ?_⟩
      rw [ec, e2]
      exact setCur_begun 61 _ 61 _
  · left
    have hst : startStep m (pk s z.1) = none := by unfold startStep; rw [if_neg hv, if_neg hq, if_neg h33, if_neg (fun e => h125 e.1)]
    have hd := dead0 (by rw [hb]; exact hst)
    have ev : rVar s z.1 (-1) = (0, stk z.1) := by unfold rVar; rw [if_pos (.inl (varOf_neg hv))]
    have ek : rKind s z.1 (newDs p b) dp = ({ newDs p b with kind := 0, target := 0 }, stk z.1) := by
      unfold rKind; rw [if_neg h33, if_neg (fun e => hq (.inl e)), if_neg (fun e => hq (.inr e)), ev]
    have hh : (rHead s z.1 (newDs p b) dp).2 = stk z.1 := by
      rw [rHead_val ek rfl rfl (by rw [(rValue_same s (nd s (stk z.1) 61) { newDs p b with kind := 0, target := 0 }).1]; show blocksOf 0 = 0; decide)]
      show nd s (rValue s (nd s (stk z.1) 61) _).2 59 = _
      rw [hd.dnd (by decide), hd.dValue, hd.dnd (by decide)]
    have e : (rStmtWith s (rStmts s n) p b dp z).1 = stk z.1 := by unfold rStmtWith; rw [if_neg h20, hh]; rfl
    rw [e]; exact hd

theorem says_all (s : ByteArray) (n : Nat) : Says s n := by
  induction n with
  | zero => intro p b dp z m _ _ _ _ hm; omega
  | succ n ih =>
    intro p b dp z m h hs hdp hc hm
    by_cases he : pk s z.1 = 0 ∨ pk s z.1 = 125
    · right
      have e : rStmts s (n + 1) p b dp z = z := by unfold rStmts; rw [if_pos he]
      rw [e]
      exact ⟨m, ⟨h, hs, rfl, hc, Pre.refl _, Pre.refl _, Nat.le_refl _⟩, ⟨0, rfl⟩, he⟩
    · have e : rStmts s (n + 1) p b dp z = rStmts s n p b dp (rStmtWith s (rStmts s n) p b dp z) := by rw [rStmts, if_neg he]
      have hzok : Zok s z := ⟨h.le, by rw [hc.len]; exact h.aok.len⟩
      have hMd := Mz_stmt (rStmts s n) (rStmts_goes s n) p b dp hzok h.ns
      rw [e]
      rcases stmt_says ih p b dp h hs hdp hc (by omega) (fun e => he (.inl e)) (fun e => he (.inr e)) with hd | ⟨m1, ho, f1, hst⟩
      · left; rw [hd.dStmts]; exact hd
      obtain ⟨y, hy⟩ : ∃ y, y = rStmtWith s (rStmts s n) p b dp z := ⟨_, rfl⟩
      rw [← hy] at ho hst hMd ⊢
      rcases ih p b dp y m1 ho.sync ho.st (by rw [ho.op]; exact hdp) ho.cor (by omega) with hd | ⟨m2, ho2, ⟨f2, hf2⟩, hpk⟩
      · left; exact hd
      · right
        have hlen1 := ho.cor.len
        refine ⟨m2, ⟨ho2.sync, ho2.st, ho2.op.trans ho.op, ho2.cor, ho.preF.trans ho2.preF ho.len, ho.preS.trans ho2.preS (by rw [← hlen1, ← hc.len]; exact ho.len), Nat.le_trans ho.len ho2.len⟩, ⟨f1 + f2 + 1, .inr ⟨y.2.length, ho2.len, ?_, ?_⟩⟩, hpk⟩
        · have hlt := hst.lt
          refine hst.into (ho2.preF _ hlt) (ho2.preS _ (by rw [← hlen1]; exact hlt)) (fun _ _ i j hi hij hj hR => ?_)
          exact (Blk.keep hR (fun k h1 h2 => ho2.preF k (by omega)) (fun k h1 h2 => ho2.preS k (by rw [← hlen1]; omega))).more f2
        · rw [Nat.add_comm f1 f2]; exact hf2.more f1

/-- What is read of the whole text. -/
theorem read_says (s : ByteArray) : Dead s (readZ s).1 ∨ ∃ m, Out s ((0, false), []) init (readZ s) m ∧ (∃ f, Blk (readZ s).2 m.st f (-1) 0 0 (readZ s).2.length) ∧ (pk s (readZ s).1 = 0 ∨ pk s (readZ s).1 = 125) :=
  says_all s 22 (-1) 0 0 ((0, false), []) init ⟨rfl, Nat.zero_le _, rfl⟩ rfl rfl ⟨rfl, fun i x u h => by simp at h⟩ (by decide)

theorem take_all (s : ByteArray) : (bytesOf s).take s.size = bytesOf s := List.take_of_length_le (by rw [bytesOf_len]; exact Nat.le_refl _)
theorem getD_get {s : ByteArray} {k : Nat} (h : k < s.size) : (bytesOf s)[k]? = some ((bytesOf s).getD k 0) := by rw [List.getD_eq_getElem?_getD, bytesOf_get s k h]; rfl

/-- Both Scans answer the same. -/
theorem scan_same (s : ByteArray) : scanD s = scanOf (bytesOf s) := by
  have hl := bytesOf_len s
  by_cases h : 160 < s.size
  · unfold scanD scanOf; rw [if_pos h, if_pos (by omega)]
  have hof : ∀ x, scanOf (bytesOf s) = x ↔ (match readFrom init (bytesOf s) 0 with
    | (n, none) => (0, 1, n)
    | (n, some m) => if isDone m then ((m.st.length : Int) + 1, 0, 0) else (0, 1, n)) = x := by intro x; unfold scanOf; rw [if_neg (by omega)]; exact Iff.rfl
  symm
  rw [hof]
  have rest : ∀ (m : Rd), feed init ((bytesOf s).take (readZ s).1.1) = some m → (readZ s).1.1 < s.size → byteStep m ((bytesOf s).getD (readZ s).1.1 0) = none → readGood s = false → (match readFrom init (bytesOf s) 0 with
    | (n, none) => (0, 1, (n : Int))
    | (n, some m) => if isDone m then ((m.st.length : Int) + 1, 0, 0) else (0, 1, n)) = scanD s := by
    intro m hf hlt hb hg
    rw [readFrom_none (n := 0) hf (getD_get hlt) hb]
    unfold scanD; rw [if_neg h, hg]; simp
  rcases read_says s with hd | ⟨m, ho, _, hpk⟩
  · obtain ⟨m, hf, hle, h1, h2⟩ := hd.ex
    have hg : readGood s = false := by unfold readGood; rw [hd.st]; rfl
    by_cases hlt : (readZ s).1.1 < s.size
    · exact rest m hf hlt (h1 hlt) hg
    · have he : (readZ s).1.1 = s.size := by omega
      rw [he, take_all] at hf
      rw [readFrom_some (n := 0) hf]
      simp only
      rw [h2 he]
      unfold scanD; rw [if_neg h, hg]; simp; omega
  · have hf := ho.sync.fd
    have hop : m.op = [] := ho.op
    by_cases hlt : (readZ s).1.1 < s.size
    · have hg : readGood s = false := by unfold readGood; rw [ho.sync.ns]; simp; omega
      refine rest m hf hlt ?_ hg
      rw [← ho.sync.apk, byte_115 ho.st]
      rcases hpk with e | e
      · rw [e]; unfold startStep; rw [if_neg (by decide), if_neg (by decide), if_neg (by decide), if_neg (by omega)]
      · rw [e]; unfold startStep; rw [if_neg (by decide), if_neg (by decide), if_neg (by decide), if_neg (by rw [hop]; simp)]
    · have hg : readGood s = true := by unfold readGood; rw [ho.sync.ns]; simp; omega
      have he : (readZ s).1.1 = s.size := by have := ho.sync.le; omega
      rw [he, take_all] at hf
      rw [readFrom_some (n := 0) hf]
      have hdn : isDone m = true := by unfold isDone; rw [ho.st, hop]; rfl
      simp only
      rw [hdn]
      unfold scanD; rw [if_neg h, hg, ho.cor.len]; rfl

end Go.Proofs.Ytadhimimdmoodaa
