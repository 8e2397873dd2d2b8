import Derived.Test.YtffajooegiempaaGreatDoorJ25
namespace Go.Proofs.YtffajooegiempaaGreatDoor
variable {s : ByteArray} {d : Nat × Bool} {m m' : Rd}

theorem rHead_val {x x1 : Ds} {d1 : Nat × Bool} {dp : Int} {y : Ds × (Nat × Bool)} (ek : rKind s d x dp = (x1, d1)) (h0 : x1.kind = 0) (hy : y = rValue s (nd s d1 61) x1) (hb : blocksOf y.1.kind = 0) : rHead s d x dp = (y.1, nd s y.2 59) := by
  unfold rHead
  rw [ek]
  have e : (if x1.kind = 0 then rValue s (nd s d1 61) x1 else rCond s d1 x1) = y := by rw [if_pos h0, hy]
  show (if blocksOf (if x1.kind = 0 then rValue s (nd s d1 61) x1 else rCond s d1 x1).1.kind = 0 then ((if x1.kind = 0 then rValue s (nd s d1 61) x1 else rCond s d1 x1).1, nd s (if x1.kind = 0 then rValue s (nd s d1 61) x1 else rCond s d1 x1).2 59) else (if x1.kind = 0 then rValue s (nd s d1 61) x1 else rCond s d1 x1)) = _
  rw [e, if_pos hb]
theorem rHead_cond {x x1 : Ds} {d1 : Nat × Bool} {dp : Int} {y : Ds × (Nat × Bool)} (ek : rKind s d x dp = (x1, d1)) (h0 : x1.kind ≠ 0) (hy : y = rCond s d1 x1) : rHead s d x dp = if blocksOf y.1.kind = 0 then (y.1, nd s y.2 59) else y := by
  unfold rHead
  rw [ek]
  have e : (if x1.kind = 0 then rValue s (nd s d1 61) x1 else rCond s d1 x1) = y := by rw [if_neg h0, hy]
  show (if blocksOf (if x1.kind = 0 then rValue s (nd s d1 61) x1 else rCond s d1 x1).1.kind = 0 then ((if x1.kind = 0 then rValue s (nd s d1 61) x1 else rCond s d1 x1).1, nd s (if x1.kind = 0 then rValue s (nd s d1 61) x1 else rCond s d1 x1).2 59) else (if x1.kind = 0 then rValue s (nd s d1 61) x1 else rCond s d1 x1)) = _
  rw [e]

theorem stmt_says {n : Nat} (H : Says s n) {z : Zt} (p b dp : Int) (h : Sync s z.1 m) (hs : m.state = 115) (hdp : (m.op.length : Int) = dp) (hc : CorL z.2 m.st) (hm : Mz z ≤ n) (h0 : pk s z.1 ≠ 0) (h125 : pk s z.1 ≠ 125) :
    Dead s (rStmtWith s (rStmts s n) p b dp z).1 ∨ ∃ m1, Out s z m (rStmtWith s (rStmts s n) p b dp z) m1 ∧ ∃ f, StmOk (rStmtWith s (rStmts s n) p b dp z).2 m1.st (Blk (rStmtWith s (rStmts s n) p b dp z).2 m1.st f) p b z.2.length (rStmtWith s (rStmts s n) p b dp z).2.length := by
  have hl := hc.len
  have hlen := h.aok.len
  have hb := byte_115 hs (pk s z.1)
  have hlt := (pk_lt rfl h0).1
  have dead0 : byteStep m (pk s z.1) = none → Dead s (stk z.1) := fun hn => h.adead hn (fun e => absurd hlt (by omega))
  by_cases h20 : 20 ≤ z.2.length
  · left
    have e : rStmtWith s (rStmts s n) p b dp z = (stk z.1, z.2) := if_pos h20
    rw [e]
    exact dead0 (by rw [hb]; exact start_full (by omega) h125)
  have hne : m.st.length ≠ 20 := by omega
  by_cases h33 : pk s z.1 = 33
  · have hst : startStep m (pk s z.1) = some (begun0 m 33 0 99) := by unfold startStep; rw [h33, if_neg (by decide), if_neg (by decide), if_pos rfl, begin_yes hne]
    rw [hst] at hb
    have h1 := h.aadv h0 hb
    have hcond := h1.cond rfl (.inl (by rw [cur_begun]; rfl)) { newDs p b with kind := 1 } (by rw [cur_begun]; exact ⟨rfl, rfl, rfl, rfl⟩) (by rw [cur_begun]; rfl)
    have hsame := rCond_same s (adv z.1) { newDs p b with kind := 1 }
    have hbh : behindOf (begun0 m 33 0 99) = 59 := by unfold behindOf; rw [cur_begun]; rfl
    have hopA : opAft (begun0 m 33 0 99) = m.op := by unfold opAft; rw [cur_begun]; rfl
    rw [hbh] at hcond
    obtain ⟨y, hy⟩ : ∃ y, y = rCond s (adv z.1) { newDs p b with kind := 1 } := ⟨_, rfl⟩
    rw [← hy] at hcond hsame
    have hh : rHead s z.1 (newDs p b) dp = (y.1, nd s y.2 59) := by
      have ek : rKind s z.1 (newDs p b) dp = ({ newDs p b with kind := 1 }, adv z.1) := if_pos h33
      exact (rHead_cond ek (by show (1 : Int) ≠ 0; decide) hy).trans (if_pos (by rw [hsame.1]; show blocksOf 1 = 0; decide))
    refine simple_says (u := { u0 m 33 0 with star := y.1.any, sg := y.1.sg, num := y.1.num }) hc h20 hh (.inr hsame.1) ⟨hsame.2.2.1, hsame.2.2.2⟩ ⟨by rw [hsame.1]; rfl, by rw [hsame.2.1]; rfl, rfl, rfl, rfl⟩ rfl ?_
    refine hcond.mono ?_
    rintro w - ⟨a, b', c⟩
    rw [cur_begun, setCur_begun] at b'
    exact ⟨a, c.trans hopA, b'⟩
  by_cases hq : pk s z.1 = 63 ∨ pk s z.1 = 64
  · obtain ⟨kk, hkk⟩ : ∃ kk : Int, (kk = 2 ∧ pk s z.1 = 63) ∨ (kk = 3 ∧ pk s z.1 = 64) := by
      rcases hq with e | e
      · exact ⟨2, .inl ⟨rfl, e⟩⟩
      · exact ⟨3, .inr ⟨rfl, e⟩⟩
    have ek : rKind s z.1 (newDs p b) dp = ({ newDs p b with kind := kk }, if 4 ≤ dp then stk z.1 else adv z.1) := by
      unfold rKind; rw [if_neg h33]
      rcases hkk with ⟨rfl, e⟩ | ⟨rfl, e⟩
      · rw [if_pos e]
      · rw [if_neg (by omega), if_pos e]
    have hkb : blocksOf kk ≠ 0 ∧ kk ≠ 0 := by rcases hkk with ⟨rfl, _⟩ | ⟨rfl, _⟩ <;> decide
    by_cases h4 : m.op.length < 4
    · have hst : startStep m (pk s z.1) = some (begun0 m (pk s z.1) 0 99) := by unfold startStep; rw [if_neg (by omega), if_pos hq, if_pos h4, begin_yes hne]
      rw [hst] at hb
      have h1 := h.aadv h0 hb
      have hcond := h1.cond rfl (.inr (by show m.op.length ≠ 4; omega)) { newDs p b with kind := kk } (by rw [cur_begun]; exact ⟨rfl, rfl, rfl, rfl⟩) (by rw [cur_begun]; rfl)
      have hsame := rCond_same s (adv z.1) { newDs p b with kind := kk }
      have hn33 : ¬ (cur (begun0 m (pk s z.1) 0 99)).kind = 33 := by rw [cur_begun]; exact h33
      have hbh : behindOf (begun0 m (pk s z.1) 0 99) = 123 := if_neg hn33
      have hopA : opAft (begun0 m (pk s z.1) 0 99) = m.op ++ [⟨m.st.length, false⟩] := by
        unfold opAft; rw [if_neg hn33]; show m.op ++ [⟨(m.st ++ [u0 m (pk s z.1) 0]).length - 1, false⟩] = _; simp
      rw [hbh] at hcond
      obtain ⟨y, hy⟩ : ∃ y, y = rCond s (adv z.1) { newDs p b with kind := kk } := ⟨_, rfl⟩
      rw [← hy] at hcond hsame
      have hh : rHead s z.1 (newDs p b) dp = (y.1, y.2) := by
        rw [if_neg (by omega)] at ek
        exact (rHead_cond ek hkb.2 hy).trans (if_neg (by rw [hsame.1]; exact hkb.1))
      refine blocks_says H (u := { u0 m (pk s z.1) 0 with star := y.1.any, sg := y.1.sg, num := y.1.num }) h.ns hm hdp hc h20 hh (by rw [hsame.1]; exact hkk.elim (fun e => .inl e.1) (fun e => .inr e.1)) ⟨hsame.2.2.1, hsame.2.2.2⟩ ⟨?_, by rw [hsame.2.1]; rfl, rfl, rfl, rfl⟩ ?_
      · show pk s z.1 = kindOf y.1.kind
        rw [hsame.1]
        rcases hkk with ⟨rfl, e⟩ | ⟨rfl, e⟩ <;> rw [e] <;> rfl
      · refine hcond.mono ?_
        rintro w - ⟨a, b', c⟩
        rw [cur_begun, setCur_begun] at b'
        exact ⟨a, c.trans hopA, b'⟩
    · left
      have hst : startStep m (pk s z.1) = none := by unfold startStep; rw [if_neg (by omega), if_pos hq, if_neg h4]
      have hd := dead0 (by rw [hb]; exact hst)
      have hh : (rHead s z.1 (newDs p b) dp).2 = stk z.1 := by
        rw [if_pos (by omega)] at ek
        rw [(rHead_cond ek hkb.2 rfl).trans (if_neg (by rw [(rCond_same s (stk z.1) { newDs p b with kind := kk }).1]; exact hkb.1))]
        exact hd.dCond _
      have e : (rStmtWith s (rStmts s n) p b dp z).1 = stk z.1 := by unfold rStmtWith; rw [if_neg h20, hh]; rfl
      rw [e]; exact hd
  by_cases hv : 97 ≤ pk s z.1 ∧ pk s z.1 ≤ 100
  · have hst : startStep m (pk s z.1) = some (begun0 m 61 (pk s z.1 - 97) 61) := by unfold startStep; rw [if_pos hv, begin_yes hne]
    rw [hst] at hb
    have h1 := h.aadv h0 hb
    have ev : rVar s z.1 (-1) = (pk s z.1 - 97, adv z.1) := by unfold rVar; rw [varOf_pos hv, if_neg (by omega)]
    have ek : rKind s z.1 (newDs p b) dp = ({ newDs p b with kind := 0, target := pk s z.1 - 97 }, adv z.1) := by
      unfold rKind; rw [if_neg h33, if_neg (fun e => hq (.inl e)), if_neg (fun e => hq (.inr e)), ev]
    obtain ⟨y, hy⟩ : ∃ y, y = rValue s (nd s (adv z.1) 61) { newDs p b with kind := 0, target := pk s z.1 - 97 } := ⟨_, rfl⟩
    have hsame := rValue_same s (nd s (adv z.1) 61) { newDs p b with kind := 0, target := pk s z.1 - 97 }
    rw [← hy] at hsame
    have hh : rHead s z.1 (newDs p b) dp = (y.1, nd s y.2 59) := by
      exact rHead_val ek rfl hy (by rw [hsame.1]; show blocksOf 0 = 0; decide)
    refine simple_says (u := { u0 m 61 (pk s z.1 - 97) with star := y.1.any, sg := y.1.sg, num := y.1.num }) hc h20 hh (.inl hsame.1) ⟨hsame.2.2.1, hsame.2.2.2⟩ ⟨by rw [hsame.1]; rfl, by rw [hsame.2.1]; rfl, rfl, rfl, rfl⟩ rfl ?_
    rcases h1.aneed (c := 61) (m' := { begun0 m 61 (pk s z.1 - 97) 61 with state := 118 }) (by decide) (fun e => by rw [byte_61 rfl, if_pos rfl]) (fun e => by rw [byte_61 rfl, if_neg e]) (notDone (by decide : (61 : Int) ≠ 115)) with hd | ⟨m2, h2, e2⟩
    · have e : y.2 = nd s (adv z.1) 61 := by rw [hy]; exact hd.dValue _
      rw [e, hd.dnd (by decide)]
      exact .inl hd
    · have ec : cur m2 = u0 m 61 (pk s z.1 - 97) := by rw [e2]; exact cur_begun 61 _ 61
      have hval := h2.value (by rw [e2]) (by rw [ec]; rfl) { newDs p b with kind := 0, target := pk s z.1 - 97 } (by rw [ec]; exact ⟨rfl, rfl, rfl, rfl⟩)
      rw [← hy] at hval
      refine hval.mono ?_
      rintro w - ⟨a, b', c⟩
      refine ⟨a, b'.trans (by rw [e2]; rfl), c.trans ?_⟩
      rw [ec, e2]
      exact setCur_begun 61 _ 61 _
  · left
    have hst : startStep m (pk s z.1) = none := by unfold startStep; rw [if_neg hv, if_neg hq, if_neg h33, if_neg (fun e => h125 e.1)]
    have hd := dead0 (by rw [hb]; exact hst)
    have ev : rVar s z.1 (-1) = (0, stk z.1) := by unfold rVar; rw [if_pos (.inl (varOf_neg hv))]
    have ek : rKind s z.1 (newDs p b) dp = ({ newDs p b with kind := 0, target := 0 }, stk z.1) := by
      unfold rKind; rw [if_neg h33, if_neg (fun e => hq (.inl e)), if_neg (fun e => hq (.inr e)), ev]
    have hh : (rHead s z.1 (newDs p b) dp).2 = stk z.1 := by
      rw [rHead_val ek rfl rfl (by rw [(rValue_same s (nd s (stk z.1) 61) { newDs p b with kind := 0, target := 0 }).1]; show blocksOf 0 = 0; decide)]
      show nd s (rValue s (nd s (stk z.1) 61) _).2 59 = _
      rw [hd.dnd (by decide), hd.dValue, hd.dnd (by decide)]
    have e : (rStmtWith s (rStmts s n) p b dp z).1 = stk z.1 := by unfold rStmtWith; rw [if_neg h20, hh]; rfl
    rw [e]; exact hd

theorem says_all (s : ByteArray) (n : Nat) : Says s n := by
  induction n with
  | zero => intro p b dp z m _ _ _ _ hm; omega
  | succ n ih =>
    intro p b dp z m h hs hdp hc hm
    by_cases he : pk s z.1 = 0 ∨ pk s z.1 = 125
    · right
      have e : rStmts s (n + 1) p b dp z = z := by unfold rStmts; rw [if_pos he]
      rw [e]
      exact ⟨m, ⟨h, hs, rfl, hc, Pre.refl _, Pre.refl _, Nat.le_refl _⟩, ⟨0, rfl⟩, he⟩
    · have e : rStmts s (n + 1) p b dp z = rStmts s n p b dp (rStmtWith s (rStmts s n) p b dp z) := by rw [rStmts, if_neg he]
      have hzok : Zok s z := ⟨h.le, by rw [hc.len]; exact h.aok.len⟩
      have hMd := Mz_stmt (rStmts s n) (rStmts_goes s n) p b dp hzok h.ns
      rw [e]
      rcases stmt_says ih p b dp h hs hdp hc (by omega) (fun e => he (.inl e)) (fun e => he (.inr e)) with hd | ⟨m1, ho, f1, hst⟩
      · left; rw [hd.dStmts]; exact hd
      obtain ⟨y, hy⟩ : ∃ y, y = rStmtWith s (rStmts s n) p b dp z := ⟨_, rfl⟩
      rw [← hy] at ho hst hMd ⊢
      rcases ih p b dp y m1 ho.sync ho.st (by rw [ho.op]; exact hdp) ho.cor (by omega) with hd | ⟨m2, ho2, ⟨f2, hf2⟩, hpk⟩
      · left; exact hd
      · right
        have hlen1 := ho.cor.len
        refine ⟨m2, ⟨ho2.sync, ho2.st, ho2.op.trans ho.op, ho2.cor, ho.preF.trans ho2.preF ho.len, ho.preS.trans ho2.preS (by rw [← hlen1, ← hc.len]; exact ho.len), Nat.le_trans ho.len ho2.len⟩, ⟨f1 + f2 + 1, .inr ⟨y.2.length, ho2.len, ?_, ?_⟩⟩, hpk⟩
        · have hlt := hst.lt
          refine hst.into (ho2.preF _ hlt) (ho2.preS _ (by rw [← hlen1]; exact hlt)) (fun _ _ i j hi hij hj hR => ?_)
          exact (Blk.keep hR (fun k h1 h2 => ho2.preF k (by omega)) (fun k h1 h2 => ho2.preS k (by rw [← hlen1]; omega))).more f2
        · rw [Nat.add_comm f1 f2]; exact hf2.more f1

/-- What is read of the whole text. -/
theorem read_says (s : ByteArray) : Dead s (readZ s).1 ∨ ∃ m, Out s ((0, false), []) init (readZ s) m ∧ (∃ f, Blk (readZ s).2 m.st f (-1) 0 0 (readZ s).2.length) ∧ (pk s (readZ s).1 = 0 ∨ pk s (readZ s).1 = 125) :=
  says_all s 22 (-1) 0 0 ((0, false), []) init ⟨rfl, Nat.zero_le _, rfl⟩ rfl rfl ⟨rfl, fun i x u h => by simp at h⟩ (by decide)

theorem take_all (s : ByteArray) : (bytesOf s).take s.size = bytesOf s := List.take_of_length_le (by rw [bytesOf_len]; exact Nat.le_refl _)
theorem getD_get {s : ByteArray} {k : Nat} (h : k < s.size) : (bytesOf s)[k]? = some ((bytesOf s).getD k 0) := by rw [List.getD_eq_getElem?_getD, bytesOf_get s k h]; rfl

/-- Both Scans answer the same. -/
theorem scan_same (s : ByteArray) : scanD s = scanOf (bytesOf s) := by
  have hl := bytesOf_len s
  by_cases h : 160 < s.size
  · unfold scanD scanOf; rw [if_pos h, if_pos (by omega)]
  have hof : ∀ x, scanOf (bytesOf s) = x ↔ (match readFrom init (bytesOf s) 0 with
    | (n, none) => (0, 1, n)
    | (n, some m) => if isDone m then ((m.st.length : Int) + 1, 0, 0) else (0, 1, n)) = x := by intro x; unfold scanOf; rw [if_neg (by omega)]; exact Iff.rfl
  symm
  rw [hof]
  have rest : ∀ (m : Rd), feed init ((bytesOf s).take (readZ s).1.1) = some m → (readZ s).1.1 < s.size → byteStep m ((bytesOf s).getD (readZ s).1.1 0) = none → readGood s = false → (match readFrom init (bytesOf s) 0 with
    | (n, none) => (0, 1, (n : Int))
    | (n, some m) => if isDone m then ((m.st.length : Int) + 1, 0, 0) else (0, 1, n)) = scanD s := by
    intro m hf hlt hb hg
    rw [readFrom_none (n := 0) hf (getD_get hlt) hb]
    unfold scanD; rw [if_neg h, hg]; simp
  rcases read_says s with hd | ⟨m, ho, _, hpk⟩
  · obtain ⟨m, hf, hle, h1, h2⟩ := hd.ex
    have hg : readGood s = false := by unfold readGood; rw [hd.st]; rfl
    by_cases hlt : (readZ s).1.1 < s.size
    · exact rest m hf hlt (h1 hlt) hg
    · have he : (readZ s).1.1 = s.size := by omega
      rw [he, take_all] at hf
      rw [readFrom_some (n := 0) hf]
      simp only
      rw [h2 he]
      unfold scanD; rw [if_neg h, hg]; simp; omega
  · have hf := ho.sync.fd
    have hop : m.op = [] := ho.op
    by_cases hlt : (readZ s).1.1 < s.size
    · have hg : readGood s = false := by unfold readGood; rw [ho.sync.ns]; simp; omega
      refine rest m hf hlt ?_ hg
      rw [← ho.sync.apk, byte_115 ho.st]
      rcases hpk with e | e
      · rw [e]; unfold startStep; rw [if_neg (by decide), if_neg (by decide), if_neg (by decide), if_neg (by omega)]
      · rw [e]; unfold startStep; rw [if_neg (by decide), if_neg (by decide), if_neg (by decide), if_neg (by rw [hop]; simp)]
    · have hg : readGood s = true := by unfold readGood; rw [ho.sync.ns]; simp; omega
      have he : (readZ s).1.1 = s.size := by have := ho.sync.le; omega
      rw [he, take_all] at hf
      rw [readFrom_some (n := 0) hf]
      have hdn : isDone m = true := by unfold isDone; rw [ho.st, hop]; rfl
      simp only
      rw [hdn]
      unfold scanD; rw [if_neg h, hg, ho.cor.len]; rfl

end Go.Proofs.YtffajooegiempaaGreatDoor

/- What follows a statement: the program's way and the document's. No Go in here. -/
namespace Go.Proofs.YtffajooegiempaaGreatDoor

variable {F : List Ds} {S : List St}

/-- Whose parents lie where. -/
theorem Blk.par {f : Nat} : ∀ {p b : Int} {a c : Nat}, Blk F S f p b a c → ∀ j, a ≤ j → j < c → ∃ x, F[j]? = some x ∧ ((x.parent = p ∧ x.block = b) ∨ ((a : Int) ≤ x.parent ∧ x.parent < j)) := by
  induction f with
  | zero => intro p b a c h j h1 h2; have h' : a = c := h; omega
  | succ f ih =>
    intro p b a c h j h1 h2
    rcases h with h | ⟨e, he, hs, hr⟩
    · omega
    · obtain ⟨x, u, hx, hu, hp, hb, hf, hae, hk⟩ := hs
      by_cases hj : j = a
      · subst hj; exact ⟨x, hx, .inl ⟨hp, hb⟩⟩
      · by_cases hje : j < e
        · rcases hk with ⟨_, hk⟩ | ⟨_, hk⟩ | ⟨_, q1, q2, hk1, hk2⟩
          · omega
          · obtain ⟨y, hy, h3⟩ := ih hk j (by omega) hje
            refine ⟨y, hy, .inr ?_⟩
            rcases h3 with ⟨h3, _⟩ | h3 <;> omega
          · by_cases hjq : j < u.mid
            · obtain ⟨y, hy, h3⟩ := ih hk1 j (by omega) hjq
              refine ⟨y, hy, .inr ?_⟩
              rcases h3 with ⟨h3, _⟩ | h3 <;> omega
            · obtain ⟨y, hy, h3⟩ := ih hk2 j (by omega) hje
              refine ⟨y, hy, .inr ?_⟩
              rcases h3 with ⟨h3, _⟩ | h3 <;> omega
        · obtain ⟨y, hy, h3⟩ := ih hr j (by omega) h2
          refine ⟨y, hy, ?_⟩
          rcases h3 with h3 | h3
          · exact .inl h3
          · exact .inr (by omega)

/-- No statement ends behind its block. -/
theorem Blk.fins {f : Nat} : ∀ {p b : Int} {a c : Nat}, Blk F S f p b a c → ∀ j, a ≤ j → j < c → ∃ u, S[j]? = some u ∧ j < u.fin ∧ u.fin ≤ c := by
  induction f with
  | zero => intro p b a c h j h1 h2; have h' : a = c := h; omega
  | succ f ih =>
    intro p b a c h j h1 h2
    rcases h with h | ⟨e, he, hs, hr⟩
    · omega
    · obtain ⟨x, u, hx, hu, hp, hb, hf, hae, hk⟩ := hs
      by_cases hj : j = a
      · subst hj; exact ⟨u, hu, by omega, by omega⟩
      · by_cases hje : j < e
        · rcases hk with ⟨_, hk⟩ | ⟨_, hk⟩ | ⟨_, q1, q2, hk1, hk2⟩
          · omega
          · obtain ⟨v, hv, h3, h4⟩ := ih hk j (by omega) hje
            exact ⟨v, hv, h3, by omega⟩
          · by_cases hjq : j < u.mid
            · obtain ⟨v, hv, h3, h4⟩ := ih hk1 j (by omega) hjq
              exact ⟨v, hv, h3, by omega⟩
            · obtain ⟨v, hv, h3, h4⟩ := ih hk2 j (by omega) hje
              exact ⟨v, hv, h3, by omega⟩
        · exact ih hr j (by omega) h2

/-- A statement of the block itself: those ahead of it end there at the latest; from it on the block goes on. -/
theorem Blk.at_ {f : Nat} : ∀ {p b : Int} {a c : Nat}, Blk F S f p b a c → p < a → ∀ i x, a ≤ i → i < c → F[i]? = some x → x.parent = p → (∀ k, a ≤ k → k < i → ∃ u, S[k]? = some u ∧ u.fin ≤ i) ∧ ∃ g e, e ≤ c ∧ StmOk F S (Blk F S g) p b i e ∧ Blk F S g p b e c := by
  induction f with
  | zero => intro p b a c h _ i x h1 h2; have h' : a = c := h; omega
  | succ f ih =>
    intro p b a c h hpa i x h1 h2 hx hp
    rcases h with h | ⟨e, he, hs, hr⟩
    · omega
    · have hae := hs.lt
      by_cases hi : i = a
      · subst hi
        exact ⟨fun k h3 h4 => by omega, f, e, he, hs, hr⟩
      · have hall : Blk F S (f + 1) p b a c := .inr ⟨e, he, hs, hr⟩
        have hone : Blk F S (f + 1) p b a e := .inr ⟨e, Nat.le_refl _, hs, by cases f with | zero => exact rfl | succ f => exact .inl rfl⟩
        by_cases hie : i < e
        · exfalso
          obtain ⟨y, u, hy, hu, hp', hb', hf, hae', hk⟩ := hs
          have inner : ∀ (b : Int) (a1 c1 : Nat), a + 1 ≤ a1 → Blk F S f a b a1 c1 → a1 ≤ i → i < c1 → False := by
            intro b a1 c1 ha1 hB h3 h4
            obtain ⟨z, hz, h5⟩ := hB.par i h3 h4
            rw [hx] at hz
            cases hz
            rcases h5 with ⟨h5, _⟩ | h5 <;> omega
          rcases hk with ⟨_, hk⟩ | ⟨_, hk⟩ | ⟨_, q1, q2, hk1, hk2⟩
          · omega
          · exact inner _ _ _ (by omega) hk (by omega) hie
          · by_cases hjq : i < u.mid
            · exact inner _ _ _ (by omega) hk1 (by omega) hjq
            · exact inner _ _ _ (by omega) hk2 (by omega) hie
        · obtain ⟨h3, h4⟩ := ih hr (by omega) i x (by omega) h2 hx hp
          refine ⟨fun k hk1 hk2 => ?_, h4⟩
          by_cases hke : k < e
          · obtain ⟨v, hv, _, h6⟩ := hone.fins k hk1 hke
            exact ⟨v, hv, by omega⟩
          · exact h3 k (by omega) hk2

/-- Where the block of a statement begins and ends. -/
def Ctx (F : List Ds) (S : List St) (p b : Int) (a c : Nat) : Prop :=
  (p = -1 ∧ b = 0 ∧ a = 0 ∧ c = F.length) ∨ ∃ (q : Nat) (x : Ds) (u : St), p = q ∧ F[q]? = some x ∧ S[q]? = some u ∧
    ((x.kind = 3 ∧ b = 0 ∧ a = q + 1 ∧ c = u.fin) ∨ (x.kind = 2 ∧ b = 0 ∧ a = q + 1 ∧ c = u.mid ∧ u.mid ≤ u.fin) ∨ (x.kind = 2 ∧ b = 1 ∧ a = u.mid ∧ c = u.fin ∧ q + 1 ≤ u.mid))

theorem Ctx.lt {p b : Int} {a c : Nat} (h : Ctx F S p b a c) : p < a := by
  rcases h with ⟨h1, _, h3, _⟩ | ⟨q, x, u, h1, _, _, h2⟩
  · omega
  · rcases h2 with h2 | h2 | h2 <;> omega

/-- Each statement stands in a block. -/
theorem Blk.pos {f : Nat} : ∀ {p b : Int} {a c : Nat}, Blk F S f p b a c → (∃ a0, a0 ≤ a ∧ Ctx F S p b a0 c ∧ ∃ g, Blk F S g p b a0 c) → ∀ i, a ≤ i → i < c → ∃ x a0 c0, F[i]? = some x ∧ a0 ≤ i ∧ i < c0 ∧ Ctx F S x.parent x.block a0 c0 ∧ ∃ g, Blk F S g x.parent x.block a0 c0 := by
  induction f with
  | zero => intro p b a c h _ i h1 h2; have h' : a = c := h; omega
  | succ f ih =>
    intro p b a c h hctx i h1 h2
    obtain ⟨a0, ha0, hC, g, hg⟩ := hctx
    rcases h with h | ⟨e, he, hs, hr⟩
    · omega
    · obtain ⟨x, u, hx, hu, hp, hb, hf, hae, hk⟩ := hs
      by_cases hi : i = a
      · subst hi
        exact ⟨x, a0, c, hx, ha0, h2, by rw [hp, hb]; exact hC, g, by rw [hp, hb]; exact hg⟩
      · by_cases hie : i < e
        · rcases hk with ⟨_, hk⟩ | ⟨k3, hk⟩ | ⟨k2, q1, q2, hk1, hk2⟩
          · omega
          · exact ih hk ⟨a + 1, Nat.le_refl _, .inr ⟨a, x, u, rfl, hx, hu, .inl ⟨k3, rfl, rfl, hf.symm⟩⟩, f, hk⟩ i (by omega) hie
          · by_cases hiq : i < u.mid
            · exact ih hk1 ⟨a + 1, Nat.le_refl _, .inr ⟨a, x, u, rfl, hx, hu, .inr (.inl ⟨k2, rfl, rfl, rfl, by omega⟩)⟩, f, hk1⟩ i (by omega) hiq
            · exact ih hk2 ⟨u.mid, Nat.le_refl _, .inr ⟨a, x, u, rfl, hx, hu, .inr (.inr ⟨k2, rfl, rfl, hf.symm, by omega⟩)⟩, f, hk2⟩ i (by omega) hie
        · exact ih hr ⟨a0, by omega, hC, g, hg⟩ i (by omega) h2

/-- The whole program. -/
def Whole (F : List Ds) (S : List St) : Prop := CorL F S ∧ ∃ f, Blk F S f (-1) 0 0 F.length

theorem Whole.pos (h : Whole F S) (i : Nat) (hi : i < F.length) : ∃ x a0 c0, F[i]? = some x ∧ a0 ≤ i ∧ i < c0 ∧ Ctx F S x.parent x.block a0 c0 ∧ ∃ g, Blk F S g x.parent x.block a0 c0 := by
  obtain ⟨_, f, hf⟩ := h
  exact hf.pos ⟨0, Nat.le_refl _, .inl ⟨rfl, rfl, rfl, rfl⟩, f, hf⟩ i (Nat.zero_le _) hi

end Go.Proofs.YtffajooegiempaaGreatDoor

namespace Go.Proofs.YtffajooegiempaaGreatDoor

variable {F : List Ds} {S : List St}

theorem getD_some {α : Type} {l : List α} {i : Nat} {x d : α} (h : l[i]? = some x) : l.getD i d = x := by rw [List.getD_eq_getElem?_getD, h]; rfl

theorem firstGo_hit {p b fr : Int} : ∀ (l : List Ds) (i j : Nat) (x : Ds), l[j]? = some x → fr ≤ ((i + j : Nat) : Int) → x.parent = p → x.block = b → (∀ k y, k < j → l[k]? = some y → fr ≤ ((i + k : Nat) : Int) → ¬ (y.parent = p ∧ y.block = b)) → firstGo p b fr l i = ((i + j : Nat) : Int) := by
  intro l
  induction l with
  | nil => intro i j x h; simp at h
  | cons y l ih =>
    intro i j x h hf hp hb hno
    cases j with
    | zero =>
      simp at h
      subst h
      simp only [firstGo]
      rw [if_pos ⟨by simpa using hf, hp, hb⟩]; rfl
    | succ j =>
      simp only [firstGo]
      rw [if_neg (by
        rintro ⟨h1, h2⟩
        exact hno 0 y (by omega) rfl (by simpa using h1) h2)]
      rw [ih (i + 1) j x (by simpa using h) (by rw [show i + 1 + j = i + (j + 1) by omega]; exact hf) hp hb (fun k z hk hz hfk => hno (k + 1) z (by omega) (by simpa using hz) (by rw [show i + (k + 1) = i + 1 + k by omega]; exact hfk))]
      rw [show i + 1 + j = i + (j + 1) by omega]
theorem firstGo_miss {p b fr : Int} : ∀ (l : List Ds) (i : Nat), (∀ k y, l[k]? = some y → fr ≤ ((i + k : Nat) : Int) → ¬ (y.parent = p ∧ y.block = b)) → firstGo p b fr l i = -1 := by
  intro l
  induction l with
  | nil => intro i _; rfl
  | cons y l ih =>
    intro i hno
    simp only [firstGo]
    rw [if_neg (by
      rintro ⟨h1, h2⟩
      exact hno 0 y rfl (by simpa using h1) h2)]
    exact ih (i + 1) (fun k z hz hfk => hno (k + 1) z (by simpa using hz) (by rw [show i + (k + 1) = i + 1 + k by omega]; exact hfk))

theorem lastOpen_hit {i q : Nat} : ∀ (k : Nat), q < k → i < (S.getD q noSt).fin → (∀ j, q < j → j < k → (S.getD j noSt).fin ≤ i) → lastOpen S i k = q := by
  intro k
  induction k with
  | zero => intro h; omega
  | succ k ih =>
    intro h1 h2 h3
    unfold lastOpen
    by_cases e : q = k
    · subst e; rw [if_pos h2]
    · rw [if_neg (by have := h3 k (by omega) (by omega); omega)]
      exact ih (by omega) h2 (fun j hj hjk => h3 j hj (by omega))
theorem lastOpen_miss {i : Nat} : ∀ (k : Nat), (∀ j, j < k → (S.getD j noSt).fin ≤ i) → lastOpen S i k = -1 := by
  intro k
  induction k with
  | zero => intro _; rfl
  | succ k ih =>
    intro h
    unfold lastOpen
    rw [if_neg (by have := h k (by omega); omega)]
    exact ih (fun j hj => h j (by omega))

theorem StmOk.par {g : Nat} {p b : Int} {a e : Nat} (h : StmOk F S (Blk F S g) p b a e) (j : Nat) (h1 : a < j) (h2 : j < e) : ∃ x, F[j]? = some x ∧ (a : Int) ≤ x.parent := by
  obtain ⟨x, u, hx, hu, hp, hb, hf, hae, hk⟩ := h
  rcases hk with ⟨_, hk⟩ | ⟨_, hk⟩ | ⟨_, q1, q2, hk1, hk2⟩
  · omega
  · obtain ⟨y, hy, h3⟩ := hk.par j (by omega) h2
    exact ⟨y, hy, by rcases h3 with ⟨h3, _⟩ | h3 <;> omega⟩
  · by_cases hjq : j < u.mid
    · obtain ⟨y, hy, h3⟩ := hk1.par j (by omega) hjq
      exact ⟨y, hy, by rcases h3 with ⟨h3, _⟩ | h3 <;> omega⟩
    · obtain ⟨y, hy, h3⟩ := hk2.par j (by omega) h2
      exact ⟨y, hy, by rcases h3 with ⟨h3, _⟩ | h3 <;> omega⟩

theorem Ctx.det {p b : Int} {a c a' c' : Nat} (h : Ctx F S p b a c) (k : Ctx F S p b a' c') : a = a' ∧ c = c' := by
  rcases h with ⟨h1, h2, h3, h4⟩ | ⟨q, x, u, h1, hx, hu, h2⟩
  · rcases k with ⟨k1, k2, k3, k4⟩ | ⟨q', x', u', k1, kx, ku, k2⟩
    · exact ⟨by omega, by omega⟩
    · omega
  · rcases k with ⟨k1, k2, k3, k4⟩ | ⟨q', x', u', k1, kx, ku, k2⟩
    · omega
    · have e : q = q' := by omega
      subst e
      rw [hx] at kx
      rw [hu] at ku
      cases kx
      cases ku
      rcases h2 with h2 | h2 | h2 <;> rcases k2 with k2 | k2 | k2 <;> omega

/-- All that is known of one statement. -/
theorem Whole.at_ (h : Whole F S) (i : Nat) (hi : i < F.length) : ∃ x u a0 c0 g, F[i]? = some x ∧ S[i]? = some u ∧ Cor x u ∧ a0 ≤ i ∧ i < u.fin ∧ u.fin ≤ c0 ∧ Ctx F S x.parent x.block a0 c0 ∧
    StmOk F S (Blk F S g) x.parent x.block i u.fin ∧ Blk F S g x.parent x.block u.fin c0 ∧ (∀ k, a0 ≤ k → k < i → (S.getD k noSt).fin ≤ i) := by
  obtain ⟨x, a0, c0, hx, ha, hc, hC, g, hg⟩ := h.pos i hi
  obtain ⟨h1, g', e, he, hs, hr⟩ := hg.at_ hC.lt i x ha hc hx rfl
  obtain ⟨y, u, hy, hu, hp, hb, hf, hae, hk⟩ := hs
  rw [hx] at hy
  cases hy
  subst hf
  exact ⟨x, u, a0, c0, g', hx, hu, h.1.cor i x u hx hu, ha, hae, he, hC, ⟨x, u, hx, hu, hp, hb, rfl, hae, hk⟩, hr, fun k hk1 hk2 => by
    obtain ⟨v, hv, hvf⟩ := h1 k hk1 hk2
    rw [getD_some hv]; exact hvf⟩

/-- What comes next in the block. -/
theorem Whole.first (h : Whole F S) {i : Nat} {x : Ds} {u : St} {a0 c0 g : Nat} (_hx : F[i]? = some x) (ha : a0 ≤ i) (hfc : u.fin ≤ c0) (hif : i < u.fin) (hC : Ctx F S x.parent x.block a0 c0) (hs : StmOk F S (Blk F S g) x.parent x.block i u.fin) (hr : Blk F S g x.parent x.block u.fin c0) :
    firstP F x.parent x.block (i + 1) = if u.fin < c0 then (u.fin : Int) else -1 := by
  have hplt := hC.lt
  have hin : ∀ k y, i < k → k < u.fin → F[k]? = some y → ¬ (y.parent = x.parent ∧ y.block = x.block) := by
    rintro k y h1 h2 hy ⟨h3, _⟩
    obtain ⟨z, hz, h4⟩ := hs.par k h1 h2
    rw [hy] at hz
    cases hz
    omega
  by_cases hlt : u.fin < c0
  · rw [if_pos hlt]
    obtain ⟨y, hy, hyp⟩ : ∃ y, F[u.fin]? = some y ∧ y.parent = x.parent ∧ y.block = x.block := by
      cases g with
      | zero => have h' : u.fin = c0 := hr; omega
      | succ g =>
        rcases hr with hr | ⟨e, he, hs2, _⟩
        · omega
        · obtain ⟨y, v, hy, _, hp, hb, _⟩ := hs2
          exact ⟨y, hy, hp, hb⟩
    have := firstGo_hit (p := x.parent) (b := x.block) (fr := (i : Int) + 1) F 0 u.fin y hy (by omega) hyp.1 hyp.2 (fun k z hk hz hf => hin k z (by omega) hk hz)
    rw [Nat.zero_add] at this
    exact this
  · rw [if_neg hlt]
    refine firstGo_miss F 0 (fun k y hy hf hm => ?_)
    have hk : k < F.length := by
      rcases Nat.lt_or_ge k F.length with h' | h'
      · exact h'
      · simp [List.getElem?_eq_none h'] at hy
    obtain ⟨z, a1, c1, hz, _, hkc, hC1, _⟩ := h.pos k hk
    rw [hy] at hz
    cases hz
    rw [hm.1, hm.2] at hC1
    have := hC.det hC1
    exact hin k y (by omega) (by omega) hy hm

/-- The statement in whose block it stands. -/
theorem Whole.open_ (h : Whole F S) {i : Nat} (_hi : i < F.length) {x : Ds} {a0 c0 : Nat} (hC : Ctx F S x.parent x.block a0 c0) (hic : i < c0) (hai : a0 ≤ i) (hk : ∀ k, a0 ≤ k → k < i → (S.getD k noSt).fin ≤ i) : lastOpen S i i = x.parent := by
  rcases hC with ⟨h1, h2, h3, h4⟩ | ⟨q, y, v, h1, hy, hv, h2⟩
  · rw [h1]; exact lastOpen_miss i (fun j hj => hk j (by omega) hj)
  · rw [h1]
    have hq : q < F.length := by
      rcases Nat.lt_or_ge q F.length with h' | h'
      · exact h'
      · simp [List.getElem?_eq_none h'] at hy
    have hvD : S.getD q noSt = v := getD_some hv
    obtain ⟨y', v', a1, c1, g1, hy', hv', _, _, hq1, _, _, hs, _, _⟩ := h.at_ q hq
    rw [hy] at hy'
    rw [hv] at hv'
    cases hy'
    cases hv'
    refine lastOpen_hit i (by rcases h2 with h2 | h2 | h2 <;> omega) (by rw [hvD]; rcases h2 with h2 | h2 | h2 <;> omega) (fun j hj1 hj2 => ?_)
    by_cases hja : a0 ≤ j
    · exact hk j hja hj2
    · obtain ⟨y2, v2, hy2, hv2, _, _, _, _, hkk⟩ := hs
      rw [hy] at hy2
      rw [hv] at hv2
      cases hy2
      cases hv2
      rcases hkk with ⟨hk0, _⟩ | ⟨hk3, _⟩ | ⟨_, q1, q2, hk1, _⟩
      · rcases h2 with h2 | h2 | h2 <;> omega
      · rcases h2 with h2 | h2 | h2 <;> omega
      · have hjm : j < v.mid := by rcases h2 with h2 | h2 | h2 <;> omega
        obtain ⟨t, ht, _, htf⟩ := hk1.fins j (by omega) hjm
        rw [getD_some ht]
        rcases h2 with h2 | h2 | h2 <;> omega

theorem follow_same (h : Whole F S) : ∀ (n i : Nat), i < F.length → i < n → followP F n i = followR S n i := by
  intro n
  induction n with
  | zero => intro i _ hi; omega
  | succ n ih =>
    intro i hi hn
    obtain ⟨x, u, a0, c0, g, hx, hu, hcor, ha, hif, hfc, hC, hs, hr, hk⟩ := h.at_ i hi
    have hxD : F.getD i (newDs 0 0) = x := getD_some hx
    have huD : S.getD i noSt = u := getD_some hu
    have hfirst := h.first hx ha hfc hif hC hs hr
    have hopen := h.open_ hi hC (by omega) ha hk
    have e1 : followP F (n + 1) i = if firstP F x.parent x.block (i + 1) ≠ -1 then firstP F x.parent x.block (i + 1) else if isRepP F x.parent = true then x.parent else followP F n x.parent := by
      rw [followP, if_neg (by omega)]
      simp only [Int.toNat_natCast]
      rw [hxD]
    have e2 : followR S (n + 1) i = if x.parent < 0 then (u.fin : Int) else if u.fin < endOf (S.getD x.parent.toNat noSt) i then (u.fin : Int) else if (S.getD x.parent.toNat noSt).kind = 64 then x.parent else followR S n x.parent.toNat := by
      rw [followR, hopen, huD]
    rw [e1, e2, hfirst]
    rcases hC with ⟨h1, h2, h3, h4⟩ | ⟨q, y, v, h1, hy, hv, h2⟩
    · rw [h1, if_pos (by decide : (-1 : Int) < 0)]
      by_cases hlt : u.fin < c0
      · rw [if_pos hlt, if_pos (show ((u.fin : Int) ≠ -1) by omega)]
      · rw [if_neg hlt, if_neg (show ¬ ((-1 : Int) ≠ -1) by decide), if_neg (show ¬ (isRepP F (-1) = true) by simp [isRepP])]
        cases n with
        | zero => show (F.length : Int) = _; omega
        | succ n => rw [followP, if_pos (.inl (by decide))]; omega
    · have hyD : F.getD q (newDs 0 0) = y := getD_some hy
      have hvD : S.getD q noSt = v := getD_some hv
      have hq : q < F.length := by
        rcases Nat.lt_or_ge q F.length with h' | h'
        · exact h'
        · simp [List.getElem?_eq_none h'] at hy
      have hcor2 := h.1.cor q y v hy hv
      rw [h1, if_neg (show ¬ ((q : Int) < 0) by omega)]
      simp only [Int.toNat_natCast]
      rw [hvD]
      have hend : endOf v i = c0 := by
        unfold endOf
        rcases h2 with ⟨k3, _, _, hc⟩ | ⟨k2, _, _, hc, _⟩ | ⟨k2, _, hm, hc, _⟩
        · rw [if_neg (by rw [hcor2.1, k3]; rintro ⟨e, _⟩; exact absurd e (by decide))]; exact hc.symm
        · rw [if_pos ⟨by rw [hcor2.1, k2]; rfl, by omega⟩]; exact hc.symm
        · rw [if_neg (by omega)]; exact hc.symm
      rw [hend]
      by_cases hlt : u.fin < c0
      · rw [if_pos hlt, if_pos (show ((u.fin : Int) ≠ -1) by omega), if_pos hlt]
      · rw [if_neg hlt, if_neg (show ¬ ((-1 : Int) ≠ -1) by decide), if_neg hlt]
        have hqi : q < i := by rcases h2 with h2 | h2 | h2 <;> omega
        have hrep : isRepP F q = decide (y.kind = 3) := by
          have e : (F.getD ((q : Int)).toNat (newDs 0 0)).kind = y.kind := by rw [Int.toNat_natCast, hyD]
          unfold isRepP
          simp only [e]
          rw [decide_eq_true (show (0 : Int) ≤ q by omega), decide_eq_true (show (q : Int) < F.length by omega)]
          rfl
        have hkind : v.kind = 64 ↔ y.kind = 3 := by
          rw [hcor2.1]
          rcases h2 with h2 | h2 | h2
          · rw [h2.1]; decide
          · rw [h2.1]; decide
          · rw [h2.1]; decide
        rw [hrep]
        by_cases hk3 : y.kind = 3
        · rw [if_pos (by simp [hk3]), if_pos (hkind.2 hk3)]
        · rw [if_neg (by simp [hk3]), if_neg (fun e => hk3 (hkind.1 e))]
          exact ih q hq (by omega)

end Go.Proofs.YtffajooegiempaaGreatDoor

namespace Go.Proofs.YtffajooegiempaaGreatDoor

variable {F : List Ds} {S : List St}

theorem Whole.par (h : Whole F S) (k : Nat) (x : Ds) (hx : F[k]? = some x) : -1 ≤ x.parent ∧ x.parent < (k : Int) := by
  have hk : k < F.length := by
    rcases Nat.lt_or_ge k F.length with h' | h'
    · exact h'
    · simp [List.getElem?_eq_none h'] at hx
  obtain ⟨y, a0, c0, hy, ha, _, hC, _⟩ := h.pos k hk
  rw [hx] at hy
  cases hy
  have hlt := hC.lt
  rcases hC with ⟨h1, _⟩ | ⟨q, _, _, h1, _⟩ <;> omega

/-- The first statement of a block of statement i. -/
theorem Whole.inner (h : Whole F S) {i : Nat} {b : Int} {a c g : Nat} (hC : Ctx F S i b a c) (hB : Blk F S g i b a c) : firstP F i b ((i : Int) + 1) = if a < c then (a : Int) else -1 := by
  have hia : (i : Int) < a := hC.lt
  have hno : ∀ (k : Nat) (y : Ds), F[k]? = some y → y.parent = (i : Int) → y.block = b → a ≤ k ∧ k < c := by
    intro k y hy hp hb
    have hk : k < F.length := by
      rcases Nat.lt_or_ge k F.length with h' | h'
      · exact h'
      · simp [List.getElem?_eq_none h'] at hy
    obtain ⟨z, a1, c1, hz, h1, h2, hC1, _⟩ := h.pos k hk
    rw [hy] at hz
    cases hz
    rw [hp, hb] at hC1
    have := hC.det hC1
    omega
  by_cases hlt : a < c
  · rw [if_pos hlt]
    obtain ⟨y, hy, hyp⟩ : ∃ y, F[a]? = some y ∧ y.parent = i ∧ y.block = b := by
      cases g with
      | zero => have h' : a = c := hB; omega
      | succ g =>
        rcases hB with hB | ⟨e, he, hs2, _⟩
        · omega
        · obtain ⟨y, v, hy, _, hp, hb, _⟩ := hs2
          exact ⟨y, hy, hp, hb⟩
    have := firstGo_hit (p := i) (b := b) (fr := (i : Int) + 1) F 0 a y hy (by omega) hyp.1 hyp.2 (fun k z hk hz _ hm => by have := hno k z hz hm.1 hm.2; omega)
    rw [Nat.zero_add] at this
    exact this
  · rw [if_neg hlt]
    refine firstGo_miss F 0 (fun k y hy _ hm => ?_)
    have := hno k y hy hm.1 hm.2
    omega

/-- Where a way leads: both ways of telling. -/
theorem next_same (h : Whole F S) (hl : F.length ≤ 20) (k : Nat) (hk : k < F.length) (way : Int) :
    nextP F k way = if way < 0 ∨ waysR (S.getD k noSt) ≤ way then (0, 2) else (nextR S k way, 0) := by
  obtain ⟨x, u, a0, c0, g, hx, hu, hcor, ha, hif, hfc, hC, hs, hr, hkk⟩ := h.at_ k hk
  have hxD : F.getD k (newDs 0 0) = x := getD_some hx
  have huD : S.getD k noSt = u := getD_some hu
  have hfol := follow_same h 21 k hk (by omega)
  have e1 : nextP F k way = if way < 0 ∨ waysP x.kind ≤ way then (0, 2) else if blocksOf x.kind ≤ way then (followP F 21 k, 0) else if firstP F k way ((k : Int) + 1) ≠ -1 then (firstP F k way ((k : Int) + 1), 0) else if x.kind = 3 then ((k : Int), 0) else (followP F 21 k, 0) := by
    unfold nextP
    rw [if_neg (by omega), Int.toNat_natCast, hxD]
  have e2 : nextR S k way = if u.kind = 61 ∨ u.kind = 33 ∨ (u.kind = 64 ∧ way = 1) then followR S 21 k else if u.kind = 64 ∧ u.fin = k + 1 then (k : Int) else if u.kind = 64 then (k : Int) + 1 else if way = 0 ∧ k + 1 < u.mid then (k : Int) + 1 else if way = 1 ∧ u.mid < u.fin then (u.mid : Int) else followR S 21 k := by
    unfold nextR
    simp only [huD]
  rw [e1, huD, e2, hfol]
  obtain ⟨x', u', hx', hu', _, _, _, _, hkd⟩ := hs
  rw [hx] at hx'
  rw [hu] at hu'
  cases hx'
  cases hu'
  have hkind := hcor.1
  rcases hkd with ⟨hk01, _⟩ | ⟨hk3, hB⟩ | ⟨hk2, q1, q2, hB1, hB2⟩
  · have hu61 : u.kind = 61 ∨ u.kind = 33 := by
      rcases hk01 with e | e
      · left; rw [hkind, e]; rfl
      · right; rw [hkind, e]; rfl
    have hw : waysP x.kind = 1 ∧ waysR u = 1 ∧ blocksOf x.kind = 0 := by
      refine ⟨?_, ?_, ?_⟩
      · rcases hk01 with e | e <;> rw [e] <;> decide
      · unfold waysR; rw [if_pos hu61]
      · rcases hk01 with e | e <;> rw [e] <;> decide
    rw [hw.1, hw.2.1, hw.2.2]
    by_cases hbad : way < 0 ∨ (1 : Int) ≤ way
    · rw [if_pos hbad, if_pos hbad]
    · rw [if_neg hbad, if_neg hbad, if_pos (show (0 : Int) ≤ way by omega), if_pos (show u.kind = 61 ∨ u.kind = 33 ∨ (u.kind = 64 ∧ way = 1) from hu61.elim .inl (fun e => .inr (.inl e)))]
  · have hu64 : u.kind = 64 := by rw [hkind, hk3]; rfl
    have hw : waysP x.kind = 2 ∧ waysR u = 2 ∧ blocksOf x.kind = 1 := by
      refine ⟨by rw [hk3]; decide, ?_, by rw [hk3]; decide⟩
      unfold waysR; rw [hu64]; decide
    rw [hw.1, hw.2.1, hw.2.2]
    by_cases hbad : way < 0 ∨ (2 : Int) ≤ way
    · rw [if_pos hbad, if_pos hbad]
    · rw [if_neg hbad, if_neg hbad]
      have hin := h.inner (b := 0) (.inr ⟨k, x, u, rfl, hx, hu, .inl ⟨hk3, rfl, rfl, rfl⟩⟩) hB
      by_cases w1 : way = 1
      · rw [if_pos (show (1 : Int) ≤ way by omega), if_pos (show u.kind = 61 ∨ u.kind = 33 ∨ (u.kind = 64 ∧ way = 1) from .inr (.inr ⟨hu64, w1⟩))]
      · have w0 : way = 0 := by omega
        subst w0
        rw [if_neg (show ¬ (1 : Int) ≤ 0 by decide), hin, if_neg (show ¬ (u.kind = 61 ∨ u.kind = 33 ∨ (u.kind = 64 ∧ (0 : Int) = 1)) by rw [hu64]; decide)]
        by_cases hlt : k + 1 < u.fin
        · rw [if_pos hlt, if_pos (show ((k + 1 : Nat) : Int) ≠ -1 by omega), if_neg (show ¬ (u.kind = 64 ∧ u.fin = k + 1) by omega), if_pos hu64]
          rfl
        · rw [if_neg hlt, if_neg (show ¬ ((-1 : Int) ≠ -1) by decide), if_pos hk3, if_pos (show u.kind = 64 ∧ u.fin = k + 1 from ⟨hu64, by omega⟩)]
  · have hu63 : u.kind = 63 := by rw [hkind, hk2]; rfl
    have hw : waysP x.kind = 2 ∧ waysR u = 2 ∧ blocksOf x.kind = 2 := by
      refine ⟨by rw [hk2]; decide, ?_, by rw [hk2]; decide⟩
      unfold waysR; rw [hu63]; decide
    rw [hw.1, hw.2.1, hw.2.2]
    by_cases hbad : way < 0 ∨ (2 : Int) ≤ way
    · rw [if_pos hbad, if_pos hbad]
    · rw [if_neg hbad, if_neg hbad, if_neg (show ¬ (2 : Int) ≤ way by omega)]
      have n1 : ¬ (u.kind = 61 ∨ u.kind = 33 ∨ (u.kind = 64 ∧ way = 1)) := by omega
      have n2 : ¬ (u.kind = 64 ∧ u.fin = k + 1) := by omega
      have n3 : ¬ u.kind = 64 := by omega
      have n4 : ¬ x.kind = 3 := by omega
      rw [if_neg n1, if_neg n2, if_neg n3]
      have hin0 := h.inner (b := 0) (.inr ⟨k, x, u, rfl, hx, hu, .inr (.inl ⟨hk2, rfl, rfl, rfl, q2⟩)⟩) hB1
      have hin1 := h.inner (b := 1) (.inr ⟨k, x, u, rfl, hx, hu, .inr (.inr ⟨hk2, rfl, rfl, rfl, q1⟩)⟩) hB2
      by_cases w0 : way = 0
      · subst w0
        rw [hin0]
        by_cases hlt : k + 1 < u.mid
        · rw [if_pos hlt, if_pos (show ((k + 1 : Nat) : Int) ≠ -1 by omega), if_pos (show (0 : Int) = 0 ∧ k + 1 < u.mid from ⟨rfl, hlt⟩)]
          rfl
        · rw [if_neg hlt, if_neg (show ¬ ((-1 : Int) ≠ -1) by decide), if_neg n4, if_neg (show ¬ ((0 : Int) = 0 ∧ k + 1 < u.mid) from fun e => hlt e.2), if_neg (show ¬ ((0 : Int) = 1 ∧ u.mid < u.fin) from fun e => absurd e.1 (by decide))]
      · have w1 : way = 1 := by omega
        subst w1
        rw [hin1, if_neg (show ¬ ((1 : Int) = 0 ∧ k + 1 < u.mid) from fun e => absurd e.1 (by decide))]
        by_cases hlt : u.mid < u.fin
        · rw [if_pos hlt, if_pos (show ((u.mid : Nat) : Int) ≠ -1 by omega), if_pos (show (1 : Int) = 1 ∧ u.mid < u.fin from ⟨rfl, hlt⟩)]
        · rw [if_neg hlt, if_neg (show ¬ ((-1 : Int) ≠ -1) by decide), if_neg n4, if_neg (show ¬ ((1 : Int) = 1 ∧ u.mid < u.fin) from fun e => hlt e.2)]

end Go.Proofs.YtffajooegiempaaGreatDoor

namespace Go.Proofs.YtffajooegiempaaGreatDoor
open Go.RowKit

/-- A text that is a program: both readers have the same statements. -/
theorem prog_whole (s : ByteArray) (h160 : s.size ≤ 160) : (readGood s = false ∧ progOf (bytesOf s) = none) ∨ ∃ m, readGood s = true ∧ progOf (bytesOf s) = some m ∧ Whole (readZ s).2 m.st := by
  have hl := bytesOf_len s
  have hsame := scan_same s
  rcases read_says s with hd | ⟨m, ho, hf, hpk⟩
  · left
    have hg : readGood s = false := by unfold readGood; rw [hd.st]; rfl
    refine ⟨hg, ?_⟩
    cases hp : progOf (bytesOf s) with
    | none => rfl
    | some m =>
      exfalso
      have e := (progOf_some hp).2.2.2
      rw [← hsame] at e
      unfold scanD at e
      rw [if_neg (by omega), hg] at e
      simp at e
  · by_cases hlt : (readZ s).1.1 < s.size
    · left
      have hg : readGood s = false := by unfold readGood; rw [ho.sync.ns]; simp; omega
      refine ⟨hg, ?_⟩
      cases hp : progOf (bytesOf s) with
      | none => rfl
      | some m =>
        exfalso
        have e := (progOf_some hp).2.2.2
        rw [← hsame] at e
        unfold scanD at e
        rw [if_neg (by omega), hg] at e
        simp at e
    · right
      have hg : readGood s = true := by unfold readGood; rw [ho.sync.ns]; simp; omega
      have hfd := ho.sync.fd
      have he : (readZ s).1.1 = s.size := by have := ho.sync.le; omega
      rw [he, take_all] at hfd
      refine ⟨m, hg, ?_, ho.cor, hf⟩
      have hop : m.op = [] := ho.op
      unfold progOf
      rw [if_neg (by omega), readFrom_some (n := 0) hfd]
      have hdn : isDone m = true := by unfold isDone; rw [ho.st, hop]; rfl
      simp [hdn]

end Go.Proofs.YtffajooegiempaaGreatDoor

namespace Go.Proofs.YtffajooegiempaaGreatDoor
open Go.RowKit
variable {w : World}

theorem ovS {l : List Int} (ho : okL l) : Sm (ovM l) := ah_sm (lay_rng l 32 ho.2) 64 (Nat.le_refl _)
/-- Two answers of one kind: what 'result' says of them. -/
theorem bdL_len (M : Nat → Int) : (bdL M).length = 32 := by simp [bdL]
end Go.Proofs.YtffajooegiempaaGreatDoor

