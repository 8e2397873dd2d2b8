import Derived.Test.YtadhimimdmoodaaEc
namespace Go.Proofs.Ytadhimimdmoodaa
variable {s : ByteArray} {d : Nat × Bool} {m m' : Rd}

theorem byte_99 (h : m.state = 99) (c : Int) : byteStep m c = if c = 42 then some { setCur m { cur m with star := true } with state := behindOf m } else if c = 45 then some { m with sign := -1, state := 67 } else if 97 ≤ c ∧ c ≤ 100 then some (signTo m (c - 97).toNat 1 100) else none := by
  rw [byte_cond (.inl h)]; unfold condStep; rw [if_pos h]
theorem byte_67 (h : m.state = 67) (c : Int) : byteStep m c = if 97 ≤ c ∧ c ≤ 100 then some (signTo m (c - 97).toNat m.sign 100) else none := by
  rw [byte_cond (.inr (.inl h))]; unfold condStep; rw [h, if_neg (by decide), if_pos rfl]
theorem byte_100 (h : m.state = 100) (c : Int) : byteStep m c = if c = 43 then some { m with sign := 1, state := 101 } else if c = 45 then some { m with sign := -1, state := 101 } else if c = 60 then some { m with state := 60 } else none := by
  rw [byte_cond (by rw [h]; decide)]; unfold condStep; rw [h, if_neg (by decide), if_neg (by decide), if_pos rfl]
theorem byte_101 (h : m.state = 101) (c : Int) : byteStep m c = if 97 ≤ c ∧ c ≤ 100 then (if (cur m).sg.getD (c - 97).toNat 0 = 0 then some (signTo m (c - 97).toNat m.sign 102) else none) else none := by
  rw [byte_cond (by rw [h]; decide)]; unfold condStep; rw [h, if_neg (by decide), if_neg (by decide), if_neg (by decide), if_pos rfl]
theorem byte_102 (h : m.state = 102) (c : Int) : byteStep m c = if c = 60 then some { m with state := 60 } else none := by
  rw [byte_cond (by rw [h]; decide)]; unfold condStep; rw [h, if_neg (by decide), if_neg (by decide), if_neg (by decide), if_neg (by decide), if_pos rfl]
theorem byte_60 (h : m.state = 60) (c : Int) : byteStep m c = if c = 61 then some { m with neg := false, state := 98 } else none := by
  rw [byte_cond (by rw [h]; decide)]; unfold condStep; rw [h, if_neg (by decide), if_neg (by decide), if_neg (by decide), if_neg (by decide), if_neg (by decide), if_pos rfl]
theorem byte_98 (h : m.state = 98) (c : Int) : byteStep m c = if c = 45 then some { m with neg := true, state := 66 } else digitStep m c false 109 := by
  rw [byte_cond (by rw [h]; decide)]; unfold condStep; rw [h, if_neg (by decide), if_neg (by decide), if_neg (by decide), if_neg (by decide), if_neg (by decide), if_neg (by decide), if_pos rfl]
theorem byte_66 (h : m.state = 66) (c : Int) : byteStep m c = digitStep m c true 109 := by
  rw [byte_cond (by rw [h]; decide)]; unfold condStep; rw [h, if_neg (by decide), if_neg (by decide), if_neg (by decide), if_neg (by decide), if_neg (by decide), if_neg (by decide), if_neg (by decide), if_pos rfl]

theorem rSecond_any (s : ByteArray) (d : Nat × Bool) (x : Ds) (f : Int) : (rSecond s d x f).1.any = x.any := by
  unfold rSecond
  split
  · rfl
  · rfl

def tailN (s : ByteArray) (d : Nat × Bool) : Int × (Nat × Bool) := rNum s (rSign s d).2 (rSign s d).1
def tailE (s : ByteArray) (d : Nat × Bool) : Int × (Nat × Bool) := tailN s (nd s (nd s d 60) 61)

theorem Dead.dTailN (h : Dead s d) : tailN s d = (0, d) := by unfold tailN; rw [h.dSign]; exact h.dNum 1
theorem Dead.dTailE (h : Dead s d) : tailE s d = (0, d) := by unfold tailE; rw [h.dnd (by decide), h.dnd (by decide)]; exact h.dTailN

/-- What is to come of the rest of a condition. -/
def QC (m : Rd) (n : Int) (y : Rd) : Prop := y.state = 115 ∧ y.st = (setCur m { cur m with num := n }).st ∧ y.op = opAft m

theorem Sync.tailN (h : Sync s d m) (hs : m.state = 98) (hneg : m.neg = false) (hk : (cur m).kind = 33 ∨ m.op.length ≠ 4) : Res s (nd s (Go.Proofs.Ytadhimimdmoodaa.tailN s d).2 (behindOf m)) (QC m (Go.Proofs.Ytadhimimdmoodaa.tailN s d).1) := by
  have hb := byte_98 hs (pk s d)
  by_cases h45 : pk s d = 45
  · rw [if_pos h45] at hb
    have h1 := h.aadv (by omega) hb
    have e : Go.Proofs.Ytadhimimdmoodaa.tailN s d = rNum s (adv d) (-1) := by unfold Go.Proofs.Ytadhimimdmoodaa.tailN; rw [show rSign s d = (-1, adv d) from if_pos h45]
    rw [e]
    exact h1.numCond (pos := true) (sg := -1) (byte_66 rfl _) ⟨(by decide : (66 : Int) ≠ 109), (by decide : (66 : Int) ≠ 115)⟩ hk (.inr ⟨rfl, rfl, rfl⟩)
  · rw [if_neg h45] at hb
    have e : Go.Proofs.Ytadhimimdmoodaa.tailN s d = rNum s d 1 := by unfold Go.Proofs.Ytadhimimdmoodaa.tailN; rw [show rSign s d = (1, d) from if_neg h45]
    rw [e]
    exact h.numCond (pos := false) (sg := 1) hb ⟨by rw [hs]; decide, by rw [hs]; decide⟩ hk (.inl ⟨rfl, rfl, hneg⟩)

theorem Sync.tailE (h : Sync s d m) (hs : m.state = 100 ∨ m.state = 102) (hp : m.state = 100 → pk s d ≠ 43 ∧ pk s d ≠ 45) (hk : (cur m).kind = 33 ∨ m.op.length ≠ 4) : Res s (nd s (Go.Proofs.Ytadhimimdmoodaa.tailE s d).2 (behindOf m)) (QC m (Go.Proofs.Ytadhimimdmoodaa.tailE s d).1) := by
  have hb : byteStep m (pk s d) = if pk s d = 60 then some { m with state := 60 } else none := by
    rcases hs with e | e
    · rw [byte_100 e, if_neg (hp e).1, if_neg (hp e).2]
    · rw [byte_102 e]
  have hnd : isDone m = false := notDone (by omega)
  rcases h.aneed (c := 60) (m' := { m with state := 60 }) (by decide) (fun e => by rw [e, if_pos rfl] at hb; exact hb) (fun e => by rw [if_neg e] at hb; exact hb) hnd with hd | ⟨m1, h1, rfl⟩
  · have e : Go.Proofs.Ytadhimimdmoodaa.tailE s d = (0, nd s d 60) := by unfold Go.Proofs.Ytadhimimdmoodaa.tailE; rw [hd.dnd (by decide)]; exact hd.dTailN
    rw [e]
    show Res s (nd s (nd s d 60) _) _
    rw [hd.dnd (behind_ne m).1]
    exact .inl hd
  · rcases h1.aneed (c := 61) (m' := { m with neg := false, state := 98 }) (by decide) (fun e => by rw [byte_60 rfl, if_pos rfl]) (fun e => by rw [byte_60 rfl, if_neg e]) (notDone (by decide : (60 : Int) ≠ 115)) with hd | ⟨m2, h2, rfl⟩
    · have e : Go.Proofs.Ytadhimimdmoodaa.tailE s d = (0, nd s (nd s d 60) 61) := hd.dTailN
      rw [e]
      show Res s (nd s (nd s (nd s d 60) 61) _) _
      rw [hd.dnd (behind_ne m).1]
      exact .inl hd
    · exact h2.tailN rfl rfl hk

/-- The second variable of a form, and the rest. -/
theorem Sync.second (h : Sync s d m) (hs : m.state = 100) (hk : (cur m).kind = 33 ∨ m.op.length ≠ 4) (x : Ds) (f : Int) (hx : x.sg = (cur m).sg) (hf : ∀ v : Int, 0 ≤ v → v ≤ 3 → ((cur m).sg.getD v.toNat 0 = 0 ↔ v ≠ f)) :
    Res s (nd s (Go.Proofs.Ytadhimimdmoodaa.tailE s (rSecond s d x f).2).2 (behindOf m)) (QC (setCur m { cur m with sg := (rSecond s d x f).1.sg }) (Go.Proofs.Ytadhimimdmoodaa.tailE s (rSecond s d x f).2).1) := by
  have hn : 0 < m.st.length := h.aok.some_ (by rw [hs]; decide)
  have hb := byte_100 hs (pk s d)
  have hcs := cur_setCur' hn
  by_cases hc : pk s d = 43 ∨ pk s d = 45
  · obtain ⟨g, hg, hb1⟩ : ∃ g, (if pk s d = 45 then (-1 : Int) else 1) = g ∧ byteStep m (pk s d) = some { m with sign := g, state := 101 } := by
      rcases hc with e | e
      · exact ⟨1, by rw [e]; rfl, by rw [hb, if_pos e]⟩
      · exact ⟨-1, by rw [e]; rfl, by rw [hb, if_neg (by omega), if_pos e]⟩
    have h1 := h.aadv (by omega) hb1
    have e : rSecond s d x f = ({ x with sg := x.sg.set (rVar s (adv d) f).1.toNat g }, (rVar s (adv d) f).2) := by unfold rSecond; rw [if_pos hc, hg]
    rw [e]
    have hb2 := byte_101 (m := { m with sign := g, state := 101 }) rfl (pk s (adv d))
    by_cases hv : 97 ≤ pk s (adv d) ∧ pk s (adv d) ≤ 100
    · rw [if_pos hv] at hb2
      by_cases hff : pk s (adv d) - 97 = f
      · have ev : rVar s (adv d) f = (0, stk (adv d)) := by unfold rVar; rw [varOf_pos hv, if_pos (.inr hff)]
        rw [ev]
        have hd : Dead s (stk (adv d)) := by
          refine h1.adead ?_ (fun _ => notDone (by decide : (101 : Int) ≠ 115))
          rw [hb2, if_neg]
          intro e0
          exact ((hf (pk s (adv d) - 97) (by omega) (by omega)).1 e0) hff
        show Res s (nd s (Go.Proofs.Ytadhimimdmoodaa.tailE s (stk (adv d))).2 _) _
        rw [hd.dTailE]
        show Res s (nd s (stk (adv d)) _) _
        rw [hd.dnd (behind_ne m).1]
        exact .inl hd
      · have ev : rVar s (adv d) f = (pk s (adv d) - 97, adv (adv d)) := by unfold rVar; rw [varOf_pos hv, if_neg (by omega)]
        rw [ev]
        have e0 : (cur { m with sign := g, state := 101 }).sg.getD (pk s (adv d) - 97).toNat 0 = 0 := (hf (pk s (adv d) - 97) (by omega) (by omega)).2 hff
        rw [if_pos e0] at hb2
        have h2 := h1.aadv (by omega) hb2
        have hkd : (cur (signTo { m with sign := g, state := 101 } (pk s (adv d) - 97).toNat g 102)).kind = (cur m).kind := by
          show (cur (setCur m _)).kind = _
          rw [hcs]; rfl
        have ebh : behindOf (signTo { m with sign := g, state := 101 } (pk s (adv d) - 97).toNat g 102) = behindOf m := by unfold behindOf; rw [hkd]
        have h3 := h2.tailE (.inr rfl) (fun e => absurd e (by decide : (102 : Int) ≠ 100)) (by rw [hkd]; exact hk)
        rw [ebh] at h3
        refine h3.mono ?_
        rintro y - ⟨a, b, c⟩
        refine ⟨a, b.trans ?_, c.trans ?_⟩
        · show (setCur (setCur m { cur m with sg := (cur m).sg.set _ g }) { cur (setCur m { cur m with sg := (cur m).sg.set _ g }) with num := _ }).st = (setCur (setCur m { cur m with sg := x.sg.set _ g }) { cur (setCur m { cur m with sg := x.sg.set _ g }) with num := _ }).st
          rw [hx]
        · show opAft (setCur m { cur m with sg := (cur m).sg.set _ g }) = opAft (setCur m { cur m with sg := x.sg.set _ g })
          rw [hx]
    · have ev : rVar s (adv d) f = (0, stk (adv d)) := by unfold rVar; rw [if_pos (.inl (varOf_neg hv))]
      rw [ev]
      have hd : Dead s (stk (adv d)) := by
        refine h1.adead ?_ (fun _ => notDone (by decide : (101 : Int) ≠ 115))
        rw [hb2, if_neg hv]
      show Res s (nd s (Go.Proofs.Ytadhimimdmoodaa.tailE s (stk (adv d))).2 _) _
      rw [hd.dTailE]
      show Res s (nd s (stk (adv d)) _) _
      rw [hd.dnd (behind_ne m).1]
      exact .inl hd
  · have e : rSecond s d x f = (x, d) := if_neg hc
    rw [e]
    have h3 := h.tailE (.inl hs) (fun _ => ⟨fun e => hc (.inl e), fun e => hc (.inr e)⟩) hk
    refine h3.mono ?_
    rintro y - ⟨a, b, c⟩
    have e2 : setCur m { cur m with sg := x.sg } = m := by
      rw [hx]; exact setCur_cur hn
    rw [show (x, d).1.sg = x.sg from rfl, e2]
    exact ⟨a, b, c⟩

/-- A condition, and the byte behind it. -/
theorem Sync.cond (h : Sync s d m) (hs : m.state = 99) (hk : (cur m).kind = 33 ∨ m.op.length ≠ 4) (x : Ds) (hx : x.any = false ∧ x.sg = (cur m).sg ∧ x.num = (cur m).num ∧ (cur m).star = false) (hz : (cur m).sg = [0, 0, 0, 0]) :
    Res s (nd s (rCond s d x).2 (behindOf m)) (fun y => y.state = 115 ∧ y.st = (setCur m { cur m with star := (rCond s d x).1.any, sg := (rCond s d x).1.sg, num := (rCond s d x).1.num }).st ∧ y.op = opAft m) := by
  have hn : 0 < m.st.length := h.aok.some_ (by rw [hs]; decide)
  have hb := byte_99 hs (pk s d)
  obtain ⟨hx1, hx2, hx3, hx4⟩ := hx
  have hcs := cur_setCur' hn
  by_cases h42 : pk s d = 42
  · have e : rCond s d x = ({ x with any := true }, adv d) := if_pos h42
    rw [e]
    rw [if_pos h42] at hb
    have h1 := h.aadv (by omega) hb
    have hbh : behindOf m = 59 ∨ behindOf m = 123 := behind_or m
    obtain ⟨y, hy, y1, y2, y3⟩ := plain_yes (m := m) (a := { setCur m { cur m with star := true } with state := behindOf m }) rfl hk
    have hpl : ∀ c, byteStep { setCur m { cur m with star := true } with state := behindOf m } c = plainStep { setCur m { cur m with star := true } with state := behindOf m } c := fun c => byte_plain hbh c
    refine (h1.aneed (m' := y) (behind_ne m).1 (fun e => by rw [hpl]; exact hy) (fun e => by rw [hpl]; exact plain_no rfl e) (notDone (behind_ne m).2)).mono ?_
    rintro z - rfl
    refine ⟨y1, y2.trans ?_, y3.trans ?_⟩
    · show (setCur m { cur m with star := true }).st = (setCur m { cur m with star := true, sg := x.sg, num := x.num }).st
      rw [hx2, hx3]
    · unfold opAft
      show (if (cur m).kind = 33 then m.op else m.op ++ [⟨(setCur m _).st.length - 1, false⟩]) = _
      rw [setCur_len]
  rw [if_neg h42] at hb
  obtain ⟨g, d1, m1, hg, h1, e1, e2, e3, hb1⟩ : ∃ g d1 m1, rSign s d = (g, d1) ∧ Sync s d1 m1 ∧ m1.st = m.st ∧ m1.op = m.op ∧ m1.state ≠ 115 ∧ byteStep m1 (pk s d1) = if 97 ≤ pk s d1 ∧ pk s d1 ≤ 100 then some (signTo m1 (pk s d1 - 97).toNat g 100) else none := by
    by_cases h45 : pk s d = 45
    · rw [if_pos h45] at hb
      exact ⟨-1, adv d, _, if_pos h45, h.aadv (by omega) hb, rfl, rfl, (by decide : (67 : Int) ≠ 115), byte_67 rfl _⟩
    · rw [if_neg h45] at hb
      exact ⟨1, d, m, if_neg h45, h, rfl, rfl, by rw [hs]; decide, hb⟩
  have ec : cur m1 = cur m := cur_eq e1
  by_cases hv : 97 ≤ pk s d1 ∧ pk s d1 ≤ 100
  · have ev : rVar s d1 (-1) = (pk s d1 - 97, adv d1) := by unfold rVar; rw [varOf_pos hv, if_neg (by omega)]
    rw [if_pos hv] at hb1
    have h2 := h1.aadv (by omega) hb1
    obtain ⟨v, hve⟩ : ∃ v, v = pk s d1 - 97 := ⟨_, rfl⟩
    rw [← hve] at ev h2 hb1
    have hst2 : (signTo m1 v.toNat g 100).st = (setCur m { cur m with sg := (cur m).sg.set v.toNat g }).st := by
      show (setCur m1 { cur m1 with sg := (cur m1).sg.set v.toNat g }).st = _
      rw [ec]; exact setCur_st_eq e1 _
    have hcur2 : cur (signTo m1 v.toNat g 100) = { cur m with sg := (cur m).sg.set v.toNat g } := (cur_eq hst2).trans (hcs _)
    have hgn : g ≠ 0 := by
      have := rSign_or s d
      rw [hg] at this
      rcases this with e | e
      · have e' : g = 1 := e
        omega
      · have e' : g = -1 := e
        omega
    have e : rCond s d x = ({ (rSecond s (adv d1) { x with any := false, sg := x.sg.set v.toNat g } v).1 with num := (Go.Proofs.Ytadhimimdmoodaa.tailE s (rSecond s (adv d1) { x with any := false, sg := x.sg.set v.toNat g } v).2).1 }, (Go.Proofs.Ytadhimimdmoodaa.tailE s (rSecond s (adv d1) { x with any := false, sg := x.sg.set v.toNat g } v).2).2) := by
      unfold rCond; rw [if_neg h42, hg]; simp only; rw [ev]; rfl
    have ebh : behindOf (signTo m1 v.toNat g 100) = behindOf m := by unfold behindOf; rw [hcur2]
    have h3 := h2.second rfl (by rw [hcur2]; show (cur m).kind = 33 ∨ m1.op.length ≠ 4; rw [e2]; exact hk) { x with any := false, sg := x.sg.set v.toNat g } v (by rw [hcur2, hx2]) (by
      intro u hu0 hu3
      rw [hcur2]
      show ((cur m).sg.set v.toNat g).getD u.toNat 0 = 0 ↔ u ≠ v
      rw [hz, List.getD_eq_getElem?_getD, List.getElem?_set]
      by_cases euv : u = v
      · subst euv
        rw [if_pos rfl, if_pos (by simp; omega)]
        simp [hgn]
      · rw [if_neg (by omega)]
        rcases (show u = 0 ∨ u = 1 ∨ u = 2 ∨ u = 3 by omega) with rfl | rfl | rfl | rfl <;> simp <;> omega)
    rw [ebh] at h3
    rw [e]
    refine h3.mono ?_
    rintro y - ⟨a, b, c⟩
    have hl1 : 0 < (signTo m1 v.toNat g 100).st.length := by rw [hst2, setCur_len]; exact hn
    have hany : (rSecond s (adv d1) { x with any := false, sg := x.sg.set v.toNat g } v).1.any = false := rSecond_any _ _ _ _
    generalize rSecond s (adv d1) { x with any := false, sg := x.sg.set v.toNat g } v = z at *
    refine ⟨a, b.trans ?_, c.trans ?_⟩
    · rw [setCur_two, cur_setCur' hl1, hcur2, setCur_st_eq hst2, setCur_two]
      show (setCur m { cur m with sg := z.1.sg, num := _ }).st = (setCur m { cur m with star := z.1.any, sg := z.1.sg, num := _ }).st
      rw [hany, ← hx4]
    · unfold opAft
      rw [cur_setCur' hl1, hcur2, setCur_len]
      show (if (cur m).kind = 33 then m1.op else m1.op ++ [⟨(signTo m1 v.toNat g 100).st.length - 1, false⟩]) = _
      rw [e2, hst2, setCur_len]
  · have ev : rVar s d1 (-1) = (0, stk d1) := by unfold rVar; rw [if_pos (.inl (varOf_neg hv))]
    rw [if_neg hv] at hb1
    have hd : Dead s (stk d1) := h1.adead hb1 (fun _ => notDone e3)
    have e : (rCond s d x).2 = stk d1 := by
      unfold rCond; rw [if_neg h42, hg]; simp only; rw [ev]; simp only
      rw [hd.dSecond]
      exact congrArg Prod.snd hd.dTailE
    rw [e, hd.dnd (behind_ne m).1]
    exact .inl hd

end Go.Proofs.Ytadhimimdmoodaa
