import Derived.Test.YtffajooegiempaaGreatDoorJ24
namespace Go.Proofs.YtffajooegiempaaGreatDoor
variable {s : ByteArray} {d : Nat × Bool} {m m' : Rd}

theorem byte_99 (h : m.state = 99) (c : Int) : byteStep m c = if c = 42 then some { setCur m { cur m with star := true } with state := behindOf m } else if c = 45 then some { m with sign := -1, state := 67 } else if 97 ≤ c ∧ c ≤ 100 then some (signTo m (c - 97).toNat 1 100) else none := by
  rw [byte_cond (.inl h)]; unfold condStep; rw [if_pos h]
theorem byte_67 (h : m.state = 67) (c : Int) : byteStep m c = if 97 ≤ c ∧ c ≤ 100 then some (signTo m (c - 97).toNat m.sign 100) else none := by
  rw [byte_cond (.inr (.inl h))]; unfold condStep; rw [h, if_neg (by decide), if_pos rfl]
theorem byte_100 (h : m.state = 100) (c : Int) : byteStep m c = if c = 43 then some { m with sign := 1, state := 101 } else if c = 45 then some { m with sign := -1, state := 101 } else if c = 60 then some { m with state := 60 } else none := by
  rw [byte_cond (by rw [h]; decide)]; unfold condStep; rw [h, if_neg (by decide), if_neg (by decide), if_pos rfl]
theorem byte_101 (h : m.state = 101) (c : Int) : byteStep m c = if 97 ≤ c ∧ c ≤ 100 then (if (cur m).sg.getD (c - 97).toNat 0 = 0 then some (signTo m (c - 97).toNat m.sign 102) else none) else none := by
  rw [byte_cond (by rw [h]; decide)]; unfold condStep; rw [h, if_neg (by decide), if_neg (by decide), if_neg (by decide), if_pos rfl]
theorem byte_102 (h : m.state = 102) (c : Int) : byteStep m c = if c = 60 then some { m with state := 60 } else none := by
  rw [byte_cond (by rw [h]; decide)]; unfold condStep; rw [h, if_neg (by decide), if_neg (by decide), if_neg (by decide), if_neg (by decide), if_pos rfl]
theorem byte_60 (h : m.state = 60) (c : Int) : byteStep m c = if c = 61 then some { m with neg := false, state := 98 } else none := by
  rw [byte_cond (by rw [h]; decide)]; unfold condStep; rw [h, if_neg (by decide), if_neg (by decide), if_neg (by decide), if_neg (by decide), if_neg (by decide), if_pos rfl]
theorem byte_98 (h : m.state = 98) (c : Int) : byteStep m c = if c = 45 then some { m with neg := true, state := 66 } else digitStep m c false 109 := by
  rw [byte_cond (by rw [h]; decide)]; unfold condStep; rw [h, if_neg (by decide), if_neg (by decide), if_neg (by decide), if_neg (by decide), if_neg (by decide), if_neg (by decide), if_pos rfl]
theorem byte_66 (h : m.state = 66) (c : Int) : byteStep m c = digitStep m c true 109 := by
  rw [byte_cond (by rw [h]; decide)]; unfold condStep; rw [h, if_neg (by decide), if_neg (by decide), if_neg (by decide), if_neg (by decide), if_neg (by decide), if_neg (by decide), if_neg (by decide), if_pos rfl]

theorem rSecond_any (s : ByteArray) (d : Nat × Bool) (x : Ds) (f : Int) : (rSecond s d x f).1.any = x.any := by
  unfold rSecond
  split
  · rfl
  · rfl

def tailN (s : ByteArray) (d : Nat × Bool) : Int × (Nat × Bool) := rNum s (rSign s d).2 (rSign s d).1
def tailE (s : ByteArray) (d : Nat × Bool) : Int × (Nat × Bool) := tailN s (nd s (nd s d 60) 61)

theorem Dead.dTailN (h : Dead s d) : tailN s d = (0, d) := by unfold tailN; rw [h.dSign]; exact h.dNum 1
theorem Dead.dTailE (h : Dead s d) : tailE s d = (0, d) := by unfold tailE; rw [h.dnd (by decide), h.dnd (by decide)]; exact h.dTailN

/-- What is to come of the rest of a condition. -/
def QC (m : Rd) (n : Int) (y : Rd) : Prop := y.state = 115 ∧ y.st = (setCur m { cur m with num := n }).st ∧ y.op = opAft m

theorem Sync.tailN (h : Sync s d m) (hs : m.state = 98) (hneg : m.neg = false) (hk : (cur m).kind = 33 ∨ m.op.length ≠ 4) : Res s (nd s (Go.Proofs.YtffajooegiempaaGreatDoor.tailN s d).2 (behindOf m)) (QC m (Go.Proofs.YtffajooegiempaaGreatDoor.tailN s d).1) := by
  have hb := byte_98 hs (pk s d)
  by_cases h45 : pk s d = 45
  · rw [if_pos h45] at hb
    have h1 := h.aadv (by omega) hb
    have e : Go.Proofs.YtffajooegiempaaGreatDoor.tailN s d = rNum s (adv d) (-1) := by unfold Go.Proofs.YtffajooegiempaaGreatDoor.tailN; rw [show rSign s d = (-1, adv d) from if_pos h45]
    rw [e]
    exact h1.numCond (pos := true) (sg := -1) (byte_66 rfl _) ⟨(by decide : (66 : Int) ≠ 109), (by decide : (66 : Int) ≠ 115)⟩ hk (.inr ⟨rfl, rfl, rfl⟩)
  · rw [if_neg h45] at hb
    have e : Go.Proofs.YtffajooegiempaaGreatDoor.tailN s d = rNum s d 1 := by unfold Go.Proofs.YtffajooegiempaaGreatDoor.tailN; rw [show rSign s d = (1, d) from if_neg h45]
    rw [e]
    exact h.numCond (pos := false) (sg := 1) hb ⟨by rw [hs]; decide, by rw [hs]; decide⟩ hk (.inl ⟨rfl, rfl, hneg⟩)

theorem Sync.tailE (h : Sync s d m) (hs : m.state = 100 ∨ m.state = 102) (hp : m.state = 100 → pk s d ≠ 43 ∧ pk s d ≠ 45) (hk : (cur m).kind = 33 ∨ m.op.length ≠ 4) : Res s (nd s (Go.Proofs.YtffajooegiempaaGreatDoor.tailE s d).2 (behindOf m)) (QC m (Go.Proofs.YtffajooegiempaaGreatDoor.tailE s d).1) := by
  have hb : byteStep m (pk s d) = if pk s d = 60 then some { m with state := 60 } else none := by
    rcases hs with e | e
    · rw [byte_100 e, if_neg (hp e).1, if_neg (hp e).2]
    · rw [byte_102 e]
  have hnd : isDone m = false := notDone (by omega)
  rcases h.aneed (c := 60) (m' := { m with state := 60 }) (by decide) (fun e => by rw [e, if_pos rfl] at hb; exact hb) (fun e => by rw [if_neg e] at hb; exact hb) hnd with hd | ⟨m1, h1, rfl⟩
  · have e : Go.Proofs.YtffajooegiempaaGreatDoor.tailE s d = (0, nd s d 60) := by unfold Go.Proofs.YtffajooegiempaaGreatDoor.tailE; rw [hd.dnd (by decide)]; exact hd.dTailN
    rw [e]
    show Res s (nd s (nd s d 60) _) _
    rw [hd.dnd (behind_ne m).1]
    exact .inl hd
  · rcases h1.aneed (c := 61) (m' := { m with neg := false, state := 98 }) (by decide) (fun e => by rw [byte_60 rfl, if_pos rfl]) (fun e => by rw [byte_60 rfl, if_neg e]) (notDone (by decide : (60 : Int) ≠ 115)) with hd | ⟨m2, h2, rfl⟩
    · have e : Go.Proofs.YtffajooegiempaaGreatDoor.tailE s d = (0, nd s (nd s d 60) 61) := hd.dTailN
      rw [e]
      show Res s (nd s (nd s (nd s d 60) 61) _) _
      rw [hd.dnd (behind_ne m).1]
      exact .inl hd
    · exact h2.tailN rfl rfl hk

/-- The second variable of a form, and the rest. -/
theorem Sync.second (h : Sync s d m) (hs : m.state = 100) (hk : (cur m).kind = 33 ∨ m.op.length ≠ 4) (x : Ds) (f : Int) (hx : x.sg = (cur m).sg) (hf : ∀ v : Int, 0 ≤ v → v ≤ 3 → ((cur m).sg.getD v.toNat 0 = 0 ↔ v ≠ f)) :
    Res s (nd s (Go.Proofs.YtffajooegiempaaGreatDoor.tailE s (rSecond s d x f).2).2 (behindOf m)) (QC (setCur m { cur m with sg := (rSecond s d x f).1.sg }) (Go.Proofs.YtffajooegiempaaGreatDoor.tailE s (rSecond s d x f).2).1) := by
  have hn : 0 < m.st.length := h.aok.some_ (by rw [hs]; decide)
  have hb := byte_100 hs (pk s d)
  have hcs := cur_setCur' hn
  by_cases hc : pk s d = 43 ∨ pk s d = 45
  · obtain ⟨g, hg, hb1⟩ : ∃ g, (if pk s d = 45 then (-1 : Int) else 1) = g ∧ byteStep m (pk s d) = some { m with sign := g, state := 101 } := by
      rcases hc with e | e
      · exact ⟨1, by rw [e]; rfl, by rw [hb, if_pos e]⟩
      · exact ⟨-1, by rw [e]; rfl, by rw [hb, if_neg (by omega), if_pos e]⟩
    have h1 := h.aadv (by omega) hb1
    have e : rSecond s d x f = ({ x with sg := x.sg.set (rVar s (adv d) f).1.toNat g }, (rVar s (adv d) f).2) := by unfold rSecond; rw [if_pos hc, hg]
    rw [e]
    have hb2 := byte_101 (m := { m with sign := g, state := 101 }) rfl (pk s (adv d))
    by_cases hv : 97 ≤ pk s (adv d) ∧ pk s (adv d) ≤ 100
    · rw [if_pos hv] at hb2
      by_cases hff : pk s (adv d) - 97 = f
      · have ev : rVar s (adv d) f = (0, stk (adv d)) := by unfold rVar; rw [varOf_pos hv, if_pos (.inr hff)]
        rw [ev]
        have hd : Dead s (stk (adv d)) := by
          refine h1.adead ?_ (fun _ => notDone (by decide : (101 : Int) ≠ 115))
          rw [hb2, if_neg]
          intro e0
          exact ((hf (pk s (adv d) - 97) (by omega) (by omega)).1 e0) hff
        show Res s (nd s (Go.Proofs.YtffajooegiempaaGreatDoor.tailE s (stk (adv d))).2 _) _
        rw [hd.dTailE]
        show Res s (nd s (stk (adv d)) _) _
        rw [hd.dnd (behind_ne m).1]
        exact .inl hd
      · have ev : rVar s (adv d) f = (pk s (adv d) - 97, adv (adv d)) := by unfold rVar; rw [varOf_pos hv, if_neg (by omega)]
        rw [ev]
        have e0 : (cur { m with sign := g, state := 101 }).sg.getD (pk s (adv d) - 97).toNat 0 = 0 := (hf (pk s (adv d) - 97) (by omega) (by omega)).2 hff
        rw [if_pos e0] at hb2
        have h2 := h1.aadv (by omega) hb2
        have hkd : (cur (signTo { m with sign := g, state := 101 } (pk s (adv d) - 97).toNat g 102)).kind = (cur m).kind := by
          show (cur (setCur m _)).kind = _
          rw [hcs]; rfl
        have ebh : behindOf (signTo { m with sign := g, state := 101 } (pk s (adv d) - 97).toNat g 102) = behindOf m := by unfold behindOf; rw [hkd]
        have h3 := h2.tailE (.inr rfl) (fun e => absurd e (by decide : (102 : Int) ≠ 100)) (by rw [hkd]; exact hk)
        rw [ebh] at h3
        refine h3.mono ?_
        rintro y - ⟨a, b, c⟩
        refine ⟨a, b.trans ?_, c.trans ?_⟩
        · show (setCur (setCur m { cur m with sg := (cur m).sg.set _ g }) { cur (setCur m { cur m with sg := (cur m).sg.set _ g }) with num := _ }).st = (setCur (setCur m { cur m with sg := x.sg.set _ g }) { cur (setCur m { cur m with sg := x.sg.set _ g }) with num := _ }).st
          rw [hx]
        · show opAft (setCur m { cur m with sg := (cur m).sg.set _ g }) = opAft (setCur m { cur m with sg := x.sg.set _ g })
          rw [hx]
    · have ev : rVar s (adv d) f = (0, stk (adv d)) := by unfold rVar; rw [if_pos (.inl (varOf_neg hv))]
      rw [ev]
      have hd : Dead s (stk (adv d)) := by
        refine h1.adead ?_ (fun _ => notDone (by decide : (101 : Int) ≠ 115))
        rw [hb2, if_neg hv]
      show Res s (nd s (Go.Proofs.YtffajooegiempaaGreatDoor.tailE s (stk (adv d))).2 _) _
      rw [hd.dTailE]
      show Res s (nd s (stk (adv d)) _) _
      rw [hd.dnd (behind_ne m).1]
      exact .inl hd
  · have e : rSecond s d x f = (x, d) := if_neg hc
    rw [e]
    have h3 := h.tailE (.inl hs) (fun _ => ⟨fun e => hc (.inl e), fun e => hc (.inr e)⟩) hk
    refine h3.mono ?_
    rintro y - ⟨a, b, c⟩
    have e2 : setCur m { cur m with sg := x.sg } = m := by
      rw [hx]; exact setCur_cur hn
    rw [show (x, d).1.sg = x.sg from rfl, e2]
    exact ⟨a, b, c⟩

/-- A condition, and the byte behind it. -/
theorem Sync.cond (h : Sync s d m) (hs : m.state = 99) (hk : (cur m).kind = 33 ∨ m.op.length ≠ 4) (x : Ds) (hx : x.any = false ∧ x.sg = (cur m).sg ∧ x.num = (cur m).num ∧ (cur m).star = false) (hz : (cur m).sg = [0, 0, 0, 0]) :
    Res s (nd s (rCond s d x).2 (behindOf m)) (fun y => y.state = 115 ∧ y.st = (setCur m { cur m with star := (rCond s d x).1.any, sg := (rCond s d x).1.sg, num := (rCond s d x).1.num }).st ∧ y.op = opAft m) := by
  have hn : 0 < m.st.length := h.aok.some_ (by rw [hs]; decide)
  have hb := byte_99 hs (pk s d)
  obtain ⟨hx1, hx2, hx3, hx4⟩ := hx
  have hcs := cur_setCur' hn
  by_cases h42 : pk s d = 42
  · have e : rCond s d x = ({ x with any := true }, adv d) := if_pos h42
    rw [e]
    rw [if_pos h42] at hb
    have h1 := h.aadv (by omega) hb
    have hbh : behindOf m = 59 ∨ behindOf m = 123 := behind_or m
    obtain ⟨y, hy, y1, y2, y3⟩ := plain_yes (m := m) (a := { setCur m { cur m with star := true } with state := behindOf m }) rfl hk
    have hpl : ∀ c, byteStep { setCur m { cur m with star := true } with state := behindOf m } c = plainStep { setCur m { cur m with star := true } with state := behindOf m } c := fun c => byte_plain hbh c
    refine (h1.aneed (m' := y) (behind_ne m).1 (fun e => by rw [hpl]; exact hy) (fun e => by rw [hpl]; exact plain_no rfl e) (notDone (behind_ne m).2)).mono ?_
    rintro z - rfl
    refine ⟨y1, y2.trans ?_, y3.trans ?_⟩
    · show (setCur m { cur m with star := true }).st = (setCur m { cur m with star := true, sg := x.sg, num := x.num }).st
      rw [hx2, hx3]
    · unfold opAft
      show (if (cur m).kind = 33 then m.op else m.op ++ [⟨(setCur m _).st.length - 1, false⟩]) = _
      rw [setCur_len]
  rw [if_neg h42] at hb
  obtain ⟨g, d1, m1, hg, h1, e1, e2, e3, hb1⟩ : ∃ g d1 m1, rSign s d = (g, d1) ∧ Sync s d1 m1 ∧ m1.st = m.st ∧ m1.op = m.op ∧ m1.state ≠ 115 ∧ byteStep m1 (pk s d1) = if 97 ≤ pk s d1 ∧ pk s d1 ≤ 100 then some (signTo m1 (pk s d1 - 97).toNat g 100) else none := by
    by_cases h45 : pk s d = 45
    · rw [if_pos h45] at hb
      exact ⟨-1, adv d, _, if_pos h45, h.aadv (by omega) hb, rfl, rfl, (by decide : (67 : Int) ≠ 115), byte_67 rfl _⟩
    · rw [if_neg h45] at hb
      exact ⟨1, d, m, if_neg h45, h, rfl, rfl, by rw [hs]; decide, hb⟩
  have ec : cur m1 = cur m := cur_eq e1
  by_cases hv : 97 ≤ pk s d1 ∧ pk s d1 ≤ 100
  · have ev : rVar s d1 (-1) = (pk s d1 - 97, adv d1) := by unfold rVar; rw [varOf_pos hv, if_neg (by omega)]
    rw [if_pos hv] at hb1
    have h2 := h1.aadv (by omega) hb1
    obtain ⟨v, hve⟩ : ∃ v, v = pk s d1 - 97 := ⟨_, rfl⟩
    rw [← hve] at ev h2 hb1
    have hst2 : (signTo m1 v.toNat g 100).st = (setCur m { cur m with sg := (cur m).sg.set v.toNat g }).st := by
      show (setCur m1 { cur m1 with sg := (cur m1).sg.set v.toNat g }).st = _
      rw [ec]; exact setCur_st_eq e1 _
    have hcur2 : cur (signTo m1 v.toNat g 100) = { cur m with sg := (cur m).sg.set v.toNat g } := (cur_eq hst2).trans (hcs _)
    have hgn : g ≠ 0 := by
      have := rSign_or s d
      rw [hg] at this
      rcases this with e | e
      · have e' : g = 1 := e
        omega
      · have e' : g = -1 := e
        omega
    have e : rCond s d x = ({ (rSecond s (adv d1) { x with any := false, sg := x.sg.set v.toNat g } v).1 with num := (Go.Proofs.YtffajooegiempaaGreatDoor.tailE s (rSecond s (adv d1) { x with any := false, sg := x.sg.set v.toNat g } v).2).1 }, (Go.Proofs.YtffajooegiempaaGreatDoor.tailE s (rSecond s (adv d1) { x with any := false, sg := x.sg.set v.toNat g } v).2).2) := by
      unfold rCond; rw [if_neg h42, hg]; simp only; rw [ev]; rfl
    have ebh : behindOf (signTo m1 v.toNat g 100) = behindOf m := by unfold behindOf; rw [hcur2]
    have h3 := h2.second rfl (by rw [hcur2]; show (cur m).kind = 33 ∨ m1.op.length ≠ 4; rw [e2]; exact hk) { x with any := false, sg := x.sg.set v.toNat g } v (by rw [hcur2, hx2]) (by
      intro u hu0 hu3
      rw [hcur2]
      show ((cur m).sg.set v.toNat g).getD u.toNat 0 = 0 ↔ u ≠ v
      rw [hz, List.getD_eq_getElem?_getD, List.getElem?_set]
      by_cases euv : u = v
      · subst euv
        rw [if_pos rfl, if_pos (by simp; omega)]
        simp [hgn]
      · rw [if_neg (by omega)]
        rcases (show u = 0 ∨ u = 1 ∨ u = 2 ∨ u = 3 by omega) with rfl | rfl | rfl | rfl <;> simp <;> omega)
    rw [ebh] at h3
    rw [e]
    refine h3.mono ?_
    rintro y - ⟨a, b, c⟩
    have hl1 : 0 < (signTo m1 v.toNat g 100).st.length := by rw [hst2, setCur_len]; exact hn
    have hany : (rSecond s (adv d1) { x with any := false, sg := x.sg.set v.toNat g } v).1.any = false := rSecond_any _ _ _ _
    generalize rSecond s (adv d1) { x with any := false, sg := x.sg.set v.toNat g } v = z at *
    refine ⟨a, b.trans ?_, c.trans ?_⟩
    · rw [setCur_two, cur_setCur' hl1, hcur2, setCur_st_eq hst2, setCur_two]
      show (setCur m { cur m with sg := z.1.sg, num := _ }).st = (setCur m { cur m with star := z.1.any, sg := z.1.sg, num := _ }).st
      rw [hany, ← hx4]
    · unfold opAft
      rw [cur_setCur' hl1, hcur2, setCur_len]
      show (if (cur m).kind = 33 then m1.op else m1.op ++ [⟨(signTo m1 v.toNat g 100).st.length - 1, false⟩]) = _
      rw [e2, hst2, setCur_len]
  · have ev : rVar s d1 (-1) = (0, stk d1) := by unfold rVar; rw [if_pos (.inl (varOf_neg hv))]
    rw [if_neg hv] at hb1
    have hd : Dead s (stk d1) := h1.adead hb1 (fun _ => notDone e3)
    have e : (rCond s d x).2 = stk d1 := by
      unfold rCond; rw [if_neg h42, hg]; simp only; rw [ev]; simp only
      rw [hd.dSecond]
      exact congrArg Prod.snd hd.dTailE
    rw [e, hd.dnd (behind_ne m).1]
    exact .inl hd

end Go.Proofs.YtffajooegiempaaGreatDoor

namespace Go.Proofs.YtffajooegiempaaGreatDoor
variable {s : ByteArray} {d : Nat × Bool} {m m' : Rd}

/-- The machine's sign of a kind. -/
def kindOf (k : Int) : Int := if k = 0 then 61 else if k = 1 then 33 else if k = 2 then 63 else 64
/-- A statement of the program's, and the machine's. -/
def Cor (x : Ds) (u : St) : Prop := u.kind = kindOf x.kind ∧ u.var = x.target ∧ u.star = x.any ∧ u.sg = x.sg ∧ u.num = x.num
structure CorL (F : List Ds) (S : List St) : Prop where
  len : F.length = S.length
  cor : ∀ (i : Nat) (x : Ds) (u : St), F[i]? = some x → S[i]? = some u → Cor x u
def Pre {α : Type} (l l' : List α) : Prop := ∀ i, i < l.length → l'[i]? = l[i]?
theorem Pre.refl {α : Type} (l : List α) : Pre l l := fun _ _ => rfl
theorem Pre.trans {α : Type} {a b c : List α} (h : Pre a b) (k : Pre b c) (hl : a.length ≤ b.length) : Pre a c := fun i hi => (k i (by omega)).trans (h i hi)
theorem Pre.snoc {α : Type} (l : List α) (x : α) : Pre l (l ++ [x]) := fun _ hi => List.getElem?_append_left hi

/-- The statement at a, of block b of p, up to e: its own parts. 'R p b a c': the statements from a to c are those of block b of p. -/
def StmOk (F : List Ds) (S : List St) (R : Int → Int → Nat → Nat → Prop) (p b : Int) (a e : Nat) : Prop :=
  ∃ x u, F[a]? = some x ∧ S[a]? = some u ∧ x.parent = p ∧ x.block = b ∧ u.fin = e ∧ a < e ∧
    (((x.kind = 0 ∨ x.kind = 1) ∧ e = a + 1) ∨ (x.kind = 3 ∧ R a 0 (a + 1) e) ∨ (x.kind = 2 ∧ a + 1 ≤ u.mid ∧ u.mid ≤ e ∧ R a 0 (a + 1) u.mid ∧ R a 1 u.mid e))
def Blk (F : List Ds) (S : List St) : Nat → Int → Int → Nat → Nat → Prop
  | 0, _, _, a, c => a = c
  | f + 1, p, b, a, c => a = c ∨ ∃ e, e ≤ c ∧ StmOk F S (Blk F S f) p b a e ∧ Blk F S f p b e c

theorem StmOk.into {F F' : List Ds} {S S' : List St} {R R' : Int → Int → Nat → Nat → Prop} {p b : Int} {a e : Nat} (h : StmOk F S R p b a e) (h1 : F'[a]? = F[a]?) (h2 : S'[a]? = S[a]?) (h3 : ∀ p b i j, a < i → i ≤ j → j ≤ e → R p b i j → R' p b i j) : StmOk F' S' R' p b a e := by
  obtain ⟨x, u, hx, hu, hp, hb, hf, hae, hk⟩ := h
  refine ⟨x, u, by rw [h1]; exact hx, by rw [h2]; exact hu, hp, hb, hf, hae, ?_⟩
  rcases hk with hk | ⟨k3, hk⟩ | ⟨k2, q1, q2, hk1, hk2⟩
  · exact .inl hk
  · exact .inr (.inl ⟨k3, h3 _ _ _ _ (by omega) (by omega) (Nat.le_refl _) hk⟩)
  · exact .inr (.inr ⟨k2, q1, q2, h3 _ _ _ _ (by omega) q1 (by omega) hk1, h3 _ _ _ _ (by omega) q2 (Nat.le_refl _) hk2⟩)
theorem StmOk.lt {F : List Ds} {S : List St} {R : Int → Int → Nat → Nat → Prop} {p b : Int} {a e : Nat} (h : StmOk F S R p b a e) : a < e := by
  obtain ⟨x, u, hx, hu, hp, hb, hf, hae, hk⟩ := h
  exact hae
theorem Blk.succ {F : List Ds} {S : List St} {f : Nat} : ∀ {p b : Int} {a c : Nat}, Blk F S f p b a c → Blk F S (f + 1) p b a c := by
  induction f with
  | zero => intro p b a c h; exact .inl h
  | succ f ih =>
    intro p b a c h
    rcases h with h | ⟨e, he, hs, hr⟩
    · exact .inl h
    · exact .inr ⟨e, he, hs.into rfl rfl (fun _ _ _ _ _ _ _ hR => ih hR), ih hr⟩
theorem Blk.more {F : List Ds} {S : List St} {f : Nat} (g : Nat) {p b : Int} {a c : Nat} (h : Blk F S f p b a c) : Blk F S (f + g) p b a c := by
  induction g with
  | zero => exact h
  | succ g ih => exact ih.succ
/-- It hangs on the statements from a to c alone. -/
theorem Blk.keep {F F' : List Ds} {S S' : List St} {f : Nat} : ∀ {p b : Int} {a c : Nat}, Blk F S f p b a c → (∀ i, a ≤ i → i < c → F'[i]? = F[i]?) → (∀ i, a ≤ i → i < c → S'[i]? = S[i]?) → Blk F' S' f p b a c := by
  induction f with
  | zero => intro p b a c h _ _; exact h
  | succ f ih =>
    intro p b a c h h1 h2
    rcases h with h | ⟨e, he, hs, hr⟩
    · exact .inl h
    · have hae := hs.lt
      refine .inr ⟨e, he, hs.into (h1 a (by omega) (by omega)) (h2 a (by omega) (by omega)) (fun _ _ i j hi hij hj hR => ih hR (fun k hk1 hk2 => h1 k (by omega) (by omega)) (fun k hk1 hk2 => h2 k (by omega) (by omega))), ih hr (fun k hk1 hk2 => h1 k (by omega) hk2) (fun k hk1 hk2 => h2 k (by omega) hk2)⟩

theorem CorL.snoc {F : List Ds} {S : List St} (h : CorL F S) {x : Ds} {u : St} (hc : Cor x u) : CorL (F ++ [x]) (S ++ [u]) := by
  refine ⟨by simp [h.len], fun i y v hy hv => ?_⟩
  by_cases hi : i < F.length
  · rw [List.getElem?_append_left hi] at hy
    rw [List.getElem?_append_left (by rw [← h.len]; exact hi)] at hv
    exact h.cor i y v hy hv
  · have hl := h.len
    have : i = F.length := by
      have : i < (F ++ [x]).length := by
        rcases Nat.lt_or_ge i (F ++ [x]).length with h' | h'
        · exact h'
        · simp [List.getElem?_eq_none h'] at hy
      simp at this; omega
    subst this
    simp at hy
    rw [hl] at hv
    simp at hv
    subst hy; subst hv; exact hc
theorem CorL.set {F : List Ds} {S : List St} (h : CorL F S) {k : Nat} {u u' : St} (hk : S[k]? = some u) (hc : ∀ x, Cor x u → Cor x u') : CorL F (S.set k u') := by
  refine ⟨by simp [h.len], fun i y v hy hv => ?_⟩
  rw [List.getElem?_set] at hv
  split at hv
  · rename_i e
    subst e
    split at hv
    · simp at hv; subst hv; exact hc y (h.cor k y u hy hk)
    · cases hv
  · exact h.cor i y v hy hv

/-- What a run of readStatements comes to. -/
structure Out (s : ByteArray) (z : Zt) (m : Rd) (z' : Zt) (m' : Rd) : Prop where
  sync : Sync s z'.1 m'
  st : m'.state = 115
  op : m'.op = m.op
  cor : CorL z'.2 m'.st
  preF : Pre z.2 z'.2
  preS : Pre m.st m'.st
  len : z.2.length ≤ z'.2.length

def Says (s : ByteArray) (n : Nat) : Prop := ∀ (p b dp : Int) (z : Zt) (m : Rd), Sync s z.1 m → m.state = 115 → (m.op.length : Int) = dp → CorL z.2 m.st → Mz z < n →
  Dead s (rStmts s n p b dp z).1 ∨ ∃ m', Out s z m (rStmts s n p b dp z) m' ∧ (∃ f, Blk (rStmts s n p b dp z).2 m'.st f p b z.2.length (rStmts s n p b dp z).2.length) ∧ (pk s (rStmts s n p b dp z).1 = 0 ∨ pk s (rStmts s n p b dp z).1 = 125)

theorem Dead.dStmts {z : Zt} (h : Dead s z.1) (n : Nat) (p b dp : Int) : rStmts s n p b dp z = z := by
  cases n with
  | zero => rfl
  | succ n => unfold rStmts; rw [if_pos (.inl h.dpk)]
theorem Dead.dBlock {z : Zt} (h : Dead s z.1) (n : Nat) (p b dp : Int) : rBlockWith s (rStmts s n) p b dp z = z := by
  unfold rBlockWith
  rw [h.dnd (by decide), Dead.dStmts (z := (z.1, z.2)) h, h.dnd (by decide)]

theorem byte_115 (h : m.state = 115) (c : Int) : byteStep m c = startStep m c := by unfold byteStep; rw [if_pos h]
theorem byte_125 (h : m.state = 125) (c : Int) : byteStep m c = if c = 123 then some { m with op := m.op.set (m.op.length - 1) { top m with second := true }, state := 115 } else none := by
  rw [byte_cond (by rw [h]; decide)]; unfold condStep; rw [h, if_neg (by decide), if_neg (by decide), if_neg (by decide), if_neg (by decide), if_neg (by decide), if_neg (by decide), if_neg (by decide), if_neg (by decide), if_neg (by decide)]

/-- A block, from behind its brace to behind its end: the machine is where the block is shut. -/
theorem block_in {n : Nat} (H : Says s n) {z : Zt} (p b dp : Int) (h : Sync s z.1 m) (hs : m.state = 115) (hop : 0 < m.op.length) (hdp : (m.op.length : Int) = dp) (hc : CorL z.2 m.st) (hm : Mz z < n) :
    Dead s (nd s (rStmts s n p b dp z).1 125) ∨ ∃ m2 m3, Out s z m (rStmts s n p b dp z) m2 ∧ (∃ f, Blk (rStmts s n p b dp z).2 m2.st f p b z.2.length (rStmts s n p b dp z).2.length) ∧ shutStep m2 = some m3 ∧ Sync s (nd s (rStmts s n p b dp z).1 125) m3 := by
  rcases H p b dp z m h hs hdp hc hm with hd | ⟨m2, ho, hf, hpk⟩
  · left; rw [hd.dnd (by decide)]; exact hd
  · have hb := byte_115 ho.st (pk s (rStmts s n p b dp z).1)
    have hop2 : 0 < m2.op.length := by rw [ho.op]; exact hop
    by_cases e : pk s (rStmts s n p b dp z).1 = 125
    · right
      rw [e] at hb
      have hst : startStep m2 125 = shutStep m2 := by unfold startStep; rw [if_neg (by decide), if_neg (by decide), if_neg (by decide), if_pos ⟨rfl, hop2⟩]
      rw [hst] at hb
      obtain ⟨m3, hm3⟩ : ∃ m3, shutStep m2 = some m3 := by
        simp only [shutStep]
        split
        · exact ⟨_, rfl⟩
        · exact ⟨_, rfl⟩
      refine ⟨m2, m3, ho, hf, hm3, ?_⟩
      have en : nd s (rStmts s n p b dp z).1 125 = adv (rStmts s n p b dp z).1 := if_pos e
      rw [en]
      exact ho.sync.aadv (by omega) (by rw [e, hb, hm3])
    · left
      have e0 : pk s (rStmts s n p b dp z).1 = 0 := hpk.elim id (fun h => absurd h e)
      have en : nd s (rStmts s n p b dp z).1 125 = stk (rStmts s n p b dp z).1 := if_neg e
      rw [en]
      refine ho.sync.adead ?_ (fun _ => ?_)
      · rw [hb, e0]; unfold startStep; rw [if_neg (by decide), if_neg (by decide), if_neg (by decide), if_neg (by omega)]
      · unfold isDone; simp; intro _ h0; rw [h0] at hop2; exact absurd hop2 (by simp)

end Go.Proofs.YtffajooegiempaaGreatDoor

namespace Go.Proofs.YtffajooegiempaaGreatDoor
variable {s : ByteArray} {d : Nat × Bool} {m m' : Rd}

theorem top_snoc {o : List Bk} {b : Bk} (h : m.op = o ++ [b]) : top m = b ∧ m.op.take (m.op.length - 1) = o ∧ 0 < m.op.length := by
  unfold top
  rw [h]
  simp
theorem rValue_same (s : ByteArray) (d : Nat × Bool) (x : Ds) : (rValue s d x).1.kind = x.kind ∧ (rValue s d x).1.target = x.target ∧ (rValue s d x).1.parent = x.parent ∧ (rValue s d x).1.block = x.block := by
  unfold rValue
  split
  · exact ⟨rfl, rfl, rfl, rfl⟩
  split
  · exact ⟨rfl, rfl, rfl, rfl⟩
  · exact ⟨rfl, rfl, rfl, rfl⟩
theorem rSecond_same (s : ByteArray) (d : Nat × Bool) (x : Ds) (f : Int) : (rSecond s d x f).1.kind = x.kind ∧ (rSecond s d x f).1.target = x.target ∧ (rSecond s d x f).1.parent = x.parent ∧ (rSecond s d x f).1.block = x.block := by
  unfold rSecond
  split
  · exact ⟨rfl, rfl, rfl, rfl⟩
  · exact ⟨rfl, rfl, rfl, rfl⟩
theorem rCond_same (s : ByteArray) (d : Nat × Bool) (x : Ds) : (rCond s d x).1.kind = x.kind ∧ (rCond s d x).1.target = x.target ∧ (rCond s d x).1.parent = x.parent ∧ (rCond s d x).1.block = x.block := by
  unfold rCond
  split
  · exact ⟨rfl, rfl, rfl, rfl⟩
  · exact rSecond_same _ _ _ _

/-- A statement that has just begun. -/
def u0 (m : Rd) (k v : Int) : St := ⟨k, v, false, [0, 0, 0, 0], 0, 0, m.st.length + 1⟩
def begun0 (m : Rd) (k v x : Int) : Rd := { m with st := m.st ++ [u0 m k v], state := x }
theorem begin_yes {k v x : Int} (h : m.st.length ≠ 20) : beginStep m k v x = some (begun0 m k v x) := by unfold beginStep; rw [if_neg h]; rfl
theorem cur_begun (k v x : Int) : cur (begun0 m k v x) = u0 m k v := by unfold cur begun0; simp
theorem setCur_begun (k v x : Int) (u : St) : (setCur (begun0 m k v x) u).st = m.st ++ [u] := by unfold setCur begun0; simp
theorem start_full (hl : m.st.length = 20) {c : Int} (hc : c ≠ 125) : startStep m c = none := by
  unfold startStep beginStep
  split
  · first | rfl | rw [if_pos hl]
  split
  · split
    · first | rfl | rw [if_pos hl]
    · rfl
  split
  · first | rfl | rw [if_pos hl]
  · rw [if_neg (fun e => hc e.1)]

/-- A statement without blocks. -/
theorem simple_says {n : Nat} {z : Zt} {p b dp : Int} {x : Ds} {d1 : Nat × Bool} {u : St} (hc : CorL z.2 m.st) (h20 : ¬ 20 ≤ z.2.length) (hh : rHead s z.1 (newDs p b) dp = (x, d1)) (hk : x.kind = 0 ∨ x.kind = 1) (hp : x.parent = p ∧ x.block = b) (hcor : Cor x u) (hfin : u.fin = m.st.length + 1)
    (hr : Res s d1 (fun y => y.state = 115 ∧ y.op = m.op ∧ y.st = m.st ++ [u])) :
    Dead s (rStmtWith s (rStmts s n) p b dp z).1 ∨ ∃ m1, Out s z m (rStmtWith s (rStmts s n) p b dp z) m1 ∧ ∃ f, StmOk (rStmtWith s (rStmts s n) p b dp z).2 m1.st (Blk (rStmtWith s (rStmts s n) p b dp z).2 m1.st f) p b z.2.length (rStmtWith s (rStmts s n) p b dp z).2.length := by
  have hb0 : blocksOf x.kind = 0 := by
    rcases hk with e | e <;> rw [e] <;> decide
  have hl := hc.len
  rcases hr with hd | ⟨m1, h1, hst, hop, hS⟩
  · left
    have e : rStmtWith s (rStmts s n) p b dp z = (d1, z.2) := by unfold rStmtWith; rw [if_neg h20, hh, if_pos hd.st]
    rw [e]; exact hd
  · right
    have e : rStmtWith s (rStmts s n) p b dp z = (d1, z.2 ++ [x]) := by unfold rStmtWith; rw [if_neg h20, hh, if_neg (by rw [h1.ns]; decide)]; simp only; rw [hb0]; rfl
    rw [e]
    refine ⟨m1, ⟨h1, hst, hop, by rw [hS]; exact hc.snoc hcor, Pre.snoc _ _, by rw [hS]; exact Pre.snoc _ _, by simp⟩, 0, x, u, by simp, by rw [hS, hl]; simp, hp.1, hp.2, by rw [hfin, ← hl]; simp, by simp, .inl ⟨hk, by simp⟩⟩

/-- A statement with blocks. -/
theorem blocks_says {n : Nat} (H : Says s n) {z : Zt} {p b dp : Int} {x : Ds} {d1 : Nat × Bool} {u : St} (hz : z.1.2 = false) (hm : Mz z ≤ n) (hdp : (m.op.length : Int) = dp) (hc : CorL z.2 m.st) (h20 : ¬ 20 ≤ z.2.length) (hh : rHead s z.1 (newDs p b) dp = (x, d1)) (hk : x.kind = 2 ∨ x.kind = 3) (hp : x.parent = p ∧ x.block = b) (hcor : Cor x u)
    (hr : Res s (nd s d1 123) (fun y => y.state = 115 ∧ y.op = m.op ++ [⟨m.st.length, false⟩] ∧ y.st = m.st ++ [u])) :
    Dead s (rStmtWith s (rStmts s n) p b dp z).1 ∨ ∃ m1, Out s z m (rStmtWith s (rStmts s n) p b dp z) m1 ∧ ∃ f, StmOk (rStmtWith s (rStmts s n) p b dp z).2 m1.st (Blk (rStmtWith s (rStmts s n) p b dp z).2 m1.st f) p b z.2.length (rStmtWith s (rStmts s n) p b dp z).2.length := by
  have hl := hc.len
  have hMz : Mz z = 21 - z.2.length := by unfold Mz; rw [hz]; rfl
  by_cases hst1 : d1.2 = true
  · left
    have e : rStmtWith s (rStmts s n) p b dp z = (d1, z.2) := by unfold rStmtWith; rw [if_neg h20, hh, if_pos hst1]
    rw [e]
    have epk : pk s d1 = 0 := by unfold pk; rw [hst1]; rfl
    have en : nd s d1 123 = d1 := by unfold nd; rw [if_neg (by rw [epk]; decide), ← hst1]
    rw [en] at hr
    rcases hr with hd | ⟨m1, h1, _⟩
    · exact hd
    · exact absurd h1.ns (by rw [hst1]; decide)
  obtain ⟨z1, hz1⟩ : ∃ z1, z1 = rBlockWith s (rStmts s n) z.2.length 0 (dp + 1) (d1, z.2 ++ [x]) := ⟨_, rfl⟩
  have e3 : x.kind = 3 → rStmtWith s (rStmts s n) p b dp z = z1 := by
    intro e; unfold rStmtWith; rw [if_neg h20, hh, if_neg hst1]; simp only; rw [e, hz1]; rfl
  have e2 : x.kind = 2 → rStmtWith s (rStmts s n) p b dp z = rBlockWith s (rStmts s n) z.2.length 1 (dp + 1) z1 := by
    intro e; unfold rStmtWith; rw [if_neg h20, hh, if_neg hst1]; simp only; rw [e, hz1]; rfl
  have deadAll : Dead s z1.1 → Dead s (rStmtWith s (rStmts s n) p b dp z).1 := by
    intro hd
    rcases hk with e | e
    · rw [e2 e, hd.dBlock]; exact hd
    · rw [e3 e]; exact hd
  rcases hr with hd | ⟨m2, h2, s2, o2, t2⟩
  · left
    refine deadAll ?_
    rw [hz1]
    unfold rBlockWith
    rw [Dead.dStmts (z := (nd s d1 123, z.2 ++ [x])) hd]
    show Dead s (nd s (nd s d1 123) 125)
    rw [hd.dnd (by decide)]; exact hd
  have ht2 := top_snoc o2
  have hc2 : CorL (z.2 ++ [x]) m2.st := by rw [t2]; exact hc.snoc hcor
  have hM2 : Mz (nd s d1 123, z.2 ++ [x]) < n := by
    unfold Mz; rw [h2.ns]; simp; omega
  have hdp2 : (m2.op.length : Int) = dp + 1 := by rw [o2]; simp; omega
  have hz1' : z1 = (nd s (rStmts s n z.2.length 0 (dp + 1) (nd s d1 123, z.2 ++ [x])).1 125, (rStmts s n z.2.length 0 (dp + 1) (nd s d1 123, z.2 ++ [x])).2) := hz1
  rcases block_in H (z := (nd s d1 123, z.2 ++ [x])) z.2.length 0 (dp + 1) h2 s2 ht2.2.2 hdp2 hc2 hM2 with hd | ⟨m3, m4, ho3, ⟨f3, hf3⟩, hsh, h4⟩
  · left; refine deadAll ?_; rw [hz1']; exact hd
  obtain ⟨y, hy⟩ : ∃ y, y = rStmts s n z.2.length 0 (dp + 1) (nd s d1 123, z.2 ++ [x]) := ⟨_, rfl⟩
  rw [← hy] at ho3 hf3 h4 hz1'
  have hlen1 : z.2.length + 1 ≤ y.2.length := by have := ho3.len; simp at this; omega
  have hu3 : m3.st[z.2.length]? = some u := by
    rw [ho3.preS _ (by rw [t2]; simp; omega), t2, hl]; simp
  have hx3 : y.2[z.2.length]? = some x := by
    rw [ho3.preF _ (by simp)]; simp
  have hS3 : m3.st.length = y.2.length := ho3.cor.len.symm
  have o3 : m3.op = m.op ++ [⟨m.st.length, false⟩] := ho3.op.trans o2
  have ht3 := top_snoc o3
  have hg3 : m3.st.getD m.st.length noSt = u := by rw [← hl, List.getD_eq_getElem?_getD, hu3]; rfl
  have preS0 : ∀ i, i < m.st.length → m3.st[i]? = m.st[i]? := fun i hi => by
    rw [ho3.preS i (by rw [t2]; simp; omega), t2, List.getElem?_append_left hi]
  have preF0 : ∀ i, i < z.2.length → y.2[i]? = z.2[i]? := fun i hi => by
    rw [ho3.preF i (by simp; omega)]; exact List.getElem?_append_left hi
  simp only [shutStep] at hsh
  rw [ht3.1, ht3.2.1] at hsh
  simp only at hsh
  rw [hg3] at hsh
  rcases hk with hk | hk
  · -- two blocks
    have hku : u.kind = 63 := by rw [hcor.1, hk]; rfl
    rw [if_pos ⟨hku, by first | rfl | trivial⟩] at hsh
    simp only [Option.some.injEq] at hsh
    rw [e2 hk, hz1']
    have hb4 := byte_125 (m := m4) (by rw [← hsh]) (pk s (nd s y.1 125))
    have o4 : m4.op = m.op ++ [⟨m.st.length, false⟩] := by rw [← hsh]; exact o3
    have ht4 := top_snoc o4
    have hS4 : m4.st = m3.st.set m.st.length { u with fin := m3.st.length, mid := m3.st.length } := by rw [← hsh]
    unfold rBlockWith
    simp only
    rcases h4.aneed (c := 123) (m' := { m4 with op := m4.op.set (m4.op.length - 1) { top m4 with second := true }, state := 115 }) (by decide) (fun e => by rw [e, if_pos rfl] at hb4; exact hb4) (fun e => by rw [if_neg e] at hb4; exact hb4) (notDone (by rw [← hsh]; show (125 : Int) ≠ 115; decide)) with hd | ⟨m5, h5, e5⟩
    · left
      rw [Dead.dStmts (z := (nd s (nd s y.1 125) 123, y.2)) hd]
      show Dead s (nd s (nd s (nd s y.1 125) 123) 125)
      rw [hd.dnd (by decide)]; exact hd
    have o5 : m5.op = m.op ++ [⟨m.st.length, true⟩] := by rw [e5]; show m4.op.set _ _ = _; rw [ht4.1, o4]; simp
    have t5 : m5.st = m4.st := by rw [e5]
    have ht5 := top_snoc o5
    have hc5 : CorL y.2 m5.st := by rw [t5, hS4, ← hl]; exact ho3.cor.set hu3 (fun w hw => hw)
    have hM5 : Mz (nd s (nd s y.1 125) 123, y.2) < n := by
      unfold Mz; rw [h5.ns]; simp; omega
    have hdp5 : (m5.op.length : Int) = dp + 1 := by rw [o5]; simp; omega
    rcases block_in H (z := (nd s (nd s y.1 125) 123, y.2)) z.2.length 1 (dp + 1) h5 (by rw [e5]) ht5.2.2 hdp5 hc5 hM5 with hd | ⟨m6, m7, ho6, ⟨f6, hf6⟩, hsh7, h7⟩
    · left; exact hd
    right
    obtain ⟨y2, hy2⟩ : ∃ y2, y2 = rStmts s n z.2.length 1 (dp + 1) (nd s (nd s y.1 125) 123, y.2) := ⟨_, rfl⟩
    rw [← hy2] at ho6 hf6 h7 ⊢
    have hlen2 : y.2.length ≤ y2.2.length := ho6.len
    have o6 : m6.op = m.op ++ [⟨m.st.length, true⟩] := ho6.op.trans o5
    have ht6 := top_snoc o6
    have hl5 : m5.st.length = y.2.length := hc5.len.symm
    have hu6 : m6.st[m.st.length]? = some { u with fin := m3.st.length, mid := m3.st.length } := by
      rw [ho6.preS _ (by rw [hl5]; omega), t5, hS4, List.getElem?_set, if_pos rfl, if_pos (by rw [hS3]; omega)]
    have hg6 : m6.st.getD m.st.length noSt = { u with fin := m3.st.length, mid := m3.st.length } := by rw [List.getD_eq_getElem?_getD, hu6]; rfl
    simp only [shutStep] at hsh7
    rw [ht6.1, ht6.2.1] at hsh7
    simp only at hsh7
    rw [hg6, if_neg (by simp)] at hsh7
    simp only [Option.some.injEq] at hsh7
    have hS7 : m7.st = m6.st.set m.st.length { u with fin := m6.st.length, mid := m3.st.length } := by rw [← hsh7]
    have hS6 : m6.st.length = y2.2.length := ho6.cor.len.symm
    have far7 : ∀ i, i ≠ m.st.length → m7.st[i]? = m6.st[i]? := fun i hi => by rw [hS7, List.getElem?_set, if_neg (fun e => hi e.symm)]
    have far4 : ∀ i, i ≠ m.st.length → m4.st[i]? = m3.st[i]? := fun i hi => by rw [hS4, List.getElem?_set, if_neg (fun e => hi e.symm)]
    have pre6 : ∀ i, i < y.2.length → m6.st[i]? = m4.st[i]? := fun i hi => by rw [ho6.preS i (by rw [hl5]; exact hi), t5]
    refine ⟨m7, ⟨h7, by rw [← hsh7]; exact ho6.st, by rw [← hsh7], by rw [hS7]; exact ho6.cor.set hu6 (fun w hw => hw), fun i hi => (ho6.preF i (by show i < y.2.length; omega)).trans (preF0 i hi), fun i hi => by
      rw [far7 i (by omega), pre6 i (by omega), far4 i (by omega), preS0 i hi], by show z.2.length ≤ y2.2.length; omega⟩, f3 + f6, x, { u with fin := m6.st.length, mid := m3.st.length }, ?_, ?_, hp.1, hp.2, by show m6.st.length = y2.2.length; exact hS6, by show z.2.length < y2.2.length; omega, .inr (.inr ⟨hk, by show z.2.length + 1 ≤ m3.st.length; omega, by show m3.st.length ≤ y2.2.length; omega, ?_, ?_⟩)⟩
    · show y2.2[z.2.length]? = some x
      rw [ho6.preF _ (by show z.2.length < y.2.length; omega)]; exact hx3
    · rw [hS7, hl, List.getElem?_set, if_pos rfl, if_pos (by omega)]
    · show Blk y2.2 m7.st (f3 + f6) z.2.length 0 (z.2.length + 1) m3.st.length
      rw [hS3]
      have hb : Blk y.2 m3.st f3 z.2.length 0 (z.2.length + 1) y.2.length := by
        have h := hf3
        simp at h
        exact h
      exact (hb.keep (fun i h1 h2 => ho6.preF i h2) (fun i h1 h2 => by rw [far7 i (by omega), pre6 i h2, far4 i (by omega)])).more f6
    · show Blk y2.2 m7.st (f3 + f6) z.2.length 1 m3.st.length y2.2.length
      rw [hS3, Nat.add_comm]
      exact (hf6.keep (fun i _ _ => rfl) (fun i h1 h2 => far7 i (by have h1' : y.2.length ≤ i := h1; omega))).more f3
  · -- one block
    have hku : u.kind = 64 := by rw [hcor.1, hk]; rfl
    rw [if_neg (by rw [hku]; simp)] at hsh
    simp only [Option.some.injEq] at hsh
    right
    rw [e3 hk, hz1']
    have hS4 : m4.st = m3.st.set m.st.length { u with fin := m3.st.length } := by rw [← hsh]
    have far4 : ∀ i, i ≠ m.st.length → m4.st[i]? = m3.st[i]? := fun i hi => by rw [hS4, List.getElem?_set, if_neg (fun e => hi e.symm)]
    refine ⟨m4, ⟨h4, by rw [← hsh]; exact ho3.st, by rw [← hsh], by rw [hS4, ← hl]; exact ho3.cor.set hu3 (fun w hw => hw), preF0, fun i hi => by rw [far4 i (by omega), preS0 i hi], by show z.2.length ≤ y.2.length; omega⟩, f3, x, { u with fin := m3.st.length }, hx3, ?_, hp.1, hp.2, by show m3.st.length = y.2.length; exact hS3, by show z.2.length < y.2.length; omega, .inr (.inl ⟨hk, ?_⟩)⟩
    · rw [hS4, hl, List.getElem?_set, if_pos rfl, if_pos (by omega)]
    · show Blk y.2 m4.st f3 z.2.length 0 (z.2.length + 1) y.2.length
      have hb : Blk y.2 m3.st f3 z.2.length 0 (z.2.length + 1) y.2.length := by
        have h := hf3
        simp at h
        exact h
      exact hb.keep (fun i _ _ => rfl) (fun i h1 h2 => far4 i (by omega))

end Go.Proofs.YtffajooegiempaaGreatDoor

