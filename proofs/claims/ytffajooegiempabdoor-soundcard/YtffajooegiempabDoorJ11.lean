import Derived.Test.YtffajooegiempabDoorJ10
namespace Go.Proofs.YtffajooegiempabDoor
variable {s : ByteArray} {d : Nat × Bool} {m m' : Rd}

theorem byte_59 (h : m.state = 59) (c : Int) : byteStep m c = if c = 59 then some { m with state := 115 } else none := by
  rw [byte_plain (.inl h)]; unfold plainStep; rw [if_pos h]
theorem byte_118 (h : m.state = 118) (c : Int) : byteStep m c = if c = 42 then some { setCur m { cur m with star := true } with state := 59 } else if c = 45 then some { m with sign := -1, state := 86 } else if 97 ≤ c ∧ c ≤ 100 then some (signTo m (c - 97).toNat 1 120) else digitStep { m with sign := 1 } c false 110 := by
  rw [byte_value (.inl h)]; unfold valueStep; rw [if_pos h]
theorem byte_86 (h : m.state = 86) (c : Int) : byteStep m c = if 97 ≤ c ∧ c ≤ 100 then some (signTo m (c - 97).toNat m.sign 120) else digitStep m c true 110 := by
  rw [byte_value (.inr (.inl h))]; unfold valueStep; rw [h, if_neg (by decide), if_pos rfl]
theorem byte_120 (h : m.state = 120) (c : Int) : byteStep m c = if c = 43 then some { m with sign := 1, state := 121 } else if c = 45 then some { m with sign := -1, state := 121 } else if c = 59 then some (valueEnd m) else none := by
  rw [byte_value (.inr (.inr (.inl h)))]; unfold valueStep; rw [h, if_neg (by decide), if_neg (by decide), if_pos rfl]
theorem byte_121 (h : m.state = 121) (c : Int) : byteStep m c = digitStep m c false 110 := by
  rw [byte_value (.inr (.inr (.inr (.inl h))))]; unfold valueStep; rw [h, if_neg (by decide), if_neg (by decide), if_neg (by decide), if_pos rfl]
theorem byte_61 (h : m.state = 61) (c : Int) : byteStep m c = if c = 61 then some { m with state := 118 } else none := by
  unfold byteStep; rw [h, if_neg (by decide), if_pos rfl]

theorem varOf_pos {c : Int} (h : 97 ≤ c ∧ c ≤ 100) : varOf c = c - 97 := if_pos h
theorem varOf_neg {c : Int} (h : ¬ (97 ≤ c ∧ c ≤ 100)) : varOf c = -1 := if_neg h

theorem setCur_st_eq {a b : Rd} (h : a.st = b.st) (u : St) : (setCur a u).st = (setCur b u).st := by unfold setCur; simp only; rw [h]
theorem cur_eq {a b : Rd} (h : a.st = b.st) : cur a = cur b := by unfold cur; rw [h]

/-- Behind the variable of a value. -/
theorem Sync.summand (h : Sync s d m) (hs : m.state = 120) (hz : (cur m).num = 0) :
    Res s (nd s (rSummand s d).2 59) (fun x => x.state = 115 ∧ x.op = m.op ∧ x.st = (setCur m { cur m with num := (rSummand s d).1 }).st) := by
  have hn : 0 < m.st.length := h.aok.some_ (by rw [hs]; decide)
  have hb := byte_120 hs (pk s d)
  have hnd := notDone (m := m) (by rw [hs]; decide)
  by_cases h43 : pk s d = 43
  · have e : rSummand s d = rNum s (adv d) 1 := if_pos h43
    rw [e]
    rw [if_pos h43] at hb
    have h1 := h.aadv (by omega) hb
    refine (h1.numVal (m0 := { m with sign := 1, state := 121 }) (pos := false) (sg := 1) (byte_121 rfl _) (by decide : (121 : Int) ≠ 110) hn (.inl ⟨rfl, rfl⟩) (notDone (by decide : (121 : Int) ≠ 115))).mono ?_
    rintro x - ⟨a, b, c⟩
    refine ⟨a, b, c.trans ?_⟩
    show (setCur m { cur m with num := 1 * (1 * _) }).st = _
    rw [Int.one_mul, Int.one_mul]
  by_cases h45 : pk s d = 45
  · have e : rSummand s d = (-(rNum s (adv d) 1).1, (rNum s (adv d) 1).2) := by unfold rSummand; rw [if_neg h43, if_pos h45]
    rw [e]
    rw [if_neg h43, if_pos h45] at hb
    have h1 := h.aadv (by omega) hb
    refine (h1.numVal (m0 := { m with sign := -1, state := 121 }) (pos := false) (sg := 1) (byte_121 rfl _) (by decide : (121 : Int) ≠ 110) hn (.inl ⟨rfl, rfl⟩) (notDone (by decide : (121 : Int) ≠ 115))).mono ?_
    rintro x - ⟨a, b, c⟩
    refine ⟨a, b, c.trans ?_⟩
    show (setCur m { cur m with num := -1 * (1 * _) }).st = _
    rw [Int.one_mul, Int.neg_mul, Int.one_mul]
  · have e : rSummand s d = (0, d) := by unfold rSummand; rw [if_neg h43, if_neg h45]
    rw [e]
    rw [if_neg h43, if_neg h45] at hb
    refine (h.aneed (m' := valueEnd m) (by decide) (fun e => by rw [e, if_pos rfl] at hb; exact hb) (fun e => by rw [if_neg e] at hb; exact hb) hnd).mono ?_
    rintro x - rfl
    refine ⟨rfl, rfl, ?_⟩
    show (setCur m { cur m with num := m.sign * (cur m).num }).st = _
    rw [hz, Int.mul_zero]

/-- A value, and the end of the statement. -/
theorem Sync.value (h : Sync s d m) (hs : m.state = 118) (hz : (cur m).num = 0) (x : Ds) (hx : x.any = false ∧ x.sg = (cur m).sg ∧ x.num = 0 ∧ (cur m).star = false) :
    Res s (nd s (rValue s d x).2 59) (fun y => y.state = 115 ∧ y.op = m.op ∧ y.st = (setCur m { cur m with star := (rValue s d x).1.any, sg := (rValue s d x).1.sg, num := (rValue s d x).1.num }).st) := by
  have hn : 0 < m.st.length := h.aok.some_ (by rw [hs]; decide)
  have hb := byte_118 hs (pk s d)
  have hnd := notDone (m := m) (by rw [hs]; decide)
  obtain ⟨hx1, hx2, hx3, hx4⟩ := hx
  have hcs := cur_setCur' hn
  by_cases h42 : pk s d = 42
  · have e : rValue s d x = ({ x with any := true }, adv d) := if_pos h42
    rw [e]
    rw [if_pos h42] at hb
    have h1 := h.aadv (by omega) hb
    refine (h1.aneed (c := 59) (m' := { setCur m { cur m with star := true } with state := 115 }) (by decide) (fun e => by rw [byte_59 rfl, if_pos rfl]) (fun e => by rw [byte_59 rfl, if_neg e]) (notDone (by decide : (59 : Int) ≠ 115))).mono ?_
    rintro y - rfl
    refine ⟨rfl, rfl, ?_⟩
    show (setCur m { cur m with star := true }).st = (setCur m { cur m with star := true, sg := x.sg, num := x.num }).st
    rw [hx2, hx3, ← hz]
  rw [if_neg h42] at hb
  by_cases h45 : pk s d = 45
  · rw [if_pos h45] at hb
    have h1 := h.aadv (by omega) hb
    have eg : rSign s d = (-1, adv d) := if_pos h45
    have hb1 := byte_86 (m := { m with sign := -1, state := 86 }) rfl (pk s (adv d))
    by_cases hv : 97 ≤ pk s (adv d) ∧ pk s (adv d) ≤ 100
    · have ev : rVar s (adv d) (-1) = (pk s (adv d) - 97, adv (adv d)) := by unfold rVar; rw [varOf_pos hv, if_neg (by omega)]
      have e : rValue s d x = ({ x with any := false, sg := x.sg.set (pk s (adv d) - 97).toNat (-1), num := (rSummand s (adv (adv d))).1 }, (rSummand s (adv (adv d))).2) := by
        unfold rValue; rw [if_neg h42, eg, if_neg (by show varOf (pk s (adv d)) ≠ -1; rw [varOf_pos hv]; omega)]; simp only; rw [ev]
      rw [e]
      rw [if_pos hv] at hb1
      have h2 := h1.aadv (by omega) hb1
      refine (h2.summand rfl (by show (cur (setCur m _)).num = 0; rw [hcs]; exact hz)).mono ?_
      rintro y - ⟨a, b, c⟩
      refine ⟨a, b, c.trans ?_⟩
      show (setCur (setCur m _) { cur (setCur m _) with num := _ }).st = _
      rw [setCur_two, hcs]
      show (setCur m { cur m with sg := (cur m).sg.set _ (-1), num := _ }).st = (setCur m { cur m with star := false, sg := x.sg.set _ (-1), num := _ }).st
      rw [hx2, ← hx4]
    · have e : rValue s d x = ({ x with any := false, num := (rNum s (adv d) (-1)).1 }, (rNum s (adv d) (-1)).2) := by
        unfold rValue; rw [if_neg h42, eg, if_pos (varOf_neg hv)]
      rw [e]
      rw [if_neg hv] at hb1
      refine (h1.numVal (m0 := { m with sign := -1, state := 86 }) (pos := true) (sg := -1) hb1 (by decide : (86 : Int) ≠ 110) hn (.inr ⟨rfl, rfl⟩) (notDone (by decide : (86 : Int) ≠ 115))).mono ?_
      rintro y - ⟨a, b, c⟩
      refine ⟨a, b, c.trans ?_⟩
      show (setCur m { cur m with num := -1 * (-1 * _) }).st = (setCur m { cur m with star := false, sg := x.sg, num := _ }).st
      rw [hx2, ← hx4, Int.neg_mul, Int.neg_mul, Int.one_mul, Int.one_mul, Int.neg_neg]
  · rw [if_neg h45] at hb
    have eg : rSign s d = (1, d) := if_neg h45
    by_cases hv : 97 ≤ pk s d ∧ pk s d ≤ 100
    · have ev : rVar s d (-1) = (pk s d - 97, adv d) := by unfold rVar; rw [varOf_pos hv, if_neg (by omega)]
      have e : rValue s d x = ({ x with any := false, sg := x.sg.set (pk s d - 97).toNat 1, num := (rSummand s (adv d)).1 }, (rSummand s (adv d)).2) := by
        unfold rValue; rw [if_neg h42, eg, if_neg (by show varOf (pk s d) ≠ -1; rw [varOf_pos hv]; omega)]; simp only; rw [ev]
      rw [e]
      rw [if_pos hv] at hb
      have h2 := h.aadv (by omega) hb
      refine (h2.summand rfl (by show (cur (setCur m _)).num = 0; rw [hcs]; exact hz)).mono ?_
      rintro y - ⟨a, b, c⟩
      refine ⟨a, b, c.trans ?_⟩
      show (setCur (setCur m _) { cur (setCur m _) with num := _ }).st = _
      rw [setCur_two, hcs]
      show (setCur m { cur m with sg := (cur m).sg.set _ 1, num := _ }).st = (setCur m { cur m with star := false, sg := x.sg.set _ 1, num := _ }).st
      rw [hx2, ← hx4]
    · have e : rValue s d x = ({ x with any := false, num := (rNum s d 1).1 }, (rNum s d 1).2) := by
        unfold rValue; rw [if_neg h42, eg, if_pos (varOf_neg hv)]
      rw [e]
      rw [if_neg hv] at hb
      refine (h.numVal (m0 := { m with sign := 1 }) (pos := false) (sg := 1) hb (by show m.state ≠ 110; rw [hs]; decide) hn (.inl ⟨rfl, rfl⟩) hnd).mono ?_
      rintro y - ⟨a, b, c⟩
      refine ⟨a, b, c.trans ?_⟩
      show (setCur m { cur m with num := 1 * (1 * _) }).st = (setCur m { cur m with star := false, sg := x.sg, num := _ }).st
      rw [hx2, ← hx4, Int.one_mul, Int.one_mul]

end Go.Proofs.YtffajooegiempabDoor

namespace Go.Proofs.YtffajooegiempabDoor
variable {s : ByteArray} {d : Nat × Bool} {m m' : Rd}

/-- The open blocks behind a condition and the byte that follows it. -/
def opAft (m : Rd) : List Bk := if (cur m).kind = 33 then m.op else m.op ++ [⟨m.st.length - 1, false⟩]

theorem behind_ne (m : Rd) : behindOf m ≠ 0 ∧ behindOf m ≠ 115 := by
  rcases behind_or m with e | e <;> rw [e] <;> decide

/-- The byte behind a condition. -/
theorem plain_yes {a : Rd} (hs : a.state = behindOf m) (hk : (cur m).kind = 33 ∨ a.op.length ≠ 4) : ∃ y, plainStep a (behindOf m) = some y ∧ y.state = 115 ∧ y.st = a.st ∧ y.op = (if (cur m).kind = 33 then a.op else a.op ++ [⟨a.st.length - 1, false⟩]) := by
  unfold plainStep
  by_cases e : (cur m).kind = 33
  · have eb : behindOf m = 59 := if_pos e
    rw [if_pos (by rw [hs, eb]), if_pos eb]
    exact ⟨_, rfl, rfl, rfl, by rw [if_pos e]⟩
  · have eb : behindOf m = 123 := if_neg e
    rw [if_neg (by rw [hs, eb]; decide), if_neg (by rw [eb]; exact fun h => h.elim (fun h => h rfl) (fun h => hk.elim e (fun k => k h)))]
    exact ⟨_, rfl, rfl, rfl, by rw [if_neg e]⟩
theorem plain_no {a : Rd} (hs : a.state = behindOf m) {c : Int} (hc : c ≠ behindOf m) : plainStep a c = none := by
  unfold plainStep
  rcases behind_or m with e | e
  · rw [if_pos (by rw [hs, e]), if_neg (by rw [← e]; exact hc)]
  · rw [if_neg (by rw [hs, e]; decide), if_pos (.inl (by rw [← e]; exact hc))]

def negNum (m : Rd) : Int := if m.neg then -(cur m).num else (cur m).num
theorem byte_109 (h : m.state = 109) (c : Int) : byteStep m c = if c = 59 ∨ c = 123 then plainStep { setCur m { cur m with num := negNum m } with state := behindOf m } c else digitStep m c false 109 := by
  rw [byte_cond (by rw [h]; decide)]; unfold condStep; rw [h, if_neg (by decide), if_neg (by decide), if_neg (by decide), if_neg (by decide), if_neg (by decide), if_neg (by decide), if_neg (by decide), if_neg (by decide), if_pos rfl]; rfl

theorem Sync.condEnd (h : Sync s d m) (hs : m.state = 109) (hk : (cur m).kind = 33 ∨ m.op.length ≠ 4) (hno : ¬ (48 ≤ pk s d ∧ pk s d ≤ 57) ∨ m.dig = 2 ∨ (m.dig = 1 ∧ (cur m).num = 0)) :
    Res s (nd s d (behindOf m)) (fun x => x.state = 115 ∧ x.st = (setCur m { cur m with num := negNum m }).st ∧ x.op = opAft m) := by
  have hn : 0 < m.st.length := h.aok.some_ (by rw [hs]; decide)
  have hb := byte_109 hs (pk s d)
  obtain ⟨y, hy, y1, y2, y3⟩ := plain_yes (m := m) (a := { setCur m { cur m with num := negNum m } with state := behindOf m }) rfl hk
  refine (h.aneed (m' := y) (behind_ne m).1 (fun e => ?_) (fun e => ?_) (notDone (by rw [hs]; decide))).mono ?_
  · rw [e, if_pos (behind_or m), hy] at hb; exact hb
  · rw [hb]
    by_cases e2 : pk s d = 59 ∨ pk s d = 123
    · rw [if_pos e2]; exact plain_no rfl e
    · rw [if_neg e2]
      simp only [digitStep]
      rw [if_pos hs, if_pos hs, if_pos]
      omega
  · rintro x - rfl
    refine ⟨y1, y2, ?_⟩
    rw [y3]
    unfold opAft
    show (if (cur m).kind = 33 then m.op else m.op ++ [⟨(setCur m _).st.length - 1, false⟩]) = _
    rw [setCur_len]

/-- A number of a condition, and the byte behind it. -/
theorem Sync.numCond (h : Sync s d m) {pos : Bool} {sg : Int} (hb : byteStep m (pk s d) = digitStep m (pk s d) pos 109) (hs : m.state ≠ 109 ∧ m.state ≠ 115) (hk : (cur m).kind = 33 ∨ m.op.length ≠ 4) (hsg : (sg = 1 ∧ pos = false ∧ m.neg = false) ∨ (sg = -1 ∧ pos = true ∧ m.neg = true)) :
    Res s (nd s (rNum s d sg).2 (behindOf m)) (fun x => x.state = 115 ∧ x.st = (setCur m { cur m with num := (rNum s d sg).1 }).st ∧ x.op = opAft m) := by
  have hn : 0 < m.st.length := h.aok.some_ hs.2
  have hneg : ∀ n : Int, (if m.neg then -n else n) = sg * n := by
    intro n
    rcases hsg with ⟨rfl, _, e⟩ | ⟨rfl, _, e⟩ <;> rw [e] <;> simp
  have hcs := cur_setCur' hn
  have hbe : ∀ u : St, u.kind = (cur m).kind → behindOf (setCur m u) = behindOf m := fun u hu => by unfold behindOf; rw [hcs, hu]
  have hop : ∀ u : St, u.kind = (cur m).kind → opAft (setCur m u) = opAft m := fun u hu => by unfold opAft; rw [hcs, hu, setCur_len]; rfl
  by_cases hz : pk s d = 48 ∧ 0 < sg
  · have e : rNum s d sg = (0, adv d) := if_pos hz
    rw [e]
    have hp : pos = false := by
      rcases hsg with h | h
      · exact h.2.1
      · omega
    rw [digit_new hs.1 (by omega) (by rw [hp]; simp)] at hb
    have h1 := h.aadv (by omega) hb
    have e0 : pk s d - 48 = 0 := by omega
    have h2 := h1.condEnd rfl (by show (cur (setCur m _)).kind = 33 ∨ _; rw [hcs]; exact hk) (.inr (.inr ⟨rfl, by show (cur (setCur m _)).num = 0; rw [hcs]; exact e0⟩))
    have eb : behindOf { setCur m { cur m with num := pk s d - 48 } with dig := 1, state := 109 } = behindOf m := hbe { cur m with num := pk s d - 48 } rfl
    rw [eb] at h2
    refine h2.mono ?_
    rintro x - ⟨a, b, c⟩
    refine ⟨a, b.trans ?_, c.trans (hop { cur m with num := pk s d - 48 } rfl)⟩
    show (setCur (setCur m _) { cur (setCur m _) with num := if m.neg then -(cur (setCur m _)).num else (cur (setCur m _)).num }).st = _
    rw [setCur_two, hcs, hneg, e0, Int.mul_zero]
  by_cases hbad : pk s d < 49 ∨ 57 < pk s d
  · have e : rNum s d sg = (0, stk d) := by unfold rNum; rw [if_neg hz, if_pos hbad]
    rw [e]
    have hd : Dead s (stk d) := by
      refine h.adead ?_ (fun _ => notDone hs.2)
      rw [hb]
      refine digit_bad ?_
      by_cases h48 : pk s d = 48
      · refine .inr (.inr ⟨?_, h48⟩)
        rcases hsg with h' | h'
        · exact absurd ⟨h48, by omega⟩ hz
        · exact h'.2.1
      · omega
    show Res s (nd s (stk d) _) _
    rw [hd.dnd (behind_ne m).1]
    exact .inl hd
  rw [digit_new hs.1 (by omega) (by omega)] at hb
  have h1 := h.aadv (by omega) hb
  have eb : behindOf { setCur m { cur m with num := pk s d - 48 } with dig := 1, state := 109 } = behindOf m := hbe { cur m with num := pk s d - 48 } rfl
  by_cases h2 : 48 ≤ pk s (adv d) ∧ pk s (adv d) ≤ 57
  · have e : rNum s d sg = (sg * (10 * (pk s d - 48) + (pk s (adv d) - 48)), adv (adv d)) := by unfold rNum; rw [if_neg hz, if_neg hbad, if_pos h2]
    rw [e]
    have hn1 : (cur { setCur m { cur m with num := pk s d - 48 } with dig := 1, state := 109 }).num = pk s d - 48 := by
      show (cur (setCur m _)).num = _
      rw [hcs]
    have hb2 := byte_109 (m := { setCur m { cur m with num := pk s d - 48 } with dig := 1, state := 109 }) rfl (pk s (adv d))
    rw [if_neg (by omega), digit_more rfl rfl hn1 (by omega) h2] at hb2
    have h3 := h1.aadv (by omega) hb2
    have hl1 : 0 < (setCur m { cur m with num := pk s d - 48 }).st.length := by rw [setCur_len]; exact hn
    have ec : cur (setCur (setCur m { cur m with num := pk s d - 48 }) { cur (setCur m { cur m with num := pk s d - 48 }) with num := 10 * (pk s d - 48) + (pk s (adv d) - 48) }) = { cur m with num := 10 * (pk s d - 48) + (pk s (adv d) - 48) } := by
      rw [cur_setCur' hl1, hcs]
    have h4 := h3.condEnd rfl (by show (cur (setCur (setCur m { cur m with num := pk s d - 48 }) { cur (setCur m { cur m with num := pk s d - 48 }) with num := _ })).kind = 33 ∨ _; rw [ec]; exact hk) (.inr (.inl rfl))
    have eb2 : behindOf { setCur { setCur m { cur m with num := pk s d - 48 } with dig := 1, state := 109 } { cur { setCur m { cur m with num := pk s d - 48 } with dig := 1, state := 109 } with num := 10 * (pk s d - 48) + (pk s (adv d) - 48) } with dig := 2, state := 109 } = behindOf m := by
      show behindOf (setCur (setCur m _) { cur (setCur m _) with num := _ }) = _
      unfold behindOf; rw [ec]
    rw [eb2] at h4
    refine h4.mono ?_
    rintro x - ⟨a, b, c⟩
    refine ⟨a, b.trans ?_, c.trans ?_⟩
    · show (setCur (setCur (setCur m _) { cur (setCur m _) with num := _ }) { cur (setCur (setCur m _) { cur (setCur m _) with num := _ }) with num := if m.neg then -(cur (setCur (setCur m _) { cur (setCur m _) with num := _ })).num else (cur (setCur (setCur m _) { cur (setCur m _) with num := _ })).num }).st = _
      rw [setCur_two, setCur_two, ec, hneg]
    · show opAft (setCur (setCur m _) { cur (setCur m _) with num := _ }) = _
      unfold opAft; rw [ec, setCur_len, setCur_len]; rfl
  · have e : rNum s d sg = (sg * (pk s d - 48), adv d) := by unfold rNum; rw [if_neg hz, if_neg hbad, if_neg h2]
    rw [e]
    have h3 := h1.condEnd rfl (by show (cur (setCur m _)).kind = 33 ∨ _; rw [hcs]; exact hk) (.inl h2)
    rw [eb] at h3
    refine h3.mono ?_
    rintro x - ⟨a, b, c⟩
    refine ⟨a, b.trans ?_, c.trans (hop { cur m with num := pk s d - 48 } rfl)⟩
    show (setCur (setCur m _) { cur (setCur m _) with num := if m.neg then -(cur (setCur m _)).num else (cur (setCur m _)).num }).st = _
    rw [setCur_two, hcs, hneg]

end Go.Proofs.YtffajooegiempabDoor

namespace Go.Proofs.YtffajooegiempabDoor
variable {s : ByteArray} {d : Nat × Bool} {m m' : Rd}

theorem byte_99 (h : m.state = 99) (c : Int) : byteStep m c = if c = 42 then some { setCur m { cur m with star := true } with state := behindOf m } else if c = 45 then some { m with sign := -1, state := 67 } else if 97 ≤ c ∧ c ≤ 100 then some (signTo m (c - 97).toNat 1 100) else none := by
  rw [byte_cond (.inl h)]; unfold condStep; rw [if_pos h]
theorem byte_67 (h : m.state = 67) (c : Int) : byteStep m c = if 97 ≤ c ∧ c ≤ 100 then some (signTo m (c - 97).toNat m.sign 100) else none := by
  rw [byte_cond (.inr (.inl h))]; unfold condStep; rw [h, if_neg (by decide), if_pos rfl]
theorem byte_100 (h : m.state = 100) (c : Int) : byteStep m c = if c = 43 then some { m with sign := 1, state := 101 } else if c = 45 then some { m with sign := -1, state := 101 } else if c = 60 then some { m with state := 60 } else none := by
  rw [byte_cond (by rw [h]; decide)]; unfold condStep; rw [h, if_neg (by decide), if_neg (by decide), if_pos rfl]
theorem byte_101 (h : m.state = 101) (c : Int) : byteStep m c = if 97 ≤ c ∧ c ≤ 100 then (if (cur m).sg.getD (c - 97).toNat 0 = 0 then some (signTo m (c - 97).toNat m.sign 102) else none) else none := by
  rw [byte_cond (by rw [h]; decide)]; unfold condStep; rw [h, if_neg (by decide), if_neg (by decide), if_neg (by decide), if_pos rfl]
theorem byte_102 (h : m.state = 102) (c : Int) : byteStep m c = if c = 60 then some { m with state := 60 } else none := by
  rw [byte_cond (by rw [h]; decide)]; unfold condStep; rw [h, if_neg (by decide), if_neg (by decide), if_neg (by decide), if_neg (by decide), if_pos rfl]
theorem byte_60 (h : m.state = 60) (c : Int) : byteStep m c = if c = 61 then some { m with neg := false, state := 98 } else none := by
  rw [byte_cond (by rw [h]; decide)]; unfold condStep; rw [h, if_neg (by decide), if_neg (by decide), if_neg (by decide), if_neg (by decide), if_neg (by decide), if_pos rfl]
theorem byte_98 (h : m.state = 98) (c : Int) : byteStep m c = if c = 45 then some { m with neg := true, state := 66 } else digitStep m c false 109 := by
  rw [byte_cond (by rw [h]; decide)]; unfold condStep; rw [h, if_neg (by decide), if_neg (by decide), if_neg (by decide), if_neg (by decide), if_neg (by decide), if_neg (by decide), if_pos rfl]
theorem byte_66 (h : m.state = 66) (c : Int) : byteStep m c = digitStep m c true 109 := by
  rw [byte_cond (by rw [h]; decide)]; unfold condStep; rw [h, if_neg (by decide), if_neg (by decide), if_neg (by decide), if_neg (by decide), if_neg (by decide), if_neg (by decide), if_neg (by decide), if_pos rfl]

theorem rSecond_any (s : ByteArray) (d : Nat × Bool) (x : Ds) (f : Int) : (rSecond s d x f).1.any = x.any := by
  unfold rSecond
  split
  · rfl
  · rfl

def tailN (s : ByteArray) (d : Nat × Bool) : Int × (Nat × Bool) := rNum s (rSign s d).2 (rSign s d).1
def tailE (s : ByteArray) (d : Nat × Bool) : Int × (Nat × Bool) := tailN s (nd s (nd s d 60) 61)

theorem Dead.dTailN (h : Dead s d) : tailN s d = (0, d) := by unfold tailN; rw [h.dSign]; exact h.dNum 1
theorem Dead.dTailE (h : Dead s d) : tailE s d = (0, d) := by unfold tailE; rw [h.dnd (by decide), h.dnd (by decide)]; exact h.dTailN

/-- What is to come of the rest of a condition. -/
def QC (m : Rd) (n : Int) (y : Rd) : Prop := y.state = 115 ∧ y.st = (setCur m { cur m with num := n }).st ∧ y.op = opAft m

theorem Sync.tailN (h : Sync s d m) (hs : m.state = 98) (hneg : m.neg = false) (hk : (cur m).kind = 33 ∨ m.op.length ≠ 4) : Res s (nd s (Go.Proofs.YtffajooegiempabDoor.tailN s d).2 (behindOf m)) (QC m (Go.Proofs.YtffajooegiempabDoor.tailN s d).1) := by
  have hb := byte_98 hs (pk s d)
  by_cases h45 : pk s d = 45
  · rw [if_pos h45] at hb
    have h1 := h.aadv (by omega) hb
    have e : Go.Proofs.YtffajooegiempabDoor.tailN s d = rNum s (adv d) (-1) := by unfold Go.Proofs.YtffajooegiempabDoor.tailN; rw [show rSign s d = (-1, adv d) from if_pos h45]
    rw [e]
    exact h1.numCond (pos := true) (sg := -1) (byte_66 rfl _) ⟨(by decide : (66 : Int) ≠ 109), (by decide : (66 : Int) ≠ 115)⟩ hk (.inr ⟨rfl, rfl, rfl⟩)
  · rw [if_neg h45] at hb
    have e : Go.Proofs.YtffajooegiempabDoor.tailN s d = rNum s d 1 := by unfold Go.Proofs.YtffajooegiempabDoor.tailN; rw [show rSign s d = (1, d) from if_neg h45]
    rw [e]
    exact h.numCond (pos := false) (sg := 1) hb ⟨by rw [hs]; decide, by rw [hs]; decide⟩ hk (.inl ⟨rfl, rfl, hneg⟩)

theorem Sync.tailE (h : Sync s d m) (hs : m.state = 100 ∨ m.state = 102) (hp : m.state = 100 → pk s d ≠ 43 ∧ pk s d ≠ 45) (hk : (cur m).kind = 33 ∨ m.op.length ≠ 4) : Res s (nd s (Go.Proofs.YtffajooegiempabDoor.tailE s d).2 (behindOf m)) (QC m (Go.Proofs.YtffajooegiempabDoor.tailE s d).1) := by
  have hb : byteStep m (pk s d) = if pk s d = 60 then some { m with state := 60 } else none := by
    rcases hs with e | e
    · rw [byte_100 e, if_neg (hp e).1, if_neg (hp e).2]
    · rw [byte_102 e]
  have hnd : isDone m = false := notDone (by omega)
  rcases h.aneed (c := 60) (m' := { m with state := 60 }) (by decide) (fun e => by rw [e, if_pos rfl] at hb; exact hb) (fun e => by rw [if_neg e] at hb; exact hb) hnd with hd | ⟨m1, h1, rfl⟩
  · have e : Go.Proofs.YtffajooegiempabDoor.tailE s d = (0, nd s d 60) := by unfold Go.Proofs.YtffajooegiempabDoor.tailE; rw [hd.dnd (by decide)]; exact hd.dTailN
    rw [e]
    show Res s (nd s (nd s d 60) _) _
    rw [hd.dnd (behind_ne m).1]
    exact .inl hd
  · rcases h1.aneed (c := 61) (m' := { m with neg := false, state := 98 }) (by decide) (fun e => by rw [byte_60 rfl, if_pos rfl]) (fun e => by rw [byte_60 rfl, if_neg e]) (notDone (by decide : (60 : Int) ≠ 115)) with hd | ⟨m2, h2, rfl⟩
    · have e : Go.Proofs.YtffajooegiempabDoor.tailE s d = (0, nd s (nd s d 60) 61) := hd.dTailN
      rw [e]
      show Res s (nd s (nd s (nd s d 60) 61) _) _
      rw [hd.dnd (behind_ne m).1]
      exact .inl hd
    · exact h2.tailN rfl rfl hk

/-- The second variable of a form, and the rest. -/
theorem Sync.second (h : Sync s d m) (hs : m.state = 100) (hk : (cur m).kind = 33 ∨ m.op.length ≠ 4) (x : Ds) (f : Int) (hx : x.sg = (cur m).sg) (hf : ∀ v : Int, 0 ≤ v → v ≤ 3 → ((cur m).sg.getD v.toNat 0 = 0 ↔ v ≠ f)) :
    Res s (nd s (Go.Proofs.YtffajooegiempabDoor.tailE s (rSecond s d x f).2).2 (behindOf m)) (QC (setCur m { cur m with sg := (rSecond s d x f).1.sg }) (Go.Proofs.YtffajooegiempabDoor.tailE s (rSecond s d x f).2).1) := by
  have hn : 0 < m.st.length := h.aok.some_ (by rw [hs]; decide)
  have hb := byte_100 hs (pk s d)
  have hcs := cur_setCur' hn
  by_cases hc : pk s d = 43 ∨ pk s d = 45
  · obtain ⟨g, hg, hb1⟩ : ∃ g, (if pk s d = 45 then (-1 : Int) else 1) = g ∧ byteStep m (pk s d) = some { m with sign := g, state := 101 } := by
      rcases hc with e | e
      · exact ⟨1, by rw [e]; rfl, by rw [hb, if_pos e]⟩
      · exact ⟨-1, by rw [e]; rfl, by rw [hb, if_neg (by omega), if_pos e]⟩
    have h1 := h.aadv (by omega) hb1
    have e : rSecond s d x f = ({ x with sg := x.sg.set (rVar s (adv d) f).1.toNat g }, (rVar s (adv d) f).2) := by unfold rSecond; rw [if_pos hc, hg]
    rw [e]
    have hb2 := byte_101 (m := { m with sign := g, state := 101 }) rfl (pk s (adv d))
    by_cases hv : 97 ≤ pk s (adv d) ∧ pk s (adv d) ≤ 100
    · rw [if_pos hv] at hb2
      by_cases hff : pk s (adv d) - 97 = f
      · have ev : rVar s (adv d) f = (0, stk (adv d)) := by unfold rVar; rw [varOf_pos hv, if_pos (.inr hff)]
        rw [ev]
        have hd : Dead s (stk (adv d)) := by
          refine h1.adead ?_ (fun _ => notDone (by decide : (101 : Int) ≠ 115))
          rw [hb2, if_neg]
          intro e0
          exact ((hf (pk s (adv d) - 97) (by omega) (by omega)).1 e0) hff
        show Res s (nd s (Go.Proofs.YtffajooegiempabDoor.tailE s (stk (adv d))).2 _) _
        rw [hd.dTailE]
        show Res s (nd s (stk (adv d)) _) _
        rw [hd.dnd (behind_ne m).1]
        exact .inl hd
      · have ev : rVar s (adv d) f = (pk s (adv d) - 97, adv (adv d)) := by unfold rVar; rw [varOf_pos hv, if_neg (by omega)]
        rw [ev]
        have e0 : (cur { m with sign := g, state := 101 }).sg.getD (pk s (adv d) - 97).toNat 0 = 0 := (hf (pk s (adv d) - 97) (by omega) (by omega)).2 hff
        rw [if_pos e0] at hb2
        have h2 := h1.aadv (by omega) hb2
        have hkd : (cur (signTo { m with sign := g, state := 101 } (pk s (adv d) - 97).toNat g 102)).kind = (cur m).kind := by
          show (cur (setCur m _)).kind = _
          rw [hcs]; rfl
        have ebh : behindOf (signTo { m with sign := g, state := 101 } (pk s (adv d) - 97).toNat g 102) = behindOf m := by unfold behindOf; rw [hkd]
        have h3 := h2.tailE (.inr rfl) (fun e => absurd e (by decide : (102 : Int) ≠ 100)) (by rw [hkd]; exact hk)
        rw [ebh] at h3
        refine h3.mono ?_
        rintro y - ⟨a, b, c⟩
        refine ⟨a, b.trans ?_, c.trans ?_⟩
        · show (setCur (setCur m { cur m with sg := (cur m).sg.set _ g }) { cur (setCur m { cur m with sg := (cur m).sg.set _ g }) with num := _ }).st = (setCur (setCur m { cur m with sg := x.sg.set _ g }) { cur (setCur m { cur m with sg := x.sg.set _ g }) with num := _ }).st
          rw [hx]
        · show opAft (setCur m { cur m with sg := (cur m).sg.set _ g }) = opAft (setCur m { cur m with sg := x.sg.set _ g })
          rw [hx]
    · have ev : rVar s (adv d) f = (0, stk (adv d)) := by unfold rVar; rw [if_pos (.inl (varOf_neg hv))]
      rw [ev]
      have hd : Dead s (stk (adv d)) := by
        refine h1.adead ?_ (fun _ => notDone (by decide : (101 : Int) ≠ 115))
        rw [hb2, if_neg hv]
      show Res s (nd s (Go.Proofs.YtffajooegiempabDoor.tailE s (stk (adv d))).2 _) _
      rw [hd.dTailE]
      show Res s (nd s (stk (adv d)) _) _
      rw [hd.dnd (behind_ne m).1]
      exact .inl hd
  · have e : rSecond s d x f = (x, d) := if_neg hc
    rw [e]
    have h3 := h.tailE (.inl hs) (fun _ => ⟨fun e => hc (.inl e), fun e => hc (.inr e)⟩) hk
    refine h3.mono ?_
    rintro y - ⟨a, b, c⟩
    have e2 : setCur m { cur m with sg := x.sg } = m := by
      rw [hx]; exact setCur_cur hn
    rw [show (x, d).1.sg = x.sg from rfl, e2]
    exact ⟨a, b, c⟩

/-- A condition, and the byte behind it. -/
theorem Sync.cond (h : Sync s d m) (hs : m.state = 99) (hk : (cur m).kind = 33 ∨ m.op.length ≠ 4) (x : Ds) (hx : x.any = false ∧ x.sg = (cur m).sg ∧ x.num = (cur m).num ∧ (cur m).star = false) (hz : (cur m).sg = [0, 0, 0, 0]) :
    Res s (nd s (rCond s d x).2 (behindOf m)) (fun y => y.state = 115 ∧ y.st = (setCur m { cur m with star := (rCond s d x).1.any, sg := (rCond s d x).1.sg, num := (rCond s d x).1.num }).st ∧ y.op = opAft m) := by
  have hn : 0 < m.st.length := h.aok.some_ (by rw [hs]; decide)
  have hb := byte_99 hs (pk s d)
  obtain ⟨hx1, hx2, hx3, hx4⟩ := hx
  have hcs := cur_setCur' hn
  by_cases h42 : pk s d = 42
  · have e : rCond s d x = ({ x with any := true }, adv d) := if_pos h42
    rw [e]
    rw [if_pos h42] at hb
    have h1 := h.aadv (by omega) hb
    have hbh : behindOf m = 59 ∨ behindOf m = 123 := behind_or m
    obtain ⟨y, hy, y1, y2, y3⟩ := plain_yes (m := m) (a := { setCur m { cur m with star := true } with state := behindOf m }) rfl hk
    have hpl : ∀ c, byteStep { setCur m { cur m with star := true } with state := behindOf m } c = plainStep { setCur m { cur m with star := true } with state := behindOf m } c := fun c => byte_plain hbh c
    refine (h1.aneed (m' := y) (behind_ne m).1 (fun e => by rw [hpl]; exact hy) (fun e => by rw [hpl]; exact plain_no rfl e) (notDone (behind_ne m).2)).mono ?_
    rintro z - rfl
    refine ⟨y1, y2.trans ?_, y3.trans ?_⟩
    · show (setCur m { cur m with star := true }).st = (setCur m { cur m with star := true, sg := x.sg, num := x.num }).st
      rw [hx2, hx3]
    · unfold opAft
      show (if (cur m).kind = 33 then m.op else m.op ++ [⟨(setCur m _).st.length - 1, false⟩]) = _
      rw [setCur_len]
  rw [if_neg h42] at hb
  obtain ⟨g, d1, m1, hg, h1, e1, e2, e3, hb1⟩ : ∃ g d1 m1, rSign s d = (g, d1) ∧ Sync s d1 m1 ∧ m1.st = m.st ∧ m1.op = m.op ∧ m1.state ≠ 115 ∧ byteStep m1 (pk s d1) = if 97 ≤ pk s d1 ∧ pk s d1 ≤ 100 then some (signTo m1 (pk s d1 - 97).toNat g 100) else none := by
    by_cases h45 : pk s d = 45
    · rw [if_pos h45] at hb
      exact ⟨-1, adv d, _, if_pos h45, h.aadv (by omega) hb, rfl, rfl, (by decide : (67 : Int) ≠ 115), byte_67 rfl _⟩
    · rw [if_neg h45] at hb
      exact ⟨1, d, m, if_neg h45, h, rfl, rfl, by rw [hs]; decide, hb⟩
  have ec : cur m1 = cur m := cur_eq e1
  by_cases hv : 97 ≤ pk s d1 ∧ pk s d1 ≤ 100
  · have ev : rVar s d1 (-1) = (pk s d1 - 97, adv d1) := by unfold rVar; rw [varOf_pos hv, if_neg (by omega)]
    rw [if_pos hv] at hb1
    have h2 := h1.aadv (by omega) hb1
    obtain ⟨v, hve⟩ : ∃ v, v = pk s d1 - 97 := ⟨_, rfl⟩
    rw [← hve] at ev h2 hb1
    have hst2 : (signTo m1 v.toNat g 100).st = (setCur m { cur m with sg := (cur m).sg.set v.toNat g }).st := by
      show (setCur m1 { cur m1 with sg := (cur m1).sg.set v.toNat g }).st = _
      rw [ec]; exact setCur_st_eq e1 _
    have hcur2 : cur (signTo m1 v.toNat g 100) = { cur m with sg := (cur m).sg.set v.toNat g } := (cur_eq hst2).trans (hcs _)
    have hgn : g ≠ 0 := by
      have := rSign_or s d
      rw [hg] at this
      rcases this with e | e
      · have e' : g = 1 := e
        omega
      · have e' : g = -1 := e
        omega
    have e : rCond s d x = ({ (rSecond s (adv d1) { x with any := false, sg := x.sg.set v.toNat g } v).1 with num := (Go.Proofs.YtffajooegiempabDoor.tailE s (rSecond s (adv d1) { x with any := false, sg := x.sg.set v.toNat g } v).2).1 }, (Go.Proofs.YtffajooegiempabDoor.tailE s (rSecond s (adv d1) { x with any := false, sg := x.sg.set v.toNat g } v).2).2) := by
      unfold rCond; rw [if_neg h42, hg]; simp only; rw [ev]; rfl
    have ebh : behindOf (signTo m1 v.toNat g 100) = behindOf m := by unfold behindOf; rw [hcur2]
    have h3 := h2.second rfl (by rw [hcur2]; show (cur m).kind = 33 ∨ m1.op.length ≠ 4; rw [e2]; exact hk) { x with any := false, sg := x.sg.set v.toNat g } v (by rw [hcur2, hx2]) (by
      intro u hu0 hu3
      rw [hcur2]
      show ((cur m).sg.set v.toNat g).getD u.toNat 0 = 0 ↔ u ≠ v
      rw [hz, List.getD_eq_getElem?_getD, List.getElem?_set]
      by_cases euv : u = v
      · subst euv
        rw [if_pos rfl, if_pos (by simp; omega)]
        simp [hgn]
      · rw [if_neg (by omega)]
        rcases (show u = 0 ∨ u = 1 ∨ u = 2 ∨ u = 3 by omega) with rfl | rfl | rfl | rfl <;> simp <;> omega)
    rw [ebh] at h3
    rw [e]
    refine h3.mono ?_
    rintro y - ⟨a, b, c⟩
    have hl1 : 0 < (signTo m1 v.toNat g 100).st.length := by rw [hst2, setCur_len]; exact hn
    have hany : (rSecond s (adv d1) { x with any := false, sg := x.sg.set v.toNat g } v).1.any = false := rSecond_any _ _ _ _
    generalize rSecond s (adv d1) { x with any := false, sg := x.sg.set v.toNat g } v = z at *
    refine ⟨a, b.trans ?_, c.trans ?_⟩
    · rw [setCur_two, cur_setCur' hl1, hcur2, setCur_st_eq hst2, setCur_two]
      show (setCur m { cur m with sg := z.1.sg, num := _ }).st = (setCur m { cur m with star := z.1.any, sg := z.1.sg, num := _ }).st
      rw [hany, ← hx4]
    · unfold opAft
      rw [cur_setCur' hl1, hcur2, setCur_len]
      show (if (cur m).kind = 33 then m1.op else m1.op ++ [⟨(signTo m1 v.toNat g 100).st.length - 1, false⟩]) = _
      rw [e2, hst2, setCur_len]
  · have ev : rVar s d1 (-1) = (0, stk d1) := by unfold rVar; rw [if_pos (.inl (varOf_neg hv))]
    rw [if_neg hv] at hb1
    have hd : Dead s (stk d1) := h1.adead hb1 (fun _ => notDone e3)
    have e : (rCond s d x).2 = stk d1 := by
      unfold rCond; rw [if_neg h42, hg]; simp only; rw [ev]; simp only
      rw [hd.dSecond]
      exact congrArg Prod.snd hd.dTailE
    rw [e, hd.dnd (behind_ne m).1]
    exact .inl hd

end Go.Proofs.YtffajooegiempabDoor

namespace Go.Proofs.YtffajooegiempabDoor
variable {s : ByteArray} {d : Nat × Bool} {m m' : Rd}

/-- The machine's sign of a kind. -/
def kindOf (k : Int) : Int := if k = 0 then 61 else if k = 1 then 33 else if k = 2 then 63 else 64
/-- A statement of the program's, and the machine's. -/
def Cor (x : Ds) (u : St) : Prop := u.kind = kindOf x.kind ∧ u.var = x.target ∧ u.star = x.any ∧ u.sg = x.sg ∧ u.num = x.num
structure CorL (F : List Ds) (S : List St) : Prop where
  len : F.length = S.length
  cor : ∀ (i : Nat) (x : Ds) (u : St), F[i]? = some x → S[i]? = some u → Cor x u
def Pre {α : Type} (l l' : List α) : Prop := ∀ i, i < l.length → l'[i]? = l[i]?
theorem Pre.refl {α : Type} (l : List α) : Pre l l := fun _ _ => rfl
theorem Pre.trans {α : Type} {a b c : List α} (h : Pre a b) (k : Pre b c) (hl : a.length ≤ b.length) : Pre a c := fun i hi => (k i (by omega)).trans (h i hi)
theorem Pre.snoc {α : Type} (l : List α) (x : α) : Pre l (l ++ [x]) := fun _ hi => List.getElem?_append_left hi

/-- The statement at a, of block b of p, up to e: its own parts. 'R p b a c': the statements from a to c are those of block b of p. -/
def StmOk (F : List Ds) (S : List St) (R : Int → Int → Nat → Nat → Prop) (p b : Int) (a e : Nat) : Prop :=
  ∃ x u, F[a]? = some x ∧ S[a]? = some u ∧ x.parent = p ∧ x.block = b ∧ u.fin = e ∧ a < e ∧
    (((x.kind = 0 ∨ x.kind = 1) ∧ e = a + 1) ∨ (x.kind = 3 ∧ R a 0 (a + 1) e) ∨ (x.kind = 2 ∧ a + 1 ≤ u.mid ∧ u.mid ≤ e ∧ R a 0 (a + 1) u.mid ∧ R a 1 u.mid e))
def Blk (F : List Ds) (S : List St) : Nat → Int → Int → Nat → Nat → Prop
  | 0, _, _, a, c => a = c
  | f + 1, p, b, a, c => a = c ∨ ∃ e, e ≤ c ∧ StmOk F S (Blk F S f) p b a e ∧ Blk F S f p b e c

theorem StmOk.into {F F' : List Ds} {S S' : List St} {R R' : Int → Int → Nat → Nat → Prop} {p b : Int} {a e : Nat} (h : StmOk F S R p b a e) (h1 : F'[a]? = F[a]?) (h2 : S'[a]? = S[a]?) (h3 : ∀ p b i j, a < i → i ≤ j → j ≤ e → R p b i j → R' p b i j) : StmOk F' S' R' p b a e := by
  obtain ⟨x, u, hx, hu, hp, hb, hf, hae, hk⟩ := h
  refine ⟨x, u, by rw [h1]; exact hx, by rw [h2]; exact hu, hp, hb, hf, hae, ?_⟩
  rcases hk with hk | ⟨k3, hk⟩ | ⟨k2, q1, q2, hk1, hk2⟩
  · exact .inl hk
  · exact .inr (.inl ⟨k3, h3 _ _ _ _ (by omega) (by omega) (Nat.le_refl _) hk⟩)
  · exact .inr (.inr ⟨k2, q1, q2, h3 _ _ _ _ (by omega) q1 (by omega) hk1, h3 _ _ _ _ (by omega) q2 (Nat.le_refl _) hk2⟩)
theorem StmOk.lt {F : List Ds} {S : List St} {R : Int → Int → Nat → Nat → Prop} {p b : Int} {a e : Nat} (h : StmOk F S R p b a e) : a < e := by
  obtain ⟨x, u, hx, hu, hp, hb, hf, hae, hk⟩ := h
  exact hae
theorem Blk.succ {F : List Ds} {S : List St} {f : Nat} : ∀ {p b : Int} {a c : Nat}, Blk F S f p b a c → Blk F S (f + 1) p b a c := by
  induction f with
  | zero => intro p b a c h; exact .inl h
  | succ f ih =>
    intro p b a c h
    rcases h with h | ⟨e, he, hs, hr⟩
    · exact .inl h
    · exact .inr ⟨e, he, hs.into rfl rfl (fun _ _ _ _ _ _ _ hR => ih hR), ih hr⟩
theorem Blk.more {F : List Ds} {S : List St} {f : Nat} (g : Nat) {p b : Int} {a c : Nat} (h : Blk F S f p b a c) : Blk F S (f + g) p b a c := by
  induction g with
  | zero => exact h
  | succ g ih => exact ih.succ
/-- It hangs on the statements from a to c alone. -/
theorem Blk.keep {F F' : List Ds} {S S' : List St} {f : Nat} : ∀ {p b : Int} {a c : Nat}, Blk F S f p b a c → (∀ i, a ≤ i → i < c → F'[i]? = F[i]?) → (∀ i, a ≤ i → i < c → S'[i]? = S[i]?) → Blk F' S' f p b a c := by
  induction f with
  | zero => intro p b a c h _ _; exact h
  | succ f ih =>
    intro p b a c h h1 h2
    rcases h with h | ⟨e, he, hs, hr⟩
    · exact .inl h
    · have hae := hs.lt
      refine .inr ⟨e, he, hs.into (h1 a (by omega) (by omega)) (h2 a (by omega) (by omega)) (fun _ _ i j hi hij hj hR => ih hR (fun k hk1 hk2 => h1 k (by omega) (by omega)) (fun k hk1 hk2 => h2 k (by omega) (by omega))), ih hr (fun k hk1 hk2 => h1 k (by omega) hk2) (fun k hk1 hk2 => h2 k (by omega) hk2)⟩

theorem CorL.snoc {F : List Ds} {S : List St} (h : CorL F S) {x : Ds} {u : St} (hc : Cor x u) : CorL (F ++ [x]) (S ++ [u]) := by
  refine ⟨by simp [h.len], fun i y v hy hv => ?_⟩
  by_cases hi : i < F.length
  · rw [List.getElem?_append_left hi] at hy
    rw [List.getElem?_append_left (by rw [← h.len]; exact hi)] at hv
    exact h.cor i y v hy hv
  · have hl := h.len
    have : i = F.length := by
      have : i < (F ++ [x]).length := by
        rcases Nat.lt_or_ge i (F ++ [x]).length with h' | h'
        · exact h'
        · simp [List.getElem?_eq_none h'] at hy
      simp at this; omega
    subst this
    simp at hy
    rw [hl] at hv
    simp at hv
    subst hy; subst hv; exact hc
theorem CorL.set {F : List Ds} {S : List St} (h : CorL F S) {k : Nat} {u u' : St} (hk : S[k]? = some u) (hc : ∀ x, Cor x u → Cor x u') : CorL F (S.set k u') := by
  refine ⟨by simp [h.len], fun i y v hy hv => ?_⟩
  rw [List.getElem?_set] at hv
  split at hv
  · rename_i e
    subst e
    split at hv
    · simp at hv; subst hv; exact hc y (h.cor k y u hy hk)
    · cases hv
  · exact h.cor i y v hy hv

/-- What a run of readStatements comes to. -/
structure Out (s : ByteArray) (z : Zt) (m : Rd) (z' : Zt) (m' : Rd) : Prop where
  sync : Sync s z'.1 m'
  st : m'.state = 115
  op : m'.op = m.op
  cor : CorL z'.2 m'.st
  preF : Pre z.2 z'.2
  preS : Pre m.st m'.st
  len : z.2.length ≤ z'.2.length

def Says (s : ByteArray) (n : Nat) : Prop := ∀ (p b dp : Int) (z : Zt) (m : Rd), Sync s z.1 m → m.state = 115 → (m.op.length : Int) = dp → CorL z.2 m.st → Mz z < n →
  Dead s (rStmts s n p b dp z).1 ∨ ∃ m', Out s z m (rStmts s n p b dp z) m' ∧ (∃ f, Blk (rStmts s n p b dp z).2 m'.st f p b z.2.length (rStmts s n p b dp z).2.length) ∧ (pk s (rStmts s n p b dp z).1 = 0 ∨ pk s (rStmts s n p b dp z).1 = 125)

theorem Dead.dStmts {z : Zt} (h : Dead s z.1) (n : Nat) (p b dp : Int) : rStmts s n p b dp z = z := by
  cases n with
  | zero => rfl
  | succ n => unfold rStmts; rw [if_pos (.inl h.dpk)]
theorem Dead.dBlock {z : Zt} (h : Dead s z.1) (n : Nat) (p b dp : Int) : rBlockWith s (rStmts s n) p b dp z = z := by
  unfold rBlockWith
  rw [h.dnd (by decide), Dead.dStmts (z := (z.1, z.2)) h, h.dnd (by decide)]

theorem byte_115 (h : m.state = 115) (c : Int) : byteStep m c = startStep m c := by unfold byteStep; rw [if_pos h]
theorem byte_125 (h : m.state = 125) (c : Int) : byteStep m c = if c = 123 then some { m with op := m.op.set (m.op.length - 1) { top m with second := true }, state := 115 } else none := by
  rw [byte_cond (by rw [h]; decide)]; unfold condStep; rw [h, if_neg (by decide), if_neg (by decide), if_neg (by decide), if_neg (by decide), if_neg (by decide), if_neg (by decide), if_neg (by decide), if_neg (by decide), if_neg (by decide)]

/-- A block, from behind its brace to behind its end: the machine is where the block is shut. -/
theorem block_in {n : Nat} (H : Says s n) {z : Zt} (p b dp : Int) (h : Sync s z.1 m) (hs : m.state = 115) (hop : 0 < m.op.length) (hdp : (m.op.length : Int) = dp) (hc : CorL z.2 m.st) (hm : Mz z < n) :
    Dead s (nd s (rStmts s n p b dp z).1 125) ∨ ∃ m2 m3, Out s z m (rStmts s n p b dp z) m2 ∧ (∃ f, Blk (rStmts s n p b dp z).2 m2.st f p b z.2.length (rStmts s n p b dp z).2.length) ∧ shutStep m2 = some m3 ∧ Sync s (nd s (rStmts s n p b dp z).1 125) m3 := by
  rcases H p b dp z m h hs hdp hc hm with hd | ⟨m2, ho, hf, hpk⟩
  · left; rw [hd.dnd (by decide)]; exact hd
  · have hb := byte_115 ho.st (pk s (rStmts s n p b dp z).1)
    have hop2 : 0 < m2.op.length := by rw [ho.op]; exact hop
    by_cases e : pk s (rStmts s n p b dp z).1 = 125
    · right
      rw [e] at hb
      have hst : startStep m2 125 = shutStep m2 := by unfold startStep; rw [if_neg (by decide), if_neg (by decide), if_neg (by decide), if_pos ⟨rfl, hop2⟩]
      rw [hst] at hb
      obtain ⟨m3, hm3⟩ : ∃ m3, shutStep m2 = some m3 := by
        simp only [shutStep]
        split
        · exact ⟨_, rfl⟩
        · exact ⟨_, rfl⟩
      refine ⟨m2, m3, ho, hf, hm3, ?_⟩
      have en : nd s (rStmts s n p b dp z).1 125 = adv (rStmts s n p b dp z).1 := if_pos e
      rw [en]
      exact ho.sync.aadv (by omega) (by rw [e, hb, hm3])
    · left
      have e0 : pk s (rStmts s n p b dp z).1 = 0 := hpk.elim id (fun h => absurd h e)
      have en : nd s (rStmts s n p b dp z).1 125 = stk (rStmts s n p b dp z).1 := if_neg e
      rw [en]
      refine ho.sync.adead ?_ (fun _ => ?_)
      · rw [hb, e0]; unfold startStep; rw [if_neg (by decide), if_neg (by decide), if_neg (by decide), if_neg (by omega)]
      · unfold isDone; simp; intro _ h0; rw [h0] at hop2; exact absurd hop2 (by simp)

end Go.Proofs.YtffajooegiempabDoor

