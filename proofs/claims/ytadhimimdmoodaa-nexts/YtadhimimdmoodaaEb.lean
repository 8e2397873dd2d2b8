import Derived.Test.YtadhimimdmoodaaEa
namespace Go.Proofs.Ytadhimimdmoodaa
variable {s : ByteArray} {d : Nat × Bool} {m m' : Rd}

theorem byte_59 (h : m.state = 59) (c : Int) : byteStep m c = if c = 59 then some { m with state := 115 } else none := by
  rw [byte_plain (.inl h)]; unfold plainStep; rw [if_pos h]
theorem byte_118 (h : m.state = 118) (c : Int) : byteStep m c = if c = 42 then some { setCur m { cur m with star := true } with state := 59 } else if c = 45 then some { m with sign := -1, state := 86 } else if 97 ≤ c ∧ c ≤ 100 then some (signTo m (c - 97).toNat 1 120) else digitStep { m with sign := 1 } c false 110 := by
  rw [byte_value (.inl h)]; unfold valueStep; rw [if_pos h]
theorem byte_86 (h : m.state = 86) (c : Int) : byteStep m c = if 97 ≤ c ∧ c ≤ 100 then some (signTo m (c - 97).toNat m.sign 120) else digitStep m c true 110 := by
  rw [byte_value (.inr (.inl h))]; unfold valueStep; rw [h, if_neg (by decide), if_pos rfl]
theorem byte_120 (h : m.state = 120) (c : Int) : byteStep m c = if c = 43 then some { m with sign := 1, state := 121 } else if c = 45 then some { m with sign := -1, state := 121 } else if c = 59 then some (valueEnd m) else none := by
  rw [byte_value (.inr (.inr (.inl h)))]; unfold valueStep; rw [h, if_neg (by decide), if_neg (by decide), if_pos rfl]
theorem byte_121 (h : m.state = 121) (c : Int) : byteStep m c = digitStep m c false 110 := by
  rw [byte_value (.inr (.inr (.inr (.inl h))))]; unfold valueStep; rw [h, if_neg (by decide), if_neg (by decide), if_neg (by decide), if_pos rfl]
theorem byte_61 (h : m.state = 61) (c : Int) : byteStep m c = if c = 61 then some { m with state := 118 } else none := by
  unfold byteStep; rw [h, if_neg (by decide), if_pos rfl]

theorem varOf_pos {c : Int} (h : 97 ≤ c ∧ c ≤ 100) : varOf c = c - 97 := if_pos h
theorem varOf_neg {c : Int} (h : ¬ (97 ≤ c ∧ c ≤ 100)) : varOf c = -1 := if_neg h

theorem setCur_st_eq {a b : Rd} (h : a.st = b.st) (u : St) : (setCur a u).st = (setCur b u).st := by unfold setCur; simp only; rw [h]
theorem cur_eq {a b : Rd} (h : a.st = b.st) : cur a = cur b := by unfold cur; rw [h]

/-- Behind the variable of a value. -/
theorem Sync.summand (h : Sync s d m) (hs : m.state = 120) (hz : (cur m).num = 0) :
    Res s (nd s (rSummand s d).2 59) (fun x => x.state = 115 ∧ x.op = m.op ∧ x.st = (setCur m { cur m with num := (rSummand s d).1 }).st) := by
  have hn : 0 < m.st.length := h.aok.some_ (by rw [hs]; decide)
  have hb := byte_120 hs (pk s d)
  have hnd := notDone (m := m) (by rw [hs]; decide)
  by_cases h43 : pk s d = 43
  · have e : rSummand s d = rNum s (adv d) 1 := if_pos h43
    rw [e]
    rw [if_pos h43] at hb
    have h1 := h.aadv (by omega) hb
    refine (h1.numVal (m0 := { m with sign := 1, state := 121 }) (pos := false) (sg := 1) (byte_121 rfl _) (by decide : (121 : Int) ≠ 110) hn (.inl ⟨rfl, rfl⟩) (notDone (by decide : (121 : Int) ≠ 115))).mono ?_
    rintro x - ⟨a, b, c⟩
    refine ⟨a, b, c.trans ?_⟩
    show (setCur m { cur m with num := 1 * (1 * _) }).st = _
    rw [Int.one_mul, Int.one_mul]
  by_cases h45 : pk s d = 45
  · have e : rSummand s d = (-(rNum s (adv d) 1).1, (rNum s (adv d) 1).2) := by unfold rSummand; rw [if_neg h43, if_pos h45]
    rw [e]
    rw [if_neg h43, if_pos h45] at hb
    have h1 := h.aadv (by omega) hb
    refine (h1.numVal (m0 := { m with sign := -1, state := 121 }) (pos := false) (sg := 1) (byte_121 rfl _) (by decide : (121 : Int) ≠ 110) hn (.inl ⟨rfl, rfl⟩) (notDone (by decide : (121 : Int) ≠ 115))).mono ?_
    rintro x - ⟨a, b, c⟩
    refine ⟨a, b, c.trans ?_⟩
    show (setCur m { cur m with num := -1 * (1 * _) }).st = _
    rw [Int.one_mul, Int.neg_mul, Int.one_mul]
  · have e : rSummand s d = (0, d) := by unfold rSummand; rw [if_neg h43, if_neg h45]
    rw [e]
    rw [if_neg h43, if_neg h45] at hb
    refine (h.aneed (m' := valueEnd m) (by decide) (fun e => by rw [e, if_pos rfl] at hb; exact hb) (fun e => by rw [if_neg e] at hb; exact hb) hnd).mono ?_
    rintro x - rfl
    refine ⟨rfl, rfl, ?_⟩
    show (setCur m { cur m with num := m.sign * (cur m).num }).st = _
    rw [hz, Int.mul_zero]

/-- A value, and the end of the statement. -/
theorem Sync.value (h : Sync s d m) (hs : m.state = 118) (hz : (cur m).num = 0) (x : Ds) (hx : x.any = false ∧ x.sg = (cur m).sg ∧ x.num = 0 ∧ (cur m).star = false) :
    Res s (nd s (rValue s d x).2 59) (fun y => y.state = 115 ∧ y.op = m.op ∧ y.st = (setCur m { cur m with star := (rValue s d x).1.any, sg := (rValue s d x).1.sg, num := (rValue s d x).1.num }).st) := by
  have hn : 0 < m.st.length := h.aok.some_ (by rw [hs]; decide)
  have hb := byte_118 hs (pk s d)
  have hnd := notDone (m := m) (by rw [hs]; decide)
  obtain ⟨hx1, hx2, hx3, hx4⟩ := hx
  have hcs := cur_setCur' hn
  by_cases h42 : pk s d = 42
  · have e : rValue s d x = ({ x with any := true }, adv d) := if_pos h42
    rw [e]
    rw [if_pos h42] at hb
    have h1 := h.aadv (by omega) hb
    refine (h1.aneed (c := 59) (m' := { setCur m { cur m with star := true } with state := 115 }) (by decide) (fun e => by rw [byte_59 rfl, if_pos rfl]) (fun e => by rw [byte_59 rfl, if_neg e]) (notDone (by decide : (59 : Int) ≠ 115))).mono ?_
    rintro y - rfl
    refine ⟨rfl, rfl, ?_⟩
    show (setCur m { cur m with star := true }).st = (setCur m { cur m with star := true, sg := x.sg, num := x.num }).st
    rw [hx2, hx3, ← hz]
  rw [if_neg h42] at hb
  by_cases h45 : pk s d = 45
  · rw [if_pos h45] at hb
    have h1 := h.aadv (by omega) hb
    have eg : rSign s d = (-1, adv d) := if_pos h45
    have hb1 := byte_86 (m := { m with sign := -1, state := 86 }) rfl (pk s (adv d))
    by_cases hv : 97 ≤ pk s (adv d) ∧ pk s (adv d) ≤ 100
    · have ev : rVar s (adv d) (-1) = (pk s (adv d) - 97, adv (adv d)) := by unfold rVar; rw [varOf_pos hv, if_neg (by omega)]
      have e : rValue s d x = ({ x with any := false, sg := x.sg.set (pk s (adv d) - 97).toNat (-1), num := (rSummand s (adv (adv d))).1 }, (rSummand s (adv (adv d))).2) := by
        unfold rValue; rw [if_neg h42, eg, if_neg (by show varOf (pk s (adv d)) ≠ -1; rw [varOf_pos hv]; omega)]; simp only; rw [ev]
      rw [e]
      rw [if_pos hv] at hb1
      have h2 := h1.aadv (by omega) hb1
      refine (h2.summand rfl (by show (cur (setCur m _)).num = 0; rw [hcs]; exact hz)).mono ?_
      rintro y - ⟨a, b, c⟩
      refine ⟨a, b, c.trans ?_⟩
      show (setCur (setCur m _) { cur (setCur m _) with num := _ }).st = _
      rw [setCur_two, hcs]
      show (setCur m { cur m with sg := (cur m).sg.set _ (-1), num := _ }).st = (setCur m { cur m with star := false, sg := x.sg.set _ (-1), num := _ }).st
      rw [hx2, ← hx4]
    · have e : rValue s d x = ({ x with any := false, num := (rNum s (adv d) (-1)).1 }, (rNum s (adv d) (-1)).2) := by
        unfold rValue; rw [if_neg h42, eg, if_pos (varOf_neg hv)]
      rw [e]
      rw [if_neg hv] at hb1
      refine (h1.numVal (m0 := { m with sign := -1, state := 86 }) (pos := true) (sg := -1) hb1 (by decide : (86 : Int) ≠ 110) hn (.inr ⟨rfl, rfl⟩) (notDone (by decide : (86 : Int) ≠ 115))).mono ?_
      rintro y - ⟨a, b, c⟩
      refine ⟨a, b, c.trans ?_⟩
      show (setCur m { cur m with num := -1 * (-1 * _) }).st = (setCur m { cur m with star := false, sg := x.sg, num := _ }).st
      rw [hx2, ← hx4, Int.neg_mul, Int.neg_mul, Int.one_mul, Int.one_mul, Int.neg_neg]
  · rw [if_neg h45] at hb
    have eg : rSign s d = (1, d) := if_neg h45
    by_cases hv : 97 ≤ pk s d ∧ pk s d ≤ 100
    · have ev : rVar s d (-1) = (pk s d - 97, adv d) := by unfold rVar; rw [varOf_pos hv, if_neg (by omega)]
      have e : rValue s d x = ({ x with any := false, sg := x.sg.set (pk s d - 97).toNat 1, num := (rSummand s (adv d)).1 }, (rSummand s (adv d)).2) := by
        unfold rValue; rw [if_neg h42, eg, if_neg (by show varOf (pk s d) ≠ -1; rw [varOf_pos hv]; omega)]; simp only; rw [ev]
      rw [e]
      rw [if_pos hv] at hb
      have h2 := h.aadv (by omega) hb
      refine (h2.summand rfl (by show (cur (setCur m _)).num = 0; rw [hcs]; exact hz)).mono ?_
      rintro y - ⟨a, b, c⟩
      refine ⟨a, b, c.trans ?_⟩
      show (setCur (setCur m _) { cur (setCur m _) with num := _ }).st = _
      rw [setCur_two, hcs]
      show (setCur m { cur m with sg := (cur m).sg.set _ 1, num := _ }).st = (setCur m { cur m with star := false, sg := x.sg.set _ 1, num := _ }).st
      rw [hx2, ← hx4]
    · have e : rValue s d x = ({ x with any := false, num := (rNum s d 1).1 }, (rNum s d 1).2) := by
        unfold rValue; rw [if_neg h42, eg, if_pos (varOf_neg hv)]
      rw [e]
      rw [if_neg hv] at hb
      refine (h.numVal (m0 := { m with sign := 1 }) (pos := false) (sg := 1) hb (by show m.state ≠ 110; rw [hs]; decide) hn (.inl ⟨rfl, rfl⟩) hnd).mono ?_
      rintro y - ⟨a, b, c⟩
      refine ⟨a, b, c.trans ?_⟩
      show (setCur m { cur m with num := 1 * (1 * _) }).st = (setCur m { cur m with star := false, sg := x.sg, num := _ }).st
      rw [hx2, ← hx4, Int.one_mul, Int.one_mul]

end Go.Proofs.Ytadhimimdmoodaa
