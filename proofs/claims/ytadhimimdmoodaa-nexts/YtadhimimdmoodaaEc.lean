import Derived.Test.YtadhimimdmoodaaEb
namespace Go.Proofs.Ytadhimimdmoodaa
variable {s : ByteArray} {d : Nat × Bool} {m m' : Rd}

/-- The open blocks behind a condition and the byte that follows it. -/
def opAft (m : Rd) : List Bk := if (cur m).kind = 33 then m.op else m.op ++ [⟨m.st.length - 1, false⟩]

theorem behind_ne (m : Rd) : behindOf m ≠ 0 ∧ behindOf m ≠ 115 := by
  rcases behind_or m with e | e <;> rw [e] <;> decide

/-- The byte behind a condition. -/
theorem plain_yes {a : Rd} (hs : a.state = behindOf m) (hk : (cur m).kind = 33 ∨ a.op.length ≠ 4) : ∃ y, plainStep a (behindOf m) = some y ∧ y.state = 115 ∧ y.st = a.st ∧ y.op = (if (cur m).kind = 33 then a.op else a.op ++ [⟨a.st.length - 1, false⟩]) := by
  unfold plainStep
  by_cases e : (cur m).kind = 33
  · have eb : behindOf m = 59 := if_pos e
    rw [if_pos (by rw [hs, eb]), if_pos eb]
    exact ⟨_, rfl, rfl, rfl, by rw [if_pos e]⟩
  · have eb : behindOf m = 123 := if_neg e
    rw [if_neg (by rw [hs, eb]; decide), if_neg (by rw [eb]; exact fun h => h.elim (fun h => h rfl) (fun h => hk.elim e (fun k => k h)))]
    exact ⟨_, rfl, rfl, rfl, by rw [if_neg e]⟩
theorem plain_no {a : Rd} (hs : a.state = behindOf m) {c : Int} (hc : c ≠ behindOf m) : plainStep a c = none := by
  unfold plainStep
  rcases behind_or m with e | e
  · rw [if_pos (by rw [hs, e]), if_neg (by rw [← e]; exact hc)]
  · rw [if_neg (by rw [hs, e]; decide), if_pos (.inl (by rw [← e]; exact hc))]

def negNum (m : Rd) : Int := if m.neg then -(cur m).num else (cur m).num
theorem byte_109 (h : m.state = 109) (c : Int) : byteStep m c = if c = 59 ∨ c = 123 then plainStep { setCur m { cur m with num := negNum m } with state := behindOf m } c else digitStep m c false 109 := by
  rw [byte_cond (by rw [h]; decide)]; unfold condStep; rw [h, if_neg (by decide), if_neg (by decide), if_neg (by decide), if_neg (by decide), if_neg (by decide), if_neg (by decide), if_neg (by decide), if_neg (by decide), if_pos rfl]; rfl

theorem Sync.condEnd (h : Sync s d m) (hs : m.state = 109) (hk : (cur m).kind = 33 ∨ m.op.length ≠ 4) (hno : ¬ (48 ≤ pk s d ∧ pk s d ≤ 57) ∨ m.dig = 2 ∨ (m.dig = 1 ∧ (cur m).num = 0)) :
    Res s (nd s d (behindOf m)) (fun x => x.state = 115 ∧ x.st = (setCur m { cur m with num := negNum m }).st ∧ x.op = opAft m) := by
  have hn : 0 < m.st.length := h.aok.some_ (by rw [hs]; decide)
  have hb := byte_109 hs (pk s d)
  obtain ⟨y, hy, y1, y2, y3⟩ := plain_yes (m := m) (a := { setCur m { cur m with num := negNum m } with state := behindOf m }) rfl hk
  refine (h.aneed (m' := y) (behind_ne m).1 (fun e => ?_) (fun e => ?_) (notDone (by rw [hs]; decide))).mono ?_
  · rw [e, if_pos (behind_or m), hy] at hb; exact hb
  · rw [hb]
    by_cases e2 : pk s d = 59 ∨ pk s d = 123
    · rw [if_pos e2]; exact plain_no rfl e
    · rw [if_neg e2]
      simp only [digitStep]
      rw [if_pos hs, if_pos hs, if_pos]
      omega
  · rintro x - rfl
    refine ⟨y1, y2, ?_⟩
    rw [y3]
    unfold opAft
    show (if (cur m).kind = 33 then m.op else m.op ++ [⟨(setCur m _).st.length - 1, false⟩]) = _
    rw [setCur_len]

/-- A number of a condition, and the byte behind it. -/
theorem Sync.numCond (h : Sync s d m) {pos : Bool} {sg : Int} (hb : byteStep m (pk s d) = digitStep m (pk s d) pos 109) (hs : m.state ≠ 109 ∧ m.state ≠ 115) (hk : (cur m).kind = 33 ∨ m.op.length ≠ 4) (hsg : (sg = 1 ∧ pos = false ∧ m.neg = false) ∨ (sg = -1 ∧ pos = true ∧ m.neg = true)) :
    Res s (nd s (rNum s d sg).2 (behindOf m)) (fun x => x.state = 115 ∧ x.st = (setCur m { cur m with num := (rNum s d sg).1 }).st ∧ x.op = opAft m) := by
  have hn : 0 < m.st.length := h.aok.some_ hs.2
  have hneg : ∀ n : Int, (if m.neg then -n else n) = sg * n := by
    intro n
    rcases hsg with ⟨rfl, _, e⟩ | ⟨rfl, _, e⟩ <;> rw [e] <;> simp
  have hcs := cur_setCur' hn
  have hbe : ∀ u : St, u.kind = (cur m).kind → behindOf (setCur m u) = behindOf m := fun u hu => by unfold behindOf; rw [hcs, hu]
  have hop : ∀ u : St, u.kind = (cur m).kind → opAft (setCur m u) = opAft m := fun u hu => by unfold opAft; rw [hcs, hu, setCur_len]; rfl
  by_cases hz : pk s d = 48 ∧ 0 < sg
  · have e : rNum s d sg = (0, adv d) := if_pos hz
    rw [e]
    have hp : pos = false := by
      rcases hsg with h | h
      · exact h.2.1
      · omega
    rw [digit_new hs.1 (by omega) (by rw [hp]; simp)] at hb
    have h1 := h.aadv (by omega) hb
    have e0 : pk s d - 48 = 0 := by omega
    have h2 := h1.condEnd rfl (by show (cur (setCur m _)).kind = 33 ∨ _; rw [hcs]; exact hk) (.inr (.inr ⟨rfl, by show (cur (setCur m _)).num = 0; rw [hcs]; exact e0⟩))
    have eb : behindOf { setCur m { cur m with num := pk s d - 48 } with dig := 1, state := 109 } = behindOf m := hbe { cur m with num := pk s d - 48 } rfl
    rw [eb] at h2
    refine h2.mono ?_
    rintro x - ⟨a, b, c⟩
    refine ⟨a, b.trans ?_, c.trans (hop { cur m with num := pk s d - 48 } rfl)⟩
    show (setCur (setCur m _) { cur (setCur m _) with num := if m.neg then -(cur (setCur m _)).num else (cur (setCur m _)).num }).st = _
    rw [setCur_two, hcs, hneg, e0, Int.mul_zero]
  by_cases hbad : pk s d < 49 ∨ 57 < pk s d
  · have e : rNum s d sg = (0, stk d) := by unfold rNum; rw [if_neg hz, if_pos hbad]
    rw [e]
    have hd : Dead s (stk d) := by
      refine h.adead ?_ (fun _ => notDone hs.2)
      rw [hb]
      refine digit_bad ?_
      by_cases h48 : pk s d = 48
      · refine .inr (.inr ⟨?_, h48⟩)
        rcases hsg with h' | h'
        · exact absurd ⟨h48, by omega⟩ hz
        · exact h'.2.1
      · omega
    show Res s (nd s (stk d) _) _
    rw [hd.dnd (behind_ne m).1]
    exact .inl hd
  rw [digit_new hs.1 (by omega) (by omega)] at hb
  have h1 := h.aadv (by omega) hb
  have eb : behindOf { setCur m { cur m with num := pk s d - 48 } with dig := 1, state := 109 } = behindOf m := hbe { cur m with num := pk s d - 48 } rfl
  by_cases h2 : 48 ≤ pk s (adv d) ∧ pk s (adv d) ≤ 57
  · have e : rNum s d sg = (sg * (10 * (pk s d - 48) + (pk s (adv d) - 48)), adv (adv d)) := by unfold rNum; rw [if_neg hz, if_neg hbad, if_pos h2]
    rw [e]
    have hn1 : (cur { setCur m { cur m with num := pk s d - 48 } with dig := 1, state := 109 }).num = pk s d - 48 := by
      show (cur (setCur m _)).num = _
      rw [hcs]
    have hb2 := byte_109 (m := { setCur m { cur m with num := pk s d - 48 } with dig := 1, state := 109 }) rfl (pk s (adv d))
    rw [if_neg (by omega), digit_more rfl rfl hn1 (by omega) h2] at hb2
    have h3 := h1.aadv (by omega) hb2
    have hl1 : 0 < (setCur m { cur m with num := pk s d - 48 }).st.length := by rw [setCur_len]; exact hn
    have ec : cur (setCur (setCur m { cur m with num := pk s d - 48 }) { cur (setCur m { cur m with num := pk s d - 48 }) with num := 10 * (pk s d - 48) + (pk s (adv d) - 48) }) = { cur m with num := 10 * (pk s d - 48) + (pk s (adv d) - 48) } := by
      rw [cur_setCur' hl1, hcs]
    have h4 := h3.condEnd rfl (by show (cur (setCur (setCur m { cur m with num := pk s d - 48 }) { cur (setCur m { cur m with num := pk s d - 48 }) with num := _ })).kind = 33 ∨ _; rw [ec]; exact hk) (.inr (.inl rfl))
    have eb2 : behindOf { setCur { setCur m { cur m with num := pk s d - 48 } with dig := 1, state := 109 } { cur { setCur m { cur m with num := pk s d - 48 } with dig := 1, state := 109 } with num := 10 * (pk s d - 48) + (pk s (adv d) - 48) } with dig := 2, state := 109 } = behindOf m := by
      show behindOf (setCur (setCur m _) { cur (setCur m _) with num := _ }) = _
      unfold behindOf; rw [ec]
    rw [eb2] at h4
    refine h4.mono ?_
    rintro x - ⟨a, b, c⟩
    refine ⟨a, b.trans ?_, c.trans ?_⟩
    · show (setCur (setCur (setCur m _) { cur (setCur m _) with num := _ }) { cur (setCur (setCur m _) { cur (setCur m _) with num := _ }) with num := if m.neg then -(cur (setCur (setCur m _) { cur (setCur m _) with num := _ })).num else (cur (setCur (setCur m _) { cur (setCur m _) with num := _ })).num }).st = _
      rw [setCur_two, setCur_two, ec, hneg]
    · show opAft (setCur (setCur m _) { cur (setCur m _) with num := _ }) = _
      unfold opAft; rw [ec, setCur_len, setCur_len]; rfl
  · have e : rNum s d sg = (sg * (pk s d - 48), adv d) := by unfold rNum; rw [if_neg hz, if_neg hbad, if_neg h2]
    rw [e]
    have h3 := h1.condEnd rfl (by show (cur (setCur m _)).kind = 33 ∨ _; rw [hcs]; exact hk) (.inl h2)
    rw [eb] at h3
    refine h3.mono ?_
    rintro x - ⟨a, b, c⟩
    refine ⟨a, b.trans ?_, c.trans (hop { cur m with num := pk s d - 48 } rfl)⟩
    show (setCur (setCur m _) { cur (setCur m _) with num := if m.neg then -(cur (setCur m _)).num else (cur (setCur m _)).num }).st = _
    rw [setCur_two, hcs, hneg]

end Go.Proofs.Ytadhimimdmoodaa
