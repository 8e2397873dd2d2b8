import Derived.Test.YtffajooegiempaaGreatDoorJ23
namespace Go.Proofs.YtffajooegiempaaGreatDoor
open Go.RowKit
variable {w w' : World} {g cap : Nat} {F : List Ds}

theorem flat_get : ∀ (F : List Ds) (j o : Nat) (x : Ds), F[j]? = some x → o < 10 → (flat F)[j * 10 + o]? = (dsCells x).toList[o]? := by
  intro F
  induction F with
  | nil => intro j o x h; simp at h
  | cons y F ih =>
    intro j o x h ho
    have hl : (dsCells y).toList.length = 10 := rfl
    show ((dsCells y).toList ++ flat F)[j * 10 + o]? = _
    cases j with
    | zero =>
      simp at h
      subst h
      rw [List.getElem?_append_left (by rw [hl]; omega)]
      congr 1; omega
    | succ j =>
      rw [List.getElem?_append_right (by rw [hl]; omega), hl]
      rw [show (j + 1) * 10 + o - 10 = j * 10 + o by omega]
      exact ih j o x (by simpa using h) ho

theorem prow_of {B n : Nat} (h : w.ownsRow B tDs 10 (.slice (some ⟨g, 0, none⟩) n cap) n (flat F)) (hn : F.length = n) (hlt : g < w.heap.size) : PRow w g F := by
  refine ⟨hlt, fun j x hx => ?_⟩
  have hj : j < n := by
    rw [← hn]
    rcases Nat.lt_or_ge j F.length with h' | h'
    · exact h'
    · simp [List.getElem?_eq_none h'] at hx
  have hc : ∀ o, o < 10 → w.cell? ⟨g, j * 10 + o, none⟩ = (dsCells x).toList[o]? := fun o ho => by
    rw [h.cellAt (j * 10 + o) (by omega), flat_get F j o x hx ho]
  exact ⟨hc 0 (by omega), hc 1 (by omega), hc 2 (by omega), hc 3 (by omega), hc 4 (by omega), hc 5 (by omega), hc 6 (by omega), hc 7 (by omega), hc 8 (by omega), hc 9 (by omega)⟩

end Go.Proofs.YtffajooegiempaaGreatDoor

/- The two readers come to the same: the program's steps held against the machine. -/
namespace Go.Proofs.YtffajooegiempaaGreatDoor
variable {s : ByteArray} {d : Nat × Bool} {m m' : Rd}

/-- The program's reader goes on, and the machine has read as much. -/
structure Sync (s : ByteArray) (d : Nat × Bool) (m : Rd) : Prop where
  ns : d.2 = false
  le : d.1 ≤ s.size
  fd : feed init ((bytesOf s).take d.1) = some m

/-- The program's reader is stuck, and the machine can go no further, or the text ends where no program ends. -/
structure Dead (s : ByteArray) (d : Nat × Bool) : Prop where
  st : d.2 = true
  ex : ∃ m, feed init ((bytesOf s).take d.1) = some m ∧ d.1 ≤ s.size ∧ (d.1 < s.size → byteStep m ((bytesOf s).getD d.1 0) = none) ∧ (d.1 = s.size → isDone m = false)

def Res (s : ByteArray) (d : Nat × Bool) (Q : Rd → Prop) : Prop := Dead s d ∨ ∃ m', Sync s d m' ∧ Q m'

theorem Res.mono {Q R : Rd → Prop} (h : Res s d Q) (k : ∀ m', Sync s d m' → Q m' → R m') : Res s d R := by
  rcases h with h | ⟨m', h, q⟩
  · exact .inl h
  · exact .inr ⟨m', h, k m' h q⟩

theorem Sync.aok (h : Sync s d m) : Ok m := Ok.init.feed h.fd
theorem Sync.apk (h : Sync s d m) : pk s d = (bytesOf s).getD d.1 0 := by unfold pk; rw [h.ns]; rfl
theorem Dead.dpk (h : Dead s d) : pk s d = 0 := by unfold pk; rw [h.st]; rfl
theorem Dead.dstk (h : Dead s d) : stk d = d := by unfold stk; rw [← h.st]

theorem Sync.aadv (h : Sync s d m) (hne : pk s d ≠ 0) (hb : byteStep m (pk s d) = some m') : Sync s (adv d) m' := by
  have hlt := (pk_lt rfl hne).1
  refine ⟨h.ns, by show d.1 + 1 ≤ _; omega, ?_⟩
  show feed init ((bytesOf s).take (d.1 + 1)) = some m'
  rw [h.apk, List.getD_eq_getElem?_getD, bytesOf_get s d.1 hlt] at hb
  rw [bytesOf_take s d.1 hlt, feed_snoc, h.fd]
  exact hb

theorem Sync.adead (h : Sync s d m) (hb : byteStep m (pk s d) = none) (hnd : d.1 = s.size → isDone m = false) : Dead s (stk d) :=
  ⟨rfl, m, h.fd, h.le, fun _ => by rw [h.apk] at hb; exact hb, hnd⟩

theorem Dead.dnd (h : Dead s d) {c : Int} (hc : c ≠ 0) : nd s d c = d := by
  unfold nd; rw [if_neg (by rw [h.dpk]; exact fun e => hc e.symm)]; exact h.dstk
theorem Dead.dSign (h : Dead s d) : rSign s d = (1, d) := by unfold rSign; rw [if_neg (by rw [h.dpk]; decide)]
theorem varOf_zero : varOf 0 = -1 := by decide
theorem Dead.dVar (h : Dead s d) (x : Int) : rVar s d x = (0, d) := by unfold rVar; rw [if_pos (.inl (by rw [h.dpk]; exact varOf_zero)), h.dstk]
theorem Dead.dNum (h : Dead s d) (x : Int) : rNum s d x = (0, d) := by unfold rNum; rw [if_neg (by rw [h.dpk]; simp), if_pos (by rw [h.dpk]; decide), h.dstk]
theorem Dead.dValue (h : Dead s d) (x : Ds) : (rValue s d x).2 = d := by
  unfold rValue; rw [if_neg (by rw [h.dpk]; decide), h.dSign, if_pos (by show varOf (pk s d) = -1; rw [h.dpk]; exact varOf_zero)]
  show (rNum s d 1).2 = d
  rw [h.dNum]
theorem Dead.dSecond (h : Dead s d) (x : Ds) (f : Int) : (rSecond s d x f).2 = d := by unfold rSecond; rw [if_neg (by rw [h.dpk]; decide)]
theorem Dead.dCond (h : Dead s d) (x : Ds) : (rCond s d x).2 = d := by
  unfold rCond; rw [if_neg (by rw [h.dpk]; decide), h.dSign]
  simp only
  rw [h.dVar]
  simp only
  rw [h.dSecond, h.dnd (by decide), h.dnd (by decide), h.dSign]
  simp only
  rw [h.dNum]

/-- A byte that must stand here. -/
theorem Sync.aneed (h : Sync s d m) {c : Int} (hc : c ≠ 0) (hy : pk s d = c → byteStep m c = some m') (hn : pk s d ≠ c → byteStep m (pk s d) = none) (hnd : isDone m = false) : Res s (nd s d c) (fun x => x = m') := by
  by_cases e : pk s d = c
  · have : nd s d c = adv d := if_pos e
    rw [this]
    exact .inr ⟨m', h.aadv (by rw [e]; exact hc) (by rw [e]; exact hy e), rfl⟩
  · have : nd s d c = stk d := if_neg e
    rw [this]
    exact .inl (h.adead (hn e) (fun _ => hnd))

theorem notDone (h : m.state ≠ 115) : isDone m = false := by unfold isDone; simp [h]

theorem byte_110 (h : m.state = 110) (c : Int) : byteStep m c = if c = 59 then some (valueEnd m) else digitStep m c false 110 := by
  unfold byteStep valueStep; rw [h, if_neg (by decide), if_neg (by decide), if_pos (by decide), if_neg (by decide), if_neg (by decide), if_neg (by decide), if_neg (by decide)]

/-- Behind a number that can have no digit more: the end of the statement. -/
theorem Sync.valEnd (h : Sync s d m) (hs : m.state = 110) (hno : ¬ (48 ≤ pk s d ∧ pk s d ≤ 57) ∨ m.dig = 2 ∨ (m.dig = 1 ∧ (cur m).num = 0)) : Res s (nd s d 59) (fun x => x = valueEnd m) := by
  refine h.aneed (by decide) (fun _ => by rw [byte_110 hs, if_pos rfl]) (fun e => ?_) (notDone (by rw [hs]; decide))
  rw [byte_110 hs, if_neg e]
  simp only [digitStep]
  rw [if_pos hs, if_pos hs, if_pos]
  omega

theorem digit_new {c x : Int} {pos : Bool} (hs : m.state ≠ x) (hc : 48 ≤ c ∧ c ≤ 57) (hp : ¬ (pos = true ∧ c = 48)) : digitStep m c pos x = some { setCur m { cur m with num := c - 48 } with dig := 1, state := x } := by
  simp only [digitStep]
  rw [if_neg hs, if_neg hs, if_neg (by
    rintro (a | a | a | a | a)
    · omega
    · omega
    · omega
    · omega
    · exact hp a)]
  have : (10 : Int) * 0 + (c - 48) = c - 48 := by omega
  rw [this]; rfl
theorem digit_more {c x u : Int} (hs : m.state = x) (hd : m.dig = 1) (hu : (cur m).num = u) (hu0 : u ≠ 0) (hc : 48 ≤ c ∧ c ≤ 57) : digitStep m c false x = some { setCur m { cur m with num := 10 * u + (c - 48) } with dig := 2, state := x } := by
  simp only [digitStep]
  rw [if_pos hs, if_pos hs, hd, hu, if_neg (by
    rintro (a | a | a | a | a)
    · omega
    · omega
    · omega
    · omega
    · simp at a)]
  rfl
theorem digit_bad {c x : Int} {pos : Bool} (hc : c < 48 ∨ 57 < c ∨ (pos = true ∧ c = 48)) : digitStep m c pos x = none := by
  simp only [digitStep]
  rw [if_pos]
  rcases hc with a | a | a
  · exact .inl a
  · exact .inr (.inl a)
  · exact .inr (.inr (.inr (.inr a)))

theorem setCur_two (m : Rd) (a b : St) : (setCur (setCur m a) b).st = (setCur m b).st := by simp [setCur]

/-- A number of a value, and the end of the statement. -/
theorem Sync.numVal (h : Sync s d m) {m0 : Rd} {pos : Bool} {sg : Int} (hb : byteStep m (pk s d) = digitStep m0 (pk s d) pos 110) (hs : m0.state ≠ 110) (hn : 0 < m0.st.length) (hsg : (sg = 1 ∧ pos = false) ∨ (sg = -1 ∧ pos = true)) (hnd : isDone m = false) :
    Res s (nd s (rNum s d sg).2 59) (fun x => x.state = 115 ∧ x.op = m0.op ∧ x.st = (setCur m0 { cur m0 with num := m0.sign * (sg * (rNum s d sg).1) }).st) := by
  have hsq : ∀ n : Int, sg * (sg * n) = n := by
    intro n
    rcases hsg with ⟨rfl, _⟩ | ⟨rfl, _⟩ <;> omega
  have hcs := cur_setCur' hn
  by_cases hz : pk s d = 48 ∧ 0 < sg
  · have e : rNum s d sg = (0, adv d) := if_pos hz
    rw [e]
    have hp : pos = false := by
      rcases hsg with h | h
      · exact h.2
      · omega
    rw [digit_new hs (by omega) (by rw [hp]; simp)] at hb
    have h1 := h.aadv (by omega) hb
    refine (h1.valEnd rfl (.inr (.inr ⟨rfl, ?_⟩))).mono ?_
    · show (cur (setCur m0 _)).num = 0
      rw [hcs]; show pk s d - 48 = 0; omega
    · rintro m' - rfl
      refine ⟨rfl, rfl, ?_⟩
      show (setCur (setCur m0 _) _).st = _
      rw [setCur_two]
      show (setCur m0 { cur (setCur m0 _) with num := m0.sign * (cur (setCur m0 _)).num }).st = _
      rw [hcs]
      have : pk s d - 48 = 0 := by omega
      simp only [this]
      simp
  by_cases hbad : pk s d < 49 ∨ 57 < pk s d
  · have e : rNum s d sg = (0, stk d) := by unfold rNum; rw [if_neg hz, if_pos hbad]
    rw [e]
    have hd : Dead s (stk d) := by
      refine h.adead ?_ (fun _ => hnd)
      rw [hb]
      refine digit_bad ?_
      by_cases h48 : pk s d = 48
      · refine .inr (.inr ⟨?_, h48⟩)
        rcases hsg with h' | h'
        · exact absurd ⟨h48, by omega⟩ hz
        · exact h'.2
      · omega
    show Res s (nd s (stk d) 59) _
    rw [hd.dnd (by decide)]
    exact .inl hd
  rw [digit_new hs (by omega) (by omega)] at hb
  have h1 := h.aadv (by omega) hb
  have hn1 : (cur { setCur m0 { cur m0 with num := pk s d - 48 } with dig := 1, state := 110 }).num = pk s d - 48 := by
    show (cur (setCur m0 _)).num = _
    rw [hcs]
  by_cases h2 : 48 ≤ pk s (adv d) ∧ pk s (adv d) ≤ 57
  · have e : rNum s d sg = (sg * (10 * (pk s d - 48) + (pk s (adv d) - 48)), adv (adv d)) := by unfold rNum; rw [if_neg hz, if_neg hbad, if_pos h2]
    rw [e]
    have hb2 := byte_110 (m := { setCur m0 { cur m0 with num := pk s d - 48 } with dig := 1, state := 110 }) rfl (pk s (adv d))
    rw [if_neg (by omega), digit_more rfl rfl hn1 (by omega) h2] at hb2
    have h3 := h1.aadv (by omega) hb2
    refine (h3.valEnd rfl (.inr (.inl rfl))).mono ?_
    rintro m' - rfl
    refine ⟨rfl, rfl, ?_⟩
    have hl1 : 0 < (setCur m0 { cur m0 with num := pk s d - 48 }).st.length := by rw [setCur_len]; exact hn
    show (setCur (setCur (setCur m0 _) _) { cur (setCur (setCur m0 _) _) with num := m0.sign * (cur (setCur (setCur m0 _) _)).num }).st = _
    rw [setCur_two, setCur_two, cur_setCur' hl1]
    show (setCur m0 { cur (setCur m0 { cur m0 with num := pk s d - 48 }) with num := m0.sign * (10 * (pk s d - 48) + (pk s (adv d) - 48)) }).st = _
    rw [hcs, hsq]
  · have e : rNum s d sg = (sg * (pk s d - 48), adv d) := by unfold rNum; rw [if_neg hz, if_neg hbad, if_neg h2]
    rw [e]
    refine (h1.valEnd rfl (.inl h2)).mono ?_
    rintro m' - rfl
    refine ⟨rfl, rfl, ?_⟩
    show (setCur (setCur m0 _) { cur (setCur m0 _) with num := m0.sign * (cur (setCur m0 _)).num }).st = _
    rw [setCur_two, hcs, hsq]

end Go.Proofs.YtffajooegiempaaGreatDoor

namespace Go.Proofs.YtffajooegiempaaGreatDoor
variable {s : ByteArray} {d : Nat × Bool} {m m' : Rd}

theorem byte_59 (h : m.state = 59) (c : Int) : byteStep m c = if c = 59 then some { m with state := 115 } else none := by
  rw [byte_plain (.inl h)]; unfold plainStep; rw [if_pos h]
theorem byte_118 (h : m.state = 118) (c : Int) : byteStep m c = if c = 42 then some { setCur m { cur m with star := true } with state := 59 } else if c = 45 then some { m with sign := -1, state := 86 } else if 97 ≤ c ∧ c ≤ 100 then some (signTo m (c - 97).toNat 1 120) else digitStep { m with sign := 1 } c false 110 := by
  rw [byte_value (.inl h)]; unfold valueStep; rw [if_pos h]
theorem byte_86 (h : m.state = 86) (c : Int) : byteStep m c = if 97 ≤ c ∧ c ≤ 100 then some (signTo m (c - 97).toNat m.sign 120) else digitStep m c true 110 := by
  rw [byte_value (.inr (.inl h))]; unfold valueStep; rw [h, if_neg (by decide), if_pos rfl]
theorem byte_120 (h : m.state = 120) (c : Int) : byteStep m c = if c = 43 then some { m with sign := 1, state := 121 } else if c = 45 then some { m with sign := -1, state := 121 } else if c = 59 then some (valueEnd m) else none := by
  rw [byte_value (.inr (.inr (.inl h)))]; unfold valueStep; rw [h, if_neg (by decide), if_neg (by decide), if_pos rfl]
theorem byte_121 (h : m.state = 121) (c : Int) : byteStep m c = digitStep m c false 110 := by
  rw [byte_value (.inr (.inr (.inr (.inl h))))]; unfold valueStep; rw [h, if_neg (by decide), if_neg (by decide), if_neg (by decide), if_pos rfl]
theorem byte_61 (h : m.state = 61) (c : Int) : byteStep m c = if c = 61 then some { m with state := 118 } else none := by
  unfold byteStep; rw [h, if_neg (by decide), if_pos rfl]

theorem varOf_pos {c : Int} (h : 97 ≤ c ∧ c ≤ 100) : varOf c = c - 97 := if_pos h
theorem varOf_neg {c : Int} (h : ¬ (97 ≤ c ∧ c ≤ 100)) : varOf c = -1 := if_neg h

theorem setCur_st_eq {a b : Rd} (h : a.st = b.st) (u : St) : (setCur a u).st = (setCur b u).st := by unfold setCur; simp only; rw [h]
theorem cur_eq {a b : Rd} (h : a.st = b.st) : cur a = cur b := by unfold cur; rw [h]

/-- Behind the variable of a value. -/
theorem Sync.summand (h : Sync s d m) (hs : m.state = 120) (hz : (cur m).num = 0) :
    Res s (nd s (rSummand s d).2 59) (fun x => x.state = 115 ∧ x.op = m.op ∧ x.st = (setCur m { cur m with num := (rSummand s d).1 }).st) := by
  have hn : 0 < m.st.length := h.aok.some_ (by rw [hs]; decide)
  have hb := byte_120 hs (pk s d)
  have hnd := notDone (m := m) (by rw [hs]; decide)
  by_cases h43 : pk s d = 43
  · have e : rSummand s d = rNum s (adv d) 1 := if_pos h43
    rw [e]
    rw [if_pos h43] at hb
    have h1 := h.aadv (by omega) hb
    refine (h1.numVal (m0 := { m with sign := 1, state := 121 }) (pos := false) (sg := 1) (byte_121 rfl _) (by decide : (121 : Int) ≠ 110) hn (.inl ⟨rfl, rfl⟩) (notDone (by decide : (121 : Int) ≠ 115))).mono ?_
    rintro x - ⟨a, b, c⟩
    refine ⟨a, b, c.trans ?_⟩
    show (setCur m { cur m with num := 1 * (1 * _) }).st = _
    rw [Int.one_mul, Int.one_mul]
  by_cases h45 : pk s d = 45
  · have e : rSummand s d = (-(rNum s (adv d) 1).1, (rNum s (adv d) 1).2) := by unfold rSummand; rw [if_neg h43, if_pos h45]
    rw [e]
    rw [if_neg h43, if_pos h45] at hb
    have h1 := h.aadv (by omega) hb
    refine (h1.numVal (m0 := { m with sign := -1, state := 121 }) (pos := false) (sg := 1) (byte_121 rfl _) (by decide : (121 : Int) ≠ 110) hn (.inl ⟨rfl, rfl⟩) (notDone (by decide : (121 : Int) ≠ 115))).mono ?_
    rintro x - ⟨a, b, c⟩
    refine ⟨a, b, c.trans ?_⟩
    show (setCur m { cur m with num := -1 * (1 * _) }).st = _
    rw [Int.one_mul, Int.neg_mul, Int.one_mul]
  · have e : rSummand s d = (0, d) := by unfold rSummand; rw [if_neg h43, if_neg h45]
    rw [e]
    rw [if_neg h43, if_neg h45] at hb
    refine (h.aneed (m' := valueEnd m) (by decide) (fun e => by rw [e, if_pos rfl] at hb; exact hb) (fun e => by rw [if_neg e] at hb; exact hb) hnd).mono ?_
    rintro x - rfl
    refine ⟨rfl, rfl, ?_⟩
    show (setCur m { cur m with num := m.sign * (cur m).num }).st = _
    rw [hz, Int.mul_zero]

/-- A value, and the end of the statement. -/
theorem Sync.value (h : Sync s d m) (hs : m.state = 118) (hz : (cur m).num = 0) (x : Ds) (hx : x.any = false ∧ x.sg = (cur m).sg ∧ x.num = 0 ∧ (cur m).star = false) :
    Res s (nd s (rValue s d x).2 59) (fun y => y.state = 115 ∧ y.op = m.op ∧ y.st = (setCur m { cur m with star := (rValue s d x).1.any, sg := (rValue s d x).1.sg, num := (rValue s d x).1.num }).st) := by
  have hn : 0 < m.st.length := h.aok.some_ (by rw [hs]; decide)
  have hb := byte_118 hs (pk s d)
  have hnd := notDone (m := m) (by rw [hs]; decide)
  obtain ⟨hx1, hx2, hx3, hx4⟩ := hx
  have hcs := cur_setCur' hn
  by_cases h42 : pk s d = 42
  · have e : rValue s d x = ({ x with any := true }, adv d) := if_pos h42
    rw [e]
    rw [if_pos h42] at hb
    have h1 := h.aadv (by omega) hb
    refine (h1.aneed (c := 59) (m' := { setCur m { cur m with star := true } with state := 115 }) (by decide) (fun e => by rw [byte_59 rfl, if_pos rfl]) (fun e => by rw [byte_59 rfl, if_neg e]) (notDone (by decide : (59 : Int) ≠ 115))).mono ?_
    rintro y - rfl
    refine ⟨rfl, rfl, ?_⟩
    show (setCur m { cur m with star := true }).st = (setCur m { cur m with star := true, sg := x.sg, num := x.num }).st
    rw [hx2, hx3, ← hz]
  rw [if_neg h42] at hb
  by_cases h45 : pk s d = 45
  · rw [if_pos h45] at hb
    have h1 := h.aadv (by omega) hb
    have eg : rSign s d = (-1, adv d) := if_pos h45
    have hb1 := byte_86 (m := { m with sign := -1, state := 86 }) rfl (pk s (adv d))
    by_cases hv : 97 ≤ pk s (adv d) ∧ pk s (adv d) ≤ 100
    · have ev : rVar s (adv d) (-1) = (pk s (adv d) - 97, adv (adv d)) := by unfold rVar; rw [varOf_pos hv, if_neg (by omega)]
      have e : rValue s d x = ({ x with any := false, sg := x.sg.set (pk s (adv d) - 97).toNat (-1), num := (rSummand s (adv (adv d))).1 }, (rSummand s (adv (adv d))).2) := by
        unfold rValue; rw [if_neg h42, eg, if_neg (by show varOf (pk s (adv d)) ≠ -1; rw [varOf_pos hv]; omega)]; simp only; rw [ev]
      rw [e]
      rw [if_pos hv] at hb1
      have h2 := h1.aadv (by omega) hb1
      refine (h2.summand rfl (by show (cur (setCur m _)).num = 0; rw [hcs]; exact hz)).mono ?_
      rintro y - ⟨a, b, c⟩
      refine ⟨a, b, c.trans ?_⟩
      show (setCur (setCur m _) { cur (setCur m _) with num := _ }).st = _
      rw [setCur_two, hcs]
      show (setCur m { cur m with sg := (cur m).sg.set _ (-1), num := _ }).st = (setCur m { cur m with star := false, sg := x.sg.set _ (-1), num := _ }).st
      rw [hx2, ← hx4]
    · have e : rValue s d x = ({ x with any := false, num := (rNum s (adv d) (-1)).1 }, (rNum s (adv d) (-1)).2) := by
        unfold rValue; rw [if_neg h42, eg, if_pos (varOf_neg hv)]
      rw [e]
      rw [if_neg hv] at hb1
      refine (h1.numVal (m0 := { m with sign := -1, state := 86 }) (pos := true) (sg := -1) hb1 (by decide : (86 : Int) ≠ 110) hn (.inr ⟨rfl, rfl⟩) (notDone (by decide : (86 : Int) ≠ 115))).mono ?_
      rintro y - ⟨a, b, c⟩
      refine ⟨a, b, c.trans ?_⟩
      show (setCur m { cur m with num := -1 * (-1 * _) }).st = (setCur m { cur m with star := false, sg := x.sg, num := _ }).st
      rw [hx2, ← hx4, Int.neg_mul, Int.neg_mul, Int.one_mul, Int.one_mul, Int.neg_neg]
  · rw [if_neg h45] at hb
    have eg : rSign s d = (1, d) := if_neg h45
    by_cases hv : 97 ≤ pk s d ∧ pk s d ≤ 100
    · have ev : rVar s d (-1) = (pk s d - 97, adv d) := by unfold rVar; rw [varOf_pos hv, if_neg (by omega)]
      have e : rValue s d x = ({ x with any := false, sg := x.sg.set (pk s d - 97).toNat 1, num := (rSummand s (adv d)).1 }, (rSummand s (adv d)).2) := by
        unfold rValue; rw [if_neg h42, eg, if_neg (by show varOf (pk s d) ≠ -1; rw [varOf_pos hv]; omega)]; simp only; rw [ev]
      rw [e]
      rw [if_pos hv] at hb
      have h2 := h.aadv (by omega) hb
      refine (h2.summand rfl (by show (cur (setCur m _)).num = 0; rw [hcs]; exact hz)).mono ?_
      rintro y - ⟨a, b, c⟩
      refine ⟨a, b, c.trans ?_⟩
      show (setCur (setCur m _) { cur (setCur m _) with num := _ }).st = _
      rw [setCur_two, hcs]
      show (setCur m { cur m with sg := (cur m).sg.set _ 1, num := _ }).st = (setCur m { cur m with star := false, sg := x.sg.set _ 1, num := _ }).st
      rw [hx2, ← hx4]
    · have e : rValue s d x = ({ x with any := false, num := (rNum s d 1).1 }, (rNum s d 1).2) := by
        unfold rValue; rw [if_neg h42, eg, if_pos (varOf_neg hv)]
      rw [e]
      rw [if_neg hv] at hb
      refine (h.numVal (m0 := { m with sign := 1 }) (pos := false) (sg := 1) hb (by show m.state ≠ 110; rw [hs]; decide) hn (.inl ⟨rfl, rfl⟩) hnd).mono ?_
      rintro y - ⟨a, b, c⟩
      refine ⟨a, b, c.trans ?_⟩
      show (setCur m { cur m with num := 1 * (1 * _) }).st = (setCur m { cur m with star := false, sg := x.sg, num := _ }).st
      rw [hx2, ← hx4, Int.one_mul, Int.one_mul]

end Go.Proofs.YtffajooegiempaaGreatDoor

namespace Go.Proofs.YtffajooegiempaaGreatDoor
variable {s : ByteArray} {d : Nat × Bool} {m m' : Rd}

/-- The open blocks behind a condition and the byte that follows it. -/
def opAft (m : Rd) : List Bk := if (cur m).kind = 33 then m.op else m.op ++ [⟨m.st.length - 1, false⟩]

theorem behind_ne (m : Rd) : behindOf m ≠ 0 ∧ behindOf m ≠ 115 := by
  rcases behind_or m with e | e <;> rw [e] <;> decide

/-- The byte behind a condition. -/
theorem plain_yes {a : Rd} (hs : a.state = behindOf m) (hk : (cur m).kind = 33 ∨ a.op.length ≠ 4) : ∃ y, plainStep a (behindOf m) = some y ∧ y.state = 115 ∧ y.st = a.st ∧ y.op = (if (cur m).kind = 33 then a.op else a.op ++ [⟨a.st.length - 1, false⟩]) := by
  unfold plainStep
  by_cases e : (cur m).kind = 33
  · have eb : behindOf m = 59 := if_pos e
    rw [if_pos (by rw [hs, eb]), if_pos eb]
    exact ⟨_, rfl, rfl, rfl, by rw [if_pos e]⟩
  · have eb : behindOf m = 123 := if_neg e
    rw [if_neg (by rw [hs, eb]; decide), if_neg (by rw [eb]; exact fun h => h.elim (fun h => h rfl) (fun h => hk.elim e (fun k => k h)))]
    exact ⟨_, rfl, rfl, rfl, by rw [if_neg e]⟩
theorem plain_no {a : Rd} (hs : a.state = behindOf m) {c : Int} (hc : c ≠ behindOf m) : plainStep a c = none := by
  unfold plainStep
  rcases behind_or m with e | e
  · rw [if_pos (by rw [hs, e]), if_neg (by rw [← e]; exact hc)]
  · rw [if_neg (by rw [hs, e]; decide), if_pos (.inl (by rw [← e]; exact hc))]

def negNum (m : Rd) : Int := if m.neg then -(cur m).num else (cur m).num
theorem byte_109 (h : m.state = 109) (c : Int) : byteStep m c = if c = 59 ∨ c = 123 then plainStep { setCur m { cur m with num := negNum m } with state := behindOf m } c else digitStep m c false 109 := by
  rw [byte_cond (by rw [h]; decide)]; unfold condStep; rw [h, if_neg (by decide), if_neg (by decide), if_neg (by decide), if_neg (by decide), if_neg (by decide), if_neg (by decide), if_neg (by decide), if_neg (by decide), if_pos rfl]; rfl

theorem Sync.condEnd (h : Sync s d m) (hs : m.state = 109) (hk : (cur m).kind = 33 ∨ m.op.length ≠ 4) (hno : ¬ (48 ≤ pk s d ∧ pk s d ≤ 57) ∨ m.dig = 2 ∨ (m.dig = 1 ∧ (cur m).num = 0)) :
    Res s (nd s d (behindOf m)) (fun x => x.state = 115 ∧ x.st = (setCur m { cur m with num := negNum m }).st ∧ x.op = opAft m) := by
  have hn : 0 < m.st.length := h.aok.some_ (by rw [hs]; decide)
  have hb := byte_109 hs (pk s d)
  obtain ⟨y, hy, y1, y2, y3⟩ := plain_yes (m := m) (a := { setCur m { cur m with num := negNum m } with state := behindOf m }) rfl hk
  refine (h.aneed (m' := y) (behind_ne m).1 (fun e => ?_) (fun e => ?_) (notDone (by rw [hs]; decide))).mono ?_
  · rw [e, if_pos (behind_or m), hy] at hb; exact hb
  · rw [hb]
    by_cases e2 : pk s d = 59 ∨ pk s d = 123
    · rw [if_pos e2]; exact plain_no rfl e
    · rw [if_neg e2]
      simp only [digitStep]
      rw [if_pos hs, if_pos hs, if_pos]
      omega
  · rintro x - rfl
    refine ⟨y1, y2, ?_⟩
    rw [y3]
    unfold opAft
    show (if (cur m).kind = 33 then m.op else m.op ++ [⟨(setCur m _).st.length - 1, false⟩]) = _
    rw [setCur_len]

/-- A number of a condition, and the byte behind it. -/
theorem Sync.numCond (h : Sync s d m) {pos : Bool} {sg : Int} (hb : byteStep m (pk s d) = digitStep m (pk s d) pos 109) (hs : m.state ≠ 109 ∧ m.state ≠ 115) (hk : (cur m).kind = 33 ∨ m.op.length ≠ 4) (hsg : (sg = 1 ∧ pos = false ∧ m.neg = false) ∨ (sg = -1 ∧ pos = true ∧ m.neg = true)) :
    Res s (nd s (rNum s d sg).2 (behindOf m)) (fun x => x.state = 115 ∧ x.st = (setCur m { cur m with num := (rNum s d sg).1 }).st ∧ x.op = opAft m) := by
  have hn : 0 < m.st.length := h.aok.some_ hs.2
  have hneg : ∀ n : Int, (if m.neg then -n else n) = sg * n := by
    intro n
    rcases hsg with ⟨rfl, _, e⟩ | ⟨rfl, _, e⟩ <;> rw [e] <;> simp
  have hcs := cur_setCur' hn
  have hbe : ∀ u : St, u.kind = (cur m).kind → behindOf (setCur m u) = behindOf m := fun u hu => by unfold behindOf; rw [hcs, hu]
  have hop : ∀ u : St, u.kind = (cur m).kind → opAft (setCur m u) = opAft m := fun u hu => by unfold opAft; rw [hcs, hu, setCur_len]; rfl
  by_cases hz : pk s d = 48 ∧ 0 < sg
  · have e : rNum s d sg = (0, adv d) := if_pos hz
    rw [e]
    have hp : pos = false := by
      rcases hsg with h | h
      · exact h.2.1
      · omega
    rw [digit_new hs.1 (by omega) (by rw [hp]; simp)] at hb
    have h1 := h.aadv (by omega) hb
    have e0 : pk s d - 48 = 0 := by omega
    have h2 := h1.condEnd rfl (by show (cur (setCur m _)).kind = 33 ∨ _; rw [hcs]; exact hk) (.inr (.inr ⟨rfl, by show (cur (setCur m _)).num = 0; rw [hcs]; exact e0⟩))
    have eb : behindOf { setCur m { cur m with num := pk s d - 48 } with dig := 1, state := 109 } = behindOf m := hbe { cur m with num := pk s d - 48 } rfl
    rw [eb] at h2
    refine h2.mono ?_
    rintro x - ⟨a, b, c⟩
    refine ⟨a, b.trans ?_, c.trans (hop { cur m with num := pk s d - 48 } rfl)⟩
    show (setCur (setCur m _) { cur (setCur m _) with num := if m.neg then -(cur (setCur m _)).num else (cur (setCur m _)).num }).st = _
    rw [setCur_two, hcs, hneg, e0, Int.mul_zero]
  by_cases hbad : pk s d < 49 ∨ 57 < pk s d
  · have e : rNum s d sg = (0, stk d) := by unfold rNum; rw [if_neg hz, if_pos hbad]
    rw [e]
    have hd : Dead s (stk d) := by
      refine h.adead ?_ (fun _ => notDone hs.2)
      rw [hb]
      refine digit_bad ?_
      by_cases h48 : pk s d = 48
      · refine .inr (.inr ⟨?_, h48⟩)
        rcases hsg with h' | h'
        · exact absurd ⟨h48, by omega⟩ hz
        · exact h'.2.1
      · omega
    show Res s (nd s (stk d) _) _
    rw [hd.dnd (behind_ne m).1]
    exact .inl hd
  rw [digit_new hs.1 (by omega) (by omega)] at hb
  have h1 := h.aadv (by omega) hb
  have eb : behindOf { setCur m { cur m with num := pk s d - 48 } with dig := 1, state := 109 } = behindOf m := hbe { cur m with num := pk s d - 48 } rfl
  by_cases h2 : 48 ≤ pk s (adv d) ∧ pk s (adv d) ≤ 57
  · have e : rNum s d sg = (sg * (10 * (pk s d - 48) + (pk s (adv d) - 48)), adv (adv d)) := by unfold rNum; rw [if_neg hz, if_neg hbad, if_pos h2]
    rw [e]
    have hn1 : (cur { setCur m { cur m with num := pk s d - 48 } with dig := 1, state := 109 }).num = pk s d - 48 := by
      show (cur (setCur m _)).num = _
      rw [hcs]
    have hb2 := byte_109 (m := { setCur m { cur m with num := pk s d - 48 } with dig := 1, state := 109 }) rfl (pk s (adv d))
    rw [if_neg (by omega), digit_more rfl rfl hn1 (by omega) h2] at hb2
    have h3 := h1.aadv (by omega) hb2
    have hl1 : 0 < (setCur m { cur m with num := pk s d - 48 }).st.length := by rw [setCur_len]; exact hn
    have ec : cur (setCur (setCur m { cur m with num := pk s d - 48 }) { cur (setCur m { cur m with num := pk s d - 48 }) with num := 10 * (pk s d - 48) + (pk s (adv d) - 48) }) = { cur m with num := 10 * (pk s d - 48) + (pk s (adv d) - 48) } := by
      rw [cur_setCur' hl1, hcs]
    have h4 := h3.condEnd rfl (by show (cur (setCur (setCur m { cur m with num := pk s d - 48 }) { cur (setCur m { cur m with num := pk s d - 48 }) with num := _ })).kind = 33 ∨ _; rw [ec]; exact hk) (.inr (.inl rfl))
    have eb2 : behindOf { setCur { setCur m { cur m with num := pk s d - 48 } with dig := 1, state := 109 } { cur { setCur m { cur m with num := pk s d - 48 } with dig := 1, state := 109 } with num := 10 * (pk s d - 48) + (pk s (adv d) - 48) } with dig := 2, state := 109 } = behindOf m := by
      show behindOf (setCur (setCur m _) { cur (setCur m _) with num := _ }) = _
      unfold behindOf; rw [ec]
    rw [eb2] at h4
    refine h4.mono ?_
    rintro x - ⟨a, b, c⟩
    refine ⟨a, b.trans ?_, c.trans ?_⟩
    · show (setCur (setCur (setCur m _) { cur (setCur m _) with num := _ }) { cur (setCur (setCur m _) { cur (setCur m _) with num := _ }) with num := if m.neg then -(cur (setCur (setCur m _) { cur (setCur m _) with num := _ })).num else (cur (setCur (setCur m _) { cur (setCur m _) with num := _ })).num }).st = _
      rw [setCur_two, setCur_two, ec, hneg]
    · show opAft (setCur (setCur m _) { cur (setCur m _) with num := _ }) = _
      unfold opAft; rw [ec, setCur_len, setCur_len]; rfl
  · have e : rNum s d sg = (sg * (pk s d - 48), adv d) := by unfold rNum; rw [if_neg hz, if_neg hbad, if_neg h2]
    rw [e]
    have h3 := h1.condEnd rfl (by show (cur (setCur m _)).kind = 33 ∨ _; rw [hcs]; exact hk) (.inl h2)
    rw [eb] at h3
    refine h3.mono ?_
    rintro x - ⟨a, b, c⟩
    refine ⟨a, b.trans ?_, c.trans (hop { cur m with num := pk s d - 48 } rfl)⟩
    show (setCur (setCur m _) { cur (setCur m _) with num := if m.neg then -(cur (setCur m _)).num else (cur (setCur m _)).num }).st = _
    rw [setCur_two, hcs, hneg]

end Go.Proofs.YtffajooegiempaaGreatDoor

