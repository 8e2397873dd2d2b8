import Derived.Test.YtadhimimdmoodaaDl
/- The two readers come to the same: the program's steps held against the machine. -/
namespace Go.Proofs.Ytadhimimdmoodaa
variable {s : ByteArray} {d : Nat × Bool} {m m' : Rd}

/-- The program's reader goes on, and the machine has read as much. -/
structure Sync (s : ByteArray) (d : Nat × Bool) (m : Rd) : Prop where
  ns : d.2 = false
  le : d.1 ≤ s.size
  fd : feed init ((bytesOf s).take d.1) = some m

/-- The program's reader is stuck, and the machine can go no further, or the text ends where no program ends. -/
structure Dead (s : ByteArray) (d : Nat × Bool) : Prop where
  st : d.2 = true
  ex : ∃ m, feed init ((bytesOf s).take d.1) = some m ∧ d.1 ≤ s.size ∧ (d.1 < s.size → byteStep m ((bytesOf s).getD d.1 0) = none) ∧ (d.1 = s.size → isDone m = false)

def Res (s : ByteArray) (d : Nat × Bool) (Q : Rd → Prop) : Prop := Dead s d ∨ ∃ m', Sync s d m' ∧ Q m'

theorem Res.mono {Q R : Rd → Prop} (h : Res s d Q) (k : ∀ m', Sync s d m' → Q m' → R m') : Res s d R := by
  rcases h with h | ⟨m', h, q⟩
  · exact .inl h
  · exact .inr ⟨m', h, k m' h q⟩

theorem Sync.aok (h : Sync s d m) : Ok m := Ok.init.feed h.fd
theorem Sync.apk (h : Sync s d m) : pk s d = (bytesOf s).getD d.1 0 := by unfold pk; rw [h.ns]; rfl
theorem Dead.dpk (h : Dead s d) : pk s d = 0 := by unfold pk; rw [h.st]; rfl
theorem Dead.dstk (h : Dead s d) : stk d = d := by unfold stk; rw [← h.st]

theorem Sync.aadv (h : Sync s d m) (hne : pk s d ≠ 0) (hb : byteStep m (pk s d) = some m') : Sync s (adv d) m' := by
  have hlt := (pk_lt rfl hne).1
  refine ⟨h.ns, by show d.1 + 1 ≤ _; omega, ?_⟩
  show feed init ((bytesOf s).take (d.1 + 1)) = some m'
  rw [h.apk, List.getD_eq_getElem?_getD, bytesOf_get s d.1 hlt] at hb
  rw [bytesOf_take s d.1 hlt, feed_snoc, h.fd]
  exact hb

theorem Sync.adead (h : Sync s d m) (hb : byteStep m (pk s d) = none) (hnd : d.1 = s.size → isDone m = false) : Dead s (stk d) :=
  ⟨rfl, m, h.fd, h.le, fun _ => by rw [h.apk] at hb; exact hb, hnd⟩

theorem Dead.dnd (h : Dead s d) {c : Int} (hc : c ≠ 0) : nd s d c = d := by
  unfold nd; rw [if_neg (by rw [h.dpk]; exact fun e => hc e.symm)]; exact h.dstk
theorem Dead.dSign (h : Dead s d) : rSign s d = (1, d) := by unfold rSign; rw [if_neg (by rw [h.dpk]; decide)]
theorem varOf_zero : varOf 0 = -1 := by decide
theorem Dead.dVar (h : Dead s d) (x : Int) : rVar s d x = (0, d) := by unfold rVar; rw [if_pos (.inl (by rw [h.dpk]; exact varOf_zero)), h.dstk]
theorem Dead.dNum (h : Dead s d) (x : Int) : rNum s d x = (0, d) := by unfold rNum; rw [if_neg (by rw [h.dpk]; simp), if_pos (by rw [h.dpk]; decide), h.dstk]
theorem Dead.dSummand (h : Dead s d) : rSummand s d = (0, d) := by unfold rSummand; rw [if_neg (by rw [h.dpk]; decide), if_neg (by rw [h.dpk]; decide)]
theorem Dead.dValue (h : Dead s d) (x : Ds) : (rValue s d x).2 = d := by
  unfold rValue; rw [if_neg (by rw [h.dpk]; decide), h.dSign, if_pos (by show varOf (pk s d) = -1; rw [h.dpk]; exact varOf_zero)]
  show (rNum s d 1).2 = d
  rw [h.dNum]
theorem Dead.dSecond (h : Dead s d) (x : Ds) (f : Int) : (rSecond s d x f).2 = d := by unfold rSecond; rw [if_neg (by rw [h.dpk]; decide)]
theorem Dead.dCond (h : Dead s d) (x : Ds) : (rCond s d x).2 = d := by
  unfold rCond; rw [if_neg (by rw [h.dpk]; decide), h.dSign]
  simp only
  rw [h.dVar]
  simp only
  rw [h.dSecond, h.dnd (by decide), h.dnd (by decide), h.dSign]
  simp only
  rw [h.dNum]

/-- A byte that must stand here. -/
theorem Sync.aneed (h : Sync s d m) {c : Int} (hc : c ≠ 0) (hy : pk s d = c → byteStep m c = some m') (hn : pk s d ≠ c → byteStep m (pk s d) = none) (hnd : isDone m = false) : Res s (nd s d c) (fun x => x = m') := by
  by_cases e : pk s d = c
  · have : nd s d c = adv d := if_pos e
    rw [this]
    exact .inr ⟨m', h.aadv (by rw [e]; exact hc) (by rw [e]; exact hy e), rfl⟩
  · have : nd s d c = stk d := if_neg e
    rw [this]
    exact .inl (h.adead (hn e) (fun _ => hnd))

theorem notDone (h : m.state ≠ 115) : isDone m = false := by unfold isDone; simp [h]

theorem byte_110 (h : m.state = 110) (c : Int) : byteStep m c = if c = 59 then some (valueEnd m) else digitStep m c false 110 := by
  unfold byteStep valueStep; rw [h, if_neg (by decide), if_neg (by decide), if_pos (by decide), if_neg (by decide), if_neg (by decide), if_neg (by decide), if_neg (by decide)]

/-- Behind a number that can have no digit more: the end of the statement. -/
theorem Sync.valEnd (h : Sync s d m) (hs : m.state = 110) (hno : ¬ (48 ≤ pk s d ∧ pk s d ≤ 57) ∨ m.dig = 2 ∨ (m.dig = 1 ∧ (cur m).num = 0)) : Res s (nd s d 59) (fun x => x = valueEnd m) := by
  refine h.aneed (by decide) (fun _ => by rw [byte_110 hs, if_pos rfl]) (fun e => ?_) (notDone (by rw [hs]; decide))
  rw [byte_110 hs, if_neg e]
  simp only [digitStep]
  rw [if_pos hs, if_pos hs, if_pos]
  omega

theorem digit_new {c x : Int} {pos : Bool} (hs : m.state ≠ x) (hc : 48 ≤ c ∧ c ≤ 57) (hp : ¬ (pos = true ∧ c = 48)) : digitStep m c pos x = some { setCur m { cur m with num := c - 48 } with dig := 1, state := x } := by
  simp only [digitStep]
  rw [if_neg hs, if_neg hs, if_neg (by
    rintro (a | a | a | a | a)
    · omega
    · omega
    · omega
    · omega
    · exact hp a)]
  have : (10 : Int) * 0 + (c - 48) = c - 48 := by omega
  rw [this]; rfl
theorem digit_more {c x u : Int} (hs : m.state = x) (hd : m.dig = 1) (hu : (cur m).num = u) (hu0 : u ≠ 0) (hc : 48 ≤ c ∧ c ≤ 57) : digitStep m c false x = some { setCur m { cur m with num := 10 * u + (c - 48) } with dig := 2, state := x } := by
  simp only [digitStep]
  rw [if_pos hs, if_pos hs, hd, hu, if_neg (by
    rintro (a | a | a | a | a)
    · omega
    · omega
    · omega
    · omega
    · simp at a)]
  rfl
theorem digit_bad {c x : Int} {pos : Bool} (hc : c < 48 ∨ 57 < c ∨ (pos = true ∧ c = 48)) : digitStep m c pos x = none := by
  simp only [digitStep]
  rw [if_pos]
  rcases hc with a | a | a
  · exact .inl a
  · exact .inr (.inl a)
  · exact .inr (.inr (.inr (.inr a)))

theorem setCur_two (m : Rd) (a b : St) : (setCur (setCur m a) b).st = (setCur m b).st := by simp [setCur]

/-- A number of a value, and the end of the statement. -/
theorem Sync.numVal (h : Sync s d m) {m0 : Rd} {pos : Bool} {sg : Int} (hb : byteStep m (pk s d) = digitStep m0 (pk s d) pos 110) (hs : m0.state ≠ 110) (hn : 0 < m0.st.length) (hsg : (sg = 1 ∧ pos = false) ∨ (sg = -1 ∧ pos = true)) (hnd : isDone m = false) :
    Res s (nd s (rNum s d sg).2 59) (fun x => x.state = 115 ∧ x.op = m0.op ∧ x.st = (setCur m0 { cur m0 with num := m0.sign * (sg * (rNum s d sg).1) }).st) := by
  have hsq : ∀ n : Int, sg * (sg * n) = n := by
    intro n
    rcases hsg with ⟨rfl, _⟩ | ⟨rfl, _⟩ <;> omega
  have hcs := cur_setCur' hn
  by_cases hz : pk s d = 48 ∧ 0 < sg
  · have e : rNum s d sg = (0, adv d) := if_pos hz
    rw [e]
    have hp : pos = false := by
      rcases hsg with h | h
      · exact h.2
      · omega
    rw [digit_new hs (by omega) (by rw [hp]; simp)] at hb
    have h1 := h.aadv (by omega) hb
    refine (h1.valEnd rfl (.inr (.inr ⟨rfl, ?_⟩))).mono ?_
    · show (cur (setCur m0 _)).num = 0
      rw [hcs]; show pk s d - 48 = 0; omega
    · rintro m' - rfl
      refine ⟨rfl, rfl, ?_⟩
      show (setCur (setCur m0 _) _).st = _
      rw [setCur_two]
      show (setCur m0 { cur (setCur m0 _) with num := m0.sign * (cur (setCur m0 _)).num }).st = _
      rw [hcs]
      have : pk s d - 48 = 0 := by omega
      simp only [this]
      simp
  by_cases hbad : pk s d < 49 ∨ 57 < pk s d
  · have e : rNum s d sg = (0, stk d) := by unfold rNum; rw [if_neg hz, if_pos hbad]
    rw [e]
    have hd : Dead s (stk d) := by
      refine h.adead ?_ (fun _ => hnd)
      rw [hb]
      refine digit_bad ?_
      by_cases h48 : pk s d = 48
      · refine .inr (.inr ⟨?_, h48⟩)
        rcases hsg with h' | h'
        · exact absurd ⟨h48, by omega⟩ hz
        · exact h'.2
      · omega
    show Res s (nd s (stk d) 59) _
    rw [hd.dnd (by decide)]
    exact .inl hd
  rw [digit_new hs (by omega) (by omega)] at hb
  have h1 := h.aadv (by omega) hb
  have hn1 : (cur { setCur m0 { cur m0 with num := pk s d - 48 } with dig := 1, state := 110 }).num = pk s d - 48 := by
    show (cur (setCur m0 _)).num = _
    rw [hcs]
  by_cases h2 : 48 ≤ pk s (adv d) ∧ pk s (adv d) ≤ 57
  · have e : rNum s d sg = (sg * (10 * (pk s d - 48) + (pk s (adv d) - 48)), adv (adv d)) := by unfold rNum; rw [if_neg hz, if_neg hbad, if_pos h2]
    rw [e]
    have hb2 := byte_110 (m := { setCur m0 { cur m0 with num := pk s d - 48 } with dig := 1, state := 110 }) rfl (pk s (adv d))
    rw [if_neg (by omega), digit_more rfl rfl hn1 (by omega) h2] at hb2
    have h3 := h1.aadv (by omega) hb2
    refine (h3.valEnd rfl (.inr (.inl rfl))).mono ?_
    rintro m' - rfl
    refine ⟨rfl, rfl, ?_⟩
    have hl1 : 0 < (setCur m0 { cur m0 with num := pk s d - 48 }).st.length := by rw [setCur_len]; exact hn
    show (setCur (setCur (setCur m0 _) _) { cur (setCur (setCur m0 _) _) with num := m0.sign * (cur (setCur (setCur m0 _) _)).num }).st = _
    rw [setCur_two, setCur_two, cur_setCur' hl1]
    show (setCur m0 { cur (setCur m0 { cur m0 with num := pk s d - 48 }) with num := m0.sign * (10 * (pk s d - 48) + (pk s (adv d) - 48)) }).st = _
    rw [hcs, hsq]
  · have e : rNum s d sg = (sg * (pk s d - 48), adv d) := by unfold rNum; rw [if_neg hz, if_neg hbad, if_neg h2]
    rw [e]
    refine (h1.valEnd rfl (.inl h2)).mono ?_
    rintro m' - rfl
    refine ⟨rfl, rfl, ?_⟩
    show (setCur (setCur m0 _) { cur (setCur m0 _) with num := m0.sign * (cur (setCur m0 _)).num }).st = _
    rw [setCur_two, hcs, hsq]

end Go.Proofs.Ytadhimimdmoodaa
