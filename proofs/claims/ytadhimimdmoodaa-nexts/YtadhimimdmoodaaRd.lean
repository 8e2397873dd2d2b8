import Derived.Test.YtadhimimdmoodaaRc
namespace Go.Proofs.Ytadhimimdmoodaa
open Go.RowKit
variable {B : Nat} {w w' : World} {r : Nat} {m : Rd} {vs vo : Value} {P Q O : Nat → Nat}

theorem Rep.geC (h : Rep B w r m vs vo P Q O) (hn : 0 < m.st.length) : B ≤ P (m.st.length - 1) ∧ B ≤ Q (m.st.length - 1) := h.geP _ (by omega)

theorem setCur_setCur (m : Rd) (s t : St) : setCur (setCur m s) t = setCur m t := by simp [setCur]

/-- A digit that cannot stand there. -/
theorem digit_no {c : Int} {pos : Bool} {nx : Int} (h : c < 48 ∨ 57 < c ∨ (if m.state = nx then m.dig else 0) = 2 ∨ ((if m.state = nx then m.dig else 0) = 1 ∧ (if m.state = nx then (cur m).num else 0) = 0) ∨ (pos = true ∧ c = 48)) : digitStep m c pos nx = none := by
  simp only [digitStep]; rw [if_pos h]

theorem digit_yes {c : Int} {pos : Bool} {nx d u : Int} (hd : (if m.state = nx then m.dig else 0) = d) (hu : (if m.state = nx then (cur m).num else 0) = u) (h : ¬ (c < 48 ∨ 57 < c ∨ d = 2 ∨ (d = 1 ∧ u = 0) ∨ (pos = true ∧ c = 48))) :
    digitStep m c pos nx = some { setCur m { cur m with num := 10 * u + (c - 48) } with dig := d + 1, state := nx } := by
  subst hd; subst hu
  simp only [digitStep]; rw [if_neg h]

theorem post_no {o : Option Rd} {w w' : World} (h : o = none) (hb : Below B w w') : Post B w r o (.returned (.bool false)) w' := by
  subst h; exact ⟨rfl, hb, fun _ e => by cases e⟩
theorem post_yes {o : Option Rd} {m' : Rd} {w w' : World} (h : o = some m') (hb : Below B w w') (hr : Rep B w' r m' vs vo P Q O) : Post B w r o (.returned (.bool true)) w' := by
  subst h; exact ⟨rfl, hb, fun _ e => by cases e; exact ⟨vs, vo, P, Q, O, hr⟩⟩

theorem post_ret {o : Option Rd} {m' m'' : Rd} {w w' : World} {b : Value} (hb' : b = .bool true) (h : o = some m') (hb : Below B w w') (hm : m'' = m') (hr : Rep B w' r m'' vs vo P Q O) : Post B w r o (.returned b) w' := by
  subst hb'; subst hm; exact post_yes h hb hr

theorem curs_setCur (hn : 0 < m.st.length) (s : St) : (setCur m s).st[m.st.length - 1]? = some s := by
  simp [setCur, List.getElem?_set]; omega

theorem Rep.setC (h : Rep B w r m vs vo P Q O) (hn : 0 < m.st.length) (s' : St) (o : Nat) (u : Value) (hc : (stCells (Q (m.st.length - 1)) (cur m)).setIfInBounds o u = stCells (Q (m.st.length - 1)) s') (hsg : s'.sg = (cur m).sg) :
    Rep B (w.setCell ⟨P (m.st.length - 1), o, none⟩ u) r (setCur m s') vs vo P Q O := h.setSt _ _ s' (Rep.curs hn) o u _ hc hsg rfl

theorem cur_setCur (hn : 0 < m.st.length) (s : St) : cur (setCur m s) = s := by
  have := curs_setCur hn s
  unfold cur
  rw [List.getD_eq_getElem?_getD, show (setCur m s).st.length = m.st.length by simp [setCur], this]; rfl

theorem len_setCur (s : St) : (setCur m s).st.length = m.st.length := by simp [setCur]

theorem rep_digitNew (h : Rep B w r m vs vo P Q O) (hn : 0 < m.st.length) (x nx : Int) (k : Nat) :
    Rep B ((((((w.drewN k).setCell ⟨r, 5, none⟩ (.int .i64 0)).setCell ⟨P (m.st.length - 1), 4, none⟩ (.int .i64 0)).setCell ⟨P (m.st.length - 1), 4, none⟩ (.int .i64 x)).setCell ⟨r, 5, none⟩ (.int .i64 1)).setCell ⟨r, 0, none⟩ (.int .u8 nx)) r
      { setCur m { cur m with num := x } with dig := 1, state := nx } vs vo P Q O := by
  have e1 := (h.drewN k).setRd 5 (.int .i64 0) { m with dig := 0 } rfl rfl rfl
  have e2 := e1.setC hn { cur m with num := 0 } 4 (.int .i64 0) rfl rfl
  have e3 := e2.setSt (m.st.length - 1) { cur m with num := 0 } { cur m with num := x } (curs_setCur (m := { m with dig := 0 }) hn _) 4 (.int .i64 x) _ rfl rfl rfl
  have e4 := e3.setRd 5 (.int .i64 1) { setCur m { cur m with num := x } with dig := 1 } rfl (by simp [setCur]) rfl
  exact e4.setRd 0 (.int .u8 nx) _ rfl rfl rfl

theorem rep_digitOld (h : Rep B w r m vs vo P Q O) (hn : 0 < m.st.length) (x d nx : Int) (k : Nat) :
    Rep B ((((w.drewN k).setCell ⟨P (m.st.length - 1), 4, none⟩ (.int .i64 x)).setCell ⟨r, 5, none⟩ (.int .i64 d)).setCell ⟨r, 0, none⟩ (.int .u8 nx)) r
      { setCur m { cur m with num := x } with dig := d, state := nx } vs vo P Q O := by
  have e3 := (h.drewN k).setC hn { cur m with num := x } 4 (.int .i64 x) rfl rfl
  have e4 := e3.setRd 5 (.int .i64 d) { setCur m { cur m with num := x } with dig := d } rfl rfl rfl
  exact e4.setRd 0 (.int .u8 nx) _ rfl rfl rfl

set_option maxHeartbeats 1600000 in
theorem Rep.digitNew (h : Rep B w r m vs vo P Q O) (hn : 0 < m.st.length) (hl : m.st.length ≤ 20) (c : Int) (pos : Bool) (nx : Int) (h0 : 0 ≤ c) (h1 : c ≤ 255) (hx : m.state ≠ nx) :
    Calls Try.prog 54 #[.pointer (some ⟨r, 0, none⟩), .int .u8 c, .bool pos, .int .u8 nx] w (Post B w r (digitStep m c pos nx)) := by
  have hc := h.now hn hl
  have hcur := Rep.curs hn
  obtain ⟨c0, c1, c2, c3, c4, c5, c6, f7, f8, n9, n10, n11⟩ := h.stc _ _ hcur
  obtain ⟨r0, r1, r2, r3, r4, r5, rf⟩ := h.rdc
  have geR := h.geR
  obtain ⟨geP, geQ⟩ := h.geC hn
  have hxb : (m.state == nx) = false := by simpa using hx
  have hxn : (m.state != nx) = true := by simpa using hx
  have hd : (if m.state = nx then m.dig else 0) = 0 := if_neg hx
  have hu : (if m.state = nx then (cur m).num else 0) = 0 := if_neg hx
  have HD : Hid (_ = _) := hd
  have HU : Hid (_ = _) := hu
  have HC : Hid (_ = _) := hcur
  clear hd hu hcur
  have nrp : r ≠ P (m.st.length - 1) := fun e => n9 e.symm
  have HR : Hid (Rep _ _ _ _ _ _ _ _ _) := h
  clear h
  by_cases hlo : c < 48
  · go_enter Try.func54, Try.ntmps54
    go_wp2_with (go_at_call 53; refine hc.mono ?_; rintro e w' ⟨rfl, k, rfl⟩)
    go_ret
    exact post_no (digit_no (.inl hlo)) (Below.setCell (Below.setCell (below_drewN (Below.refl _ _) _) geR _) geP _)
  by_cases hhi : 57 < c
  · go_enter Try.func54, Try.ntmps54
    go_wp2_with (go_at_call 53; refine hc.mono ?_; rintro e w' ⟨rfl, k, rfl⟩)
    go_ret
    exact post_no (digit_no (.inr (.inl hhi))) (Below.setCell (Below.setCell (below_drewN (Below.refl _ _) _) geR _) geP _)
  by_cases hz : pos = true ∧ c = 48
  · obtain ⟨rfl, rfl⟩ := hz
    go_enter Try.func54, Try.ntmps54
    go_wp2_with (go_at_call 53; refine hc.mono ?_; rintro e w' ⟨rfl, k, rfl⟩)
    go_ret
    exact post_no (digit_no (.inr (.inr (.inr (.inr ⟨rfl, rfl⟩))))) (Below.setCell (Below.setCell (below_drewN (Below.refl _ _) _) geR _) geP _)
  · have hz' : (pos && (c == 48)) = false := by cases pos <;> simp_all
    have HY : Hid (_ = _) := digit_yes (pos := pos) (c := c) HD.out HU.out (by rintro (a | a | a | a | a) <;> first | exact hz a | omega)
    have HZ : Hid (¬ (pos = true ∧ c = 48)) := hz
    clear hz
    cases pos
    · go_enter Try.func54, Try.ntmps54
      go_wp2_with (go_at_call 53; refine hc.mono ?_; rintro e w' ⟨rfl, k, rfl⟩)
      go_ret
      refine post_ret rfl HY.out (Below.setCell (Below.setCell (Below.setCell (Below.setCell (Below.setCell (below_drewN (Below.refl _ _) _) geR _) geP _) geP _) geR _) geR _) ?_ (rep_digitNew HR.out hn (c - 48) nx k)
      simp
    · have hz2 : (c == 48) = false := by simpa using hz'
      go_enter Try.func54, Try.ntmps54
      go_wp2_with (go_at_call 53; refine hc.mono ?_; rintro e w' ⟨rfl, k, rfl⟩)
      go_ret
      refine post_ret rfl HY.out (Below.setCell (Below.setCell (Below.setCell (Below.setCell (Below.setCell (below_drewN (Below.refl _ _) _) geR _) geP _) geP _) geR _) geR _) ?_ (rep_digitNew HR.out hn (c - 48) nx k)
      simp



set_option maxHeartbeats 1600000 in
theorem Rep.digitOld (h : Rep B w r m vs vo P Q O) (hn : 0 < m.st.length) (hl : m.st.length ≤ 20) (c : Int) (pos : Bool) (h0 : 0 ≤ c) (h1 : c ≤ 255) (hd0 : 0 ≤ m.dig) (hd2 : m.dig ≤ 2) (hn0 : -99 ≤ (cur m).num) (hn1 : (cur m).num ≤ 99) (nx : Int) (hx : m.state = nx) :
    Calls Try.prog 54 #[.pointer (some ⟨r, 0, none⟩), .int .u8 c, .bool pos, .int .u8 nx] w (Post B w r (digitStep m c pos nx)) := by
  have hc := h.now hn hl
  have hcur := Rep.curs hn
  obtain ⟨c0, c1, c2, c3, c4, c5, c6, f7, f8, n9, n10, n11⟩ := h.stc _ _ hcur
  obtain ⟨r0, r1, r2, r3, r4, r5, rf⟩ := h.rdc
  have geR := h.geR
  obtain ⟨geP, geQ⟩ := h.geC hn
  have hd : (if m.state = nx then m.dig else 0) = m.dig := if_pos hx
  have hu : (if m.state = nx then (cur m).num else 0) = (cur m).num := if_pos hx
  have HD : Hid (_ = _) := hd
  have HU : Hid (_ = _) := hu
  have HC : Hid (_ = _) := hcur
  clear hd hu hcur
  rw [hx] at r0
  have HX : Hid (_ = _) := hx
  clear hx
  have nrp : r ≠ P (m.st.length - 1) := fun e => n9 e.symm
  have HR : Hid (Rep _ _ _ _ _ _ _ _ _) := h
  clear h
  by_cases hlo : c < 48
  · go_enter Try.func54, Try.ntmps54
    go_wp2_with (go_at_call 53; refine hc.mono ?_; rintro e w' ⟨rfl, k, rfl⟩)
    go_ret
    exact post_no (digit_no (.inl hlo)) (below_drewN (Below.refl _ _) _)
  by_cases hhi : 57 < c
  · go_enter Try.func54, Try.ntmps54
    go_wp2_with (go_at_call 53; refine hc.mono ?_; rintro e w' ⟨rfl, k, rfl⟩)
    go_ret
    exact post_no (digit_no (.inr (.inl hhi))) (below_drewN (Below.refl _ _) _)
  by_cases h2 : m.dig = 2
  · have HN : Hid (digitStep m c pos nx = none) := digit_no (.inr (.inr (.inl (HD.out.trans h2))))
    rw [h2] at r5
    clear h2
    go_enter Try.func54, Try.ntmps54
    go_wp2_with (go_at_call 53; refine hc.mono ?_; rintro e w' ⟨rfl, k, rfl⟩)
    go_ret
    exact post_no HN.out (below_drewN (Below.refl _ _) _)
  have hb2 : (m.dig == 2) = false := by simpa using h2
  by_cases h3 : m.dig = 1 ∧ (cur m).num = 0
  · obtain ⟨h3, h4⟩ := h3
    have HN : Hid (digitStep m c pos nx = none) := digit_no (.inr (.inr (.inr (.inl ⟨HD.out.trans h3, HU.out.trans h4⟩))))
    rw [h3] at r5
    rw [h4] at c4
    clear h3 h4 h2 hb2
    go_enter Try.func54, Try.ntmps54
    go_wp2_with (go_at_call 53; refine hc.mono ?_; rintro e w' ⟨rfl, k, rfl⟩)
    go_ret
    exact post_no HN.out (below_drewN (Below.refl _ _) _)
  by_cases hz : pos = true ∧ c = 48
  · have HN : Hid (digitStep m c pos nx = none) := digit_no (.inr (.inr (.inr (.inr hz))))
    obtain ⟨rfl, rfl⟩ := hz
    by_cases h3a : m.dig = 1
    · have h3b : ((cur m).num == 0) = false := by simpa using fun e => h3 ⟨h3a, e⟩
      rw [h3a] at r5
      clear h3 h2 hb2 h3a
      go_enter Try.func54, Try.ntmps54
      go_wp2_with (go_at_call 53; refine hc.mono ?_; rintro e w' ⟨rfl, k, rfl⟩)
      go_ret
      exact post_no HN.out (below_drewN (Below.refl _ _) _)
    · have h3b : (m.dig == 1) = false := by simpa using h3a
      clear h3 h2 h3a
      go_enter Try.func54, Try.ntmps54
      go_wp2_with (go_at_call 53; refine hc.mono ?_; rintro e w' ⟨rfl, k, rfl⟩)
      go_ret
      exact post_no HN.out (below_drewN (Below.refl _ _) _)
  · have HY : Hid (_ = _) := digit_yes (pos := pos) (c := c) HD.out HU.out (by rintro (a | a | a | a | a) <;> first | exact hz a | exact h3 a | exact h2 a | omega)
    have hz' : (pos && (c == 48)) = false := by cases pos <;> simp_all
    by_cases h3a : m.dig = 1
    · have h3b : ((cur m).num == 0) = false := by simpa using fun e => h3 ⟨h3a, e⟩
      rw [h3a] at r5 HY
      clear h3 h2 hb2 h3a hz
      cases pos
      · go_enter Try.func54, Try.ntmps54
        go_wp2_with (go_at_call 53; refine hc.mono ?_; rintro e w' ⟨rfl, k, rfl⟩)
        go_ret
        refine post_ret rfl HY.out (Below.setCell (Below.setCell (Below.setCell (below_drewN (Below.refl _ _) _) geP _) geR _) geR _) ?_ (rep_digitOld HR.out hn _ _ nx k)
        simp
      · have hz2 : (c == 48) = false := by simpa using hz'
        go_enter Try.func54, Try.ntmps54
        go_wp2_with (go_at_call 53; refine hc.mono ?_; rintro e w' ⟨rfl, k, rfl⟩)
        go_ret
        refine post_ret rfl HY.out (Below.setCell (Below.setCell (Below.setCell (below_drewN (Below.refl _ _) _) geP _) geR _) geR _) ?_ (rep_digitOld HR.out hn _ _ nx k)
        simp
    · have h3b : (m.dig == 1) = false := by simpa using h3a
      clear h3 h2 h3a hz
      cases pos
      · go_enter Try.func54, Try.ntmps54
        go_wp2_with (go_at_call 53; refine hc.mono ?_; rintro e w' ⟨rfl, k, rfl⟩)
        go_ret
        refine post_ret rfl HY.out (Below.setCell (Below.setCell (Below.setCell (below_drewN (Below.refl _ _) _) geP _) geR _) geR _) ?_ (rep_digitOld HR.out hn _ _ nx k)
        simp
      · have hz2 : (c == 48) = false := by simpa using hz'
        go_enter Try.func54, Try.ntmps54
        go_wp2_with (go_at_call 53; refine hc.mono ?_; rintro e w' ⟨rfl, k, rfl⟩)
        go_ret
        refine post_ret rfl HY.out (Below.setCell (Below.setCell (Below.setCell (below_drewN (Below.refl _ _) _) geP _) geR _) geR _) ?_ (rep_digitOld HR.out hn _ _ nx k)
        simp

/-- A digit, in whatever state. -/
theorem Rep.digit (h : Rep B w r m vs vo P Q O) (ok : Ok m) (hn : 0 < m.st.length) (c : Int) (pos : Bool) (h0 : 0 ≤ c) (h1 : c ≤ 255) (nx : Int) :
    Calls Try.prog 54 #[.pointer (some ⟨r, 0, none⟩), .int .u8 c, .bool pos, .int .u8 nx] w (Post B w r (digitStep m c pos nx)) := by
  by_cases hx : m.state = nx
  · have := ok.nums (cur m) (List.mem_of_getElem? (Rep.curs hn))
    exact h.digitOld hn ok.len c pos h0 h1 ok.digs.1 ok.digs.2 this.1 this.2 nx hx
  · exact h.digitNew hn ok.len c pos nx h0 h1 hx

end Go.Proofs.Ytadhimimdmoodaa
