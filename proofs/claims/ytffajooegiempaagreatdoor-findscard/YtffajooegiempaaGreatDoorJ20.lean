import Derived.Test.YtffajooegiempaaGreatDoorJ19
namespace Go.Proofs.YtffajooegiempaaGreatDoor
open Go.RowKit
variable {B : Nat} {w w' : World} {r : Nat} {m : Rd} {vs vo : Value} {P Q O : Nat → Nat}

theorem Rep.geC (h : Rep B w r m vs vo P Q O) (hn : 0 < m.st.length) : B ≤ P (m.st.length - 1) ∧ B ≤ Q (m.st.length - 1) := h.geP _ (by omega)

/-- A digit that cannot stand there. -/
theorem digit_no {c : Int} {pos : Bool} {nx : Int} (h : c < 48 ∨ 57 < c ∨ (if m.state = nx then m.dig else 0) = 2 ∨ ((if m.state = nx then m.dig else 0) = 1 ∧ (if m.state = nx then (cur m).num else 0) = 0) ∨ (pos = true ∧ c = 48)) : digitStep m c pos nx = none := by
  simp only [digitStep]; rw [if_pos h]

theorem digit_yes {c : Int} {pos : Bool} {nx d u : Int} (hd : (if m.state = nx then m.dig else 0) = d) (hu : (if m.state = nx then (cur m).num else 0) = u) (h : ¬ (c < 48 ∨ 57 < c ∨ d = 2 ∨ (d = 1 ∧ u = 0) ∨ (pos = true ∧ c = 48))) :
    digitStep m c pos nx = some { setCur m { cur m with num := 10 * u + (c - 48) } with dig := d + 1, state := nx } := by
  subst hd; subst hu
  simp only [digitStep]; rw [if_neg h]

theorem post_no {o : Option Rd} {w w' : World} (h : o = none) (hb : Below B w w') : Post B w r o (.returned (.bool false)) w' := by
  subst h; exact ⟨rfl, hb, fun _ e => by cases e⟩
theorem post_yes {o : Option Rd} {m' : Rd} {w w' : World} (h : o = some m') (hb : Below B w w') (hr : Rep B w' r m' vs vo P Q O) : Post B w r o (.returned (.bool true)) w' := by
  subst h; exact ⟨rfl, hb, fun _ e => by cases e; exact ⟨vs, vo, P, Q, O, hr⟩⟩

theorem post_ret {o : Option Rd} {m' m'' : Rd} {w w' : World} {b : Value} (hb' : b = .bool true) (h : o = some m') (hb : Below B w w') (hm : m'' = m') (hr : Rep B w' r m'' vs vo P Q O) : Post B w r o (.returned b) w' := by
  subst hb'; subst hm; exact post_yes h hb hr

theorem curs_setCur (hn : 0 < m.st.length) (s : St) : (setCur m s).st[m.st.length - 1]? = some s := by
  simp [setCur, List.getElem?_set]; omega

theorem Rep.setC (h : Rep B w r m vs vo P Q O) (hn : 0 < m.st.length) (s' : St) (o : Nat) (u : Value) (hc : (stCells (Q (m.st.length - 1)) (cur m)).setIfInBounds o u = stCells (Q (m.st.length - 1)) s') (hsg : s'.sg = (cur m).sg) :
    Rep B (w.setCell ⟨P (m.st.length - 1), o, none⟩ u) r (setCur m s') vs vo P Q O := h.setSt _ _ s' (Rep.curs hn) o u _ hc hsg rfl

theorem cur_setCur (hn : 0 < m.st.length) (s : St) : cur (setCur m s) = s := by
  have := curs_setCur hn s
  unfold cur
  rw [List.getD_eq_getElem?_getD, show (setCur m s).st.length = m.st.length by simp [setCur], this]; rfl

theorem len_setCur (s : St) : (setCur m s).st.length = m.st.length := by simp [setCur]

theorem rep_digitNew (h : Rep B w r m vs vo P Q O) (hn : 0 < m.st.length) (x nx : Int) (k : Nat) :
    Rep B ((((((w.drewN k).setCell ⟨r, 5, none⟩ (.int .i64 0)).setCell ⟨P (m.st.length - 1), 4, none⟩ (.int .i64 0)).setCell ⟨P (m.st.length - 1), 4, none⟩ (.int .i64 x)).setCell ⟨r, 5, none⟩ (.int .i64 1)).setCell ⟨r, 0, none⟩ (.int .u8 nx)) r
      { setCur m { cur m with num := x } with dig := 1, state := nx } vs vo P Q O := by
  have e1 := (h.drewN k).setRd 5 (.int .i64 0) { m with dig := 0 } rfl rfl rfl
  have e2 := e1.setC hn { cur m with num := 0 } 4 (.int .i64 0) rfl rfl
  have e3 := e2.setSt (m.st.length - 1) { cur m with num := 0 } { cur m with num := x } (curs_setCur (m := { m with dig := 0 }) hn _) 4 (.int .i64 x) _ rfl rfl rfl
  have e4 := e3.setRd 5 (.int .i64 1) { setCur m { cur m with num := x } with dig := 1 } rfl (by simp [setCur]) rfl
  exact e4.setRd 0 (.int .u8 nx) _ rfl rfl rfl

theorem rep_digitOld (h : Rep B w r m vs vo P Q O) (hn : 0 < m.st.length) (x d nx : Int) (k : Nat) :
    Rep B ((((w.drewN k).setCell ⟨P (m.st.length - 1), 4, none⟩ (.int .i64 x)).setCell ⟨r, 5, none⟩ (.int .i64 d)).setCell ⟨r, 0, none⟩ (.int .u8 nx)) r
      { setCur m { cur m with num := x } with dig := d, state := nx } vs vo P Q O := by
  have e3 := (h.drewN k).setC hn { cur m with num := x } 4 (.int .i64 x) rfl rfl
  have e4 := e3.setRd 5 (.int .i64 d) { setCur m { cur m with num := x } with dig := d } rfl rfl rfl
  exact e4.setRd 0 (.int .u8 nx) _ rfl rfl rfl

set_option maxHeartbeats 1600000 in
theorem Rep.digitNew (h : Rep B w r m vs vo P Q O) (hn : 0 < m.st.length) (hl : m.st.length ≤ 20) (c : Int) (pos : Bool) (nx : Int) (h0 : 0 ≤ c) (h1 : c ≤ 255) (hx : m.state ≠ nx) :
    Calls Tryz.prog 127 #[.pointer (some ⟨r, 0, none⟩), .int .u8 c, .bool pos, .int .u8 nx] w (Post B w r (digitStep m c pos nx)) := by
  have hc := h.now hn hl
  have hcur := Rep.curs hn
  obtain ⟨c0, c1, c2, c3, c4, c5, c6, f7, f8, n9, n10, n11⟩ := h.stc _ _ hcur
  obtain ⟨r0, r1, r2, r3, r4, r5, rf⟩ := h.rdc
  have geR := h.geR
  obtain ⟨geP, geQ⟩ := h.geC hn
  have hxb : (m.state == nx) = false := by simpa using hx
  have hxn : (m.state != nx) = true := by simpa using hx
  have hd : (if m.state = nx then m.dig else 0) = 0 := if_neg hx
  have hu : (if m.state = nx then (cur m).num else 0) = 0 := if_neg hx
  have HD : Hid (_ = _) := hd
  have HU : Hid (_ = _) := hu
  have HC : Hid (_ = _) := hcur
  clear hd hu hcur
  have nrp : r ≠ P (m.st.length - 1) := fun e => n9 e.symm
  have HR : Hid (Rep _ _ _ _ _ _ _ _ _) := h
  clear h
  by_cases hlo : c < 48
  · go_enter Tryz.func127, Tryz.ntmps127
    go_wp2_with (go_at_call 126; refine hc.mono ?_; rintro e w' ⟨rfl, k, rfl⟩)
    go_ret
    exact post_no (digit_no (.inl hlo)) (Below.setCell (Below.setCell (below_drewN (Below.refl _ _) _) geR _) geP _)
  by_cases hhi : 57 < c
  · go_enter Tryz.func127, Tryz.ntmps127
    go_wp2_with (go_at_call 126; refine hc.mono ?_; rintro e w' ⟨rfl, k, rfl⟩)
    go_ret
    exact post_no (digit_no (.inr (.inl hhi))) (Below.setCell (Below.setCell (below_drewN (Below.refl _ _) _) geR _) geP _)
  by_cases hz : pos = true ∧ c = 48
  · obtain ⟨rfl, rfl⟩ := hz
    go_enter Tryz.func127, Tryz.ntmps127
    go_wp2_with (go_at_call 126; refine hc.mono ?_; rintro e w' ⟨rfl, k, rfl⟩)
    go_ret
    exact post_no (digit_no (.inr (.inr (.inr (.inr ⟨rfl, rfl⟩))))) (Below.setCell (Below.setCell (below_drewN (Below.refl _ _) _) geR _) geP _)
  · have hz' : (pos && (c == 48)) = false := by cases pos <;> simp_all
    have HY : Hid (_ = _) := digit_yes (pos := pos) (c := c) HD.out HU.out (by rintro (a | a | a | a | a) <;> first | exact hz a | omega)
    have HZ : Hid (¬ (pos = true ∧ c = 48)) := hz
    clear hz
    cases pos
    · go_enter Tryz.func127, Tryz.ntmps127
      go_wp2_with (go_at_call 126; refine hc.mono ?_; rintro e w' ⟨rfl, k, rfl⟩)
      go_ret
      refine post_ret rfl HY.out (Below.setCell (Below.setCell (Below.setCell (Below.setCell (Below.setCell (below_drewN (Below.refl _ _) _) geR _) geP _) geP _) geR _) geR _) ?_ (rep_digitNew HR.out hn (c - 48) nx k)
      simp
    · have hz2 : (c == 48) = false := by simpa using hz'
      go_enter Tryz.func127, Tryz.ntmps127
      go_wp2_with (go_at_call 126; refine hc.mono ?_; rintro e w' ⟨rfl, k, rfl⟩)
      go_ret
      refine post_ret rfl HY.out (Below.setCell (Below.setCell (Below.setCell (Below.setCell (Below.setCell (below_drewN (Below.refl _ _) _) geR _) geP _) geP _) geR _) geR _) ?_ (rep_digitNew HR.out hn (c - 48) nx k)
      simp



set_option maxHeartbeats 1600000 in
theorem Rep.digitOld (h : Rep B w r m vs vo P Q O) (hn : 0 < m.st.length) (hl : m.st.length ≤ 20) (c : Int) (pos : Bool) (h0 : 0 ≤ c) (h1 : c ≤ 255) (hd0 : 0 ≤ m.dig) (hd2 : m.dig ≤ 2) (hn0 : -99 ≤ (cur m).num) (hn1 : (cur m).num ≤ 99) (nx : Int) (hx : m.state = nx) :
    Calls Tryz.prog 127 #[.pointer (some ⟨r, 0, none⟩), .int .u8 c, .bool pos, .int .u8 nx] w (Post B w r (digitStep m c pos nx)) := by
  have hc := h.now hn hl
  have hcur := Rep.curs hn
  obtain ⟨c0, c1, c2, c3, c4, c5, c6, f7, f8, n9, n10, n11⟩ := h.stc _ _ hcur
  obtain ⟨r0, r1, r2, r3, r4, r5, rf⟩ := h.rdc
  have geR := h.geR
  obtain ⟨geP, geQ⟩ := h.geC hn
  have hd : (if m.state = nx then m.dig else 0) = m.dig := if_pos hx
  have hu : (if m.state = nx then (cur m).num else 0) = (cur m).num := if_pos hx
  have HD : Hid (_ = _) := hd
  have HU : Hid (_ = _) := hu
  have HC : Hid (_ = _) := hcur
  clear hd hu hcur
  rw [hx] at r0
  have HX : Hid (_ = _) := hx
  clear hx
  have nrp : r ≠ P (m.st.length - 1) := fun e => n9 e.symm
  have HR : Hid (Rep _ _ _ _ _ _ _ _ _) := h
  clear h
  by_cases hlo : c < 48
  · go_enter Tryz.func127, Tryz.ntmps127
    go_wp2_with (go_at_call 126; refine hc.mono ?_; rintro e w' ⟨rfl, k, rfl⟩)
    go_ret
    exact post_no (digit_no (.inl hlo)) (below_drewN (Below.refl _ _) _)
  by_cases hhi : 57 < c
  · go_enter Tryz.func127, Tryz.ntmps127
    go_wp2_with (go_at_call 126; refine hc.mono ?_; rintro e w' ⟨rfl, k, rfl⟩)
    go_ret
    exact post_no (digit_no (.inr (.inl hhi))) (below_drewN (Below.refl _ _) _)
  by_cases h2 : m.dig = 2
  · have HN : Hid (digitStep m c pos nx = none) := digit_no (.inr (.inr (.inl (HD.out.trans h2))))
    rw [h2] at r5
    clear h2
    go_enter Tryz.func127, Tryz.ntmps127
    go_wp2_with (go_at_call 126; refine hc.mono ?_; rintro e w' ⟨rfl, k, rfl⟩)
    go_ret
    exact post_no HN.out (below_drewN (Below.refl _ _) _)
  have hb2 : (m.dig == 2) = false := by simpa using h2
  by_cases h3 : m.dig = 1 ∧ (cur m).num = 0
  · obtain ⟨h3, h4⟩ := h3
    have HN : Hid (digitStep m c pos nx = none) := digit_no (.inr (.inr (.inr (.inl ⟨HD.out.trans h3, HU.out.trans h4⟩))))
    rw [h3] at r5
    rw [h4] at c4
    clear h3 h4 h2 hb2
    go_enter Tryz.func127, Tryz.ntmps127
    go_wp2_with (go_at_call 126; refine hc.mono ?_; rintro e w' ⟨rfl, k, rfl⟩)
    go_ret
    exact post_no HN.out (below_drewN (Below.refl _ _) _)
  by_cases hz : pos = true ∧ c = 48
  · have HN : Hid (digitStep m c pos nx = none) := digit_no (.inr (.inr (.inr (.inr hz))))
    obtain ⟨rfl, rfl⟩ := hz
    by_cases h3a : m.dig = 1
    · have h3b : ((cur m).num == 0) = false := by simpa using fun e => h3 ⟨h3a, e⟩
      rw [h3a] at r5
      clear h3 h2 hb2 h3a
      go_enter Tryz.func127, Tryz.ntmps127
      go_wp2_with (go_at_call 126; refine hc.mono ?_; rintro e w' ⟨rfl, k, rfl⟩)
      go_ret
      exact post_no HN.out (below_drewN (Below.refl _ _) _)
    · have h3b : (m.dig == 1) = false := by simpa using h3a
      clear h3 h2 h3a
      go_enter Tryz.func127, Tryz.ntmps127
      go_wp2_with (go_at_call 126; refine hc.mono ?_; rintro e w' ⟨rfl, k, rfl⟩)
      go_ret
      exact post_no HN.out (below_drewN (Below.refl _ _) _)
  · have HY : Hid (_ = _) := digit_yes (pos := pos) (c := c) HD.out HU.out (by rintro (a | a | a | a | a) <;> first | exact hz a | exact h3 a | exact h2 a | omega)
    have hz' : (pos && (c == 48)) = false := by cases pos <;> simp_all
    by_cases h3a : m.dig = 1
    · have h3b : ((cur m).num == 0) = false := by simpa using fun e => h3 ⟨h3a, e⟩
      rw [h3a] at r5 HY
      clear h3 h2 hb2 h3a hz
      cases pos
      · go_enter Tryz.func127, Tryz.ntmps127
        go_wp2_with (go_at_call 126; refine hc.mono ?_; rintro e w' ⟨rfl, k, rfl⟩)
        go_ret
        refine post_ret rfl HY.out (Below.setCell (Below.setCell (Below.setCell (below_drewN (Below.refl _ _) _) geP _) geR _) geR _) ?_ (rep_digitOld HR.out hn _ _ nx k)
        simp
      · have hz2 : (c == 48) = false := by simpa using hz'
        go_enter Tryz.func127, Tryz.ntmps127
        go_wp2_with (go_at_call 126; refine hc.mono ?_; rintro e w' ⟨rfl, k, rfl⟩)
        go_ret
        refine post_ret rfl HY.out (Below.setCell (Below.setCell (Below.setCell (below_drewN (Below.refl _ _) _) geP _) geR _) geR _) ?_ (rep_digitOld HR.out hn _ _ nx k)
        simp
    · have h3b : (m.dig == 1) = false := by simpa using h3a
      clear h3 h2 h3a hz
      cases pos
      · go_enter Tryz.func127, Tryz.ntmps127
        go_wp2_with (go_at_call 126; refine hc.mono ?_; rintro e w' ⟨rfl, k, rfl⟩)
        go_ret
        refine post_ret rfl HY.out (Below.setCell (Below.setCell (Below.setCell (below_drewN (Below.refl _ _) _) geP _) geR _) geR _) ?_ (rep_digitOld HR.out hn _ _ nx k)
        simp
      · have hz2 : (c == 48) = false := by simpa using hz'
        go_enter Tryz.func127, Tryz.ntmps127
        go_wp2_with (go_at_call 126; refine hc.mono ?_; rintro e w' ⟨rfl, k, rfl⟩)
        go_ret
        refine post_ret rfl HY.out (Below.setCell (Below.setCell (Below.setCell (below_drewN (Below.refl _ _) _) geP _) geR _) geR _) ?_ (rep_digitOld HR.out hn _ _ nx k)
        simp

/-- A digit, in whatever state. -/
theorem Rep.digit (h : Rep B w r m vs vo P Q O) (ok : Ok m) (hn : 0 < m.st.length) (c : Int) (pos : Bool) (h0 : 0 ≤ c) (h1 : c ≤ 255) (nx : Int) :
    Calls Tryz.prog 127 #[.pointer (some ⟨r, 0, none⟩), .int .u8 c, .bool pos, .int .u8 nx] w (Post B w r (digitStep m c pos nx)) := by
  by_cases hx : m.state = nx
  · have := ok.nums (cur m) (List.mem_of_getElem? (Rep.curs hn))
    exact h.digitOld hn ok.len c pos h0 h1 ok.digs.1 ok.digs.2 this.1 this.2 nx hx
  · exact h.digitNew hn ok.len c pos nx h0 h1 hx

end Go.Proofs.YtffajooegiempaaGreatDoor

namespace Go.Proofs.YtffajooegiempaaGreatDoor
open Go.RowKit
variable {B : Nat} {w w' : World} {r : Nat} {m : Rd} {vs vo : Value} {P Q O : Nat → Nat}

theorem variable_yes (c : Int) (w : World) (ha : 97 ≤ c) (hb : c ≤ 100) :
    Calls Tryz.prog 123 #[.int .u8 c] w fun e w' => e = .returned (.int .i64 (c - 97)) ∧ w' = w :=
  (variable_any c w (by omega) (by omega)).mono fun e w' ⟨h, k⟩ => ⟨by rw [h]; unfold varOf; rw [if_pos ⟨ha, hb⟩], k⟩
theorem variable_no (c : Int) (w : World) (h0 : 0 ≤ c) (h1 : c ≤ 255) (hv : ¬ (97 ≤ c ∧ c ≤ 100)) :
    Calls Tryz.prog 123 #[.int .u8 c] w fun e w' => e = .returned (.int .i64 (-1)) ∧ w' = w :=
  (variable_any c w h0 h1).mono fun e w' ⟨h, k⟩ => ⟨by rw [h]; unfold varOf; rw [if_neg hv], k⟩

theorem Rep.sgc (h : Rep B w r m vs vo P Q O) (ok : Ok m) (hn : 0 < m.st.length) (v : Nat) (hv : v < 4) : w.cell? ⟨Q (m.st.length - 1), v, none⟩ = some (.int .i64 ((cur m).sg.getD v 0)) := by
  obtain ⟨_, b⟩ := h.st _ _ (Rep.curs hn)
  have hl := ok.sgl (cur m) (List.mem_of_getElem? (Rep.curs hn))
  rw [b.cell v]
  simp [sgCells, List.getD_eq_getElem?_getD, List.getElem?_eq_getElem (show v < (cur m).sg.length by omega)]

theorem rep_sign (h : Rep B w r m vs vo P Q O) (hn : 0 < m.st.length) (v : Nat) (nx : Int) (k : Nat) :
    Rep B (((w.drewN k).setCell ⟨Q (m.st.length - 1), v, none⟩ (.int .i64 m.sign)).setCell ⟨r, 0, none⟩ (.int .u8 nx)) r
      (signTo m v m.sign nx) vs vo P Q O := by
  have e2 := (h.drewN k).setSg (m.st.length - 1) (cur m) (Rep.curs hn) v m.sign _ rfl
  exact e2.setRd 0 (.int .u8 nx) _ rfl rfl rfl
theorem rep_sign1 (h : Rep B w r m vs vo P Q O) (hn : 0 < m.st.length) (v : Nat) (nx : Int) (k : Nat) :
    Rep B ((((w.drewN k).setCell ⟨r, 3, none⟩ (.int .i64 1)).setCell ⟨Q (m.st.length - 1), v, none⟩ (.int .i64 1)).setCell ⟨r, 0, none⟩ (.int .u8 nx)) r
      (signTo m v 1 nx) vs vo P Q O := by
  have e1 := (h.drewN k).setRd 3 (.int .i64 1) { m with sign := 1 } rfl rfl rfl
  have e2 := e1.setSg (m.st.length - 1) (cur m) (Rep.curs hn) v 1 _ rfl
  exact e2.setRd 0 (.int .u8 nx) _ rfl rfl rfl

theorem Rep.drew (h : Rep B w r m vs vo P Q O) : Rep B w.drew r m vs vo P Q O := ⟨h.rd, h.rs, h.ro, h.st, h.op, h.injP, h.injQ, h.injO, h.geR, h.geP, h.geO⟩
theorem Ok.sign1 (ok : Ok m) : Ok { m with sign := 1 } := ⟨ok.states, ok.some_, ok.len, ok.oplen, ok.ofs, ⟨(by decide : (-1 : Int) ≤ 1), (by decide : (1 : Int) ≤ 1)⟩, ok.digs, ok.nums, ok.sgl, ok.inNum, ok.open_⟩
theorem post_via {o o' : Option Rd} {w w1 w' : World} (h : o = o') (h0 : Below B w w1) (hb : Below B w1 w') (hr : ∀ m', o' = some m' → ∃ vs vo P Q O, Rep B w' r m' vs vo P Q O) : Post B w r o (.returned (.bool o'.isSome)) w' := by
  subst h; exact ⟨rfl, h0.trans hb, hr⟩

set_option maxRecDepth 100000 in
set_option maxHeartbeats 1600000 in
theorem Rep.valueV (h : Rep B w r m vs vo P Q O) (ok : Ok m) (hn : 0 < m.st.length) (c : Int) (h0 : 0 ≤ c) (h1 : c ≤ 255) (hx : m.state = 118) :
    Calls Tryz.prog 93 #[.pointer (some ⟨r, 0, none⟩), .int .u8 c] w (Post B w r (valueStep m c)) := by
  have hc := h.now hn ok.len
  have hcur := Rep.curs hn
  obtain ⟨c0, c1, c2, c3, c4, c5, c6, f7, f8, n9, n10, n11⟩ := h.stc _ _ hcur
  obtain ⟨r0, r1, r2, r3, r4, r5, rf⟩ := h.rdc
  have geR := h.geR
  obtain ⟨geP, geQ⟩ := h.geC hn
  obtain ⟨sg0, sg1⟩ := ok.sgn
  obtain ⟨nu0, nu1⟩ := ok.nums (cur m) (List.mem_of_getElem? hcur)
  have HC : Hid (_ = _) := hcur
  clear hcur
  rw [hx] at r0
  have HX : Hid (_ = _) := hx
  clear hx
  have nrp : r ≠ P (m.st.length - 1) := fun e => n9 e.symm
  have nrq : r ≠ Q (m.st.length - 1) := fun e => n10 e.symm
  have npq : P (m.st.length - 1) ≠ Q (m.st.length - 1) := fun e => n11 e.symm
  by_cases h42 : c = 42
  · subst h42
    have HR : Hid (Rep _ _ _ _ _ _ _ _ _) := h
    have OK : Hid (Ok m) := ok
    clear h ok
    go_enter Tryz.func93, Tryz.ntmps93
    go_wp2_with (first | (go_at_call 126; refine hc.mono ?_; rintro e w' ⟨rfl, k, rfl⟩) | (go_at_call 123; refine (variable_no _ _ (by omega) (by omega) (by omega)).mono ?_; rintro e w' ⟨rfl, rfl⟩))
    go_ret
    refine post_yes (m' := { setCur m { cur m with star := true } with state := 59 }) (by unfold valueStep; rw [if_pos HX.out, if_pos rfl]) (Below.setCell (Below.setCell (below_drewN (Below.refl _ _) _) geP _) geR _) (((HR.out.drewN k).setC hn { cur m with star := true } 2 (.bool true) rfl rfl).setRd 0 (.int .u8 59) _ rfl rfl rfl)
  have b42 : (c == 42) = false := by simpa using h42
  by_cases h45 : c = 45
  · subst h45
    clear h42 b42
    have HR : Hid (Rep _ _ _ _ _ _ _ _ _) := h
    have OK : Hid (Ok m) := ok
    clear h ok
    go_enter Tryz.func93, Tryz.ntmps93
    go_wp2_with (first | (go_at_call 126; refine hc.mono ?_; rintro e w' ⟨rfl, k, rfl⟩) | (go_at_call 123; refine (variable_no _ _ (by omega) (by omega) (by omega)).mono ?_; rintro e w' ⟨rfl, rfl⟩))
    go_ret
    refine post_yes (m' := { m with sign := -1, state := 86 }) (by unfold valueStep; rw [if_pos HX.out, if_neg (by decide), if_pos rfl]) (Below.setCell (Below.setCell (below_drewN (Below.refl _ _) _) geR _) geR _) (((HR.out.drewN k).setRd 3 (.int .i64 (-1)) { m with sign := -1 } rfl rfl rfl).setRd 0 (.int .u8 86) _ rfl rfl rfl)
  have b45 : (c == 45) = false := by simpa using h45
  by_cases hv : 97 ≤ c ∧ c ≤ 100
  · have HS2 : Hid (valueStep m c = some (signTo m (c - 97).toNat 1 120)) := by show valueStep m c = _; unfold valueStep; rw [if_pos HX.out, if_neg h42, if_neg h45, if_pos hv]
    obtain ⟨hva, hvb⟩ := hv
    have hq := h.sgc ok hn (c - 97).toNat (by omega)
    have i0 : (0 : Int) ≤ c - 97 := by omega
    have i1 : c - 97 < 4 := by omega
    clear h42 h45
    have HR : Hid (Rep _ _ _ _ _ _ _ _ _) := h
    have OK : Hid (Ok m) := ok
    clear h ok
    go_enter Tryz.func93, Tryz.ntmps93
    go_wp2_with (first | (go_at_call 126; refine hc.mono ?_; rintro e w' ⟨rfl, k, rfl⟩) | (go_at_call 123; refine (variable_yes c _ hva hvb).mono ?_; rintro e w' ⟨rfl, rfl⟩))
    go_region
    go_wp2
    go_ret
    refine post_yes HS2.out (Below.drew (Below.setCell (Below.setCell (Below.setCell (below_drewN (Below.refl _ _) _) geR _) geQ _) geR _)) (rep_sign1 HR.out hn (c - 97).toNat 120 k).drew
  · have HS2 : Hid (valueStep m c = digitStep { m with sign := 1 } c false 110) := by show valueStep m c = _; unfold valueStep; rw [if_pos HX.out, if_neg h42, if_neg h45, if_neg hv]
    clear h42 h45
    have HR : Hid (Rep _ _ _ _ _ _ _ _ _) := h
    have OK : Hid (Ok m) := ok
    clear h ok
    go_enter Tryz.func93, Tryz.ntmps93
    go_wp2_with (first | (go_at_call 126; refine hc.mono ?_; rintro e w' ⟨rfl, k, rfl⟩) | (go_at_call 123; refine (variable_no _ _ (by omega) (by omega) (by omega)).mono ?_; rintro e w' ⟨rfl, rfl⟩))
    refine ((((HR.out.drewN k).setRd 3 (.int .i64 1) { m with sign := 1 } rfl rfl rfl)).digit ?_ hn c false h0 h1 110).mono ?_
    · exact OK.out.sign1
    rintro e w' ⟨rfl, hb, hr⟩
    go_wp2
    go_ret
    exact post_via HS2.out ((Below.setCell (below_drewN (Below.refl _ _) _) geR _)) hb hr

end Go.Proofs.YtffajooegiempaaGreatDoor

namespace Go.Proofs.YtffajooegiempaaGreatDoor
open Go.RowKit
variable {B : Nat} {w w' : World} {r : Nat} {m : Rd} {vs vo : Value} {P Q O : Nat → Nat}


set_option maxRecDepth 100000 in
set_option maxHeartbeats 1600000 in
theorem Rep.valueVV (h : Rep B w r m vs vo P Q O) (ok : Ok m) (hn : 0 < m.st.length) (c : Int) (h0 : 0 ≤ c) (h1 : c ≤ 255) (hx : m.state = 86) :
    Calls Tryz.prog 93 #[.pointer (some ⟨r, 0, none⟩), .int .u8 c] w (Post B w r (valueStep m c)) := by
  have hc := h.now hn ok.len
  have hcur := Rep.curs hn
  obtain ⟨c0, c1, c2, c3, c4, c5, c6, f7, f8, n9, n10, n11⟩ := h.stc _ _ hcur
  obtain ⟨r0, r1, r2, r3, r4, r5, rf⟩ := h.rdc
  have geR := h.geR
  obtain ⟨geP, geQ⟩ := h.geC hn
  obtain ⟨sg0, sg1⟩ := ok.sgn
  obtain ⟨nu0, nu1⟩ := ok.nums (cur m) (List.mem_of_getElem? hcur)
  have HC : Hid (_ = _) := hcur
  clear hcur
  rw [hx] at r0
  have HX : Hid (_ = _) := hx
  clear hx
  have nrp : r ≠ P (m.st.length - 1) := fun e => n9 e.symm
  have nrq : r ≠ Q (m.st.length - 1) := fun e => n10 e.symm
  have npq : P (m.st.length - 1) ≠ Q (m.st.length - 1) := fun e => n11 e.symm
  by_cases hv : 97 ≤ c ∧ c ≤ 100
  · have HS2 : Hid (valueStep m c = some (signTo m (c - 97).toNat m.sign 120)) := by show valueStep m c = _; unfold valueStep; rw [HX.out, if_neg (by decide), if_pos rfl, if_pos hv]
    obtain ⟨hva, hvb⟩ := hv
    have hq := h.sgc ok hn (c - 97).toNat (by omega)
    have i0 : (0 : Int) ≤ c - 97 := by omega
    have i1 : c - 97 < 4 := by omega
    have HR : Hid (Rep _ _ _ _ _ _ _ _ _) := h
    have OK : Hid (Ok m) := ok
    clear h ok
    go_enter Tryz.func93, Tryz.ntmps93
    go_wp2_with (first | (go_at_call 126; refine hc.mono ?_; rintro e w' ⟨rfl, k, rfl⟩) | (go_at_call 123; refine (variable_yes c _ hva hvb).mono ?_; rintro e w' ⟨rfl, rfl⟩))
    go_region
    go_wp2
    go_ret
    exact post_yes HS2.out (Below.setCell (Below.setCell (below_drewN (Below.refl _ _) _) geQ _) geR _) (rep_sign HR.out hn (c - 97).toNat 120 (k + 1))
  · have HS2 : Hid (valueStep m c = digitStep m c true 110) := by show valueStep m c = _; unfold valueStep; rw [HX.out, if_neg (by decide), if_pos rfl, if_neg hv]
    have HR : Hid (Rep _ _ _ _ _ _ _ _ _) := h
    have OK : Hid (Ok m) := ok
    clear h ok
    go_enter Tryz.func93, Tryz.ntmps93
    go_wp2_with (first | (go_at_call 126; refine hc.mono ?_; rintro e w' ⟨rfl, k, rfl⟩) | (go_at_call 123; refine (variable_no _ _ (by omega) (by omega) (by omega)).mono ?_; rintro e w' ⟨rfl, rfl⟩))
    refine ((HR.out.drewN k).digit OK.out hn c true h0 h1 110).mono ?_
    rintro e w' ⟨rfl, hb, hr⟩
    go_wp2
    go_ret
    exact post_via HS2.out ((below_drewN (Below.refl _ _) _)) hb hr

set_option maxRecDepth 100000 in
set_option maxHeartbeats 1600000 in
theorem Rep.valueX (h : Rep B w r m vs vo P Q O) (ok : Ok m) (hn : 0 < m.st.length) (c : Int) (h0 : 0 ≤ c) (h1 : c ≤ 255) (hx : m.state = 120) :
    Calls Tryz.prog 93 #[.pointer (some ⟨r, 0, none⟩), .int .u8 c] w (Post B w r (valueStep m c)) := by
  have hc := h.now hn ok.len
  have hcur := Rep.curs hn
  obtain ⟨c0, c1, c2, c3, c4, c5, c6, f7, f8, n9, n10, n11⟩ := h.stc _ _ hcur
  obtain ⟨r0, r1, r2, r3, r4, r5, rf⟩ := h.rdc
  have geR := h.geR
  obtain ⟨geP, geQ⟩ := h.geC hn
  obtain ⟨sg0, sg1⟩ := ok.sgn
  obtain ⟨nu0, nu1⟩ := ok.nums (cur m) (List.mem_of_getElem? hcur)
  have HC : Hid (_ = _) := hcur
  clear hcur
  rw [hx] at r0
  have HX : Hid (_ = _) := hx
  clear hx
  have nrp : r ≠ P (m.st.length - 1) := fun e => n9 e.symm
  have nrq : r ≠ Q (m.st.length - 1) := fun e => n10 e.symm
  have npq : P (m.st.length - 1) ≠ Q (m.st.length - 1) := fun e => n11 e.symm
  have hmw := mul_wrap _ _ sg0 sg1 nu0 nu1
  by_cases h43 : c = 43
  · subst h43
    have HS2 : Hid (valueStep m 43 = some { m with sign := 1, state := 121 }) := by show valueStep m 43 = _; unfold valueStep; rw [HX.out, if_neg (by decide), if_neg (by decide), if_pos rfl, if_pos rfl]
    have HR : Hid (Rep _ _ _ _ _ _ _ _ _) := h
    have OK : Hid (Ok m) := ok
    clear h ok
    go_enter Tryz.func93, Tryz.ntmps93
    go_wp2_with (first | (go_at_call 126; refine hc.mono ?_; rintro e w' ⟨rfl, k, rfl⟩) | (go_at_call 123; refine (variable_no _ _ (by omega) (by omega) (by omega)).mono ?_; rintro e w' ⟨rfl, rfl⟩))
    go_ret
    exact post_yes HS2.out (Below.setCell (Below.setCell (below_drewN (Below.refl _ _) _) geR _) geR _) (((HR.out.drewN k).setRd 3 (.int .i64 1) { m with sign := 1 } rfl rfl rfl).setRd 0 (.int .u8 121) _ rfl rfl rfl)
  have b43 : (c == 43) = false := by simpa using h43
  by_cases h45 : c = 45
  · subst h45
    have HS2 : Hid (valueStep m 45 = some { m with sign := -1, state := 121 }) := by show valueStep m 45 = _; unfold valueStep; rw [HX.out, if_neg (by decide), if_neg (by decide), if_pos rfl, if_neg (by decide), if_pos rfl]
    clear h43 b43
    have HR : Hid (Rep _ _ _ _ _ _ _ _ _) := h
    have OK : Hid (Ok m) := ok
    clear h ok
    go_enter Tryz.func93, Tryz.ntmps93
    go_wp2_with (first | (go_at_call 126; refine hc.mono ?_; rintro e w' ⟨rfl, k, rfl⟩) | (go_at_call 123; refine (variable_no _ _ (by omega) (by omega) (by omega)).mono ?_; rintro e w' ⟨rfl, rfl⟩))
    go_ret
    exact post_yes HS2.out (Below.setCell (Below.setCell (Below.setCell (below_drewN (Below.refl _ _) _) geR _) geR _) geR _) ((((HR.out.drewN k).setRd 3 (.int .i64 1) { m with sign := 1 } rfl rfl rfl).setRd 3 (.int .i64 (-1)) { m with sign := -1 } rfl rfl rfl).setRd 0 (.int .u8 121) _ rfl rfl rfl)
  have b45 : (c == 45) = false := by simpa using h45
  by_cases h59 : c = 59
  · subst h59
    have HS2 : Hid (valueStep m 59 = some (valueEnd m)) := by show valueStep m 59 = _; unfold valueStep; rw [HX.out, if_neg (by decide), if_neg (by decide), if_pos rfl, if_neg (by decide), if_neg (by decide), if_pos rfl]
    clear h43 b43 h45 b45
    have HR : Hid (Rep _ _ _ _ _ _ _ _ _) := h
    have OK : Hid (Ok m) := ok
    clear h ok
    go_enter Tryz.func93, Tryz.ntmps93
    go_wp2_with (first | (go_at_call 126; refine hc.mono ?_; rintro e w' ⟨rfl, k, rfl⟩) | (go_at_call 123; refine (variable_no _ _ (by omega) (by omega) (by omega)).mono ?_; rintro e w' ⟨rfl, rfl⟩))
    go_region
    go_wp2
    go_ret
    exact post_yes HS2.out (Below.setCell (Below.setCell (below_drewN (Below.refl _ _) _) geP _) geR _) (((HR.out.drewN (k + 1)).setC hn { cur m with num := m.sign * (cur m).num } 4 (.int .i64 (m.sign * (cur m).num)) rfl rfl).setRd 0 (.int .u8 115) (valueEnd m) rfl rfl rfl)
  have b59 : (c == 59) = false := by simpa using h59
  have HS2 : Hid (valueStep m c = none) := by show valueStep m c = _; unfold valueStep; rw [HX.out, if_neg (by decide), if_neg (by decide), if_pos rfl, if_neg h43, if_neg h45, if_neg h59]
  clear h43 h45 h59
  have HR : Hid (Rep _ _ _ _ _ _ _ _ _) := h
  have OK : Hid (Ok m) := ok
  clear h ok
  by_cases hv : 97 ≤ c ∧ c ≤ 100
  · obtain ⟨hva, hvb⟩ := hv
    go_enter Tryz.func93, Tryz.ntmps93
    go_wp2_with (first | (go_at_call 126; refine hc.mono ?_; rintro e w' ⟨rfl, k, rfl⟩) | (go_at_call 123; refine (variable_yes c _ hva hvb).mono ?_; rintro e w' ⟨rfl, rfl⟩))
    go_ret
    exact post_no HS2.out (below_drewN (Below.refl _ _) _)
  · go_enter Tryz.func93, Tryz.ntmps93
    go_wp2_with (first | (go_at_call 126; refine hc.mono ?_; rintro e w' ⟨rfl, k, rfl⟩) | (go_at_call 123; refine (variable_no _ _ (by omega) (by omega) (by omega)).mono ?_; rintro e w' ⟨rfl, rfl⟩))
    go_ret
    exact post_no HS2.out (below_drewN (Below.refl _ _) _)


end Go.Proofs.YtffajooegiempaaGreatDoor

namespace Go.Proofs.YtffajooegiempaaGreatDoor
open Go.RowKit
variable {B : Nat} {w w' : World} {r : Nat} {m : Rd} {vs vo : Value} {P Q O : Nat → Nat}


set_option maxRecDepth 100000 in
set_option maxHeartbeats 1600000 in
theorem Rep.valueY (h : Rep B w r m vs vo P Q O) (ok : Ok m) (hn : 0 < m.st.length) (c : Int) (h0 : 0 ≤ c) (h1 : c ≤ 255) (hx : m.state = 121) :
    Calls Tryz.prog 93 #[.pointer (some ⟨r, 0, none⟩), .int .u8 c] w (Post B w r (valueStep m c)) := by
  have hc := h.now hn ok.len
  have hcur := Rep.curs hn
  obtain ⟨c0, c1, c2, c3, c4, c5, c6, f7, f8, n9, n10, n11⟩ := h.stc _ _ hcur
  obtain ⟨r0, r1, r2, r3, r4, r5, rf⟩ := h.rdc
  have geR := h.geR
  obtain ⟨geP, geQ⟩ := h.geC hn
  obtain ⟨sg0, sg1⟩ := ok.sgn
  obtain ⟨nu0, nu1⟩ := ok.nums (cur m) (List.mem_of_getElem? hcur)
  have HC : Hid (_ = _) := hcur
  clear hcur
  rw [hx] at r0
  have HX : Hid (_ = _) := hx
  clear hx
  have nrp : r ≠ P (m.st.length - 1) := fun e => n9 e.symm
  have nrq : r ≠ Q (m.st.length - 1) := fun e => n10 e.symm
  have npq : P (m.st.length - 1) ≠ Q (m.st.length - 1) := fun e => n11 e.symm
  have HS2 : Hid (valueStep m c = digitStep m c false 110) := by show valueStep m c = _; unfold valueStep; rw [HX.out, if_neg (by decide), if_neg (by decide), if_neg (by decide), if_pos rfl]
  by_cases hv : 97 ≤ c ∧ c ≤ 100
  · obtain ⟨hva, hvb⟩ := hv
    have HR : Hid (Rep _ _ _ _ _ _ _ _ _) := h
    have OK : Hid (Ok m) := ok
    clear h ok
    go_enter Tryz.func93, Tryz.ntmps93
    go_wp2_with (first | (go_at_call 126; refine hc.mono ?_; rintro e w' ⟨rfl, k, rfl⟩) | (go_at_call 123; refine (variable_yes c _ hva hvb).mono ?_; rintro e w' ⟨rfl, rfl⟩))
    refine ((HR.out.drewN k).digit OK.out hn c false h0 h1 110).mono ?_
    rintro e w' ⟨rfl, hb, hr⟩
    go_wp2
    go_ret
    exact post_via HS2.out ((below_drewN (Below.refl _ _) _)) hb hr
  · have HR : Hid (Rep _ _ _ _ _ _ _ _ _) := h
    have OK : Hid (Ok m) := ok
    clear h ok
    go_enter Tryz.func93, Tryz.ntmps93
    go_wp2_with (first | (go_at_call 126; refine hc.mono ?_; rintro e w' ⟨rfl, k, rfl⟩) | (go_at_call 123; refine (variable_no _ _ (by omega) (by omega) (by omega)).mono ?_; rintro e w' ⟨rfl, rfl⟩))
    refine ((HR.out.drewN k).digit OK.out hn c false h0 h1 110).mono ?_
    rintro e w' ⟨rfl, hb, hr⟩
    go_wp2
    go_ret
    exact post_via HS2.out ((below_drewN (Below.refl _ _) _)) hb hr
set_option maxRecDepth 100000 in
set_option maxHeartbeats 1600000 in
theorem Rep.valueN (h : Rep B w r m vs vo P Q O) (ok : Ok m) (hn : 0 < m.st.length) (c : Int) (h0 : 0 ≤ c) (h1 : c ≤ 255) (hx : m.state = 110) :
    Calls Tryz.prog 93 #[.pointer (some ⟨r, 0, none⟩), .int .u8 c] w (Post B w r (valueStep m c)) := by
  have hc := h.now hn ok.len
  have hcur := Rep.curs hn
  obtain ⟨c0, c1, c2, c3, c4, c5, c6, f7, f8, n9, n10, n11⟩ := h.stc _ _ hcur
  obtain ⟨r0, r1, r2, r3, r4, r5, rf⟩ := h.rdc
  have geR := h.geR
  obtain ⟨geP, geQ⟩ := h.geC hn
  obtain ⟨sg0, sg1⟩ := ok.sgn
  obtain ⟨nu0, nu1⟩ := ok.nums (cur m) (List.mem_of_getElem? hcur)
  have HC : Hid (_ = _) := hcur
  clear hcur
  rw [hx] at r0
  have HX : Hid (_ = _) := hx
  clear hx
  have nrp : r ≠ P (m.st.length - 1) := fun e => n9 e.symm
  have nrq : r ≠ Q (m.st.length - 1) := fun e => n10 e.symm
  have npq : P (m.st.length - 1) ≠ Q (m.st.length - 1) := fun e => n11 e.symm
  have hmw := mul_wrap _ _ sg0 sg1 nu0 nu1
  by_cases h59 : c = 59
  · subst h59
    have HS2 : Hid (valueStep m 59 = some (valueEnd m)) := by show valueStep m 59 = _; unfold valueStep; rw [HX.out, if_neg (by decide), if_neg (by decide), if_neg (by decide), if_neg (by decide), if_pos rfl]
    have HR : Hid (Rep _ _ _ _ _ _ _ _ _) := h
    have OK : Hid (Ok m) := ok
    clear h ok
    go_enter Tryz.func93, Tryz.ntmps93
    go_wp2_with (first | (go_at_call 126; refine hc.mono ?_; rintro e w' ⟨rfl, k, rfl⟩) | (go_at_call 123; refine (variable_no _ _ (by omega) (by omega) (by omega)).mono ?_; rintro e w' ⟨rfl, rfl⟩))
    go_region
    go_wp2
    go_ret
    exact post_yes HS2.out (Below.setCell (Below.setCell (below_drewN (Below.refl _ _) _) geP _) geR _) (((HR.out.drewN (k + 1)).setC hn { cur m with num := m.sign * (cur m).num } 4 (.int .i64 (m.sign * (cur m).num)) rfl rfl).setRd 0 (.int .u8 115) (valueEnd m) rfl rfl rfl)
  have b59 : (c == 59) = false := by simpa using h59
  have HS2 : Hid (valueStep m c = digitStep m c false 110) := by show valueStep m c = _; unfold valueStep; rw [HX.out, if_neg (by decide), if_neg (by decide), if_neg (by decide), if_neg (by decide), if_neg h59]
  clear h59 hmw
  by_cases hv : 97 ≤ c ∧ c ≤ 100
  · obtain ⟨hva, hvb⟩ := hv
    have HR : Hid (Rep _ _ _ _ _ _ _ _ _) := h
    have OK : Hid (Ok m) := ok
    clear h ok
    go_enter Tryz.func93, Tryz.ntmps93
    go_wp2_with (first | (go_at_call 126; refine hc.mono ?_; rintro e w' ⟨rfl, k, rfl⟩) | (go_at_call 123; refine (variable_yes c _ hva hvb).mono ?_; rintro e w' ⟨rfl, rfl⟩))
    refine ((HR.out.drewN k).digit OK.out hn c false h0 h1 110).mono ?_
    rintro e w' ⟨rfl, hb, hr⟩
    go_wp2
    go_ret
    exact post_via HS2.out ((below_drewN (Below.refl _ _) _)) hb hr
  · have HR : Hid (Rep _ _ _ _ _ _ _ _ _) := h
    have OK : Hid (Ok m) := ok
    clear h ok
    go_enter Tryz.func93, Tryz.ntmps93
    go_wp2_with (first | (go_at_call 126; refine hc.mono ?_; rintro e w' ⟨rfl, k, rfl⟩) | (go_at_call 123; refine (variable_no _ _ (by omega) (by omega) (by omega)).mono ?_; rintro e w' ⟨rfl, rfl⟩))
    refine ((HR.out.drewN k).digit OK.out hn c false h0 h1 110).mono ?_
    rintro e w' ⟨rfl, hb, hr⟩
    go_wp2
    go_ret
    exact post_via HS2.out ((below_drewN (Below.refl _ _) _)) hb hr

end Go.Proofs.YtffajooegiempaaGreatDoor

namespace Go.Proofs.YtffajooegiempaaGreatDoor
open Go.RowKit
variable {B : Nat} {w w' : World} {r : Nat} {m : Rd} {vs vo : Value} {P Q O : Nat → Nat}


set_option maxRecDepth 100000 in
set_option maxHeartbeats 1600000 in
theorem Rep.condC (h : Rep B w r m vs vo P Q O) (ok : Ok m) (hn : 0 < m.st.length) (_hB : B ≤ w.heap.size) (c : Int) (h0 : 0 ≤ c) (h1 : c ≤ 255) (hx : m.state = 99) :
    Calls Tryz.prog 94 #[.pointer (some ⟨r, 0, none⟩), .int .u8 c] w (Post B w r (condStep m c)) := by
  have hc := h.now hn ok.len
  have hcur := Rep.curs hn
  obtain ⟨c0, c1, c2, c3, c4, c5, c6, f7, f8, n9, n10, n11⟩ := h.stc _ _ hcur
  obtain ⟨r0, r1, r2, r3, r4, r5, rf⟩ := h.rdc
  have geR := h.geR
  obtain ⟨geP, geQ⟩ := h.geC hn
  obtain ⟨sg0, sg1⟩ := ok.sgn
  obtain ⟨nu0, nu1⟩ := ok.nums (cur m) (List.mem_of_getElem? hcur)
  have HC : Hid (_ = _) := hcur
  clear hcur
  rw [hx] at r0
  have HX : Hid (_ = _) := hx
  clear hx
  have nrp : r ≠ P (m.st.length - 1) := fun e => n9 e.symm
  have nrq : r ≠ Q (m.st.length - 1) := fun e => n10 e.symm
  have npq : P (m.st.length - 1) ≠ Q (m.st.length - 1) := fun e => n11 e.symm
  by_cases h42 : c = 42
  · subst h42
    have HY : Hid (condStep m 42 = some { setCur m { cur m with star := true } with state := behindOf m }) := by show condStep m 42 = _; unfold condStep; rw [HX.out, if_pos rfl, if_pos rfl]
    have HR : Hid (Rep _ _ _ _ _ _ _ _ _) := h
    have OK : Hid (Ok m) := ok
    clear h ok
    go_enter Tryz.func94, Tryz.ntmps94
    go_wp2_with (first | (go_at_call 126; refine hc.mono ?_; rintro e w' ⟨rfl, k, rfl⟩) | (go_at_call 123; refine (variable_no _ _ (by omega) (by omega) (by omega)).mono ?_; rintro e w' ⟨rfl, rfl⟩))
    have e1 := (HR.out.drewN k).setC hn { cur m with star := true } 2 (.bool true) rfl rfl
    refine (e1.behind (by rw [len_setCur]; exact hn) (by rw [len_setCur]; exact OK.out.len)).mono ?_
    rintro e w' ⟨rfl, k2, rfl⟩
    have HE : Hid (Rep _ _ _ _ _ _ _ _ _) := e1
    clear e1
    go_wp2
    go_ret
    refine post_yes HY.out (Below.setCell (below_drewN (Below.setCell (below_drewN (Below.refl _ _) _) geP _) _) geR _) ((HE.out.drewN k2).setRd 0 _ _ ?_ rfl rfl)
    simp [rdCells, behindOf, cur_setCur hn]
  have b42 : (c == 42) = false := by simpa using h42
  by_cases h45 : c = 45
  · subst h45
    have HY : Hid (condStep m 45 = some { m with sign := -1, state := 67 }) := by show condStep m 45 = _; unfold condStep; rw [HX.out, if_pos rfl, if_neg (by decide), if_pos rfl]
    clear h42 b42
    have HR : Hid (Rep _ _ _ _ _ _ _ _ _) := h
    have OK : Hid (Ok m) := ok
    clear h ok
    go_enter Tryz.func94, Tryz.ntmps94
    go_wp2_with (first | (go_at_call 126; refine hc.mono ?_; rintro e w' ⟨rfl, k, rfl⟩) | (go_at_call 123; refine (variable_no _ _ (by omega) (by omega) (by omega)).mono ?_; rintro e w' ⟨rfl, rfl⟩))
    go_ret
    exact post_yes HY.out (Below.setCell (Below.setCell (below_drewN (Below.refl _ _) _) geR _) geR _) (((HR.out.drewN k).setRd 3 (.int .i64 (-1)) { m with sign := -1 } rfl rfl rfl).setRd 0 (.int .u8 67) _ rfl rfl rfl)
  have b45 : (c == 45) = false := by simpa using h45
  by_cases hv : 97 ≤ c ∧ c ≤ 100
  · have HY : Hid (condStep m c = some (signTo m (c - 97).toNat 1 100)) := by show condStep m c = _; unfold condStep; rw [HX.out, if_pos rfl, if_neg h42, if_neg h45, if_pos hv]
    obtain ⟨hva, hvb⟩ := hv
    have hq := h.sgc ok hn (c - 97).toNat (by omega)
    have i0 : (0 : Int) ≤ c - 97 := by omega
    have i1 : c - 97 < 4 := by omega
    clear h42 h45
    have HR : Hid (Rep _ _ _ _ _ _ _ _ _) := h
    have OK : Hid (Ok m) := ok
    clear h ok
    go_enter Tryz.func94, Tryz.ntmps94
    go_wp2_with (first | (go_at_call 126; refine hc.mono ?_; rintro e w' ⟨rfl, k, rfl⟩) | (go_at_call 123; refine (variable_yes c _ hva hvb).mono ?_; rintro e w' ⟨rfl, rfl⟩))
    go_region
    go_wp2
    go_ret
    exact post_yes HY.out (Below.drew (Below.setCell (Below.setCell (Below.setCell (below_drewN (Below.refl _ _) _) geR _) geQ _) geR _)) (rep_sign1 HR.out hn (c - 97).toNat 100 k).drew
  have HY : Hid (condStep m c = none) := by show condStep m c = _; unfold condStep; rw [HX.out, if_pos rfl, if_neg h42, if_neg h45, if_neg hv]
  clear h42 h45
  have HR : Hid (Rep _ _ _ _ _ _ _ _ _) := h
  have OK : Hid (Ok m) := ok
  clear h ok
  go_enter Tryz.func94, Tryz.ntmps94
  go_wp2_with (first | (go_at_call 126; refine hc.mono ?_; rintro e w' ⟨rfl, k, rfl⟩) | (go_at_call 123; refine (variable_no _ _ (by omega) (by omega) (by omega)).mono ?_; rintro e w' ⟨rfl, rfl⟩))
  go_ret
  exact post_no HY.out (below_drewN (Below.refl _ _) _)

set_option maxRecDepth 100000 in
set_option maxHeartbeats 1600000 in
theorem Rep.condCC (h : Rep B w r m vs vo P Q O) (ok : Ok m) (hn : 0 < m.st.length) (_hB : B ≤ w.heap.size) (c : Int) (h0 : 0 ≤ c) (h1 : c ≤ 255) (hx : m.state = 67) :
    Calls Tryz.prog 94 #[.pointer (some ⟨r, 0, none⟩), .int .u8 c] w (Post B w r (condStep m c)) := by
  have hc := h.now hn ok.len
  have hcur := Rep.curs hn
  obtain ⟨c0, c1, c2, c3, c4, c5, c6, f7, f8, n9, n10, n11⟩ := h.stc _ _ hcur
  obtain ⟨r0, r1, r2, r3, r4, r5, rf⟩ := h.rdc
  have geR := h.geR
  obtain ⟨geP, geQ⟩ := h.geC hn
  obtain ⟨sg0, sg1⟩ := ok.sgn
  obtain ⟨nu0, nu1⟩ := ok.nums (cur m) (List.mem_of_getElem? hcur)
  have HC : Hid (_ = _) := hcur
  clear hcur
  rw [hx] at r0
  have HX : Hid (_ = _) := hx
  clear hx
  have nrp : r ≠ P (m.st.length - 1) := fun e => n9 e.symm
  have nrq : r ≠ Q (m.st.length - 1) := fun e => n10 e.symm
  have npq : P (m.st.length - 1) ≠ Q (m.st.length - 1) := fun e => n11 e.symm
  by_cases hv : 97 ≤ c ∧ c ≤ 100
  · have HY : Hid (condStep m c = some (signTo m (c - 97).toNat m.sign 100)) := by show condStep m c = _; unfold condStep; rw [HX.out, if_neg (by decide), if_pos rfl, if_pos hv]
    obtain ⟨hva, hvb⟩ := hv
    have hq := h.sgc ok hn (c - 97).toNat (by omega)
    have i0 : (0 : Int) ≤ c - 97 := by omega
    have i1 : c - 97 < 4 := by omega
    have HR : Hid (Rep _ _ _ _ _ _ _ _ _) := h
    have OK : Hid (Ok m) := ok
    clear h ok
    go_enter Tryz.func94, Tryz.ntmps94
    go_wp2_with (first | (go_at_call 126; refine hc.mono ?_; rintro e w' ⟨rfl, k, rfl⟩) | (go_at_call 123; refine (variable_yes c _ hva hvb).mono ?_; rintro e w' ⟨rfl, rfl⟩))
    go_region
    go_wp2
    go_ret
    exact post_yes HY.out (Below.setCell (Below.setCell (below_drewN (Below.refl _ _) _) geQ _) geR _) (rep_sign HR.out hn (c - 97).toNat 100 (k + 1))
  have HY : Hid (condStep m c = none) := by show condStep m c = _; unfold condStep; rw [HX.out, if_neg (by decide), if_pos rfl, if_neg hv]
  have HR : Hid (Rep _ _ _ _ _ _ _ _ _) := h
  have OK : Hid (Ok m) := ok
  clear h ok
  go_enter Tryz.func94, Tryz.ntmps94
  go_wp2_with (first | (go_at_call 126; refine hc.mono ?_; rintro e w' ⟨rfl, k, rfl⟩) | (go_at_call 123; refine (variable_no _ _ (by omega) (by omega) (by omega)).mono ?_; rintro e w' ⟨rfl, rfl⟩))
  go_ret
  exact post_no HY.out (below_drewN (Below.refl _ _) _)

end Go.Proofs.YtffajooegiempaaGreatDoor

