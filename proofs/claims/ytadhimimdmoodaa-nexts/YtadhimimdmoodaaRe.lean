import Derived.Test.YtadhimimdmoodaaRd
namespace Go.Proofs.Ytadhimimdmoodaa
open Go.RowKit
variable {B : Nat} {w w' : World} {r : Nat} {m : Rd} {vs vo : Value} {P Q O : Nat → Nat}

theorem variable_yes (c : Int) (w : World) (ha : 97 ≤ c) (hb : c ≤ 100) :
    Calls Try.prog 50 #[.int .u8 c] w fun e w' => e = .returned (.int .i64 (c - 97)) ∧ w' = w :=
  (variable_any c w (by omega) (by omega)).mono fun e w' ⟨h, k⟩ => ⟨by rw [h]; unfold varOf; rw [if_pos ⟨ha, hb⟩], k⟩
theorem variable_no (c : Int) (w : World) (h0 : 0 ≤ c) (h1 : c ≤ 255) (hv : ¬ (97 ≤ c ∧ c ≤ 100)) :
    Calls Try.prog 50 #[.int .u8 c] w fun e w' => e = .returned (.int .i64 (-1)) ∧ w' = w :=
  (variable_any c w h0 h1).mono fun e w' ⟨h, k⟩ => ⟨by rw [h]; unfold varOf; rw [if_neg hv], k⟩

theorem Rep.sgc (h : Rep B w r m vs vo P Q O) (ok : Ok m) (hn : 0 < m.st.length) (v : Nat) (hv : v < 4) : w.cell? ⟨Q (m.st.length - 1), v, none⟩ = some (.int .i64 ((cur m).sg.getD v 0)) := by
  obtain ⟨_, b⟩ := h.st _ _ (Rep.curs hn)
  have hl := ok.sgl (cur m) (List.mem_of_getElem? (Rep.curs hn))
  rw [b.cell v]
  simp [sgCells, List.getD_eq_getElem?_getD, List.getElem?_eq_getElem (show v < (cur m).sg.length by omega)]

theorem rep_sign (h : Rep B w r m vs vo P Q O) (hn : 0 < m.st.length) (v : Nat) (nx : Int) (k : Nat) :
    Rep B (((w.drewN k).setCell ⟨Q (m.st.length - 1), v, none⟩ (.int .i64 m.sign)).setCell ⟨r, 0, none⟩ (.int .u8 nx)) r
      (signTo m v m.sign nx) vs vo P Q O := by
  have e2 := (h.drewN k).setSg (m.st.length - 1) (cur m) (Rep.curs hn) v m.sign _ rfl
  exact e2.setRd 0 (.int .u8 nx) _ rfl rfl rfl
theorem rep_sign1 (h : Rep B w r m vs vo P Q O) (hn : 0 < m.st.length) (v : Nat) (nx : Int) (k : Nat) :
    Rep B ((((w.drewN k).setCell ⟨r, 3, none⟩ (.int .i64 1)).setCell ⟨Q (m.st.length - 1), v, none⟩ (.int .i64 1)).setCell ⟨r, 0, none⟩ (.int .u8 nx)) r
      (signTo m v 1 nx) vs vo P Q O := by
  have e1 := (h.drewN k).setRd 3 (.int .i64 1) { m with sign := 1 } rfl rfl rfl
  have e2 := e1.setSg (m.st.length - 1) (cur m) (Rep.curs hn) v 1 _ rfl
  exact e2.setRd 0 (.int .u8 nx) _ rfl rfl rfl

theorem Rep.drew (h : Rep B w r m vs vo P Q O) : Rep B w.drew r m vs vo P Q O := ⟨h.rd, h.rs, h.ro, h.st, h.op, h.injP, h.injQ, h.injO, h.geR, h.geP, h.geO⟩
theorem Ok.sign1 (ok : Ok m) : Ok { m with sign := 1 } := ⟨ok.states, ok.some_, ok.len, ok.oplen, ok.ofs, ⟨(by decide : (-1 : Int) ≤ 1), (by decide : (1 : Int) ≤ 1)⟩, ok.digs, ok.nums, ok.sgl, ok.inNum, ok.open_⟩
theorem post_via {o o' : Option Rd} {w w1 w' : World} (h : o = o') (h0 : Below B w w1) (hb : Below B w1 w') (hr : ∀ m', o' = some m' → ∃ vs vo P Q O, Rep B w' r m' vs vo P Q O) : Post B w r o (.returned (.bool o'.isSome)) w' := by
  subst h; exact ⟨rfl, h0.trans hb, hr⟩
theorem mul_wrap (a b : Int) (h0 : -1 ≤ a) (h1 : a ≤ 1) (h2 : -99 ≤ b) (h3 : b ≤ 99) : wrap64 (a * b) = a * b := by
  have : -99 ≤ a * b ∧ a * b ≤ 99 := by
    rcases (show a = -1 ∨ a = 0 ∨ a = 1 by omega) with rfl | rfl | rfl <;> omega
  unfold wrap64; omega


set_option maxRecDepth 100000 in
set_option maxHeartbeats 1600000 in
theorem Rep.valueV (h : Rep B w r m vs vo P Q O) (ok : Ok m) (hn : 0 < m.st.length) (c : Int) (h0 : 0 ≤ c) (h1 : c ≤ 255) (hx : m.state = 118) :
    Calls Try.prog 42 #[.pointer (some ⟨r, 0, none⟩), .int .u8 c] w (Post B w r (valueStep m c)) := by
  have hc := h.now hn ok.len
  have hcur := Rep.curs hn
  obtain ⟨c0, c1, c2, c3, c4, c5, c6, f7, f8, n9, n10, n11⟩ := h.stc _ _ hcur
  obtain ⟨r0, r1, r2, r3, r4, r5, rf⟩ := h.rdc
  have geR := h.geR
  obtain ⟨geP, geQ⟩ := h.geC hn
  obtain ⟨sg0, sg1⟩ := ok.sgn
  obtain ⟨nu0, nu1⟩ := ok.nums (cur m) (List.mem_of_getElem? hcur)
  have HC : Hid (_ = _) := hcur
  clear hcur
  rw [hx] at r0
  have HX : Hid (_ = _) := hx
  clear hx
  have nrp : r ≠ P (m.st.length - 1) := fun e => n9 e.symm
  have nrq : r ≠ Q (m.st.length - 1) := fun e => n10 e.symm
  have npq : P (m.st.length - 1) ≠ Q (m.st.length - 1) := fun e => n11 e.symm
  by_cases h42 : c = 42
  · subst h42
    have HR : Hid (Rep _ _ _ _ _ _ _ _ _) := h
    have OK : Hid (Ok m) := ok
    clear h ok
    go_enter Try.func42, Try.ntmps42
    go_wp2_with (first | (go_at_call 53; refine hc.mono ?_; rintro e w' ⟨rfl, k, rfl⟩) | (go_at_call 50; refine (variable_no _ _ (by omega) (by omega) (by omega)).mono ?_; rintro e w' ⟨rfl, rfl⟩))
    go_ret
    refine post_yes (m' := { setCur m { cur m with star := true } with state := 59 }) (by unfold valueStep; rw [if_pos HX.out, if_pos rfl]) (Below.setCell (Below.setCell (below_drewN (Below.refl _ _) _) geP _) geR _) (((HR.out.drewN k).setC hn { cur m with star := true } 2 (.bool true) rfl rfl).setRd 0 (.int .u8 59) _ rfl rfl rfl)
  have b42 : (c == 42) = false := by simpa using h42
  by_cases h45 : c = 45
  · subst h45
    clear h42 b42
    have HR : Hid (Rep _ _ _ _ _ _ _ _ _) := h
    have OK : Hid (Ok m) := ok
    clear h ok
    go_enter Try.func42, Try.ntmps42
    go_wp2_with (first | (go_at_call 53; refine hc.mono ?_; rintro e w' ⟨rfl, k, rfl⟩) | (go_at_call 50; refine (variable_no _ _ (by omega) (by omega) (by omega)).mono ?_; rintro e w' ⟨rfl, rfl⟩))
    go_ret
    refine post_yes (m' := { m with sign := -1, state := 86 }) (by unfold valueStep; rw [if_pos HX.out, if_neg (by decide), if_pos rfl]) (Below.setCell (Below.setCell (below_drewN (Below.refl _ _) _) geR _) geR _) (((HR.out.drewN k).setRd 3 (.int .i64 (-1)) { m with sign := -1 } rfl rfl rfl).setRd 0 (.int .u8 86) _ rfl rfl rfl)
  have b45 : (c == 45) = false := by simpa using h45
  by_cases hv : 97 ≤ c ∧ c ≤ 100
  · have HS2 : Hid (valueStep m c = some (signTo m (c - 97).toNat 1 120)) := by show valueStep m c = _; unfold valueStep; rw [if_pos HX.out, if_neg h42, if_neg h45, if_pos hv]
    obtain ⟨hva, hvb⟩ := hv
    have hq := h.sgc ok hn (c - 97).toNat (by omega)
    have i0 : (0 : Int) ≤ c - 97 := by omega
    have i1 : c - 97 < 4 := by omega
    clear h42 h45
    have HR : Hid (Rep _ _ _ _ _ _ _ _ _) := h
    have OK : Hid (Ok m) := ok
    clear h ok
    go_enter Try.func42, Try.ntmps42
    go_wp2_with (first | (go_at_call 53; refine hc.mono ?_; rintro e w' ⟨rfl, k, rfl⟩) | (go_at_call 50; refine (variable_yes c _ hva hvb).mono ?_; rintro e w' ⟨rfl, rfl⟩))
    go_region
    go_wp2
    go_ret
    refine post_yes HS2.out (Below.drew (Below.setCell (Below.setCell (Below.setCell (below_drewN (Below.refl _ _) _) geR _) geQ _) geR _)) (rep_sign1 HR.out hn (c - 97).toNat 120 k).drew
  · have HS2 : Hid (valueStep m c = digitStep { m with sign := 1 } c false 110) := by show valueStep m c = _; unfold valueStep; rw [if_pos HX.out, if_neg h42, if_neg h45, if_neg hv]
    clear h42 h45
    have HR : Hid (Rep _ _ _ _ _ _ _ _ _) := h
    have OK : Hid (Ok m) := ok
    clear h ok
    go_enter Try.func42, Try.ntmps42
    go_wp2_with (first | (go_at_call 53; refine hc.mono ?_; rintro e w' ⟨rfl, k, rfl⟩) | (go_at_call 50; refine (variable_no _ _ (by omega) (by omega) (by omega)).mono ?_; rintro e w' ⟨rfl, rfl⟩))
    refine ((((HR.out.drewN k).setRd 3 (.int .i64 1) { m with sign := 1 } rfl rfl rfl)).digit ?_ hn c false h0 h1 110).mono ?_
    · exact OK.out.sign1
    rintro e w' ⟨rfl, hb, hr⟩
    go_wp2
    go_ret
    exact post_via HS2.out ((Below.setCell (below_drewN (Below.refl _ _) _) geR _)) hb hr

end Go.Proofs.Ytadhimimdmoodaa
