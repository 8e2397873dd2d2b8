import Derived.Test.YtadhimimdmoodaaRe
namespace Go.Proofs.Ytadhimimdmoodaa
open Go.RowKit
variable {B : Nat} {w w' : World} {r : Nat} {m : Rd} {vs vo : Value} {P Q O : Nat → Nat}


set_option maxRecDepth 100000 in
set_option maxHeartbeats 1600000 in
theorem Rep.valueY (h : Rep B w r m vs vo P Q O) (ok : Ok m) (hn : 0 < m.st.length) (c : Int) (h0 : 0 ≤ c) (h1 : c ≤ 255) (hx : m.state = 121) :
    Calls Try.prog 42 #[.pointer (some ⟨r, 0, none⟩), .int .u8 c] w (Post B w r (valueStep m c)) := by
  have hc := h.now hn ok.len
  have hcur := Rep.curs hn
  obtain ⟨c0, c1, c2, c3, c4, c5, c6, f7, f8, n9, n10, n11⟩ := h.stc _ _ hcur
  obtain ⟨r0, r1, r2, r3, r4, r5, rf⟩ := h.rdc
  have geR := h.geR
  obtain ⟨geP, geQ⟩ := h.geC hn
  obtain ⟨sg0, sg1⟩ := ok.sgn
  obtain ⟨nu0, nu1⟩ := ok.nums (cur m) (List.mem_of_getElem? hcur)
  have HC : Hid (_ = _) := hcur
  clear hcur
  rw [hx] at r0
  have HX : Hid (_ = _) := hx
  clear hx
  have nrp : r ≠ P (m.st.length - 1) := fun e => n9 e.symm
  have nrq : r ≠ Q (m.st.length - 1) := fun e => n10 e.symm
  have npq : P (m.st.length - 1) ≠ Q (m.st.length - 1) := fun e => n11 e.symm
  have HS2 : Hid (valueStep m c = digitStep m c false 110) := by show valueStep m c = _; unfold valueStep; rw [HX.out, if_neg (by decide), if_neg (by decide), if_neg (by decide), if_pos rfl]
  by_cases hv : 97 ≤ c ∧ c ≤ 100
  · obtain ⟨hva, hvb⟩ := hv
    have HR : Hid (Rep _ _ _ _ _ _ _ _ _) := h
    have OK : Hid (Ok m) := ok
    clear h ok
    go_enter Try.func42, Try.ntmps42
    go_wp2_with (first | (go_at_call 53; refine hc.mono ?_; rintro e w' ⟨rfl, k, rfl⟩) | (go_at_call 50; refine (variable_yes c _ hva hvb).mono ?_; rintro e w' ⟨rfl, rfl⟩))
    refine ((HR.out.drewN k).digit OK.out hn c false h0 h1 110).mono ?_
    rintro e w' ⟨rfl, hb, hr⟩
    go_wp2
    go_ret
    exact post_via HS2.out ((below_drewN (Below.refl _ _) _)) hb hr
  · have HR : Hid (Rep _ _ _ _ _ _ _ _ _) := h
    have OK : Hid (Ok m) := ok
    clear h ok
    go_enter Try.func42, Try.ntmps42
    go_wp2_with (first | (go_at_call 53; refine hc.mono ?_; rintro e w' ⟨rfl, k, rfl⟩) | (go_at_call 50; refine (variable_no _ _ (by omega) (by omega) (by omega)).mono ?_; rintro e w' ⟨rfl, rfl⟩))
    refine ((HR.out.drewN k).digit OK.out hn c false h0 h1 110).mono ?_
    rintro e w' ⟨rfl, hb, hr⟩
    go_wp2
    go_ret
    exact post_via HS2.out ((below_drewN (Below.refl _ _) _)) hb hr
set_option maxRecDepth 100000 in
set_option maxHeartbeats 1600000 in
theorem Rep.valueN (h : Rep B w r m vs vo P Q O) (ok : Ok m) (hn : 0 < m.st.length) (c : Int) (h0 : 0 ≤ c) (h1 : c ≤ 255) (hx : m.state = 110) :
    Calls Try.prog 42 #[.pointer (some ⟨r, 0, none⟩), .int .u8 c] w (Post B w r (valueStep m c)) := by
  have hc := h.now hn ok.len
  have hcur := Rep.curs hn
  obtain ⟨c0, c1, c2, c3, c4, c5, c6, f7, f8, n9, n10, n11⟩ := h.stc _ _ hcur
  obtain ⟨r0, r1, r2, r3, r4, r5, rf⟩ := h.rdc
  have geR := h.geR
  obtain ⟨geP, geQ⟩ := h.geC hn
  obtain ⟨sg0, sg1⟩ := ok.sgn
  obtain ⟨nu0, nu1⟩ := ok.nums (cur m) (List.mem_of_getElem? hcur)
  have HC : Hid (_ = _) := hcur
  clear hcur
  rw [hx] at r0
  have HX : Hid (_ = _) := hx
  clear hx
  have nrp : r ≠ P (m.st.length - 1) := fun e => n9 e.symm
  have nrq : r ≠ Q (m.st.length - 1) := fun e => n10 e.symm
  have npq : P (m.st.length - 1) ≠ Q (m.st.length - 1) := fun e => n11 e.symm
  have hmw := mul_wrap _ _ sg0 sg1 nu0 nu1
  by_cases h59 : c = 59
  · subst h59
    have HS2 : Hid (valueStep m 59 = some (valueEnd m)) := by show valueStep m 59 = _; unfold valueStep; rw [HX.out, if_neg (by decide), if_neg (by decide), if_neg (by decide), if_neg (by decide), if_pos rfl]
    have HR : Hid (Rep _ _ _ _ _ _ _ _ _) := h
    have OK : Hid (Ok m) := ok
    clear h ok
    go_enter Try.func42, Try.ntmps42
    go_wp2_with (first | (go_at_call 53; refine hc.mono ?_; rintro e w' ⟨rfl, k, rfl⟩) | (go_at_call 50; refine (variable_no _ _ (by omega) (by omega) (by omega)).mono ?_; rintro e w' ⟨rfl, rfl⟩))
    go_region
    go_wp2
    go_ret
    exact post_yes HS2.out (Below.setCell (Below.setCell (below_drewN (Below.refl _ _) _) geP _) geR _) (((HR.out.drewN (k + 1)).setC hn { cur m with num := m.sign * (cur m).num } 4 (.int .i64 (m.sign * (cur m).num)) rfl rfl).setRd 0 (.int .u8 115) (valueEnd m) rfl rfl rfl)
  have b59 : (c == 59) = false := by simpa using h59
  have HS2 : Hid (valueStep m c = digitStep m c false 110) := by show valueStep m c = _; unfold valueStep; rw [HX.out, if_neg (by decide), if_neg (by decide), if_neg (by decide), if_neg (by decide), if_neg h59]
  clear h59 hmw
  by_cases hv : 97 ≤ c ∧ c ≤ 100
  · obtain ⟨hva, hvb⟩ := hv
    have HR : Hid (Rep _ _ _ _ _ _ _ _ _) := h
    have OK : Hid (Ok m) := ok
    clear h ok
    go_enter Try.func42, Try.ntmps42
    go_wp2_with (first | (go_at_call 53; refine hc.mono ?_; rintro e w' ⟨rfl, k, rfl⟩) | (go_at_call 50; refine (variable_yes c _ hva hvb).mono ?_; rintro e w' ⟨rfl, rfl⟩))
    refine ((HR.out.drewN k).digit OK.out hn c false h0 h1 110).mono ?_
    rintro e w' ⟨rfl, hb, hr⟩
    go_wp2
    go_ret
    exact post_via HS2.out ((below_drewN (Below.refl _ _) _)) hb hr
  · have HR : Hid (Rep _ _ _ _ _ _ _ _ _) := h
    have OK : Hid (Ok m) := ok
    clear h ok
    go_enter Try.func42, Try.ntmps42
    go_wp2_with (first | (go_at_call 53; refine hc.mono ?_; rintro e w' ⟨rfl, k, rfl⟩) | (go_at_call 50; refine (variable_no _ _ (by omega) (by omega) (by omega)).mono ?_; rintro e w' ⟨rfl, rfl⟩))
    refine ((HR.out.drewN k).digit OK.out hn c false h0 h1 110).mono ?_
    rintro e w' ⟨rfl, hb, hr⟩
    go_wp2
    go_ret
    exact post_via HS2.out ((below_drewN (Below.refl _ _) _)) hb hr

end Go.Proofs.Ytadhimimdmoodaa
