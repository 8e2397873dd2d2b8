import Derived.Test.YtadhimimdmoodaaDb
namespace Go.Proofs.Ytadhimimdmoodaa
open Go.RowKit
variable {w : World} {r : Nat} {s : ByteArray} {d : Nat × Bool} {vf : Value}

theorem Dat.steps (h : Dat w r s d vf) : Dat (w.setCell ⟨r, 1, none⟩ (.int .i64 ((d.1 : Int) + 1))) r s (adv d) vf := h.step

set_option maxRecDepth 100000 in
set_option maxHeartbeats 1600000 in
theorem d_readNumber (h : Dat w r s d vf) (hs : s.size ≤ 160) (hd : d.1 ≤ s.size) (x : Int) (hx : x = 1 ∨ x = -1) :
    Calls Try.prog 70 #[.pointer (some ⟨r, 0, none⟩), .int .i64 x] w (DPost w r s vf (rNum s d x).2 (.int .i64 (rNum s d x).1)) := by
  have hp := d_peek h hs (by omega)
  obtain ⟨p0, p1⟩ := pk_range s d
  obtain ⟨q0, q1⟩ := pk_range s (adv d)
  obtain ⟨c0, c1, c2, c3, cf⟩ := h.cells
  have x0 : -1 ≤ x := by omega
  have x1 : x ≤ 1 := by omega
  have HD : Hid (Dat _ _ _ _ _) := h
  clear h
  by_cases hz : pk s d = 48 ∧ 0 < x
  · have HT : Hid (rNum s d x = (0, adv d)) := if_pos hz
    obtain ⟨hz, hx0⟩ := hz
    rw [hz] at hp
    clear hz hx
    go_enter Try.func70, Try.ntmps70
    go_wp2_with (go_at_call 39; refine hp.mono ?_; rintro e w' ⟨rfl, k, rfl⟩)
    go_ret
    rw [HT.out]
    exact ⟨rfl, (HD.out.drewN k).step, ((Tch.refl _ _).drewN _).setCell _ _⟩
  by_cases hn : pk s d < 49 ∨ 57 < pk s d
  · have HT : Hid (rNum s d x = (0, stk d)) := by show rNum s d x = _; unfold rNum; rw [if_neg hz, if_pos hn]
    by_cases h48 : pk s d = 48
    · have hx1 : x = -1 := by
        rcases hx with e | e
        · exact absurd ⟨h48, by omega⟩ hz
        · exact e
      subst hx1
      rw [h48] at hp
      clear hz hn h48 hx
      go_enter Try.func70, Try.ntmps70
      go_wp2_with (go_at_call 39; refine hp.mono ?_; rintro e w' ⟨rfl, k, rfl⟩)
      go_ret
      rw [HT.out]
      exact ⟨rfl, (HD.out.drewN k).stick, ((Tch.refl _ _).drewN _).setCell _ _⟩
    · have b48 : (pk s d == 48) = false := by simpa using h48
      clear hz h48 hx
      generalize pk s d = c at *
      rcases hn with hn | hn
      · go_enter Try.func70, Try.ntmps70
        go_wp2_with (go_at_call 39; refine hp.mono ?_; rintro e w' ⟨rfl, k, rfl⟩)
        go_ret
        rw [HT.out]
        exact ⟨rfl, (HD.out.drewN k).stick, ((Tch.refl _ _).drewN _).setCell _ _⟩
      · go_enter Try.func70, Try.ntmps70
        go_wp2_with (go_at_call 39; refine hp.mono ?_; rintro e w' ⟨rfl, k, rfl⟩)
        go_ret
        rw [HT.out]
        exact ⟨rfl, (HD.out.drewN k).stick, ((Tch.refl _ _).drewN _).setCell _ _⟩
  · have n49 : 49 ≤ pk s d := by omega
    have n57 : pk s d ≤ 57 := by omega
    have b48 : (pk s d == 48) = false := by simp; omega
    have hlt := (pk_lt (s := s) (d := d) rfl (by omega)).1
    by_cases h2 : 48 ≤ pk s (adv d) ∧ pk s (adv d) ≤ 57
    · have HT : Hid (rNum s d x = (x * (10 * (pk s d - 48) + (pk s (adv d) - 48)), adv (adv d))) := by show rNum s d x = _; unfold rNum; rw [if_neg hz, if_neg hn, if_pos h2]
      obtain ⟨m0, m1⟩ := h2
      have HW : Hid (_ = _) := (show wrap64 (x * (10 * (pk s d - 48) + (pk s (adv d) - 48))) = x * (10 * (pk s d - 48) + (pk s (adv d) - 48)) from mul_wrap _ _ x0 x1 (by omega) (by omega))
      have hp2 := fun k => d_peek (d := adv d) (HD.out.drewN k).steps hs (by show d.1 + 1 ≤ 160; omega)
      clear hz hn hx
      generalize pk s (adv d) = c2 at *
      generalize pk s d = c at *
      go_enter Try.func70, Try.ntmps70
      go_wp2_with fail
      refine hp.mono ?_
      rintro e w' ⟨rfl, k, rfl⟩
      go_wp2_with fail
      refine (hp2 k).mono ?_
      rintro e w' ⟨rfl, k2, rfl⟩
      go_wp2
      go_ret
      rw [HT.out]
      exact ⟨congrArg (fun z => Ending.returned (Value.int IntKind.i64 z)) HW.out, (((HD.out.drewN k).steps).drewN k2).step, ((((Tch.refl _ _).drewN _).setCell _ _).drewN _).setCell _ _⟩
    · have HT : Hid (rNum s d x = (x * (pk s d - 48), adv d)) := by show rNum s d x = _; unfold rNum; rw [if_neg hz, if_neg hn, if_neg h2]
      have HW : Hid (_ = _) := (show wrap64 (x * (pk s d - 48)) = x * (pk s d - 48) from mul_wrap _ _ x0 x1 (by omega) (by omega))
      have hp2 := fun k => d_peek (d := adv d) (HD.out.drewN k).steps hs (by show d.1 + 1 ≤ 160; omega)
      clear hz hn hx
      generalize pk s (adv d) = c2 at *
      generalize pk s d = c at *
      by_cases m0 : 48 ≤ c2
      · have m1 : 57 < c2 := by omega
        go_enter Try.func70, Try.ntmps70
        go_wp2_with fail
        refine hp.mono ?_
        rintro e w' ⟨rfl, k, rfl⟩
        go_wp2_with fail
        refine (hp2 k).mono ?_
        rintro e w' ⟨rfl, k2, rfl⟩
        go_wp2
        go_ret
        rw [HT.out]
        exact ⟨congrArg (fun z => Ending.returned (Value.int IntKind.i64 z)) HW.out, ((HD.out.drewN k).steps).drewN k2, (((Tch.refl _ _).drewN _).setCell _ _).drewN _⟩
      · go_enter Try.func70, Try.ntmps70
        go_wp2_with fail
        refine hp.mono ?_
        rintro e w' ⟨rfl, k, rfl⟩
        go_wp2_with fail
        refine (hp2 k).mono ?_
        rintro e w' ⟨rfl, k2, rfl⟩
        go_wp2
        go_ret
        rw [HT.out]
        exact ⟨congrArg (fun z => Ending.returned (Value.int IntKind.i64 z)) HW.out, ((HD.out.drewN k).steps).drewN k2, (((Tch.refl _ _).drewN _).setCell _ _).drewN _⟩

end Go.Proofs.Ytadhimimdmoodaa
