import Derived.Test.YtadhimimdmoodaaRe
namespace Go.Proofs.Ytadhimimdmoodaa
open Go.RowKit
variable {B : Nat} {w w' : World} {r : Nat} {m : Rd} {vs vo : Value} {P Q O : Nat → Nat}


set_option maxRecDepth 100000 in
set_option maxHeartbeats 1600000 in
theorem Rep.condF (h : Rep B w r m vs vo P Q O) (ok : Ok m) (hn : 0 < m.st.length) (_hB : B ≤ w.heap.size) (c : Int) (h0 : 0 ≤ c) (h1 : c ≤ 255) (hx : m.state = 102) :
    Calls Try.prog 43 #[.pointer (some ⟨r, 0, none⟩), .int .u8 c] w (Post B w r (condStep m c)) := by
  have hc := h.now hn ok.len
  have hcur := Rep.curs hn
  obtain ⟨c0, c1, c2, c3, c4, c5, c6, f7, f8, n9, n10, n11⟩ := h.stc _ _ hcur
  obtain ⟨r0, r1, r2, r3, r4, r5, rf⟩ := h.rdc
  have geR := h.geR
  obtain ⟨geP, geQ⟩ := h.geC hn
  obtain ⟨sg0, sg1⟩ := ok.sgn
  obtain ⟨nu0, nu1⟩ := ok.nums (cur m) (List.mem_of_getElem? hcur)
  have HC : Hid (_ = _) := hcur
  clear hcur
  rw [hx] at r0
  have HX : Hid (_ = _) := hx
  clear hx
  have nrp : r ≠ P (m.st.length - 1) := fun e => n9 e.symm
  have nrq : r ≠ Q (m.st.length - 1) := fun e => n10 e.symm
  have npq : P (m.st.length - 1) ≠ Q (m.st.length - 1) := fun e => n11 e.symm
  by_cases h60 : c = 60
  · subst h60
    have HY : Hid (condStep m 60 = some { m with state := 60 }) := by show condStep m 60 = _; unfold condStep; rw [HX.out, if_neg (by decide), if_neg (by decide), if_neg (by decide), if_neg (by decide), if_pos rfl, if_pos rfl]
    have HR : Hid (Rep _ _ _ _ _ _ _ _ _) := h
    have OK : Hid (Ok m) := ok
    clear h ok
    go_enter Try.func43, Try.ntmps43
    go_wp2_with (first | (go_at_call 53; refine hc.mono ?_; rintro e w' ⟨rfl, k, rfl⟩) | (go_at_call 50; refine (variable_no _ _ (by omega) (by omega) (by omega)).mono ?_; rintro e w' ⟨rfl, rfl⟩))
    go_ret
    exact post_yes HY.out (Below.setCell (below_drewN (Below.refl _ _) _) geR _) ((HR.out.drewN k).setRd 0 (.int .u8 60) _ rfl rfl rfl)
  have b60 : (c == 60) = false := by simpa using h60
  have HY : Hid (condStep m c = none) := by show condStep m c = _; unfold condStep; rw [HX.out, if_neg (by decide), if_neg (by decide), if_neg (by decide), if_neg (by decide), if_pos rfl, if_neg h60]
  clear h60
  have HR : Hid (Rep _ _ _ _ _ _ _ _ _) := h
  have OK : Hid (Ok m) := ok
  clear h ok
  by_cases hv : 97 ≤ c ∧ c ≤ 100
  · obtain ⟨hva, hvb⟩ := hv
    go_enter Try.func43, Try.ntmps43
    go_wp2_with (first | (go_at_call 53; refine hc.mono ?_; rintro e w' ⟨rfl, k, rfl⟩) | (go_at_call 50; refine (variable_yes c _ hva hvb).mono ?_; rintro e w' ⟨rfl, rfl⟩))
    go_ret
    exact post_no HY.out (below_drewN (Below.refl _ _) _)
  · go_enter Try.func43, Try.ntmps43
    go_wp2_with (first | (go_at_call 53; refine hc.mono ?_; rintro e w' ⟨rfl, k, rfl⟩) | (go_at_call 50; refine (variable_no _ _ (by omega) (by omega) (by omega)).mono ?_; rintro e w' ⟨rfl, rfl⟩))
    go_ret
    exact post_no HY.out (below_drewN (Below.refl _ _) _)

set_option maxRecDepth 100000 in
set_option maxHeartbeats 1600000 in
theorem Rep.condL (h : Rep B w r m vs vo P Q O) (ok : Ok m) (hn : 0 < m.st.length) (_hB : B ≤ w.heap.size) (c : Int) (h0 : 0 ≤ c) (h1 : c ≤ 255) (hx : m.state = 60) :
    Calls Try.prog 43 #[.pointer (some ⟨r, 0, none⟩), .int .u8 c] w (Post B w r (condStep m c)) := by
  have hc := h.now hn ok.len
  have hcur := Rep.curs hn
  obtain ⟨c0, c1, c2, c3, c4, c5, c6, f7, f8, n9, n10, n11⟩ := h.stc _ _ hcur
  obtain ⟨r0, r1, r2, r3, r4, r5, rf⟩ := h.rdc
  have geR := h.geR
  obtain ⟨geP, geQ⟩ := h.geC hn
  obtain ⟨sg0, sg1⟩ := ok.sgn
  obtain ⟨nu0, nu1⟩ := ok.nums (cur m) (List.mem_of_getElem? hcur)
  have HC : Hid (_ = _) := hcur
  clear hcur
  rw [hx] at r0
  have HX : Hid (_ = _) := hx
  clear hx
  have nrp : r ≠ P (m.st.length - 1) := fun e => n9 e.symm
  have nrq : r ≠ Q (m.st.length - 1) := fun e => n10 e.symm
  have npq : P (m.st.length - 1) ≠ Q (m.st.length - 1) := fun e => n11 e.symm
  by_cases h61 : c = 61
  · subst h61
    have HY : Hid (condStep m 61 = some { m with neg := false, state := 98 }) := by show condStep m 61 = _; unfold condStep; rw [HX.out, if_neg (by decide), if_neg (by decide), if_neg (by decide), if_neg (by decide), if_neg (by decide), if_pos rfl, if_pos rfl]
    have HR : Hid (Rep _ _ _ _ _ _ _ _ _) := h
    have OK : Hid (Ok m) := ok
    clear h ok
    go_enter Try.func43, Try.ntmps43
    go_wp2_with (first | (go_at_call 53; refine hc.mono ?_; rintro e w' ⟨rfl, k, rfl⟩) | (go_at_call 50; refine (variable_no _ _ (by omega) (by omega) (by omega)).mono ?_; rintro e w' ⟨rfl, rfl⟩))
    go_ret
    exact post_yes HY.out (Below.setCell (Below.setCell (below_drewN (Below.refl _ _) _) geR _) geR _) (((HR.out.drewN k).setRd 4 (.bool false) { m with neg := false } rfl rfl rfl).setRd 0 (.int .u8 98) _ rfl rfl rfl)
  have b61 : (c == 61) = false := by simpa using h61
  have HY : Hid (condStep m c = none) := by show condStep m c = _; unfold condStep; rw [HX.out, if_neg (by decide), if_neg (by decide), if_neg (by decide), if_neg (by decide), if_neg (by decide), if_pos rfl, if_neg h61]
  clear h61
  have HR : Hid (Rep _ _ _ _ _ _ _ _ _) := h
  have OK : Hid (Ok m) := ok
  clear h ok
  by_cases hv : 97 ≤ c ∧ c ≤ 100
  · obtain ⟨hva, hvb⟩ := hv
    go_enter Try.func43, Try.ntmps43
    go_wp2_with (first | (go_at_call 53; refine hc.mono ?_; rintro e w' ⟨rfl, k, rfl⟩) | (go_at_call 50; refine (variable_yes c _ hva hvb).mono ?_; rintro e w' ⟨rfl, rfl⟩))
    go_ret
    exact post_no HY.out (below_drewN (Below.refl _ _) _)
  · go_enter Try.func43, Try.ntmps43
    go_wp2_with (first | (go_at_call 53; refine hc.mono ?_; rintro e w' ⟨rfl, k, rfl⟩) | (go_at_call 50; refine (variable_no _ _ (by omega) (by omega) (by omega)).mono ?_; rintro e w' ⟨rfl, rfl⟩))
    go_ret
    exact post_no HY.out (below_drewN (Below.refl _ _) _)

set_option maxRecDepth 100000 in
set_option maxHeartbeats 1600000 in
theorem Rep.condB (h : Rep B w r m vs vo P Q O) (ok : Ok m) (hn : 0 < m.st.length) (_hB : B ≤ w.heap.size) (c : Int) (h0 : 0 ≤ c) (h1 : c ≤ 255) (hx : m.state = 98) :
    Calls Try.prog 43 #[.pointer (some ⟨r, 0, none⟩), .int .u8 c] w (Post B w r (condStep m c)) := by
  have hc := h.now hn ok.len
  have hcur := Rep.curs hn
  obtain ⟨c0, c1, c2, c3, c4, c5, c6, f7, f8, n9, n10, n11⟩ := h.stc _ _ hcur
  obtain ⟨r0, r1, r2, r3, r4, r5, rf⟩ := h.rdc
  have geR := h.geR
  obtain ⟨geP, geQ⟩ := h.geC hn
  obtain ⟨sg0, sg1⟩ := ok.sgn
  obtain ⟨nu0, nu1⟩ := ok.nums (cur m) (List.mem_of_getElem? hcur)
  have HC : Hid (_ = _) := hcur
  clear hcur
  rw [hx] at r0
  have HX : Hid (_ = _) := hx
  clear hx
  have nrp : r ≠ P (m.st.length - 1) := fun e => n9 e.symm
  have nrq : r ≠ Q (m.st.length - 1) := fun e => n10 e.symm
  have npq : P (m.st.length - 1) ≠ Q (m.st.length - 1) := fun e => n11 e.symm
  by_cases h45 : c = 45
  · subst h45
    have HY : Hid (condStep m 45 = some { m with neg := true, state := 66 }) := by show condStep m 45 = _; unfold condStep; rw [HX.out, if_neg (by decide), if_neg (by decide), if_neg (by decide), if_neg (by decide), if_neg (by decide), if_neg (by decide), if_pos rfl, if_pos rfl]
    have HR : Hid (Rep _ _ _ _ _ _ _ _ _) := h
    have OK : Hid (Ok m) := ok
    clear h ok
    go_enter Try.func43, Try.ntmps43
    go_wp2_with (first | (go_at_call 53; refine hc.mono ?_; rintro e w' ⟨rfl, k, rfl⟩) | (go_at_call 50; refine (variable_no _ _ (by omega) (by omega) (by omega)).mono ?_; rintro e w' ⟨rfl, rfl⟩))
    go_ret
    exact post_yes HY.out (Below.setCell (Below.setCell (below_drewN (Below.refl _ _) _) geR _) geR _) (((HR.out.drewN k).setRd 4 (.bool true) { m with neg := true } rfl rfl rfl).setRd 0 (.int .u8 66) _ rfl rfl rfl)
  have b45 : (c == 45) = false := by simpa using h45
  have HY : Hid (condStep m c = digitStep m c false 109) := by show condStep m c = _; unfold condStep; rw [HX.out, if_neg (by decide), if_neg (by decide), if_neg (by decide), if_neg (by decide), if_neg (by decide), if_neg (by decide), if_pos rfl, if_neg h45]
  clear h45
  by_cases hv : 97 ≤ c ∧ c ≤ 100
  · obtain ⟨hva, hvb⟩ := hv
    have HR : Hid (Rep _ _ _ _ _ _ _ _ _) := h
    have OK : Hid (Ok m) := ok
    clear h ok
    go_enter Try.func43, Try.ntmps43
    go_wp2_with (first | (go_at_call 53; refine hc.mono ?_; rintro e w' ⟨rfl, k, rfl⟩) | (go_at_call 50; refine (variable_yes c _ hva hvb).mono ?_; rintro e w' ⟨rfl, rfl⟩))
    refine ((HR.out.drewN k).digit OK.out hn c false h0 h1 109).mono ?_
    rintro e w' ⟨rfl, hb, hr⟩
    go_wp2
    go_ret
    exact post_via HY.out (below_drewN (Below.refl _ _) _) hb hr
  · have HR : Hid (Rep _ _ _ _ _ _ _ _ _) := h
    have OK : Hid (Ok m) := ok
    clear h ok
    go_enter Try.func43, Try.ntmps43
    go_wp2_with (first | (go_at_call 53; refine hc.mono ?_; rintro e w' ⟨rfl, k, rfl⟩) | (go_at_call 50; refine (variable_no _ _ (by omega) (by omega) (by omega)).mono ?_; rintro e w' ⟨rfl, rfl⟩))
    refine ((HR.out.drewN k).digit OK.out hn c false h0 h1 109).mono ?_
    rintro e w' ⟨rfl, hb, hr⟩
    go_wp2
    go_ret
    exact post_via HY.out (below_drewN (Below.refl _ _) _) hb hr

set_option maxRecDepth 100000 in
set_option maxHeartbeats 1600000 in
theorem Rep.condBB (h : Rep B w r m vs vo P Q O) (ok : Ok m) (hn : 0 < m.st.length) (_hB : B ≤ w.heap.size) (c : Int) (h0 : 0 ≤ c) (h1 : c ≤ 255) (hx : m.state = 66) :
    Calls Try.prog 43 #[.pointer (some ⟨r, 0, none⟩), .int .u8 c] w (Post B w r (condStep m c)) := by
  have hc := h.now hn ok.len
  have hcur := Rep.curs hn
  obtain ⟨c0, c1, c2, c3, c4, c5, c6, f7, f8, n9, n10, n11⟩ := h.stc _ _ hcur
  obtain ⟨r0, r1, r2, r3, r4, r5, rf⟩ := h.rdc
  have geR := h.geR
  obtain ⟨geP, geQ⟩ := h.geC hn
  obtain ⟨sg0, sg1⟩ := ok.sgn
  obtain ⟨nu0, nu1⟩ := ok.nums (cur m) (List.mem_of_getElem? hcur)
  have HC : Hid (_ = _) := hcur
  clear hcur
  rw [hx] at r0
  have HX : Hid (_ = _) := hx
  clear hx
  have nrp : r ≠ P (m.st.length - 1) := fun e => n9 e.symm
  have nrq : r ≠ Q (m.st.length - 1) := fun e => n10 e.symm
  have npq : P (m.st.length - 1) ≠ Q (m.st.length - 1) := fun e => n11 e.symm
  have HY : Hid (condStep m c = digitStep m c true 109) := by show condStep m c = _; unfold condStep; rw [HX.out, if_neg (by decide), if_neg (by decide), if_neg (by decide), if_neg (by decide), if_neg (by decide), if_neg (by decide), if_neg (by decide), if_pos rfl]
  by_cases hv : 97 ≤ c ∧ c ≤ 100
  · obtain ⟨hva, hvb⟩ := hv
    have HR : Hid (Rep _ _ _ _ _ _ _ _ _) := h
    have OK : Hid (Ok m) := ok
    clear h ok
    go_enter Try.func43, Try.ntmps43
    go_wp2_with (first | (go_at_call 53; refine hc.mono ?_; rintro e w' ⟨rfl, k, rfl⟩) | (go_at_call 50; refine (variable_yes c _ hva hvb).mono ?_; rintro e w' ⟨rfl, rfl⟩))
    refine ((HR.out.drewN k).digit OK.out hn c true h0 h1 109).mono ?_
    rintro e w' ⟨rfl, hb, hr⟩
    go_wp2
    go_ret
    exact post_via HY.out (below_drewN (Below.refl _ _) _) hb hr
  · have HR : Hid (Rep _ _ _ _ _ _ _ _ _) := h
    have OK : Hid (Ok m) := ok
    clear h ok
    go_enter Try.func43, Try.ntmps43
    go_wp2_with (first | (go_at_call 53; refine hc.mono ?_; rintro e w' ⟨rfl, k, rfl⟩) | (go_at_call 50; refine (variable_no _ _ (by omega) (by omega) (by omega)).mono ?_; rintro e w' ⟨rfl, rfl⟩))
    refine ((HR.out.drewN k).digit OK.out hn c true h0 h1 109).mono ?_
    rintro e w' ⟨rfl, hb, hr⟩
    go_wp2
    go_ret
    exact post_via HY.out (below_drewN (Below.refl _ _) _) hb hr

end Go.Proofs.Ytadhimimdmoodaa
