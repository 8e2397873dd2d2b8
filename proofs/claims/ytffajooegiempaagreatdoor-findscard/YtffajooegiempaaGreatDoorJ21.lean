import Derived.Test.YtffajooegiempaaGreatDoorJ20
import Derived.Deep.RegionLaw
import Derived.BigRegion
namespace Go.Proofs.YtffajooegiempaaGreatDoor
open Go.RowKit
variable {B : Nat} {w w' : World} {r : Nat} {m : Rd} {vs vo : Value} {P Q O : Nat → Nat}


set_option maxRecDepth 100000 in
set_option maxHeartbeats 1600000 in
theorem Rep.condD (h : Rep B w r m vs vo P Q O) (ok : Ok m) (hn : 0 < m.st.length) (_hB : B ≤ w.heap.size) (c : Int) (h0 : 0 ≤ c) (h1 : c ≤ 255) (hx : m.state = 100) :
    Calls Tryz.prog 94 #[.pointer (some ⟨r, 0, none⟩), .int .u8 c] w (Post B w r (condStep m c)) := by
  have hc := h.now hn ok.len
  have hcur := Rep.curs hn
  obtain ⟨c0, c1, c2, c3, c4, c5, c6, f7, f8, n9, n10, n11⟩ := h.stc _ _ hcur
  obtain ⟨r0, r1, r2, r3, r4, r5, rf⟩ := h.rdc
  have geR := h.geR
  obtain ⟨geP, geQ⟩ := h.geC hn
  obtain ⟨sg0, sg1⟩ := ok.sgn
  obtain ⟨nu0, nu1⟩ := ok.nums (cur m) (List.mem_of_getElem? hcur)
  have HC : Hid (_ = _) := hcur
  clear hcur
  rw [hx] at r0
  have HX : Hid (_ = _) := hx
  clear hx
  have nrp : r ≠ P (m.st.length - 1) := fun e => n9 e.symm
  have nrq : r ≠ Q (m.st.length - 1) := fun e => n10 e.symm
  have npq : P (m.st.length - 1) ≠ Q (m.st.length - 1) := fun e => n11 e.symm
  by_cases h43 : c = 43
  · subst h43
    have HY : Hid (condStep m 43 = some { m with sign := 1, state := 101 }) := by show condStep m 43 = _; unfold condStep; rw [HX.out, if_neg (by decide), if_neg (by decide), if_pos rfl, if_pos rfl]
    have HR : Hid (Rep _ _ _ _ _ _ _ _ _) := h
    have OK : Hid (Ok m) := ok
    clear h ok
    go_enter Tryz.func94, Tryz.ntmps94
    go_wp2_with (first | (go_at_call 126; refine hc.mono ?_; rintro e w' ⟨rfl, k, rfl⟩) | (go_at_call 123; refine (variable_no _ _ (by omega) (by omega) (by omega)).mono ?_; rintro e w' ⟨rfl, rfl⟩))
    go_ret
    exact post_yes HY.out (Below.setCell (Below.setCell (below_drewN (Below.refl _ _) _) geR _) geR _) (((HR.out.drewN k).setRd 3 (.int .i64 1) { m with sign := 1 } rfl rfl rfl).setRd 0 (.int .u8 101) _ rfl rfl rfl)
  have b43 : (c == 43) = false := by simpa using h43
  by_cases h45 : c = 45
  · subst h45
    have HY : Hid (condStep m 45 = some { m with sign := -1, state := 101 }) := by show condStep m 45 = _; unfold condStep; rw [HX.out, if_neg (by decide), if_neg (by decide), if_pos rfl, if_neg (by decide), if_pos rfl]
    clear h43 b43
    have HR : Hid (Rep _ _ _ _ _ _ _ _ _) := h
    have OK : Hid (Ok m) := ok
    clear h ok
    go_enter Tryz.func94, Tryz.ntmps94
    go_wp2_with (first | (go_at_call 126; refine hc.mono ?_; rintro e w' ⟨rfl, k, rfl⟩) | (go_at_call 123; refine (variable_no _ _ (by omega) (by omega) (by omega)).mono ?_; rintro e w' ⟨rfl, rfl⟩))
    go_ret
    exact post_yes HY.out (Below.setCell (Below.setCell (Below.setCell (below_drewN (Below.refl _ _) _) geR _) geR _) geR _) ((((HR.out.drewN k).setRd 3 (.int .i64 1) { m with sign := 1 } rfl rfl rfl).setRd 3 (.int .i64 (-1)) { m with sign := -1 } rfl rfl rfl).setRd 0 (.int .u8 101) _ rfl rfl rfl)
  have b45 : (c == 45) = false := by simpa using h45
  by_cases h60 : c = 60
  · subst h60
    have HY : Hid (condStep m 60 = some { m with state := 60 }) := by show condStep m 60 = _; unfold condStep; rw [HX.out, if_neg (by decide), if_neg (by decide), if_pos rfl, if_neg (by decide), if_neg (by decide), if_pos rfl]
    clear h43 b43 h45 b45
    have HR : Hid (Rep _ _ _ _ _ _ _ _ _) := h
    have OK : Hid (Ok m) := ok
    clear h ok
    go_enter Tryz.func94, Tryz.ntmps94
    go_wp2_with (first | (go_at_call 126; refine hc.mono ?_; rintro e w' ⟨rfl, k, rfl⟩) | (go_at_call 123; refine (variable_no _ _ (by omega) (by omega) (by omega)).mono ?_; rintro e w' ⟨rfl, rfl⟩))
    go_ret
    exact post_yes HY.out (Below.setCell (below_drewN (Below.refl _ _) _) geR _) ((HR.out.drewN k).setRd 0 (.int .u8 60) _ rfl rfl rfl)
  have b60 : (c == 60) = false := by simpa using h60
  have HY : Hid (condStep m c = none) := by show condStep m c = _; unfold condStep; rw [HX.out, if_neg (by decide), if_neg (by decide), if_pos rfl, if_neg h43, if_neg h45, if_neg h60]
  clear h43 h45 h60
  have HR : Hid (Rep _ _ _ _ _ _ _ _ _) := h
  have OK : Hid (Ok m) := ok
  clear h ok
  by_cases hv : 97 ≤ c ∧ c ≤ 100
  · obtain ⟨hva, hvb⟩ := hv
    go_enter Tryz.func94, Tryz.ntmps94
    go_wp2_with (first | (go_at_call 126; refine hc.mono ?_; rintro e w' ⟨rfl, k, rfl⟩) | (go_at_call 123; refine (variable_yes c _ hva hvb).mono ?_; rintro e w' ⟨rfl, rfl⟩))
    go_ret
    exact post_no HY.out (below_drewN (Below.refl _ _) _)
  · go_enter Tryz.func94, Tryz.ntmps94
    go_wp2_with (first | (go_at_call 126; refine hc.mono ?_; rintro e w' ⟨rfl, k, rfl⟩) | (go_at_call 123; refine (variable_no _ _ (by omega) (by omega) (by omega)).mono ?_; rintro e w' ⟨rfl, rfl⟩))
    go_ret
    exact post_no HY.out (below_drewN (Below.refl _ _) _)

set_option maxRecDepth 100000 in
set_option maxHeartbeats 1600000 in
theorem Rep.condE (h : Rep B w r m vs vo P Q O) (ok : Ok m) (hn : 0 < m.st.length) (_hB : B ≤ w.heap.size) (c : Int) (h0 : 0 ≤ c) (h1 : c ≤ 255) (hx : m.state = 101) :
    Calls Tryz.prog 94 #[.pointer (some ⟨r, 0, none⟩), .int .u8 c] w (Post B w r (condStep m c)) := by
  have hc := h.now hn ok.len
  have hcur := Rep.curs hn
  obtain ⟨c0, c1, c2, c3, c4, c5, c6, f7, f8, n9, n10, n11⟩ := h.stc _ _ hcur
  obtain ⟨r0, r1, r2, r3, r4, r5, rf⟩ := h.rdc
  have geR := h.geR
  obtain ⟨geP, geQ⟩ := h.geC hn
  obtain ⟨sg0, sg1⟩ := ok.sgn
  obtain ⟨nu0, nu1⟩ := ok.nums (cur m) (List.mem_of_getElem? hcur)
  have HC : Hid (_ = _) := hcur
  clear hcur
  rw [hx] at r0
  have HX : Hid (_ = _) := hx
  clear hx
  have nrp : r ≠ P (m.st.length - 1) := fun e => n9 e.symm
  have nrq : r ≠ Q (m.st.length - 1) := fun e => n10 e.symm
  have npq : P (m.st.length - 1) ≠ Q (m.st.length - 1) := fun e => n11 e.symm
  by_cases hv : 97 ≤ c ∧ c ≤ 100
  · by_cases hz : (cur m).sg.getD (c - 97).toNat 0 = 0
    · have HY : Hid (condStep m c = some (signTo m (c - 97).toNat m.sign 102)) := by show condStep m c = _; unfold condStep; rw [HX.out, if_neg (by decide), if_neg (by decide), if_neg (by decide), if_pos rfl, if_pos hv, if_pos hz]
      obtain ⟨hva, hvb⟩ := hv
      have hq := h.sgc ok hn (c - 97).toNat (by omega)
      rw [hz] at hq
      have i0 : (0 : Int) ≤ c - 97 := by omega
      have i1 : c - 97 < 4 := by omega
      clear hz
      have HR : Hid (Rep _ _ _ _ _ _ _ _ _) := h
      have OK : Hid (Ok m) := ok
      clear h ok
      go_enter Tryz.func94, Tryz.ntmps94
      go_wp2_with (first | (go_at_call 126; refine hc.mono ?_; rintro e w' ⟨rfl, k, rfl⟩) | (go_at_call 123; refine (variable_yes c _ hva hvb).mono ?_; rintro e w' ⟨rfl, rfl⟩))
      go_region
      go_wp2
      go_ret
      exact post_yes HY.out (Below.setCell (Below.setCell (below_drewN (Below.refl _ _) _) geQ _) geR _) (rep_sign HR.out hn (c - 97).toNat 102 (k + 1))
    · have HY : Hid (condStep m c = none) := by show condStep m c = _; unfold condStep; rw [HX.out, if_neg (by decide), if_neg (by decide), if_neg (by decide), if_pos rfl, if_pos hv, if_neg hz]
      obtain ⟨hva, hvb⟩ := hv
      have hq := h.sgc ok hn (c - 97).toNat (by omega)
      have i0 : (0 : Int) ≤ c - 97 := by omega
      have i1 : c - 97 < 4 := by omega
      generalize (cur m).sg.getD (c - 97).toNat 0 = y at *
      have bz : (y != 0) = true := by simpa using hz
      clear hz
      have HR : Hid (Rep _ _ _ _ _ _ _ _ _) := h
      have OK : Hid (Ok m) := ok
      clear h ok
      go_enter Tryz.func94, Tryz.ntmps94
      go_wp2_with (first | (go_at_call 126; refine hc.mono ?_; rintro e w' ⟨rfl, k, rfl⟩) | (go_at_call 123; refine (variable_yes c _ hva hvb).mono ?_; rintro e w' ⟨rfl, rfl⟩))
      go_ret
      exact post_no HY.out (below_drewN (Below.refl _ _) _)
  have HY : Hid (condStep m c = none) := by show condStep m c = _; unfold condStep; rw [HX.out, if_neg (by decide), if_neg (by decide), if_neg (by decide), if_pos rfl, if_neg hv]
  have HR : Hid (Rep _ _ _ _ _ _ _ _ _) := h
  have OK : Hid (Ok m) := ok
  clear h ok
  go_enter Tryz.func94, Tryz.ntmps94
  go_wp2_with (first | (go_at_call 126; refine hc.mono ?_; rintro e w' ⟨rfl, k, rfl⟩) | (go_at_call 123; refine (variable_no _ _ (by omega) (by omega) (by omega)).mono ?_; rintro e w' ⟨rfl, rfl⟩))
  go_ret
  exact post_no HY.out (below_drewN (Below.refl _ _) _)

end Go.Proofs.YtffajooegiempaaGreatDoor

namespace Go.Proofs.YtffajooegiempaaGreatDoor
open Go.RowKit
variable {B : Nat} {w w' : World} {r : Nat} {m : Rd} {vs vo : Value} {P Q O : Nat → Nat}


set_option maxRecDepth 100000 in
set_option maxHeartbeats 1600000 in
theorem Rep.condF (h : Rep B w r m vs vo P Q O) (ok : Ok m) (hn : 0 < m.st.length) (_hB : B ≤ w.heap.size) (c : Int) (h0 : 0 ≤ c) (h1 : c ≤ 255) (hx : m.state = 102) :
    Calls Tryz.prog 94 #[.pointer (some ⟨r, 0, none⟩), .int .u8 c] w (Post B w r (condStep m c)) := by
  have hc := h.now hn ok.len
  have hcur := Rep.curs hn
  obtain ⟨c0, c1, c2, c3, c4, c5, c6, f7, f8, n9, n10, n11⟩ := h.stc _ _ hcur
  obtain ⟨r0, r1, r2, r3, r4, r5, rf⟩ := h.rdc
  have geR := h.geR
  obtain ⟨geP, geQ⟩ := h.geC hn
  obtain ⟨sg0, sg1⟩ := ok.sgn
  obtain ⟨nu0, nu1⟩ := ok.nums (cur m) (List.mem_of_getElem? hcur)
  have HC : Hid (_ = _) := hcur
  clear hcur
  rw [hx] at r0
  have HX : Hid (_ = _) := hx
  clear hx
  have nrp : r ≠ P (m.st.length - 1) := fun e => n9 e.symm
  have nrq : r ≠ Q (m.st.length - 1) := fun e => n10 e.symm
  have npq : P (m.st.length - 1) ≠ Q (m.st.length - 1) := fun e => n11 e.symm
  by_cases h60 : c = 60
  · subst h60
    have HY : Hid (condStep m 60 = some { m with state := 60 }) := by show condStep m 60 = _; unfold condStep; rw [HX.out, if_neg (by decide), if_neg (by decide), if_neg (by decide), if_neg (by decide), if_pos rfl, if_pos rfl]
    have HR : Hid (Rep _ _ _ _ _ _ _ _ _) := h
    have OK : Hid (Ok m) := ok
    clear h ok
    go_enter Tryz.func94, Tryz.ntmps94
    go_wp2_with (first | (go_at_call 126; refine hc.mono ?_; rintro e w' ⟨rfl, k, rfl⟩) | (go_at_call 123; refine (variable_no _ _ (by omega) (by omega) (by omega)).mono ?_; rintro e w' ⟨rfl, rfl⟩))
    go_ret
    exact post_yes HY.out (Below.setCell (below_drewN (Below.refl _ _) _) geR _) ((HR.out.drewN k).setRd 0 (.int .u8 60) _ rfl rfl rfl)
  have b60 : (c == 60) = false := by simpa using h60
  have HY : Hid (condStep m c = none) := by show condStep m c = _; unfold condStep; rw [HX.out, if_neg (by decide), if_neg (by decide), if_neg (by decide), if_neg (by decide), if_pos rfl, if_neg h60]
  clear h60
  have HR : Hid (Rep _ _ _ _ _ _ _ _ _) := h
  have OK : Hid (Ok m) := ok
  clear h ok
  by_cases hv : 97 ≤ c ∧ c ≤ 100
  · obtain ⟨hva, hvb⟩ := hv
    go_enter Tryz.func94, Tryz.ntmps94
    go_wp2_with (first | (go_at_call 126; refine hc.mono ?_; rintro e w' ⟨rfl, k, rfl⟩) | (go_at_call 123; refine (variable_yes c _ hva hvb).mono ?_; rintro e w' ⟨rfl, rfl⟩))
    go_ret
    exact post_no HY.out (below_drewN (Below.refl _ _) _)
  · go_enter Tryz.func94, Tryz.ntmps94
    go_wp2_with (first | (go_at_call 126; refine hc.mono ?_; rintro e w' ⟨rfl, k, rfl⟩) | (go_at_call 123; refine (variable_no _ _ (by omega) (by omega) (by omega)).mono ?_; rintro e w' ⟨rfl, rfl⟩))
    go_ret
    exact post_no HY.out (below_drewN (Below.refl _ _) _)

set_option maxRecDepth 100000 in
set_option maxHeartbeats 1600000 in
theorem Rep.condL (h : Rep B w r m vs vo P Q O) (ok : Ok m) (hn : 0 < m.st.length) (_hB : B ≤ w.heap.size) (c : Int) (h0 : 0 ≤ c) (h1 : c ≤ 255) (hx : m.state = 60) :
    Calls Tryz.prog 94 #[.pointer (some ⟨r, 0, none⟩), .int .u8 c] w (Post B w r (condStep m c)) := by
  have hc := h.now hn ok.len
  have hcur := Rep.curs hn
  obtain ⟨c0, c1, c2, c3, c4, c5, c6, f7, f8, n9, n10, n11⟩ := h.stc _ _ hcur
  obtain ⟨r0, r1, r2, r3, r4, r5, rf⟩ := h.rdc
  have geR := h.geR
  obtain ⟨geP, geQ⟩ := h.geC hn
  obtain ⟨sg0, sg1⟩ := ok.sgn
  obtain ⟨nu0, nu1⟩ := ok.nums (cur m) (List.mem_of_getElem? hcur)
  have HC : Hid (_ = _) := hcur
  clear hcur
  rw [hx] at r0
  have HX : Hid (_ = _) := hx
  clear hx
  have nrp : r ≠ P (m.st.length - 1) := fun e => n9 e.symm
  have nrq : r ≠ Q (m.st.length - 1) := fun e => n10 e.symm
  have npq : P (m.st.length - 1) ≠ Q (m.st.length - 1) := fun e => n11 e.symm
  by_cases h61 : c = 61
  · subst h61
    have HY : Hid (condStep m 61 = some { m with neg := false, state := 98 }) := by show condStep m 61 = _; unfold condStep; rw [HX.out, if_neg (by decide), if_neg (by decide), if_neg (by decide), if_neg (by decide), if_neg (by decide), if_pos rfl, if_pos rfl]
    have HR : Hid (Rep _ _ _ _ _ _ _ _ _) := h
    have OK : Hid (Ok m) := ok
    clear h ok
    go_enter Tryz.func94, Tryz.ntmps94
    go_wp2_with (first | (go_at_call 126; refine hc.mono ?_; rintro e w' ⟨rfl, k, rfl⟩) | (go_at_call 123; refine (variable_no _ _ (by omega) (by omega) (by omega)).mono ?_; rintro e w' ⟨rfl, rfl⟩))
    go_ret
    exact post_yes HY.out (Below.setCell (Below.setCell (below_drewN (Below.refl _ _) _) geR _) geR _) (((HR.out.drewN k).setRd 4 (.bool false) { m with neg := false } rfl rfl rfl).setRd 0 (.int .u8 98) _ rfl rfl rfl)
  have b61 : (c == 61) = false := by simpa using h61
  have HY : Hid (condStep m c = none) := by show condStep m c = _; unfold condStep; rw [HX.out, if_neg (by decide), if_neg (by decide), if_neg (by decide), if_neg (by decide), if_neg (by decide), if_pos rfl, if_neg h61]
  clear h61
  have HR : Hid (Rep _ _ _ _ _ _ _ _ _) := h
  have OK : Hid (Ok m) := ok
  clear h ok
  by_cases hv : 97 ≤ c ∧ c ≤ 100
  · obtain ⟨hva, hvb⟩ := hv
    go_enter Tryz.func94, Tryz.ntmps94
    go_wp2_with (first | (go_at_call 126; refine hc.mono ?_; rintro e w' ⟨rfl, k, rfl⟩) | (go_at_call 123; refine (variable_yes c _ hva hvb).mono ?_; rintro e w' ⟨rfl, rfl⟩))
    go_ret
    exact post_no HY.out (below_drewN (Below.refl _ _) _)
  · go_enter Tryz.func94, Tryz.ntmps94
    go_wp2_with (first | (go_at_call 126; refine hc.mono ?_; rintro e w' ⟨rfl, k, rfl⟩) | (go_at_call 123; refine (variable_no _ _ (by omega) (by omega) (by omega)).mono ?_; rintro e w' ⟨rfl, rfl⟩))
    go_ret
    exact post_no HY.out (below_drewN (Below.refl _ _) _)

set_option maxRecDepth 100000 in
set_option maxHeartbeats 1600000 in
theorem Rep.condB (h : Rep B w r m vs vo P Q O) (ok : Ok m) (hn : 0 < m.st.length) (_hB : B ≤ w.heap.size) (c : Int) (h0 : 0 ≤ c) (h1 : c ≤ 255) (hx : m.state = 98) :
    Calls Tryz.prog 94 #[.pointer (some ⟨r, 0, none⟩), .int .u8 c] w (Post B w r (condStep m c)) := by
  have hc := h.now hn ok.len
  have hcur := Rep.curs hn
  obtain ⟨c0, c1, c2, c3, c4, c5, c6, f7, f8, n9, n10, n11⟩ := h.stc _ _ hcur
  obtain ⟨r0, r1, r2, r3, r4, r5, rf⟩ := h.rdc
  have geR := h.geR
  obtain ⟨geP, geQ⟩ := h.geC hn
  obtain ⟨sg0, sg1⟩ := ok.sgn
  obtain ⟨nu0, nu1⟩ := ok.nums (cur m) (List.mem_of_getElem? hcur)
  have HC : Hid (_ = _) := hcur
  clear hcur
  rw [hx] at r0
  have HX : Hid (_ = _) := hx
  clear hx
  have nrp : r ≠ P (m.st.length - 1) := fun e => n9 e.symm
  have nrq : r ≠ Q (m.st.length - 1) := fun e => n10 e.symm
  have npq : P (m.st.length - 1) ≠ Q (m.st.length - 1) := fun e => n11 e.symm
  by_cases h45 : c = 45
  · subst h45
    have HY : Hid (condStep m 45 = some { m with neg := true, state := 66 }) := by show condStep m 45 = _; unfold condStep; rw [HX.out, if_neg (by decide), if_neg (by decide), if_neg (by decide), if_neg (by decide), if_neg (by decide), if_neg (by decide), if_pos rfl, if_pos rfl]
    have HR : Hid (Rep _ _ _ _ _ _ _ _ _) := h
    have OK : Hid (Ok m) := ok
    clear h ok
    go_enter Tryz.func94, Tryz.ntmps94
    go_wp2_with (first | (go_at_call 126; refine hc.mono ?_; rintro e w' ⟨rfl, k, rfl⟩) | (go_at_call 123; refine (variable_no _ _ (by omega) (by omega) (by omega)).mono ?_; rintro e w' ⟨rfl, rfl⟩))
    go_ret
    exact post_yes HY.out (Below.setCell (Below.setCell (below_drewN (Below.refl _ _) _) geR _) geR _) (((HR.out.drewN k).setRd 4 (.bool true) { m with neg := true } rfl rfl rfl).setRd 0 (.int .u8 66) _ rfl rfl rfl)
  have b45 : (c == 45) = false := by simpa using h45
  have HY : Hid (condStep m c = digitStep m c false 109) := by show condStep m c = _; unfold condStep; rw [HX.out, if_neg (by decide), if_neg (by decide), if_neg (by decide), if_neg (by decide), if_neg (by decide), if_neg (by decide), if_pos rfl, if_neg h45]
  clear h45
  by_cases hv : 97 ≤ c ∧ c ≤ 100
  · obtain ⟨hva, hvb⟩ := hv
    have HR : Hid (Rep _ _ _ _ _ _ _ _ _) := h
    have OK : Hid (Ok m) := ok
    clear h ok
    go_enter Tryz.func94, Tryz.ntmps94
    go_wp2_with (first | (go_at_call 126; refine hc.mono ?_; rintro e w' ⟨rfl, k, rfl⟩) | (go_at_call 123; refine (variable_yes c _ hva hvb).mono ?_; rintro e w' ⟨rfl, rfl⟩))
    refine ((HR.out.drewN k).digit OK.out hn c false h0 h1 109).mono ?_
    rintro e w' ⟨rfl, hb, hr⟩
    go_wp2
    go_ret
    exact post_via HY.out (below_drewN (Below.refl _ _) _) hb hr
  · have HR : Hid (Rep _ _ _ _ _ _ _ _ _) := h
    have OK : Hid (Ok m) := ok
    clear h ok
    go_enter Tryz.func94, Tryz.ntmps94
    go_wp2_with (first | (go_at_call 126; refine hc.mono ?_; rintro e w' ⟨rfl, k, rfl⟩) | (go_at_call 123; refine (variable_no _ _ (by omega) (by omega) (by omega)).mono ?_; rintro e w' ⟨rfl, rfl⟩))
    refine ((HR.out.drewN k).digit OK.out hn c false h0 h1 109).mono ?_
    rintro e w' ⟨rfl, hb, hr⟩
    go_wp2
    go_ret
    exact post_via HY.out (below_drewN (Below.refl _ _) _) hb hr

set_option maxRecDepth 100000 in
set_option maxHeartbeats 1600000 in
theorem Rep.condBB (h : Rep B w r m vs vo P Q O) (ok : Ok m) (hn : 0 < m.st.length) (_hB : B ≤ w.heap.size) (c : Int) (h0 : 0 ≤ c) (h1 : c ≤ 255) (hx : m.state = 66) :
    Calls Tryz.prog 94 #[.pointer (some ⟨r, 0, none⟩), .int .u8 c] w (Post B w r (condStep m c)) := by
  have hc := h.now hn ok.len
  have hcur := Rep.curs hn
  obtain ⟨c0, c1, c2, c3, c4, c5, c6, f7, f8, n9, n10, n11⟩ := h.stc _ _ hcur
  obtain ⟨r0, r1, r2, r3, r4, r5, rf⟩ := h.rdc
  have geR := h.geR
  obtain ⟨geP, geQ⟩ := h.geC hn
  obtain ⟨sg0, sg1⟩ := ok.sgn
  obtain ⟨nu0, nu1⟩ := ok.nums (cur m) (List.mem_of_getElem? hcur)
  have HC : Hid (_ = _) := hcur
  clear hcur
  rw [hx] at r0
  have HX : Hid (_ = _) := hx
  clear hx
  have nrp : r ≠ P (m.st.length - 1) := fun e => n9 e.symm
  have nrq : r ≠ Q (m.st.length - 1) := fun e => n10 e.symm
  have npq : P (m.st.length - 1) ≠ Q (m.st.length - 1) := fun e => n11 e.symm
  have HY : Hid (condStep m c = digitStep m c true 109) := by show condStep m c = _; unfold condStep; rw [HX.out, if_neg (by decide), if_neg (by decide), if_neg (by decide), if_neg (by decide), if_neg (by decide), if_neg (by decide), if_neg (by decide), if_pos rfl]
  by_cases hv : 97 ≤ c ∧ c ≤ 100
  · obtain ⟨hva, hvb⟩ := hv
    have HR : Hid (Rep _ _ _ _ _ _ _ _ _) := h
    have OK : Hid (Ok m) := ok
    clear h ok
    go_enter Tryz.func94, Tryz.ntmps94
    go_wp2_with (first | (go_at_call 126; refine hc.mono ?_; rintro e w' ⟨rfl, k, rfl⟩) | (go_at_call 123; refine (variable_yes c _ hva hvb).mono ?_; rintro e w' ⟨rfl, rfl⟩))
    refine ((HR.out.drewN k).digit OK.out hn c true h0 h1 109).mono ?_
    rintro e w' ⟨rfl, hb, hr⟩
    go_wp2
    go_ret
    exact post_via HY.out (below_drewN (Below.refl _ _) _) hb hr
  · have HR : Hid (Rep _ _ _ _ _ _ _ _ _) := h
    have OK : Hid (Ok m) := ok
    clear h ok
    go_enter Tryz.func94, Tryz.ntmps94
    go_wp2_with (first | (go_at_call 126; refine hc.mono ?_; rintro e w' ⟨rfl, k, rfl⟩) | (go_at_call 123; refine (variable_no _ _ (by omega) (by omega) (by omega)).mono ?_; rintro e w' ⟨rfl, rfl⟩))
    refine ((HR.out.drewN k).digit OK.out hn c true h0 h1 109).mono ?_
    rintro e w' ⟨rfl, hb, hr⟩
    go_wp2
    go_ret
    exact post_via HY.out (below_drewN (Below.refl _ _) _) hb hr

end Go.Proofs.YtffajooegiempaaGreatDoor

namespace Go

theorem step_append_own {P : Program} {ops : Array Oper} {o : Oper} {a : Act} {w : World} {K : Act → World → Prop} {Q : Exit → Act → World → Prop} {E : Prop}
    (hg : o.guard = none) (s x : Operand) (t : TypeId) (hop : o.op = Op.call { callee := Callee.builtin Builtin.append, args := #[s, x], argTypes := #[t, t] })
    (base : Nat) (e : TypeId) (i : TypeInfo) (z : Value) (size bytes : Nat) (h1 : P.underlying t = some (.slice e)) (h2 : P.info? e = some i) (h3 : i.zero = some z) (h4 : i.size = size) (h5 : i.bytes = bytes) (h6 : z.cells.size = size) (h7 : 0 < size)
    (v : Value) (n : Nat) (xs : List Value) (hs : a.eval s = v) (hown : w.ownsRow base e size v n xs)
    (ad : Addr) (m c : Nat) (news : List Value) (hx : a.eval x = .slice (some ad) m c) (hn : news.length = m * size) (hc : ∀ j u, news[j]? = some u → w.cell? (ad.add j) = some u) (h1c : ∀ u ∈ news, u.oneCell' = true)
    (b1 : n + m ≤ maxLen) (b2 : (n + m) * bytes ≤ 140737488355328) (hbase : base ≤ w.heap.size)
    (hK : ∀ v' w', w'.ownsRow base e size v' (n + m) (xs ++ news) → w.grownBy w' v.ownBlock → K (a.put o.dst v') w') :
    if Region.wanted o (yielded ops a.tmps) = true then Oper.wp P o a w K Q else E := by
  have hw : Region.wanted o (yielded ops a.tmps) = true := by simp [Region.wanted, hg]
  rw [if_pos hw]
  exact wp_append_own w s x t hop base e i z size bytes h1 h2 h3 h4 h5 h6 h7 v n xs hs hown ad m c news hx hn hc h1c b1 b2 hbase fun v' w' h2 h3 _ => hK v' w' h2 h3

end Go
namespace Go.Proofs.YtffajooegiempaaGreatDoor
open Go.RowKit
variable {B : Nat} {w w' : World} {r : Nat} {m : Rd} {vs vo : Value} {P Q O : Nat → Nat}

/-- A function of the index, with one more. -/
def updR (f : Nat → Nat) (n x : Nat) : Nat → Nat := fun i => if i = n then x else f i
theorem updR_at (f : Nat → Nat) (n x : Nat) : updR f n x n = x := by simp [updR]
theorem updR_lt (f : Nat → Nat) {n x i : Nat} (h : i < n) : updR f n x i = f i := by unfold updR; rw [if_neg (by omega)]
theorem map_upd (f : Nat → Nat) (n x : Nat) : (List.range (n + 1)).map (fun i => ptr (updR f n x i)) = (List.range n).map (fun i => ptr (f i)) ++ [ptr x] := by
  rw [List.range_succ, List.map_append]
  congr 1
  · apply List.map_congr_left; intro i hi; rw [updR_lt f (by simpa using hi)]
  · simp [updR_at]

/-- All blocks of the reader lie in the heap. -/
theorem Rep.lts (h : Rep B w r m vs vo P Q O) : r < w.heap.size ∧ (∀ i, i < m.st.length → P i < w.heap.size ∧ Q i < w.heap.size) ∧ (∀ i, i < m.op.length → O i < w.heap.size) := by
  refine ⟨h.rd.lt, fun i hi => ?_, fun i hi => ?_⟩
  · obtain ⟨a, b⟩ := h.st i _ (List.getElem?_eq_getElem hi)
    exact ⟨a.lt, b.lt⟩
  · exact (h.op i _ (List.getElem?_eq_getElem hi)).lt

/-- Behind an append to the row of the open blocks: one more. -/
theorem Rep.pushOp (h : Rep B w r m vs vo P Q O) (b : Bk) (v' : Value) (w1 w2 : World) (hlt : w.heap.size < w1.heap.size) (hw1 : ∀ k, k < w.heap.size → w1.heap[k]? = w.heap[k]?)
    (hnew : At w1 w.heap.size (bkCells b) tB) (hg : w1.grownBy w2 vo.ownBlock) (hown : w2.ownsRow B tPB 1 v' (m.op.length + 1) (((List.range m.op.length).map fun i => ptr (O i)) ++ [ptr w.heap.size])) (hB : B ≤ w.heap.size) :
    Rep B (w2.setCell ⟨r, 2, none⟩ v') r { m with op := m.op ++ [b] } vs v' P Q (updR O m.op.length w.heap.size) := by
  obtain ⟨lr, lp, lo⟩ := h.lts
  have same : ∀ k, k < w.heap.size → vo.ownBlock ≠ some k → w2.heap[k]? = w.heap[k]? := fun k hk hn => (hg.block k (by omega) (fun e => hn e.symm)).trans (hw1 k hk)
  have keep : ∀ {k c t}, At w k c t → tPB ≠ t → At w2 k c t := fun {k c t} ha hn => ha.same (same k ha.lt (ownsRow_type h.ro ha hn))
  have rd2 := keep h.rd (by decide)
  have new2 : At w2 w.heap.size (bkCells b) tB := hnew.same (hg.block _ hlt (by
    intro e
    obtain ⟨_, h2⟩ := h.ro.lt _ e.symm
    omega))
  exact {
    rd := rd2.put 2 v'
    rs := by
      refine ownsRow_put ?_ rd2 (by decide) 2 v'
      refine ownsRow_same h.rs fun g hg' => same g (h.rs.lt g hg').2 ?_
      obtain ⟨h1, h2⟩ := h.rs
      rcases h2 with ⟨e, _⟩ | ⟨g', cap, c, e, _, hh, _⟩
      · subst e; simp [Value.ownBlock] at hg'
      · subst e; simp [Value.ownBlock] at hg'; subst hg'; exact ownsRow_type h.ro (show At w g' c tPS from hh) (by decide)
    ro := by
      simp only [List.length_append, List.length_singleton]
      rw [map_upd]
      exact ownsRow_put hown rd2 (by decide) 2 v'
    st := by
      intro i s hi
      obtain ⟨a, b⟩ := h.st i s hi
      exact ⟨(keep a (by decide)).other _ _ (a.ne h.rd (by decide)), (keep b (by decide)).other _ _ (b.ne h.rd (by decide))⟩
    op := by
      intro i x hi
      by_cases e : i = m.op.length
      · subst e
        rw [updR_at]
        simp at hi
        subst hi
        exact new2.other _ _ (by omega)
      · have hil : i < m.op.length := by
          have : i < (m.op ++ [b]).length := by
            rcases Nat.lt_or_ge i (m.op ++ [b]).length with h' | h'
            · exact h'
            · simp [List.getElem?_eq_none h'] at hi
          simp at this; omega
        rw [updR_lt O hil]
        rw [List.getElem?_append_left hil] at hi
        have a := h.op i x hi
        exact (keep a (by decide)).other _ _ (a.ne h.rd (by decide))
    injP := h.injP
    injQ := h.injQ
    injO := by
      intro i j hi hj
      simp only [List.length_append, List.length_singleton] at hi hj
      by_cases ei : i = m.op.length <;> by_cases ej : j = m.op.length
      · intro _; omega
      · have hj' : j < m.op.length := by omega
        subst ei; rw [updR_at, updR_lt O hj']; intro e; have := lo j hj'; omega
      · have hi' : i < m.op.length := by omega
        subst ej; rw [updR_at, updR_lt O hi']; intro e; have := lo i hi'; omega
      · have hi' : i < m.op.length := by omega
        have hj' : j < m.op.length := by omega
        rw [updR_lt O hi', updR_lt O hj']; exact h.injO i j hi' hj'
    geR := h.geR
    geP := h.geP
    geO := by
      intro i hi
      simp only [List.length_append, List.length_singleton] at hi
      by_cases ei : i = m.op.length
      · subst ei; rw [updR_at]; exact hB
      · have hi' : i < m.op.length := by omega
        rw [updR_lt O hi']; exact h.geO i hi' }

/-- Behind an append to the row of the statements: one more. -/
theorem Rep.pushSt (h : Rep B w r m vs vo P Q O) (s : St) (v' : Value) (p q : Nat) (w1 w2 : World) (hq : w.heap.size ≤ q) (hp : w.heap.size ≤ p) (hlq : q < w1.heap.size) (hlp : p < w1.heap.size) (hw1 : ∀ k, k < w.heap.size → w1.heap[k]? = w.heap[k]?)
    (hnp : At w1 p (stCells q s) tS) (hnq : At w1 q (sgCells s.sg) tI) (hg : w1.grownBy w2 vs.ownBlock) (hown : w2.ownsRow B tPS 1 v' (m.st.length + 1) (((List.range m.st.length).map fun i => ptr (P i)) ++ [ptr p])) (hB : B ≤ w.heap.size) :
    Rep B (w2.setCell ⟨r, 1, none⟩ v') r { m with st := m.st ++ [s] } v' vo (updR P m.st.length p) (updR Q m.st.length q) O := by
  obtain ⟨lr, lp, lo⟩ := h.lts
  have same : ∀ k, k < w.heap.size → vs.ownBlock ≠ some k → w2.heap[k]? = w.heap[k]? := fun k hk hn => (hg.block k (by omega) (fun e => hn e.symm)).trans (hw1 k hk)
  have keep : ∀ {k c t}, At w k c t → tPS ≠ t → At w2 k c t := fun {k c t} ha hn => ha.same (same k ha.lt (ownsRow_type h.rs ha hn))
  have rd2 := keep h.rd (by decide)
  have notrow : ∀ k, w.heap.size ≤ k → some k ≠ vs.ownBlock := fun k hk e => by
    obtain ⟨_, h2⟩ := h.rs.lt _ e.symm
    omega
  have newp : At w2 p (stCells q s) tS := hnp.same (hg.block _ hlp (notrow p hp))
  have newq : At w2 q (sgCells s.sg) tI := hnq.same (hg.block _ hlq (notrow q hq))
  exact {
    rd := rd2.put 1 v'
    ro := by
      refine ownsRow_put ?_ rd2 (by decide) 1 v'
      refine ownsRow_same h.ro fun g hg' => same g (h.ro.lt g hg').2 ?_
      obtain ⟨h1, h2⟩ := h.ro
      rcases h2 with ⟨e, _⟩ | ⟨g', cap, c, e, _, hh, _⟩
      · subst e; simp [Value.ownBlock] at hg'
      · subst e; simp [Value.ownBlock] at hg'; subst hg'; exact ownsRow_type h.rs (show At w g' c tPB from hh) (by decide)
    rs := by
      simp only [List.length_append, List.length_singleton]
      rw [map_upd]
      exact ownsRow_put hown rd2 (by decide) 1 v'
    op := by
      intro i b hi
      have a := h.op i b hi
      exact (keep a (by decide)).other _ _ (a.ne h.rd (by decide))
    st := by
      intro i x hi
      by_cases e : i = m.st.length
      · subst e
        rw [updR_at, updR_at]
        simp at hi
        subst hi
        exact ⟨newp.other _ _ (by omega), newq.other _ _ (by omega)⟩
      · have hil : i < m.st.length := by
          have : i < (m.st ++ [s]).length := by
            rcases Nat.lt_or_ge i (m.st ++ [s]).length with h' | h'
            · exact h'
            · simp [List.getElem?_eq_none h'] at hi
          simp at this; omega
        rw [updR_lt P hil, updR_lt Q hil]
        rw [List.getElem?_append_left hil] at hi
        obtain ⟨a, b⟩ := h.st i x hi
        exact ⟨(keep a (by decide)).other _ _ (a.ne h.rd (by decide)), (keep b (by decide)).other _ _ (b.ne h.rd (by decide))⟩
    injP := by
      intro i j hi hj
      simp only [List.length_append, List.length_singleton] at hi hj
      by_cases ei : i = m.st.length <;> by_cases ej : j = m.st.length
      · intro _; omega
      · have hj' : j < m.st.length := by omega
        subst ei; rw [updR_at, updR_lt P hj']; intro e; have := (lp j hj').1; omega
      · have hi' : i < m.st.length := by omega
        subst ej; rw [updR_at, updR_lt P hi']; intro e; have := (lp i hi').1; omega
      · have hi' : i < m.st.length := by omega
        have hj' : j < m.st.length := by omega
        rw [updR_lt P hi', updR_lt P hj']; exact h.injP i j hi' hj'
    injQ := by
      intro i j hi hj
      simp only [List.length_append, List.length_singleton] at hi hj
      by_cases ei : i = m.st.length <;> by_cases ej : j = m.st.length
      · intro _; omega
      · have hj' : j < m.st.length := by omega
        subst ei; rw [updR_at, updR_lt Q hj']; intro e; have := (lp j hj').2; omega
      · have hi' : i < m.st.length := by omega
        subst ej; rw [updR_at, updR_lt Q hi']; intro e; have := (lp i hi').2; omega
      · have hi' : i < m.st.length := by omega
        have hj' : j < m.st.length := by omega
        rw [updR_lt Q hi', updR_lt Q hj']; exact h.injQ i j hi' hj'
    injO := h.injO
    geR := h.geR
    geO := h.geO
    geP := by
      intro i hi
      simp only [List.length_append, List.length_singleton] at hi
      by_cases ei : i = m.st.length
      · subst ei; rw [updR_at, updR_at]; exact ⟨by omega, by omega⟩
      · have hi' : i < m.st.length := by omega
        rw [updR_lt P hi', updR_lt Q hi']; exact h.geP i hi' }

/-- The row of the open blocks becomes shorter by one. -/
theorem Rep.popOp {g n cap : Nat} (h : Rep B w r m vs (.slice (some ⟨g, 0, none⟩) n cap) P Q O) (hn : 0 < m.op.length) (hnn : n = m.op.length) :
    Rep B (w.setCell ⟨r, 2, none⟩ (.slice (some ⟨g, 0, none⟩) (n - 1) cap)) r { m with op := m.op.take (m.op.length - 1) } vs (.slice (some ⟨g, 0, none⟩) (n - 1) cap) P Q O := by
  have hl : (m.op.take (m.op.length - 1)).length = m.op.length - 1 := by simp
  exact {
    rd := h.rd.put 2 _
    rs := ownsRow_put h.rs h.rd (by decide) 2 _
    ro := by
      rw [hl]
      refine ownsRow_put ?_ h.rd (by decide) 2 _
      obtain ⟨h1, h2⟩ := h.ro
      rcases h2 with ⟨e, _⟩ | ⟨g', cap', c, e, hg, hh, hc, hm, hs, ht⟩
      · simp at e
      · simp at e
        obtain ⟨rfl, _, rfl⟩ := e
        refine ⟨by simp, .inr ⟨g, cap, c, by rw [hnn], hg, hh, by omega, hm, hs, ?_⟩⟩
        have e2 : (c.toList.take (m.op.length * 1)).take ((m.op.length - 1) * 1) = c.toList.take ((m.op.length - 1) * 1) := by rw [List.take_take]; congr 1; omega
        rw [← e2, ht, ← List.map_take, List.take_range]
        congr 2; omega
    st := by
      intro i s hi
      obtain ⟨a, b⟩ := h.st i s hi
      exact ⟨a.other _ _ (a.ne h.rd (by decide)), b.other _ _ (b.ne h.rd (by decide))⟩
    op := by
      intro i b hi
      have hi' : m.op[i]? = some b := by
        rw [List.getElem?_take] at hi
        split at hi
        · exact hi
        · cases hi
      have a := h.op i b hi'
      exact a.other _ _ (a.ne h.rd (by decide))
    injP := h.injP
    injQ := h.injQ
    injO := by rw [hl]; intro i j hi hj; exact h.injO i j (by omega) (by omega)
    geR := h.geR
    geP := h.geP
    geO := by rw [hl]; intro i hi; exact h.geO i (by omega) }

end Go.Proofs.YtffajooegiempaaGreatDoor

namespace Go.Proofs.YtffajooegiempaaGreatDoor
open Go.RowKit
variable {B : Nat} {w w' : World} {r : Nat} {m : Rd} {vs vo : Value} {P Q O : Nat → Nat}

theorem Tryz.infoPS : (Tryz.prog.info? tPS).map (fun i => (i.zero, i.size, i.bytes)) = some (some (.pointer none), 1, 8) := by kernel_rfl
theorem Tryz.infoPB : (Tryz.prog.info? tPB).map (fun i => (i.zero, i.size, i.bytes)) = some (some (.pointer none), 1, 8) := by kernel_rfl

theorem Rep.slen (h : Rep B w r m vs vo P Q O) : ∃ ao cap, vs = .slice ao m.st.length cap := by
  obtain ⟨_, h2⟩ := h.rs
  rcases h2 with ⟨rfl, e⟩ | ⟨g, cap, c, rfl, _⟩
  · exact ⟨none, 0, by rw [e]⟩
  · exact ⟨_, cap, rfl⟩
theorem Rep.olen (h : Rep B w r m vs vo P Q O) : ∃ ao cap, vo = .slice ao m.op.length cap := by
  obtain ⟨_, h2⟩ := h.ro
  rcases h2 with ⟨rfl, e⟩ | ⟨g, cap, c, rfl, _⟩
  · exact ⟨none, 0, by rw [e]⟩
  · exact ⟨_, cap, rfl⟩

/-- The world in which a statement has been laid, ahead of the append. -/
def begun (w : World) (kd v : Int) (n : Nat) : World :=
  (((w.alloc (.cells #[.int .i64 0, .int .i64 0, .int .i64 0, .int .i64 0] tI)).alloc (.cells #[.int .u8 kd, .int .i64 v, .bool false, .slice (some ⟨w.heap.size, 0, none⟩) 4 4, .int .i64 0, .int .i64 0, .int .i64 ((n : Int) + 1)] tS)).alloc (.cells #[.pointer (some ⟨w.heap.size + 1, 0, none⟩)] tPS)).drew

theorem begun_old (w : World) (kd v : Int) (n : Nat) (k : Nat) (hk : k < w.heap.size) : (begun w kd v n).heap[k]? = w.heap[k]? := by
  show ((((w.heap.push _).push _).push _))[k]? = _
  rw [Array.getElem?_push, if_neg (by simp; omega), Array.getElem?_push, if_neg (by simp; omega), Array.getElem?_push, if_neg (by omega)]
theorem begun_size (w : World) (kd v : Int) (n : Nat) : (begun w kd v n).heap.size = w.heap.size + 3 := by
  show ((((w.heap.push _).push _).push _)).size = _
  simp
theorem begun_q (w : World) (kd v : Int) (n : Nat) : At (begun w kd v n) w.heap.size #[.int .i64 0, .int .i64 0, .int .i64 0, .int .i64 0] tI := by
  show ((((w.heap.push _).push _).push _))[w.heap.size]? = _
  rw [Array.getElem?_push, if_neg (by simp; omega), Array.getElem?_push, if_neg (by simp), Array.getElem?_push, if_pos rfl]
theorem begun_p (w : World) (kd v : Int) (n : Nat) : At (begun w kd v n) (w.heap.size + 1) #[.int .u8 kd, .int .i64 v, .bool false, .slice (some ⟨w.heap.size, 0, none⟩) 4 4, .int .i64 0, .int .i64 0, .int .i64 ((n : Int) + 1)] tS := by
  show ((((w.heap.push _).push _).push _))[w.heap.size + 1]? = _
  rw [Array.getElem?_push, if_neg (by simp), Array.getElem?_push, if_pos (by simp)]

theorem begin_same {kd v : Int} {n : Nat} {w2 : World} (h : Rep B w r m vs vo P Q O) (hg : (begun w kd v n).grownBy w2 vs.ownBlock) : w2.heap[r]? = w.heap[r]? :=
  (hg.block r (by rw [begun_size]; have := h.rd.lt; omega) (fun e => ownsRow_type h.rs h.rd (by decide) e.symm)).trans (begun_old w kd v n r h.rd.lt)

theorem begin_below {kd v : Int} {n : Nat} {w2 : World} {u : Value} (h : Rep B w r m vs vo P Q O) (hg : (begun w kd v n).grownBy w2 vs.ownBlock) (hB : B ≤ w.heap.size) : Below B w (w2.setCell ⟨r, 1, none⟩ u) := by
  refine Below.setCell ?_ h.geR _
  have hb : Below B w (begun w kd v n) := (((((Below.refl B w).alloc hB _).alloc (by simp; omega) _).alloc (by simp; omega) _)).drew
  exact hb.grown hg (by rw [begun_size]; omega) (fun k e => (h.rs.lt k e).1)

theorem begin_rep (h : Rep B w r m vs vo P Q O) (kd v : Int) {w2 : World} {u : Value} (hg : (begun w kd v m.st.length).grownBy w2 vs.ownBlock)
    (hown : w2.ownsRow B tPS 1 u (m.st.length + 1) (((List.range m.st.length).map fun i => ptr (P i)) ++ [.pointer (some ⟨w.heap.size + 1, 0, none⟩)])) (hB : B ≤ w.heap.size) :
    Rep B (w2.setCell ⟨r, 1, none⟩ u) r { m with st := m.st ++ [⟨kd, v, false, [0, 0, 0, 0], 0, 0, m.st.length + 1⟩] } u vo (updR P m.st.length (w.heap.size + 1)) (updR Q m.st.length w.heap.size) O :=
  h.pushSt ⟨kd, v, false, [0, 0, 0, 0], 0, 0, m.st.length + 1⟩ u (w.heap.size + 1) w.heap.size (begun w kd v m.st.length) w2 (by omega) (by omega) (by rw [begun_size]; omega) (by rw [begun_size]; omega) (begun_old w kd v _)
    (begun_p w kd v _) (begun_q w kd v _) hg hown hB

set_option maxRecDepth 100000 in
set_option maxHeartbeats 1600000 in
theorem Rep.begin_ (h : Rep B w r m vs vo P Q O) (hl : m.st.length < 20) (kd v : Int) (hB : B ≤ w.heap.size) :
    Calls Tryz.prog 124 #[.pointer (some ⟨r, 0, none⟩), .int .u8 kd, .int .i64 v] w fun e w' => e = .returned (.bool true) ∧ Below B w w' ∧
      ∃ vs' P' Q', Rep B w' r { m with st := m.st ++ [⟨kd, v, false, [0, 0, 0, 0], 0, 0, m.st.length + 1⟩] } vs' vo P' Q' O := by
  obtain ⟨ao, cap, rfl⟩ := h.slen
  obtain ⟨r0, r1, r2, r3, r4, r5, rf⟩ := h.rdc
  have geR := h.geR
  have hlt := h.rd.lt
  have hown := h.rs
  obtain ⟨i0, hi, hz0, hz1, hz2⟩ := info_parts Tryz.infoPS
  have b20 : (((m.st.length : Nat) : Int) == 20) = false := by simp; omega
  have hmk : ∀ w, (Instr.makeSlice 32 (.int .i64 4) (.int .i64 4)).run Tryz.prog w = .ok (.slice (some ⟨w.heap.size, 0, none⟩) 4 4) (w.alloc (.cells #[.int .i64 0, .int .i64 0, .int .i64 0, .int .i64 0] 3)) := fun _ => by kernel_rfl
  have HR : Hid (Rep _ _ _ _ _ _ _ _ _) := h
  have HO : Hid (World.ownsRow _ _ _ _ _ _ _) := hown
  clear h hown
  go_enter Tryz.func124, Tryz.ntmps124
  go_wp2
  go_region
  go_wp2_with (at_builtin; refine wpList_append_own _ rfl (.tmp 29) (.tmp 31) 50 rfl B tPS i0 (.pointer none) 1 8 Tryz.underlying50 hi hz0 hz1 hz2 rfl (by decide) _ _ _ rfl ((((HO.out.alloc _).alloc _).alloc _).drew) ⟨w.heap.size + 1 + 1, 0, none⟩ 1 1 [.pointer (some ⟨w.heap.size + 1, 0, none⟩)] rfl rfl ?c1 ?c2 ?c3 ?c4 ?c5 ?_)
  case c1 =>
    intro j u hj
    match j, hj with
    | 0, hj => simp at hj; subst hj; simp [Addr.add]; rw [World.cell?_alloc_at]; · rfl
               · simp
  case c2 => intro u hu; simp at hu; subst hu; rfl
  case c3 => unfold maxLen; omega
  case c4 => omega
  case c5 => simp; omega
  intro v' w2 hown' hgrow _
  obtain ⟨g', cap', c', rfl, hg', ha', hc'⟩ := ownsRow_at hown' (by omega)
  have hsame : w2.heap[r]? = w.heap[r]? := begin_same HR.out hgrow
  have k1 : ∀ i, w2.cell? ⟨r, i, none⟩ = w.cell? ⟨r, i, none⟩ := fun i => World.cell?_of_block (a := ⟨r, i, none⟩) hsame
  have k2 : ∀ i, w2.frozen? ⟨r, i, none⟩ = w.frozen? ⟨r, i, none⟩ := fun i => World.frozen?_of_block (a := ⟨r, i, none⟩) hsame
  have HW : Hid (World.ownsRow _ _ _ _ _ _ _) := hown'
  have HG : Hid (World.grownBy _ _ _) := hgrow
  clear hown' hgrow hsame ha'
  go_wp2
  go_ret
  refine ⟨rfl, begin_below HR.out HG.out hB, _, _, _, begin_rep HR.out kd v HG.out HW.out hB⟩

end Go.Proofs.YtffajooegiempaaGreatDoor

