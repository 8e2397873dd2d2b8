import Derived.Test.YtffajooegiempaaDoorJ17
namespace Go.Proofs.YtffajooegiempaaDoor
open Go.RowKit
variable {B : Nat} {w w' : World} {r : Nat} {m : Rd} {vs vo : Value} {P Q O : Nat → Nat}


set_option maxRecDepth 100000 in
set_option maxHeartbeats 1600000 in
theorem Rep.valueY (h : Rep B w r m vs vo P Q O) (ok : Ok m) (hn : 0 < m.st.length) (c : Int) (h0 : 0 ≤ c) (h1 : c ≤ 255) (hx : m.state = 121) :
    Calls Tryd.prog 94 #[.pointer (some ⟨r, 0, none⟩), .int .u8 c] w (Post B w r (valueStep m c)) := by
  have hc := h.now hn ok.len
  have hcur := Rep.curs hn
  obtain ⟨c0, c1, c2, c3, c4, c5, c6, f7, f8, n9, n10, n11⟩ := h.stc _ _ hcur
  obtain ⟨r0, r1, r2, r3, r4, r5, rf⟩ := h.rdc
  have geR := h.geR
  obtain ⟨geP, geQ⟩ := h.geC hn
  obtain ⟨sg0, sg1⟩ := ok.sgn
  obtain ⟨nu0, nu1⟩ := ok.nums (cur m) (List.mem_of_getElem? hcur)
  have HC : Hid (_ = _) := hcur
  clear hcur
  rw [hx] at r0
  have HX : Hid (_ = _) := hx
  clear hx
  have nrp : r ≠ P (m.st.length - 1) := fun e => n9 e.symm
  have nrq : r ≠ Q (m.st.length - 1) := fun e => n10 e.symm
  have npq : P (m.st.length - 1) ≠ Q (m.st.length - 1) := fun e => n11 e.symm
  have HS2 : Hid (valueStep m c = digitStep m c false 110) := by show valueStep m c = _; unfold valueStep; rw [HX.out, if_neg (by decide), if_neg (by decide), if_neg (by decide), if_pos rfl]
  by_cases hv : 97 ≤ c ∧ c ≤ 100
  · obtain ⟨hva, hvb⟩ := hv
    have HR : Hid (Rep _ _ _ _ _ _ _ _ _) := h
    have OK : Hid (Ok m) := ok
    clear h ok
    go_enter Tryd.func94, Tryd.ntmps94
    go_wp2_with (first | (go_at_call 110; refine hc.mono ?_; rintro e w' ⟨rfl, k, rfl⟩) | (go_at_call 107; refine (variable_yes c _ hva hvb).mono ?_; rintro e w' ⟨rfl, rfl⟩))
    refine ((HR.out.drewN k).digit OK.out hn c false h0 h1 110).mono ?_
    rintro e w' ⟨rfl, hb, hr⟩
    go_wp2
    go_ret
    exact post_via HS2.out ((below_drewN (Below.refl _ _) _)) hb hr
  · have HR : Hid (Rep _ _ _ _ _ _ _ _ _) := h
    have OK : Hid (Ok m) := ok
    clear h ok
    go_enter Tryd.func94, Tryd.ntmps94
    go_wp2_with (first | (go_at_call 110; refine hc.mono ?_; rintro e w' ⟨rfl, k, rfl⟩) | (go_at_call 107; refine (variable_no _ _ (by omega) (by omega) (by omega)).mono ?_; rintro e w' ⟨rfl, rfl⟩))
    refine ((HR.out.drewN k).digit OK.out hn c false h0 h1 110).mono ?_
    rintro e w' ⟨rfl, hb, hr⟩
    go_wp2
    go_ret
    exact post_via HS2.out ((below_drewN (Below.refl _ _) _)) hb hr
set_option maxRecDepth 100000 in
set_option maxHeartbeats 1600000 in
theorem Rep.valueN (h : Rep B w r m vs vo P Q O) (ok : Ok m) (hn : 0 < m.st.length) (c : Int) (h0 : 0 ≤ c) (h1 : c ≤ 255) (hx : m.state = 110) :
    Calls Tryd.prog 94 #[.pointer (some ⟨r, 0, none⟩), .int .u8 c] w (Post B w r (valueStep m c)) := by
  have hc := h.now hn ok.len
  have hcur := Rep.curs hn
  obtain ⟨c0, c1, c2, c3, c4, c5, c6, f7, f8, n9, n10, n11⟩ := h.stc _ _ hcur
  obtain ⟨r0, r1, r2, r3, r4, r5, rf⟩ := h.rdc
  have geR := h.geR
  obtain ⟨geP, geQ⟩ := h.geC hn
  obtain ⟨sg0, sg1⟩ := ok.sgn
  obtain ⟨nu0, nu1⟩ := ok.nums (cur m) (List.mem_of_getElem? hcur)
  have HC : Hid (_ = _) := hcur
  clear hcur
  rw [hx] at r0
  have HX : Hid (_ = _) := hx
  clear hx
  have nrp : r ≠ P (m.st.length - 1) := fun e => n9 e.symm
  have nrq : r ≠ Q (m.st.length - 1) := fun e => n10 e.symm
  have npq : P (m.st.length - 1) ≠ Q (m.st.length - 1) := fun e => n11 e.symm
  have hmw := mul_wrap _ _ sg0 sg1 nu0 nu1
  by_cases h59 : c = 59
  · subst h59
    have HS2 : Hid (valueStep m 59 = some (valueEnd m)) := by show valueStep m 59 = _; unfold valueStep; rw [HX.out, if_neg (by decide), if_neg (by decide), if_neg (by decide), if_neg (by decide), if_pos rfl]
    have HR : Hid (Rep _ _ _ _ _ _ _ _ _) := h
    have OK : Hid (Ok m) := ok
    clear h ok
    go_enter Tryd.func94, Tryd.ntmps94
    go_wp2_with (first | (go_at_call 110; refine hc.mono ?_; rintro e w' ⟨rfl, k, rfl⟩) | (go_at_call 107; refine (variable_no _ _ (by omega) (by omega) (by omega)).mono ?_; rintro e w' ⟨rfl, rfl⟩))
    go_region
    go_wp2
    go_ret
    exact post_yes HS2.out (Below.setCell (Below.setCell (below_drewN (Below.refl _ _) _) geP _) geR _) (((HR.out.drewN (k + 1)).setC hn { cur m with num := m.sign * (cur m).num } 4 (.int .i64 (m.sign * (cur m).num)) rfl rfl).setRd 0 (.int .u8 115) (valueEnd m) rfl rfl rfl)
  have b59 : (c == 59) = false := by simpa using h59
  have HS2 : Hid (valueStep m c = digitStep m c false 110) := by show valueStep m c = _; unfold valueStep; rw [HX.out, if_neg (by decide), if_neg (by decide), if_neg (by decide), if_neg (by decide), if_neg h59]
  clear h59 hmw
  by_cases hv : 97 ≤ c ∧ c ≤ 100
  · obtain ⟨hva, hvb⟩ := hv
    have HR : Hid (Rep _ _ _ _ _ _ _ _ _) := h
    have OK : Hid (Ok m) := ok
    clear h ok
    go_enter Tryd.func94, Tryd.ntmps94
    go_wp2_with (first | (go_at_call 110; refine hc.mono ?_; rintro e w' ⟨rfl, k, rfl⟩) | (go_at_call 107; refine (variable_yes c _ hva hvb).mono ?_; rintro e w' ⟨rfl, rfl⟩))
    refine ((HR.out.drewN k).digit OK.out hn c false h0 h1 110).mono ?_
    rintro e w' ⟨rfl, hb, hr⟩
    go_wp2
    go_ret
    exact post_via HS2.out ((below_drewN (Below.refl _ _) _)) hb hr
  · have HR : Hid (Rep _ _ _ _ _ _ _ _ _) := h
    have OK : Hid (Ok m) := ok
    clear h ok
    go_enter Tryd.func94, Tryd.ntmps94
    go_wp2_with (first | (go_at_call 110; refine hc.mono ?_; rintro e w' ⟨rfl, k, rfl⟩) | (go_at_call 107; refine (variable_no _ _ (by omega) (by omega) (by omega)).mono ?_; rintro e w' ⟨rfl, rfl⟩))
    refine ((HR.out.drewN k).digit OK.out hn c false h0 h1 110).mono ?_
    rintro e w' ⟨rfl, hb, hr⟩
    go_wp2
    go_ret
    exact post_via HS2.out ((below_drewN (Below.refl _ _) _)) hb hr

end Go.Proofs.YtffajooegiempaaDoor

namespace Go.Proofs.YtffajooegiempaaDoor
open Go.RowKit
variable {B : Nat} {w w' : World} {r : Nat} {m : Rd} {vs vo : Value} {P Q O : Nat → Nat}


set_option maxRecDepth 100000 in
set_option maxHeartbeats 1600000 in
theorem Rep.condC (h : Rep B w r m vs vo P Q O) (ok : Ok m) (hn : 0 < m.st.length) (_hB : B ≤ w.heap.size) (c : Int) (h0 : 0 ≤ c) (h1 : c ≤ 255) (hx : m.state = 99) :
    Calls Tryd.prog 95 #[.pointer (some ⟨r, 0, none⟩), .int .u8 c] w (Post B w r (condStep m c)) := by
  have hc := h.now hn ok.len
  have hcur := Rep.curs hn
  obtain ⟨c0, c1, c2, c3, c4, c5, c6, f7, f8, n9, n10, n11⟩ := h.stc _ _ hcur
  obtain ⟨r0, r1, r2, r3, r4, r5, rf⟩ := h.rdc
  have geR := h.geR
  obtain ⟨geP, geQ⟩ := h.geC hn
  obtain ⟨sg0, sg1⟩ := ok.sgn
  obtain ⟨nu0, nu1⟩ := ok.nums (cur m) (List.mem_of_getElem? hcur)
  have HC : Hid (_ = _) := hcur
  clear hcur
  rw [hx] at r0
  have HX : Hid (_ = _) := hx
  clear hx
  have nrp : r ≠ P (m.st.length - 1) := fun e => n9 e.symm
  have nrq : r ≠ Q (m.st.length - 1) := fun e => n10 e.symm
  have npq : P (m.st.length - 1) ≠ Q (m.st.length - 1) := fun e => n11 e.symm
  by_cases h42 : c = 42
  · subst h42
    have HY : Hid (condStep m 42 = some { setCur m { cur m with star := true } with state := behindOf m }) := by show condStep m 42 = _; unfold condStep; rw [HX.out, if_pos rfl, if_pos rfl]
    have HR : Hid (Rep _ _ _ _ _ _ _ _ _) := h
    have OK : Hid (Ok m) := ok
    clear h ok
    go_enter Tryd.func95, Tryd.ntmps95
    go_wp2_with (first | (go_at_call 110; refine hc.mono ?_; rintro e w' ⟨rfl, k, rfl⟩) | (go_at_call 107; refine (variable_no _ _ (by omega) (by omega) (by omega)).mono ?_; rintro e w' ⟨rfl, rfl⟩))
    have e1 := (HR.out.drewN k).setC hn { cur m with star := true } 2 (.bool true) rfl rfl
    refine (e1.behind (by rw [len_setCur]; exact hn) (by rw [len_setCur]; exact OK.out.len)).mono ?_
    rintro e w' ⟨rfl, k2, rfl⟩
    have HE : Hid (Rep _ _ _ _ _ _ _ _ _) := e1
    clear e1
    go_wp2
    go_ret
    refine post_yes HY.out (Below.setCell (below_drewN (Below.setCell (below_drewN (Below.refl _ _) _) geP _) _) geR _) ((HE.out.drewN k2).setRd 0 _ _ ?_ rfl rfl)
    simp [rdCells, behindOf, cur_setCur hn]
  have b42 : (c == 42) = false := by simpa using h42
  by_cases h45 : c = 45
  · subst h45
    have HY : Hid (condStep m 45 = some { m with sign := -1, state := 67 }) := by show condStep m 45 = _; unfold condStep; rw [HX.out, if_pos rfl, if_neg (by decide), if_pos rfl]
    clear h42 b42
    have HR : Hid (Rep _ _ _ _ _ _ _ _ _) := h
    have OK : Hid (Ok m) := ok
    clear h ok
    go_enter Tryd.func95, Tryd.ntmps95
    go_wp2_with (first | (go_at_call 110; refine hc.mono ?_; rintro e w' ⟨rfl, k, rfl⟩) | (go_at_call 107; refine (variable_no _ _ (by omega) (by omega) (by omega)).mono ?_; rintro e w' ⟨rfl, rfl⟩))
    go_ret
    exact post_yes HY.out (Below.setCell (Below.setCell (below_drewN (Below.refl _ _) _) geR _) geR _) (((HR.out.drewN k).setRd 3 (.int .i64 (-1)) { m with sign := -1 } rfl rfl rfl).setRd 0 (.int .u8 67) _ rfl rfl rfl)
  have b45 : (c == 45) = false := by simpa using h45
  by_cases hv : 97 ≤ c ∧ c ≤ 100
  · have HY : Hid (condStep m c = some (signTo m (c - 97).toNat 1 100)) := by show condStep m c = _; unfold condStep; rw [HX.out, if_pos rfl, if_neg h42, if_neg h45, if_pos hv]
    obtain ⟨hva, hvb⟩ := hv
    have hq := h.sgc ok hn (c - 97).toNat (by omega)
    have i0 : (0 : Int) ≤ c - 97 := by omega
    have i1 : c - 97 < 4 := by omega
    clear h42 h45
    have HR : Hid (Rep _ _ _ _ _ _ _ _ _) := h
    have OK : Hid (Ok m) := ok
    clear h ok
    go_enter Tryd.func95, Tryd.ntmps95
    go_wp2_with (first | (go_at_call 110; refine hc.mono ?_; rintro e w' ⟨rfl, k, rfl⟩) | (go_at_call 107; refine (variable_yes c _ hva hvb).mono ?_; rintro e w' ⟨rfl, rfl⟩))
    go_region
    go_wp2
    go_ret
    exact post_yes HY.out (Below.drew (Below.setCell (Below.setCell (Below.setCell (below_drewN (Below.refl _ _) _) geR _) geQ _) geR _)) (rep_sign1 HR.out hn (c - 97).toNat 100 k).drew
  have HY : Hid (condStep m c = none) := by show condStep m c = _; unfold condStep; rw [HX.out, if_pos rfl, if_neg h42, if_neg h45, if_neg hv]
  clear h42 h45
  have HR : Hid (Rep _ _ _ _ _ _ _ _ _) := h
  have OK : Hid (Ok m) := ok
  clear h ok
  go_enter Tryd.func95, Tryd.ntmps95
  go_wp2_with (first | (go_at_call 110; refine hc.mono ?_; rintro e w' ⟨rfl, k, rfl⟩) | (go_at_call 107; refine (variable_no _ _ (by omega) (by omega) (by omega)).mono ?_; rintro e w' ⟨rfl, rfl⟩))
  go_ret
  exact post_no HY.out (below_drewN (Below.refl _ _) _)

set_option maxRecDepth 100000 in
set_option maxHeartbeats 1600000 in
theorem Rep.condCC (h : Rep B w r m vs vo P Q O) (ok : Ok m) (hn : 0 < m.st.length) (_hB : B ≤ w.heap.size) (c : Int) (h0 : 0 ≤ c) (h1 : c ≤ 255) (hx : m.state = 67) :
    Calls Tryd.prog 95 #[.pointer (some ⟨r, 0, none⟩), .int .u8 c] w (Post B w r (condStep m c)) := by
  have hc := h.now hn ok.len
  have hcur := Rep.curs hn
  obtain ⟨c0, c1, c2, c3, c4, c5, c6, f7, f8, n9, n10, n11⟩ := h.stc _ _ hcur
  obtain ⟨r0, r1, r2, r3, r4, r5, rf⟩ := h.rdc
  have geR := h.geR
  obtain ⟨geP, geQ⟩ := h.geC hn
  obtain ⟨sg0, sg1⟩ := ok.sgn
  obtain ⟨nu0, nu1⟩ := ok.nums (cur m) (List.mem_of_getElem? hcur)
  have HC : Hid (_ = _) := hcur
  clear hcur
  rw [hx] at r0
  have HX : Hid (_ = _) := hx
  clear hx
  have nrp : r ≠ P (m.st.length - 1) := fun e => n9 e.symm
  have nrq : r ≠ Q (m.st.length - 1) := fun e => n10 e.symm
  have npq : P (m.st.length - 1) ≠ Q (m.st.length - 1) := fun e => n11 e.symm
  by_cases hv : 97 ≤ c ∧ c ≤ 100
  · have HY : Hid (condStep m c = some (signTo m (c - 97).toNat m.sign 100)) := by show condStep m c = _; unfold condStep; rw [HX.out, if_neg (by decide), if_pos rfl, if_pos hv]
    obtain ⟨hva, hvb⟩ := hv
    have hq := h.sgc ok hn (c - 97).toNat (by omega)
    have i0 : (0 : Int) ≤ c - 97 := by omega
    have i1 : c - 97 < 4 := by omega
    have HR : Hid (Rep _ _ _ _ _ _ _ _ _) := h
    have OK : Hid (Ok m) := ok
    clear h ok
    go_enter Tryd.func95, Tryd.ntmps95
    go_wp2_with (first | (go_at_call 110; refine hc.mono ?_; rintro e w' ⟨rfl, k, rfl⟩) | (go_at_call 107; refine (variable_yes c _ hva hvb).mono ?_; rintro e w' ⟨rfl, rfl⟩))
    go_region
    go_wp2
    go_ret
    exact post_yes HY.out (Below.setCell (Below.setCell (below_drewN (Below.refl _ _) _) geQ _) geR _) (rep_sign HR.out hn (c - 97).toNat 100 (k + 1))
  have HY : Hid (condStep m c = none) := by show condStep m c = _; unfold condStep; rw [HX.out, if_neg (by decide), if_pos rfl, if_neg hv]
  have HR : Hid (Rep _ _ _ _ _ _ _ _ _) := h
  have OK : Hid (Ok m) := ok
  clear h ok
  go_enter Tryd.func95, Tryd.ntmps95
  go_wp2_with (first | (go_at_call 110; refine hc.mono ?_; rintro e w' ⟨rfl, k, rfl⟩) | (go_at_call 107; refine (variable_no _ _ (by omega) (by omega) (by omega)).mono ?_; rintro e w' ⟨rfl, rfl⟩))
  go_ret
  exact post_no HY.out (below_drewN (Below.refl _ _) _)

end Go.Proofs.YtffajooegiempaaDoor

namespace Go.Proofs.YtffajooegiempaaDoor
open Go.RowKit
variable {B : Nat} {w w' : World} {r : Nat} {m : Rd} {vs vo : Value} {P Q O : Nat → Nat}


set_option maxRecDepth 100000 in
set_option maxHeartbeats 1600000 in
theorem Rep.condD (h : Rep B w r m vs vo P Q O) (ok : Ok m) (hn : 0 < m.st.length) (_hB : B ≤ w.heap.size) (c : Int) (h0 : 0 ≤ c) (h1 : c ≤ 255) (hx : m.state = 100) :
    Calls Tryd.prog 95 #[.pointer (some ⟨r, 0, none⟩), .int .u8 c] w (Post B w r (condStep m c)) := by
  have hc := h.now hn ok.len
  have hcur := Rep.curs hn
  obtain ⟨c0, c1, c2, c3, c4, c5, c6, f7, f8, n9, n10, n11⟩ := h.stc _ _ hcur
  obtain ⟨r0, r1, r2, r3, r4, r5, rf⟩ := h.rdc
  have geR := h.geR
  obtain ⟨geP, geQ⟩ := h.geC hn
  obtain ⟨sg0, sg1⟩ := ok.sgn
  obtain ⟨nu0, nu1⟩ := ok.nums (cur m) (List.mem_of_getElem? hcur)
  have HC : Hid (_ = _) := hcur
  clear hcur
  rw [hx] at r0
  have HX : Hid (_ = _) := hx
  clear hx
  have nrp : r ≠ P (m.st.length - 1) := fun e => n9 e.symm
  have nrq : r ≠ Q (m.st.length - 1) := fun e => n10 e.symm
  have npq : P (m.st.length - 1) ≠ Q (m.st.length - 1) := fun e => n11 e.symm
  by_cases h43 : c = 43
  · subst h43
    have HY : Hid (condStep m 43 = some { m with sign := 1, state := 101 }) := by show condStep m 43 = _; unfold condStep; rw [HX.out, if_neg (by decide), if_neg (by decide), if_pos rfl, if_pos rfl]
    have HR : Hid (Rep _ _ _ _ _ _ _ _ _) := h
    have OK : Hid (Ok m) := ok
    clear h ok
    go_enter Tryd.func95, Tryd.ntmps95
    go_wp2_with (first | (go_at_call 110; refine hc.mono ?_; rintro e w' ⟨rfl, k, rfl⟩) | (go_at_call 107; refine (variable_no _ _ (by omega) (by omega) (by omega)).mono ?_; rintro e w' ⟨rfl, rfl⟩))
    go_ret
    exact post_yes HY.out (Below.setCell (Below.setCell (below_drewN (Below.refl _ _) _) geR _) geR _) (((HR.out.drewN k).setRd 3 (.int .i64 1) { m with sign := 1 } rfl rfl rfl).setRd 0 (.int .u8 101) _ rfl rfl rfl)
  have b43 : (c == 43) = false := by simpa using h43
  by_cases h45 : c = 45
  · subst h45
    have HY : Hid (condStep m 45 = some { m with sign := -1, state := 101 }) := by show condStep m 45 = _; unfold condStep; rw [HX.out, if_neg (by decide), if_neg (by decide), if_pos rfl, if_neg (by decide), if_pos rfl]
    clear h43 b43
    have HR : Hid (Rep _ _ _ _ _ _ _ _ _) := h
    have OK : Hid (Ok m) := ok
    clear h ok
    go_enter Tryd.func95, Tryd.ntmps95
    go_wp2_with (first | (go_at_call 110; refine hc.mono ?_; rintro e w' ⟨rfl, k, rfl⟩) | (go_at_call 107; refine (variable_no _ _ (by omega) (by omega) (by omega)).mono ?_; rintro e w' ⟨rfl, rfl⟩))
    go_ret
    exact post_yes HY.out (Below.setCell (Below.setCell (Below.setCell (below_drewN (Below.refl _ _) _) geR _) geR _) geR _) ((((HR.out.drewN k).setRd 3 (.int .i64 1) { m with sign := 1 } rfl rfl rfl).setRd 3 (.int .i64 (-1)) { m with sign := -1 } rfl rfl rfl).setRd 0 (.int .u8 101) _ rfl rfl rfl)
  have b45 : (c == 45) = false := by simpa using h45
  by_cases h60 : c = 60
  · subst h60
    have HY : Hid (condStep m 60 = some { m with state := 60 }) := by show condStep m 60 = _; unfold condStep; rw [HX.out, if_neg (by decide), if_neg (by decide), if_pos rfl, if_neg (by decide), if_neg (by decide), if_pos rfl]
    clear h43 b43 h45 b45
    have HR : Hid (Rep _ _ _ _ _ _ _ _ _) := h
    have OK : Hid (Ok m) := ok
    clear h ok
    go_enter Tryd.func95, Tryd.ntmps95
    go_wp2_with (first | (go_at_call 110; refine hc.mono ?_; rintro e w' ⟨rfl, k, rfl⟩) | (go_at_call 107; refine (variable_no _ _ (by omega) (by omega) (by omega)).mono ?_; rintro e w' ⟨rfl, rfl⟩))
    go_ret
    exact post_yes HY.out (Below.setCell (below_drewN (Below.refl _ _) _) geR _) ((HR.out.drewN k).setRd 0 (.int .u8 60) _ rfl rfl rfl)
  have b60 : (c == 60) = false := by simpa using h60
  have HY : Hid (condStep m c = none) := by show condStep m c = _; unfold condStep; rw [HX.out, if_neg (by decide), if_neg (by decide), if_pos rfl, if_neg h43, if_neg h45, if_neg h60]
  clear h43 h45 h60
  have HR : Hid (Rep _ _ _ _ _ _ _ _ _) := h
  have OK : Hid (Ok m) := ok
  clear h ok
  by_cases hv : 97 ≤ c ∧ c ≤ 100
  · obtain ⟨hva, hvb⟩ := hv
    go_enter Tryd.func95, Tryd.ntmps95
    go_wp2_with (first | (go_at_call 110; refine hc.mono ?_; rintro e w' ⟨rfl, k, rfl⟩) | (go_at_call 107; refine (variable_yes c _ hva hvb).mono ?_; rintro e w' ⟨rfl, rfl⟩))
    go_ret
    exact post_no HY.out (below_drewN (Below.refl _ _) _)
  · go_enter Tryd.func95, Tryd.ntmps95
    go_wp2_with (first | (go_at_call 110; refine hc.mono ?_; rintro e w' ⟨rfl, k, rfl⟩) | (go_at_call 107; refine (variable_no _ _ (by omega) (by omega) (by omega)).mono ?_; rintro e w' ⟨rfl, rfl⟩))
    go_ret
    exact post_no HY.out (below_drewN (Below.refl _ _) _)

set_option maxRecDepth 100000 in
set_option maxHeartbeats 1600000 in
theorem Rep.condE (h : Rep B w r m vs vo P Q O) (ok : Ok m) (hn : 0 < m.st.length) (_hB : B ≤ w.heap.size) (c : Int) (h0 : 0 ≤ c) (h1 : c ≤ 255) (hx : m.state = 101) :
    Calls Tryd.prog 95 #[.pointer (some ⟨r, 0, none⟩), .int .u8 c] w (Post B w r (condStep m c)) := by
  have hc := h.now hn ok.len
  have hcur := Rep.curs hn
  obtain ⟨c0, c1, c2, c3, c4, c5, c6, f7, f8, n9, n10, n11⟩ := h.stc _ _ hcur
  obtain ⟨r0, r1, r2, r3, r4, r5, rf⟩ := h.rdc
  have geR := h.geR
  obtain ⟨geP, geQ⟩ := h.geC hn
  obtain ⟨sg0, sg1⟩ := ok.sgn
  obtain ⟨nu0, nu1⟩ := ok.nums (cur m) (List.mem_of_getElem? hcur)
  have HC : Hid (_ = _) := hcur
  clear hcur
  rw [hx] at r0
  have HX : Hid (_ = _) := hx
  clear hx
  have nrp : r ≠ P (m.st.length - 1) := fun e => n9 e.symm
  have nrq : r ≠ Q (m.st.length - 1) := fun e => n10 e.symm
  have npq : P (m.st.length - 1) ≠ Q (m.st.length - 1) := fun e => n11 e.symm
  by_cases hv : 97 ≤ c ∧ c ≤ 100
  · by_cases hz : (cur m).sg.getD (c - 97).toNat 0 = 0
    · have HY : Hid (condStep m c = some (signTo m (c - 97).toNat m.sign 102)) := by show condStep m c = _; unfold condStep; rw [HX.out, if_neg (by decide), if_neg (by decide), if_neg (by decide), if_pos rfl, if_pos hv, if_pos hz]
      obtain ⟨hva, hvb⟩ := hv
      have hq := h.sgc ok hn (c - 97).toNat (by omega)
      rw [hz] at hq
      have i0 : (0 : Int) ≤ c - 97 := by omega
      have i1 : c - 97 < 4 := by omega
      clear hz
      have HR : Hid (Rep _ _ _ _ _ _ _ _ _) := h
      have OK : Hid (Ok m) := ok
      clear h ok
      go_enter Tryd.func95, Tryd.ntmps95
      go_wp2_with (first | (go_at_call 110; refine hc.mono ?_; rintro e w' ⟨rfl, k, rfl⟩) | (go_at_call 107; refine (variable_yes c _ hva hvb).mono ?_; rintro e w' ⟨rfl, rfl⟩))
      go_region
      go_wp2
      go_ret
      exact post_yes HY.out (Below.setCell (Below.setCell (below_drewN (Below.refl _ _) _) geQ _) geR _) (rep_sign HR.out hn (c - 97).toNat 102 (k + 1))
    · have HY : Hid (condStep m c = none) := by show condStep m c = _; unfold condStep; rw [HX.out, if_neg (by decide), if_neg (by decide), if_neg (by decide), if_pos rfl, if_pos hv, if_neg hz]
      obtain ⟨hva, hvb⟩ := hv
      have hq := h.sgc ok hn (c - 97).toNat (by omega)
      have i0 : (0 : Int) ≤ c - 97 := by omega
      have i1 : c - 97 < 4 := by omega
      generalize (cur m).sg.getD (c - 97).toNat 0 = y at *
      have bz : (y != 0) = true := by simpa using hz
      clear hz
      have HR : Hid (Rep _ _ _ _ _ _ _ _ _) := h
      have OK : Hid (Ok m) := ok
      clear h ok
      go_enter Tryd.func95, Tryd.ntmps95
      go_wp2_with (first | (go_at_call 110; refine hc.mono ?_; rintro e w' ⟨rfl, k, rfl⟩) | (go_at_call 107; refine (variable_yes c _ hva hvb).mono ?_; rintro e w' ⟨rfl, rfl⟩))
      go_ret
      exact post_no HY.out (below_drewN (Below.refl _ _) _)
  have HY : Hid (condStep m c = none) := by show condStep m c = _; unfold condStep; rw [HX.out, if_neg (by decide), if_neg (by decide), if_neg (by decide), if_pos rfl, if_neg hv]
  have HR : Hid (Rep _ _ _ _ _ _ _ _ _) := h
  have OK : Hid (Ok m) := ok
  clear h ok
  go_enter Tryd.func95, Tryd.ntmps95
  go_wp2_with (first | (go_at_call 110; refine hc.mono ?_; rintro e w' ⟨rfl, k, rfl⟩) | (go_at_call 107; refine (variable_no _ _ (by omega) (by omega) (by omega)).mono ?_; rintro e w' ⟨rfl, rfl⟩))
  go_ret
  exact post_no HY.out (below_drewN (Below.refl _ _) _)

end Go.Proofs.YtffajooegiempaaDoor

namespace Go.Proofs.YtffajooegiempaaDoor
open Go.RowKit
variable {B : Nat} {w w' : World} {r : Nat} {m : Rd} {vs vo : Value} {P Q O : Nat → Nat}


set_option maxRecDepth 100000 in
set_option maxHeartbeats 1600000 in
theorem Rep.condF (h : Rep B w r m vs vo P Q O) (ok : Ok m) (hn : 0 < m.st.length) (_hB : B ≤ w.heap.size) (c : Int) (h0 : 0 ≤ c) (h1 : c ≤ 255) (hx : m.state = 102) :
    Calls Tryd.prog 95 #[.pointer (some ⟨r, 0, none⟩), .int .u8 c] w (Post B w r (condStep m c)) := by
  have hc := h.now hn ok.len
  have hcur := Rep.curs hn
  obtain ⟨c0, c1, c2, c3, c4, c5, c6, f7, f8, n9, n10, n11⟩ := h.stc _ _ hcur
  obtain ⟨r0, r1, r2, r3, r4, r5, rf⟩ := h.rdc
  have geR := h.geR
  obtain ⟨geP, geQ⟩ := h.geC hn
  obtain ⟨sg0, sg1⟩ := ok.sgn
  obtain ⟨nu0, nu1⟩ := ok.nums (cur m) (List.mem_of_getElem? hcur)
  have HC : Hid (_ = _) := hcur
  clear hcur
  rw [hx] at r0
  have HX : Hid (_ = _) := hx
  clear hx
  have nrp : r ≠ P (m.st.length - 1) := fun e => n9 e.symm
  have nrq : r ≠ Q (m.st.length - 1) := fun e => n10 e.symm
  have npq : P (m.st.length - 1) ≠ Q (m.st.length - 1) := fun e => n11 e.symm
  by_cases h60 : c = 60
  · subst h60
    have HY : Hid (condStep m 60 = some { m with state := 60 }) := by show condStep m 60 = _; unfold condStep; rw [HX.out, if_neg (by decide), if_neg (by decide), if_neg (by decide), if_neg (by decide), if_pos rfl, if_pos rfl]
    have HR : Hid (Rep _ _ _ _ _ _ _ _ _) := h
    have OK : Hid (Ok m) := ok
    clear h ok
    go_enter Tryd.func95, Tryd.ntmps95
    go_wp2_with (first | (go_at_call 110; refine hc.mono ?_; rintro e w' ⟨rfl, k, rfl⟩) | (go_at_call 107; refine (variable_no _ _ (by omega) (by omega) (by omega)).mono ?_; rintro e w' ⟨rfl, rfl⟩))
    go_ret
    exact post_yes HY.out (Below.setCell (below_drewN (Below.refl _ _) _) geR _) ((HR.out.drewN k).setRd 0 (.int .u8 60) _ rfl rfl rfl)
  have b60 : (c == 60) = false := by simpa using h60
  have HY : Hid (condStep m c = none) := by show condStep m c = _; unfold condStep; rw [HX.out, if_neg (by decide), if_neg (by decide), if_neg (by decide), if_neg (by decide), if_pos rfl, if_neg h60]
  clear h60
  have HR : Hid (Rep _ _ _ _ _ _ _ _ _) := h
  have OK : Hid (Ok m) := ok
  clear h ok
  by_cases hv : 97 ≤ c ∧ c ≤ 100
  · obtain ⟨hva, hvb⟩ := hv
    go_enter Tryd.func95, Tryd.ntmps95
    go_wp2_with (first | (go_at_call 110; refine hc.mono ?_; rintro e w' ⟨rfl, k, rfl⟩) | (go_at_call 107; refine (variable_yes c _ hva hvb).mono ?_; rintro e w' ⟨rfl, rfl⟩))
    go_ret
    exact post_no HY.out (below_drewN (Below.refl _ _) _)
  · go_enter Tryd.func95, Tryd.ntmps95
    go_wp2_with (first | (go_at_call 110; refine hc.mono ?_; rintro e w' ⟨rfl, k, rfl⟩) | (go_at_call 107; refine (variable_no _ _ (by omega) (by omega) (by omega)).mono ?_; rintro e w' ⟨rfl, rfl⟩))
    go_ret
    exact post_no HY.out (below_drewN (Below.refl _ _) _)

set_option maxRecDepth 100000 in
set_option maxHeartbeats 1600000 in
theorem Rep.condL (h : Rep B w r m vs vo P Q O) (ok : Ok m) (hn : 0 < m.st.length) (_hB : B ≤ w.heap.size) (c : Int) (h0 : 0 ≤ c) (h1 : c ≤ 255) (hx : m.state = 60) :
    Calls Tryd.prog 95 #[.pointer (some ⟨r, 0, none⟩), .int .u8 c] w (Post B w r (condStep m c)) := by
  have hc := h.now hn ok.len
  have hcur := Rep.curs hn
  obtain ⟨c0, c1, c2, c3, c4, c5, c6, f7, f8, n9, n10, n11⟩ := h.stc _ _ hcur
  obtain ⟨r0, r1, r2, r3, r4, r5, rf⟩ := h.rdc
  have geR := h.geR
  obtain ⟨geP, geQ⟩ := h.geC hn
  obtain ⟨sg0, sg1⟩ := ok.sgn
  obtain ⟨nu0, nu1⟩ := ok.nums (cur m) (List.mem_of_getElem? hcur)
  have HC : Hid (_ = _) := hcur
  clear hcur
  rw [hx] at r0
  have HX : Hid (_ = _) := hx
  clear hx
  have nrp : r ≠ P (m.st.length - 1) := fun e => n9 e.symm
  have nrq : r ≠ Q (m.st.length - 1) := fun e => n10 e.symm
  have npq : P (m.st.length - 1) ≠ Q (m.st.length - 1) := fun e => n11 e.symm
  by_cases h61 : c = 61
  · subst h61
    have HY : Hid (condStep m 61 = some { m with neg := false, state := 98 }) := by show condStep m 61 = _; unfold condStep; rw [HX.out, if_neg (by decide), if_neg (by decide), if_neg (by decide), if_neg (by decide), if_neg (by decide), if_pos rfl, if_pos rfl]
    have HR : Hid (Rep _ _ _ _ _ _ _ _ _) := h
    have OK : Hid (Ok m) := ok
    clear h ok
    go_enter Tryd.func95, Tryd.ntmps95
    go_wp2_with (first | (go_at_call 110; refine hc.mono ?_; rintro e w' ⟨rfl, k, rfl⟩) | (go_at_call 107; refine (variable_no _ _ (by omega) (by omega) (by omega)).mono ?_; rintro e w' ⟨rfl, rfl⟩))
    go_ret
    exact post_yes HY.out (Below.setCell (Below.setCell (below_drewN (Below.refl _ _) _) geR _) geR _) (((HR.out.drewN k).setRd 4 (.bool false) { m with neg := false } rfl rfl rfl).setRd 0 (.int .u8 98) _ rfl rfl rfl)
  have b61 : (c == 61) = false := by simpa using h61
  have HY : Hid (condStep m c = none) := by show condStep m c = _; unfold condStep; rw [HX.out, if_neg (by decide), if_neg (by decide), if_neg (by decide), if_neg (by decide), if_neg (by decide), if_pos rfl, if_neg h61]
  clear h61
  have HR : Hid (Rep _ _ _ _ _ _ _ _ _) := h
  have OK : Hid (Ok m) := ok
  clear h ok
  by_cases hv : 97 ≤ c ∧ c ≤ 100
  · obtain ⟨hva, hvb⟩ := hv
    go_enter Tryd.func95, Tryd.ntmps95
    go_wp2_with (first | (go_at_call 110; refine hc.mono ?_; rintro e w' ⟨rfl, k, rfl⟩) | (go_at_call 107; refine (variable_yes c _ hva hvb).mono ?_; rintro e w' ⟨rfl, rfl⟩))
    go_ret
    exact post_no HY.out (below_drewN (Below.refl _ _) _)
  · go_enter Tryd.func95, Tryd.ntmps95
    go_wp2_with (first | (go_at_call 110; refine hc.mono ?_; rintro e w' ⟨rfl, k, rfl⟩) | (go_at_call 107; refine (variable_no _ _ (by omega) (by omega) (by omega)).mono ?_; rintro e w' ⟨rfl, rfl⟩))
    go_ret
    exact post_no HY.out (below_drewN (Below.refl _ _) _)

set_option maxRecDepth 100000 in
set_option maxHeartbeats 1600000 in
theorem Rep.condB (h : Rep B w r m vs vo P Q O) (ok : Ok m) (hn : 0 < m.st.length) (_hB : B ≤ w.heap.size) (c : Int) (h0 : 0 ≤ c) (h1 : c ≤ 255) (hx : m.state = 98) :
    Calls Tryd.prog 95 #[.pointer (some ⟨r, 0, none⟩), .int .u8 c] w (Post B w r (condStep m c)) := by
  have hc := h.now hn ok.len
  have hcur := Rep.curs hn
  obtain ⟨c0, c1, c2, c3, c4, c5, c6, f7, f8, n9, n10, n11⟩ := h.stc _ _ hcur
  obtain ⟨r0, r1, r2, r3, r4, r5, rf⟩ := h.rdc
  have geR := h.geR
  obtain ⟨geP, geQ⟩ := h.geC hn
  obtain ⟨sg0, sg1⟩ := ok.sgn
  obtain ⟨nu0, nu1⟩ := ok.nums (cur m) (List.mem_of_getElem? hcur)
  have HC : Hid (_ = _) := hcur
  clear hcur
  rw [hx] at r0
  have HX : Hid (_ = _) := hx
  clear hx
  have nrp : r ≠ P (m.st.length - 1) := fun e => n9 e.symm
  have nrq : r ≠ Q (m.st.length - 1) := fun e => n10 e.symm
  have npq : P (m.st.length - 1) ≠ Q (m.st.length - 1) := fun e => n11 e.symm
  by_cases h45 : c = 45
  · subst h45
    have HY : Hid (condStep m 45 = some { m with neg := true, state := 66 }) := by show condStep m 45 = _; unfold condStep; rw [HX.out, if_neg (by decide), if_neg (by decide), if_neg (by decide), if_neg (by decide), if_neg (by decide), if_neg (by decide), if_pos rfl, if_pos rfl]
    have HR : Hid (Rep _ _ _ _ _ _ _ _ _) := h
    have OK : Hid (Ok m) := ok
    clear h ok
    go_enter Tryd.func95, Tryd.ntmps95
    go_wp2_with (first | (go_at_call 110; refine hc.mono ?_; rintro e w' ⟨rfl, k, rfl⟩) | (go_at_call 107; refine (variable_no _ _ (by omega) (by omega) (by omega)).mono ?_; rintro e w' ⟨rfl, rfl⟩))
    go_ret
    exact post_yes HY.out (Below.setCell (Below.setCell (below_drewN (Below.refl _ _) _) geR _) geR _) (((HR.out.drewN k).setRd 4 (.bool true) { m with neg := true } rfl rfl rfl).setRd 0 (.int .u8 66) _ rfl rfl rfl)
  have b45 : (c == 45) = false := by simpa using h45
  have HY : Hid (condStep m c = digitStep m c false 109) := by show condStep m c = _; unfold condStep; rw [HX.out, if_neg (by decide), if_neg (by decide), if_neg (by decide), if_neg (by decide), if_neg (by decide), if_neg (by decide), if_pos rfl, if_neg h45]
  clear h45
  by_cases hv : 97 ≤ c ∧ c ≤ 100
  · obtain ⟨hva, hvb⟩ := hv
    have HR : Hid (Rep _ _ _ _ _ _ _ _ _) := h
    have OK : Hid (Ok m) := ok
    clear h ok
    go_enter Tryd.func95, Tryd.ntmps95
    go_wp2_with (first | (go_at_call 110; refine hc.mono ?_; rintro e w' ⟨rfl, k, rfl⟩) | (go_at_call 107; refine (variable_yes c _ hva hvb).mono ?_; rintro e w' ⟨rfl, rfl⟩))
    refine ((HR.out.drewN k).digit OK.out hn c false h0 h1 109).mono ?_
    rintro e w' ⟨rfl, hb, hr⟩
    go_wp2
    go_ret
    exact post_via HY.out (below_drewN (Below.refl _ _) _) hb hr
  · have HR : Hid (Rep _ _ _ _ _ _ _ _ _) := h
    have OK : Hid (Ok m) := ok
    clear h ok
    go_enter Tryd.func95, Tryd.ntmps95
    go_wp2_with (first | (go_at_call 110; refine hc.mono ?_; rintro e w' ⟨rfl, k, rfl⟩) | (go_at_call 107; refine (variable_no _ _ (by omega) (by omega) (by omega)).mono ?_; rintro e w' ⟨rfl, rfl⟩))
    refine ((HR.out.drewN k).digit OK.out hn c false h0 h1 109).mono ?_
    rintro e w' ⟨rfl, hb, hr⟩
    go_wp2
    go_ret
    exact post_via HY.out (below_drewN (Below.refl _ _) _) hb hr

set_option maxRecDepth 100000 in
set_option maxHeartbeats 1600000 in
theorem Rep.condBB (h : Rep B w r m vs vo P Q O) (ok : Ok m) (hn : 0 < m.st.length) (_hB : B ≤ w.heap.size) (c : Int) (h0 : 0 ≤ c) (h1 : c ≤ 255) (hx : m.state = 66) :
    Calls Tryd.prog 95 #[.pointer (some ⟨r, 0, none⟩), .int .u8 c] w (Post B w r (condStep m c)) := by
  have hc := h.now hn ok.len
  have hcur := Rep.curs hn
  obtain ⟨c0, c1, c2, c3, c4, c5, c6, f7, f8, n9, n10, n11⟩ := h.stc _ _ hcur
  obtain ⟨r0, r1, r2, r3, r4, r5, rf⟩ := h.rdc
  have geR := h.geR
  obtain ⟨geP, geQ⟩ := h.geC hn
  obtain ⟨sg0, sg1⟩ := ok.sgn
  obtain ⟨nu0, nu1⟩ := ok.nums (cur m) (List.mem_of_getElem? hcur)
  have HC : Hid (_ = _) := hcur
  clear hcur
  rw [hx] at r0
  have HX : Hid (_ = _) := hx
  clear hx
  have nrp : r ≠ P (m.st.length - 1) := fun e => n9 e.symm
  have nrq : r ≠ Q (m.st.length - 1) := fun e => n10 e.symm
  have npq : P (m.st.length - 1) ≠ Q (m.st.length - 1) := fun e => n11 e.symm
  have HY : Hid (condStep m c = digitStep m c true 109) := by show condStep m c = _; unfold condStep; rw [HX.out, if_neg (by decide), if_neg (by decide), if_neg (by decide), if_neg (by decide), if_neg (by decide), if_neg (by decide), if_neg (by decide), if_pos rfl]
  by_cases hv : 97 ≤ c ∧ c ≤ 100
  · obtain ⟨hva, hvb⟩ := hv
    have HR : Hid (Rep _ _ _ _ _ _ _ _ _) := h
    have OK : Hid (Ok m) := ok
    clear h ok
    go_enter Tryd.func95, Tryd.ntmps95
    go_wp2_with (first | (go_at_call 110; refine hc.mono ?_; rintro e w' ⟨rfl, k, rfl⟩) | (go_at_call 107; refine (variable_yes c _ hva hvb).mono ?_; rintro e w' ⟨rfl, rfl⟩))
    refine ((HR.out.drewN k).digit OK.out hn c true h0 h1 109).mono ?_
    rintro e w' ⟨rfl, hb, hr⟩
    go_wp2
    go_ret
    exact post_via HY.out (below_drewN (Below.refl _ _) _) hb hr
  · have HR : Hid (Rep _ _ _ _ _ _ _ _ _) := h
    have OK : Hid (Ok m) := ok
    clear h ok
    go_enter Tryd.func95, Tryd.ntmps95
    go_wp2_with (first | (go_at_call 110; refine hc.mono ?_; rintro e w' ⟨rfl, k, rfl⟩) | (go_at_call 107; refine (variable_no _ _ (by omega) (by omega) (by omega)).mono ?_; rintro e w' ⟨rfl, rfl⟩))
    refine ((HR.out.drewN k).digit OK.out hn c true h0 h1 109).mono ?_
    rintro e w' ⟨rfl, hb, hr⟩
    go_wp2
    go_ret
    exact post_via HY.out (below_drewN (Below.refl _ _) _) hb hr

end Go.Proofs.YtffajooegiempaaDoor

