import Derived.Test.YtadhimimdmoodaaRl
namespace Go.Proofs.Ytadhimimdmoodaa
open Go.RowKit
variable {B : Nat} {w w' : World} {r : Nat} {m : Rd} {vs vo : Value} {P Q O : Nat → Nat}


set_option maxRecDepth 100000 in
set_option maxHeartbeats 1600000 in
theorem Rep.condZ (h : Rep B w r m vs vo P Q O) (ok : Ok m) (hn : 0 < m.st.length) (_hB : B ≤ w.heap.size) (c : Int) (h0 : 0 ≤ c) (h1 : c ≤ 255) (hx : m.state = 125) :
    Calls Try.prog 43 #[.pointer (some ⟨r, 0, none⟩), .int .u8 c] w (Post B w r (condStep m c)) := by
  have hc := h.now hn ok.len
  have hcur := Rep.curs hn
  obtain ⟨c0, c1, c2, c3, c4, c5, c6, f7, f8, n9, n10, n11⟩ := h.stc _ _ hcur
  obtain ⟨r0, r1, r2, r3, r4, r5, rf⟩ := h.rdc
  have geR := h.geR
  obtain ⟨geP, geQ⟩ := h.geC hn
  obtain ⟨sg0, sg1⟩ := ok.sgn
  obtain ⟨nu0, nu1⟩ := ok.nums (cur m) (List.mem_of_getElem? hcur)
  have HC : Hid (_ = _) := hcur
  clear hcur
  rw [hx] at r0
  have HX : Hid (_ = _) := hx
  clear hx
  have nrp : r ≠ P (m.st.length - 1) := fun e => n9 e.symm
  have nrq : r ≠ Q (m.st.length - 1) := fun e => n10 e.symm
  have npq : P (m.st.length - 1) ≠ Q (m.st.length - 1) := fun e => n11 e.symm
  have ho := ok.open_ HX.out
  have ht := tops ho
  have hol := ok.oplen
  obtain ⟨go, capo, hvo, hrowo, ngor, hcapo, ngop, ngo⟩ := h.rowO ho
  obtain ⟨o0, o1, of, nor, nop⟩ := h.opc _ _ ht
  have hg2 := hrowo (m.op.length - 1) (by omega)
  unfold ptr at hg2
  have geO := h.geO (m.op.length - 1) (by omega)
  have nro : r ≠ O (m.op.length - 1) := fun e => nor e.symm
  subst hvo
  have HT : Hid (m.op[m.op.length - 1]? = some (top m)) := ht
  clear ht nop ngo ngop hrowo
  by_cases h123 : c = 123
  · subst h123
    have HY : Hid (condStep m 123 = some { m with op := m.op.set (m.op.length - 1) { top m with second := true }, state := 115 }) := by show condStep m 123 = _; unfold condStep; rw [HX.out, if_neg (by decide), if_neg (by decide), if_neg (by decide), if_neg (by decide), if_neg (by decide), if_neg (by decide), if_neg (by decide), if_neg (by decide), if_neg (by decide), if_pos rfl]
    have HR : Hid (Rep _ _ _ _ _ _ _ _ _) := h
    have OK : Hid (Ok m) := ok
    clear h ok
    go_enter Try.func43, Try.ntmps43
    go_wp2_with (first | (go_at_call 53; refine hc.mono ?_; rintro e w' ⟨rfl, k, rfl⟩) | (go_at_call 50; refine (variable_no _ _ (by omega) (by omega) (by omega)).mono ?_; rintro e w' ⟨rfl, rfl⟩))
    go_quiet (fail)
    go_wp2
    go_ret
    exact post_yes HY.out (Below.setCell (Below.setCell (below_drewN (Below.refl _ _) _) geO _) geR _) (((HR.out.drewN _).setBk (m.op.length - 1) (top m) { top m with second := true } HT.out 1 (.bool true) _ rfl rfl).setRd 0 (.int .u8 115) _ rfl rfl rfl)
  have b123 : (c == 123) = false := by simpa using h123
  have n123 : (c != 123) = true := by simpa using h123
  have HY : Hid (condStep m c = none) := by show condStep m c = _; unfold condStep; rw [HX.out, if_neg (by decide), if_neg (by decide), if_neg (by decide), if_neg (by decide), if_neg (by decide), if_neg (by decide), if_neg (by decide), if_neg (by decide), if_neg (by decide), if_neg h123]
  clear h123
  have HR : Hid (Rep _ _ _ _ _ _ _ _ _) := h
  have OK : Hid (Ok m) := ok
  clear h ok
  by_cases hv : 97 ≤ c ∧ c ≤ 100
  · obtain ⟨hva, hvb⟩ := hv
    go_enter Try.func43, Try.ntmps43
    go_wp2_with (first | (go_at_call 53; refine hc.mono ?_; rintro e w' ⟨rfl, k, rfl⟩) | (go_at_call 50; refine (variable_yes c _ hva hvb).mono ?_; rintro e w' ⟨rfl, rfl⟩))
    go_ret
    exact post_no HY.out (below_drewN (Below.refl _ _) _)
  · go_enter Try.func43, Try.ntmps43
    go_wp2_with (first | (go_at_call 53; refine hc.mono ?_; rintro e w' ⟨rfl, k, rfl⟩) | (go_at_call 50; refine (variable_no _ _ (by omega) (by omega) (by omega)).mono ?_; rintro e w' ⟨rfl, rfl⟩))
    go_ret
    exact post_no HY.out (below_drewN (Below.refl _ _) _)

end Go.Proofs.Ytadhimimdmoodaa
