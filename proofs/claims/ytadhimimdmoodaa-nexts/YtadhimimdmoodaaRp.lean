import Derived.Test.YtadhimimdmoodaaRl
namespace Go.Proofs.Ytadhimimdmoodaa
open Go.RowKit
variable {B : Nat} {w w' : World} {r : Nat} {m : Rd} {vs vo : Value} {P Q O : Nat → Nat}


theorem behind_or (m : Rd) : behindOf m = 59 ∨ behindOf m = 123 := by
  unfold behindOf
  split
  · exact .inl rfl
  · exact .inr rfl

theorem setCur_cur (hn : 0 < m.st.length) : setCur m (cur m) = m := by
  have h := Rep.curs hn
  unfold setCur
  have : m.st.set (m.st.length - 1) (cur m) = m.st := by
    apply List.ext_getElem?
    intro i
    rw [List.getElem?_set]
    split
    · rename_i e; subst e; rw [if_pos (by omega), h]
    · rfl
  rw [this]

set_option maxRecDepth 100000 in
set_option maxHeartbeats 1600000 in
theorem Rep.condM (h : Rep B w r m vs vo P Q O) (ok : Ok m) (hn : 0 < m.st.length) (hB : B ≤ w.heap.size) (c : Int) (h0 : 0 ≤ c) (h1 : c ≤ 255) (hx : m.state = 109) :
    Calls Try.prog 43 #[.pointer (some ⟨r, 0, none⟩), .int .u8 c] w (Post B w r (condStep m c)) := by
  have hc := h.now hn ok.len
  have hcur := Rep.curs hn
  obtain ⟨c0, c1, c2, c3, c4, c5, c6, f7, f8, n9, n10, n11⟩ := h.stc _ _ hcur
  obtain ⟨r0, r1, r2, r3, r4, r5, rf⟩ := h.rdc
  have geR := h.geR
  obtain ⟨geP, geQ⟩ := h.geC hn
  obtain ⟨sg0, sg1⟩ := ok.sgn
  obtain ⟨nu0, nu1⟩ := ok.nums (cur m) (List.mem_of_getElem? hcur)
  have HC : Hid (_ = _) := hcur
  clear hcur
  rw [hx] at r0
  have HX : Hid (_ = _) := hx
  clear hx
  have nrp : r ≠ P (m.st.length - 1) := fun e => n9 e.symm
  have nrq : r ≠ Q (m.st.length - 1) := fun e => n10 e.symm
  have npq : P (m.st.length - 1) ≠ Q (m.st.length - 1) := fun e => n11 e.symm
  by_cases h59 : c = 59
  · subst h59
    have HY : Hid (condStep m 59 = plainStep { setCur m { cur m with num := if m.neg then -(cur m).num else (cur m).num } with state := behindOf m } 59) := by show condStep m 59 = _; unfold condStep; rw [HX.out, if_neg (by decide), if_neg (by decide), if_neg (by decide), if_neg (by decide), if_neg (by decide), if_neg (by decide), if_neg (by decide), if_neg (by decide), if_pos rfl, if_pos (by decide)]
    cases hneg : m.neg
    · rw [hneg] at r4
      have HZ : Hid (condStep m 59 = plainStep { m with state := behindOf m } 59) := HY.out.trans (by
        have e : ({ cur m with num := if m.neg then -(cur m).num else (cur m).num } : St) = cur m := by rw [hneg]; rfl
        rw [e, setCur_cur hn])
      clear hneg HY
      have HR : Hid (Rep _ _ _ _ _ _ _ _ _) := h
      have OK : Hid (Ok m) := ok
      clear h ok
      go_enter Try.func43, Try.ntmps43
      go_wp2_with (first | (go_at_call 53; refine hc.mono ?_; rintro e w' ⟨rfl, k, rfl⟩) | (go_at_call 50; refine (variable_no _ _ (by omega) (by omega) (by omega)).mono ?_; rintro e w' ⟨rfl, rfl⟩))
      have e1 := HR.out.drewN k
      refine (e1.behind (by first | exact hn | (rw [len_setCur]; exact hn)) (by first | exact OK.out.len | (rw [len_setCur]; exact OK.out.len))).mono ?_
      rintro e w' ⟨rfl, k2, rfl⟩
      have e2 := (HR.out.drewN (k + k2)).setRd 0 (.int .u8 (behindOf m)) { m with state := behindOf m } rfl rfl rfl
      have HE : Hid (Rep _ _ _ _ _ _ _ _ _) := e2
      clear e1 e2
      go_wp2_with fail
      refine (HE.out.bytePlain (by first | exact OK.out.len | (show (setCur _ _).st.length ≤ 20; rw [len_setCur]; exact OK.out.len)) OK.out.oplen (by first | exact hn | (show 0 < (setCur _ _).st.length; rw [len_setCur]; exact hn)) (by simpa using hB) _ (by omega) (by omega) (by show behindOf _ = 59 ∨ behindOf _ = 123; exact behind_or _)).mono ?_
      rintro e w' ⟨rfl, hb, hr⟩
      go_wp2
      go_ret
      exact post_via HZ.out (Below.setCell (below_drewN (Below.refl _ _) _) geR _) hb hr
    · rw [hneg] at r4
      have HZ : Hid (condStep m 59 = plainStep { setCur m { cur m with num := -(cur m).num } with state := behindOf m } 59) := HY.out.trans (by rw [hneg]; rfl)
      have HBe : Hid (behindOf (setCur m { cur m with num := -(cur m).num }) = behindOf m) := by show behindOf _ = _; unfold behindOf; rw [cur_setCur hn]
      clear hneg HY
      have HR : Hid (Rep _ _ _ _ _ _ _ _ _) := h
      have OK : Hid (Ok m) := ok
      clear h ok
      go_enter Try.func43, Try.ntmps43
      go_wp2_with (first | (go_at_call 53; refine hc.mono ?_; rintro e w' ⟨rfl, k, rfl⟩) | (go_at_call 50; refine (variable_no _ _ (by omega) (by omega) (by omega)).mono ?_; rintro e w' ⟨rfl, rfl⟩))
      have e1 := (HR.out.drewN k).setC hn { cur m with num := -(cur m).num } 4 (.int .i64 (-(cur m).num)) rfl rfl
      refine (e1.behind (by first | exact hn | (rw [len_setCur]; exact hn)) (by first | exact OK.out.len | (rw [len_setCur]; exact OK.out.len))).mono ?_
      rintro e w' ⟨rfl, k2, rfl⟩
      have e2 := (e1.drewN k2).setRd 0 (.int .u8 (behindOf (setCur m { cur m with num := -(cur m).num }))) { (setCur m { cur m with num := -(cur m).num }) with state := behindOf (setCur m { cur m with num := -(cur m).num }) } rfl rfl rfl
      have HE : Hid (Rep _ _ _ _ _ _ _ _ _) := e2
      clear e1 e2
      go_wp2_with fail
      refine (HE.out.bytePlain (by first | exact OK.out.len | (show (setCur _ _).st.length ≤ 20; rw [len_setCur]; exact OK.out.len)) OK.out.oplen (by first | exact hn | (show 0 < (setCur _ _).st.length; rw [len_setCur]; exact hn)) (by simpa using hB) _ (by omega) (by omega) (by show behindOf _ = 59 ∨ behindOf _ = 123; exact behind_or _)).mono ?_
      rintro e w' ⟨rfl, hb, hr⟩
      go_wp2
      go_ret
      refine post_via (HZ.out.trans ?_) (Below.setCell (below_drewN (Below.setCell (below_drewN (Below.refl _ _) _) geP _) _) geR _) hb hr
      rw [HBe.out]

  by_cases h123 : c = 123
  · subst h123
    clear h59
    have HY : Hid (condStep m 123 = plainStep { setCur m { cur m with num := if m.neg then -(cur m).num else (cur m).num } with state := behindOf m } 123) := by show condStep m 123 = _; unfold condStep; rw [HX.out, if_neg (by decide), if_neg (by decide), if_neg (by decide), if_neg (by decide), if_neg (by decide), if_neg (by decide), if_neg (by decide), if_neg (by decide), if_pos rfl, if_pos (by decide)]
    cases hneg : m.neg
    · rw [hneg] at r4
      have HZ : Hid (condStep m 123 = plainStep { m with state := behindOf m } 123) := HY.out.trans (by
        have e : ({ cur m with num := if m.neg then -(cur m).num else (cur m).num } : St) = cur m := by rw [hneg]; rfl
        rw [e, setCur_cur hn])
      clear hneg HY
      have HR : Hid (Rep _ _ _ _ _ _ _ _ _) := h
      have OK : Hid (Ok m) := ok
      clear h ok
      go_enter Try.func43, Try.ntmps43
      go_wp2_with (first | (go_at_call 53; refine hc.mono ?_; rintro e w' ⟨rfl, k, rfl⟩) | (go_at_call 50; refine (variable_no _ _ (by omega) (by omega) (by omega)).mono ?_; rintro e w' ⟨rfl, rfl⟩))
      have e1 := HR.out.drewN k
      refine (e1.behind (by first | exact hn | (rw [len_setCur]; exact hn)) (by first | exact OK.out.len | (rw [len_setCur]; exact OK.out.len))).mono ?_
      rintro e w' ⟨rfl, k2, rfl⟩
      have e2 := (HR.out.drewN (k + k2)).setRd 0 (.int .u8 (behindOf m)) { m with state := behindOf m } rfl rfl rfl
      have HE : Hid (Rep _ _ _ _ _ _ _ _ _) := e2
      clear e1 e2
      go_wp2_with fail
      refine (HE.out.bytePlain (by first | exact OK.out.len | (show (setCur _ _).st.length ≤ 20; rw [len_setCur]; exact OK.out.len)) OK.out.oplen (by first | exact hn | (show 0 < (setCur _ _).st.length; rw [len_setCur]; exact hn)) (by simpa using hB) _ (by omega) (by omega) (by show behindOf _ = 59 ∨ behindOf _ = 123; exact behind_or _)).mono ?_
      rintro e w' ⟨rfl, hb, hr⟩
      go_wp2
      go_ret
      exact post_via HZ.out (Below.setCell (below_drewN (Below.refl _ _) _) geR _) hb hr
    · rw [hneg] at r4
      have HZ : Hid (condStep m 123 = plainStep { setCur m { cur m with num := -(cur m).num } with state := behindOf m } 123) := HY.out.trans (by rw [hneg]; rfl)
      have HBe : Hid (behindOf (setCur m { cur m with num := -(cur m).num }) = behindOf m) := by show behindOf _ = _; unfold behindOf; rw [cur_setCur hn]
      clear hneg HY
      have HR : Hid (Rep _ _ _ _ _ _ _ _ _) := h
      have OK : Hid (Ok m) := ok
      clear h ok
      go_enter Try.func43, Try.ntmps43
      go_wp2_with (first | (go_at_call 53; refine hc.mono ?_; rintro e w' ⟨rfl, k, rfl⟩) | (go_at_call 50; refine (variable_no _ _ (by omega) (by omega) (by omega)).mono ?_; rintro e w' ⟨rfl, rfl⟩))
      have e1 := (HR.out.drewN k).setC hn { cur m with num := -(cur m).num } 4 (.int .i64 (-(cur m).num)) rfl rfl
      refine (e1.behind (by first | exact hn | (rw [len_setCur]; exact hn)) (by first | exact OK.out.len | (rw [len_setCur]; exact OK.out.len))).mono ?_
      rintro e w' ⟨rfl, k2, rfl⟩
      have e2 := (e1.drewN k2).setRd 0 (.int .u8 (behindOf (setCur m { cur m with num := -(cur m).num }))) { (setCur m { cur m with num := -(cur m).num }) with state := behindOf (setCur m { cur m with num := -(cur m).num }) } rfl rfl rfl
      have HE : Hid (Rep _ _ _ _ _ _ _ _ _) := e2
      clear e1 e2
      go_wp2_with fail
      refine (HE.out.bytePlain (by first | exact OK.out.len | (show (setCur _ _).st.length ≤ 20; rw [len_setCur]; exact OK.out.len)) OK.out.oplen (by first | exact hn | (show 0 < (setCur _ _).st.length; rw [len_setCur]; exact hn)) (by simpa using hB) _ (by omega) (by omega) (by show behindOf _ = 59 ∨ behindOf _ = 123; exact behind_or _)).mono ?_
      rintro e w' ⟨rfl, hb, hr⟩
      go_wp2
      go_ret
      refine post_via (HZ.out.trans ?_) (Below.setCell (below_drewN (Below.setCell (below_drewN (Below.refl _ _) _) geP _) _) geR _) hb hr
      rw [HBe.out]

  have b59 : (c == 59) = false := by simpa using h59
  have b123 : (c == 123) = false := by simpa using h123
  have HY : Hid (condStep m c = digitStep m c false 109) := by show condStep m c = _; unfold condStep; rw [HX.out, if_neg (by decide), if_neg (by decide), if_neg (by decide), if_neg (by decide), if_neg (by decide), if_neg (by decide), if_neg (by decide), if_neg (by decide), if_pos rfl, if_neg (fun e => e.elim h59 h123)]
  clear h59 h123
  by_cases hv : 97 ≤ c ∧ c ≤ 100
  · obtain ⟨hva, hvb⟩ := hv
    have HR : Hid (Rep _ _ _ _ _ _ _ _ _) := h
    have OK : Hid (Ok m) := ok
    clear h ok
    go_enter Try.func43, Try.ntmps43
    go_wp2_with (first | (go_at_call 53; refine hc.mono ?_; rintro e w' ⟨rfl, k, rfl⟩) | (go_at_call 50; refine (variable_yes c _ hva hvb).mono ?_; rintro e w' ⟨rfl, rfl⟩))
    refine ((HR.out.drewN k).digit OK.out hn c false h0 h1 109).mono ?_
    rintro e w' ⟨rfl, hb, hr⟩
    go_wp2
    go_ret
    exact post_via HY.out (below_drewN (Below.refl _ _) _) hb hr
  · have HR : Hid (Rep _ _ _ _ _ _ _ _ _) := h
    have OK : Hid (Ok m) := ok
    clear h ok
    go_enter Try.func43, Try.ntmps43
    go_wp2_with (first | (go_at_call 53; refine hc.mono ?_; rintro e w' ⟨rfl, k, rfl⟩) | (go_at_call 50; refine (variable_no _ _ (by omega) (by omega) (by omega)).mono ?_; rintro e w' ⟨rfl, rfl⟩))
    refine ((HR.out.drewN k).digit OK.out hn c false h0 h1 109).mono ?_
    rintro e w' ⟨rfl, hb, hr⟩
    go_wp2
    go_ret
    exact post_via HY.out (below_drewN (Below.refl _ _) _) hb hr

end Go.Proofs.Ytadhimimdmoodaa
