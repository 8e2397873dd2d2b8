import Derived.Test.YtffajooegiempaaDoorJ19
namespace Go.Proofs.YtffajooegiempaaDoor
open Go.RowKit
variable {B : Nat} {w w' : World} {r : Nat} {m : Rd} {vs vo : Value} {P Q O : Nat → Nat}

set_option maxRecDepth 100000 in
set_option maxHeartbeats 1600000 in
theorem Rep.start (h : Rep B w r m vs vo P Q O) (ok : Ok m) (hB : B ≤ w.heap.size) (c : Int) (h0 : 0 ≤ c) (h1 : c ≤ 255) :
    Calls Tryd.prog 93 #[.pointer (some ⟨r, 0, none⟩), .int .u8 c] w (Post B w r (startStep m c)) := by
  obtain ⟨r0, r1, r2, r3, r4, r5, rf⟩ := h.rdc
  have geR := h.geR
  have hlen := ok.len
  have holen := ok.oplen
  obtain ⟨ao, cap, hvo⟩ := h.olen
  by_cases hv : 97 ≤ c ∧ c ≤ 100
  · obtain ⟨hva, hvb⟩ := hv
    by_cases h20 : m.st.length = 20
    · have HY : Hid (startStep m c = none) := by show startStep m c = _; unfold startStep beginStep; rw [if_pos ⟨hva, hvb⟩, if_pos h20]
      have HR : Hid (Rep _ _ _ _ _ _ _ _ _) := h
      have OK : Hid (Ok m) := ok
      clear h ok
      go_enter Tryd.func93, Tryd.ntmps93
      go_wp2_with (first | (go_at_call 107; refine (variable_yes c _ hva hvb).mono ?_; rintro e w' ⟨rfl, rfl⟩) | (go_at_call 108; refine (HR.out.beginFull h20 _ _).mono ?_; rintro e w' ⟨rfl, rfl⟩))
      go_ret
      exact post_no HY.out (Below.setCell (Below.refl _ _) geR _)
    · have HY : Hid (startStep m c = some { m with st := m.st ++ [⟨61, c - 97, false, [0, 0, 0, 0], 0, 0, m.st.length + 1⟩], state := 61 }) := by
        show startStep m c = _; unfold startStep beginStep; rw [if_pos ⟨hva, hvb⟩, if_neg h20]
      replace h20 : m.st.length < 20 := by omega
      have HR : Hid (Rep _ _ _ _ _ _ _ _ _) := h
      have OK : Hid (Ok m) := ok
      clear h ok
      go_enter Tryd.func93, Tryd.ntmps93
      go_wp2_with (first | (go_at_call 107; refine (variable_yes c _ hva hvb).mono ?_; rintro e w' ⟨rfl, rfl⟩) | (go_at_call 108; refine (HR.out.begin_ h20 _ _ hB).mono ?_; rintro e w' ⟨rfl, hb, vs', P', Q', hr⟩; have hr0 := hr.rdc.1; have hr2 := hr.rdc.2.2.1; have hrf := hr.rdc.2.2.2.2.2.2; have HQ : Hid (Rep _ _ _ _ _ _ _ _ _) := hr; clear hr))
      go_ret
      exact post_yes HY.out (Below.setCell hb geR _) (HQ.out.setRd 0 (.int .u8 61) _ rfl rfl rfl)
  by_cases hq : c = 63 ∨ c = 64
  · have b33 : (c == 33) = false := by rcases hq with rfl | rfl <;> rfl
    have hqb : ((c == 63) || (c == 64)) = true := by rcases hq with rfl | rfl <;> rfl
    by_cases h20 : m.st.length = 20
    · have HY : Hid (startStep m c = none) := by show startStep m c = _; unfold startStep beginStep; rw [if_neg hv, if_pos hq]; simp [h20]
      subst hvo
      clear hqb
      rcases hq with rfl | rfl
      · have HR : Hid (Rep _ _ _ _ _ _ _ _ _) := h
        have OK : Hid (Ok m) := ok
        clear h ok
        go_enter Tryd.func93, Tryd.ntmps93
        go_wp2_with (first | (go_at_call 107; refine (variable_no _ _ (by omega) (by omega) (by omega)).mono ?_; rintro e w' ⟨rfl, rfl⟩) | (go_at_call 108; refine (HR.out.beginFull h20 _ _).mono ?_; rintro e w' ⟨rfl, rfl⟩))
        go_ret
        exact post_no HY.out (Below.setCell (Below.refl _ _) geR _)
      · have HR : Hid (Rep _ _ _ _ _ _ _ _ _) := h
        have OK : Hid (Ok m) := ok
        clear h ok
        go_enter Tryd.func93, Tryd.ntmps93
        go_wp2_with (first | (go_at_call 107; refine (variable_no _ _ (by omega) (by omega) (by omega)).mono ?_; rintro e w' ⟨rfl, rfl⟩) | (go_at_call 108; refine (HR.out.beginFull h20 _ _).mono ?_; rintro e w' ⟨rfl, rfl⟩))
        go_ret
        exact post_no HY.out (Below.setCell (Below.refl _ _) geR _)
    · by_cases h4 : m.op.length < 4
      · have HY : Hid (startStep m c = some { m with st := m.st ++ [⟨c, 0, false, [0, 0, 0, 0], 0, 0, m.st.length + 1⟩], state := 99 }) := by
          show startStep m c = _; unfold startStep beginStep; rw [if_neg hv, if_pos hq, if_pos h4, if_neg h20]
        replace h20 : m.st.length < 20 := by omega
        have d4 : decide (((m.op.length : Nat) : Int) < 4) = true := by simp; omega
        subst hvo
        clear hqb
        rcases hq with rfl | rfl
        · have HR : Hid (Rep _ _ _ _ _ _ _ _ _) := h
          have OK : Hid (Ok m) := ok
          clear h ok
          go_enter Tryd.func93, Tryd.ntmps93
          go_wp2_with (first | (go_at_call 107; refine (variable_no _ _ (by omega) (by omega) (by omega)).mono ?_; rintro e w' ⟨rfl, rfl⟩) | (go_at_call 108; refine (HR.out.begin_ h20 _ _ hB).mono ?_; rintro e w' ⟨rfl, hb, vs', P', Q', hr⟩; have hr0 := hr.rdc.1; have hr2 := hr.rdc.2.2.1; have hrf := hr.rdc.2.2.2.2.2.2; have HQ : Hid (Rep _ _ _ _ _ _ _ _ _) := hr; clear hr))
          go_ret
          exact post_yes HY.out (Below.setCell hb geR _) (HQ.out.setRd 0 (.int .u8 99) _ rfl rfl rfl)
        · have HR : Hid (Rep _ _ _ _ _ _ _ _ _) := h
          have OK : Hid (Ok m) := ok
          clear h ok
          go_enter Tryd.func93, Tryd.ntmps93
          go_wp2_with (first | (go_at_call 107; refine (variable_no _ _ (by omega) (by omega) (by omega)).mono ?_; rintro e w' ⟨rfl, rfl⟩) | (go_at_call 108; refine (HR.out.begin_ h20 _ _ hB).mono ?_; rintro e w' ⟨rfl, hb, vs', P', Q', hr⟩; have hr0 := hr.rdc.1; have hr2 := hr.rdc.2.2.1; have hrf := hr.rdc.2.2.2.2.2.2; have HQ : Hid (Rep _ _ _ _ _ _ _ _ _) := hr; clear hr))
          go_ret
          exact post_yes HY.out (Below.setCell hb geR _) (HQ.out.setRd 0 (.int .u8 99) _ rfl rfl rfl)
      · have HY : Hid (startStep m c = none) := by show startStep m c = _; unfold startStep; rw [if_neg hv, if_pos hq, if_neg h4]
        replace h20 : m.st.length < 20 := by omega
        have d4 : decide (((m.op.length : Nat) : Int) < 4) = false := by simp; omega
        clear h4
        subst hvo
        clear hqb
        rcases hq with rfl | rfl
        · have HR : Hid (Rep _ _ _ _ _ _ _ _ _) := h
          have OK : Hid (Ok m) := ok
          clear h ok
          go_enter Tryd.func93, Tryd.ntmps93
          go_wp2_with (first | (go_at_call 107; refine (variable_no _ _ (by omega) (by omega) (by omega)).mono ?_; rintro e w' ⟨rfl, rfl⟩) | (go_at_call 108; refine (HR.out.begin_ h20 _ _ hB).mono ?_; rintro e w' ⟨rfl, hb, vs', P', Q', hr⟩; have hr0 := hr.rdc.1; have hr2 := hr.rdc.2.2.1; have hrf := hr.rdc.2.2.2.2.2.2; have HQ : Hid (Rep _ _ _ _ _ _ _ _ _) := hr; clear hr))
          go_ret
          exact post_no HY.out (Below.setCell hb geR _)
        · have HR : Hid (Rep _ _ _ _ _ _ _ _ _) := h
          have OK : Hid (Ok m) := ok
          clear h ok
          go_enter Tryd.func93, Tryd.ntmps93
          go_wp2_with (first | (go_at_call 107; refine (variable_no _ _ (by omega) (by omega) (by omega)).mono ?_; rintro e w' ⟨rfl, rfl⟩) | (go_at_call 108; refine (HR.out.begin_ h20 _ _ hB).mono ?_; rintro e w' ⟨rfl, hb, vs', P', Q', hr⟩; have hr0 := hr.rdc.1; have hr2 := hr.rdc.2.2.1; have hrf := hr.rdc.2.2.2.2.2.2; have HQ : Hid (Rep _ _ _ _ _ _ _ _ _) := hr; clear hr))
          go_ret
          exact post_no HY.out (Below.setCell hb geR _)
  have b63 : (c == 63) = false := by simp; omega
  have b64 : (c == 64) = false := by simp; omega
  by_cases h33 : c = 33
  · by_cases h20 : m.st.length = 20
    · have HY : Hid (startStep m c = none) := by show startStep m c = _; unfold startStep beginStep; rw [if_neg hv, if_neg hq, if_pos h33, if_pos h20]
      subst h33
      clear b63 b64
      have HR : Hid (Rep _ _ _ _ _ _ _ _ _) := h
      have OK : Hid (Ok m) := ok
      clear h ok
      go_enter Tryd.func93, Tryd.ntmps93
      go_wp2_with (first | (go_at_call 107; refine (variable_no _ _ (by omega) (by omega) (by omega)).mono ?_; rintro e w' ⟨rfl, rfl⟩) | (go_at_call 108; refine (HR.out.beginFull h20 _ _).mono ?_; rintro e w' ⟨rfl, rfl⟩))
      go_ret
      exact post_no HY.out (Below.setCell (Below.refl _ _) geR _)
    · have HY : Hid (startStep m c = some { m with st := m.st ++ [⟨c, 0, false, [0, 0, 0, 0], 0, 0, m.st.length + 1⟩], state := 99 }) := by
        show startStep m c = _; unfold startStep beginStep; rw [if_neg hv, if_neg hq, if_pos h33, if_neg h20]
      replace h20 : m.st.length < 20 := by omega
      subst h33
      clear b63 b64
      have HR : Hid (Rep _ _ _ _ _ _ _ _ _) := h
      have OK : Hid (Ok m) := ok
      clear h ok
      go_enter Tryd.func93, Tryd.ntmps93
      go_wp2_with (first | (go_at_call 107; refine (variable_no _ _ (by omega) (by omega) (by omega)).mono ?_; rintro e w' ⟨rfl, rfl⟩) | (go_at_call 108; refine (HR.out.begin_ h20 _ _ hB).mono ?_; rintro e w' ⟨rfl, hb, vs', P', Q', hr⟩; have hr0 := hr.rdc.1; have hr2 := hr.rdc.2.2.1; have hrf := hr.rdc.2.2.2.2.2.2; have HQ : Hid (Rep _ _ _ _ _ _ _ _ _) := hr; clear hr))
      go_ret
      exact post_yes HY.out (Below.setCell hb geR _) (HQ.out.setRd 0 (.int .u8 99) _ rfl rfl rfl)
  have b33 : (c == 33) = false := by simpa using h33
  by_cases h125 : c = 125
  · by_cases ho : 0 < m.op.length
    · have HY : Hid (startStep m c = shutStep m) := by show startStep m c = _; unfold startStep; rw [if_neg hv, if_neg hq, if_neg h33, if_pos ⟨h125, ho⟩]
      subst h125
      subst hvo
      clear b63 b64 b33
      have HR : Hid (Rep _ _ _ _ _ _ _ _ _) := h
      have OK : Hid (Ok m) := ok
      clear h ok
      go_enter Tryd.func93, Tryd.ntmps93
      go_wp2_with (first | (go_at_call 107; refine (variable_no _ _ (by omega) (by omega) (by omega)).mono ?_; rintro e w' ⟨rfl, rfl⟩) | (go_at_call 109; refine (HR.out.shut OK.out ho).mono ?_; rintro e w' ⟨rfl, hb, hr⟩))
      go_ret
      exact post_via HY.out (Below.refl _ _) hb hr
    · have HY : Hid (startStep m c = none) := by show startStep m c = _; unfold startStep; rw [if_neg hv, if_neg hq, if_neg h33, if_neg (fun e => ho e.2)]
      have ho0 : m.op.length = 0 := by omega
      rw [hvo, ho0] at r2
      subst h125
      clear b63 b64 b33 hvo ho ho0
      have HR : Hid (Rep _ _ _ _ _ _ _ _ _) := h
      have OK : Hid (Ok m) := ok
      clear h ok
      go_enter Tryd.func93, Tryd.ntmps93
      go_wp2_with (go_at_call 107; refine (variable_no _ _ (by omega) (by omega) (by omega)).mono ?_; rintro e w' ⟨rfl, rfl⟩)
      go_ret
      exact post_no HY.out (Below.refl _ _)
  · have b125 : (c == 125) = false := by simpa using h125
    have HY : Hid (startStep m c = none) := by show startStep m c = _; unfold startStep; rw [if_neg hv, if_neg hq, if_neg h33, if_neg (fun e => h125 e.1)]
    clear h125 h33 hq
    have HR : Hid (Rep _ _ _ _ _ _ _ _ _) := h
    have OK : Hid (Ok m) := ok
    clear h ok
    go_enter Tryd.func93, Tryd.ntmps93
    go_wp2_with (go_at_call 107; refine (variable_no _ _ (by omega) (by omega) hv).mono ?_; rintro e w' ⟨rfl, rfl⟩)
    go_ret
    exact post_no HY.out (Below.refl _ _)

end Go.Proofs.YtffajooegiempaaDoor

namespace Go.Proofs.YtffajooegiempaaDoor
open Go.RowKit
variable {B : Nat} {w w' : World} {r : Nat} {m : Rd} {vs vo : Value} {P Q O : Nat → Nat}


set_option maxRecDepth 100000 in
set_option maxHeartbeats 1600000 in
theorem Rep.condM (h : Rep B w r m vs vo P Q O) (ok : Ok m) (hn : 0 < m.st.length) (hB : B ≤ w.heap.size) (c : Int) (h0 : 0 ≤ c) (h1 : c ≤ 255) (hx : m.state = 109) :
    Calls Tryd.prog 95 #[.pointer (some ⟨r, 0, none⟩), .int .u8 c] w (Post B w r (condStep m c)) := by
  have hc := h.now hn ok.len
  have hcur := Rep.curs hn
  obtain ⟨c0, c1, c2, c3, c4, c5, c6, f7, f8, n9, n10, n11⟩ := h.stc _ _ hcur
  obtain ⟨r0, r1, r2, r3, r4, r5, rf⟩ := h.rdc
  have geR := h.geR
  obtain ⟨geP, geQ⟩ := h.geC hn
  obtain ⟨sg0, sg1⟩ := ok.sgn
  obtain ⟨nu0, nu1⟩ := ok.nums (cur m) (List.mem_of_getElem? hcur)
  have HC : Hid (_ = _) := hcur
  clear hcur
  rw [hx] at r0
  have HX : Hid (_ = _) := hx
  clear hx
  have nrp : r ≠ P (m.st.length - 1) := fun e => n9 e.symm
  have nrq : r ≠ Q (m.st.length - 1) := fun e => n10 e.symm
  have npq : P (m.st.length - 1) ≠ Q (m.st.length - 1) := fun e => n11 e.symm
  by_cases h59 : c = 59
  · subst h59
    have HY : Hid (condStep m 59 = plainStep { setCur m { cur m with num := if m.neg then -(cur m).num else (cur m).num } with state := behindOf m } 59) := by show condStep m 59 = _; unfold condStep; rw [HX.out, if_neg (by decide), if_neg (by decide), if_neg (by decide), if_neg (by decide), if_neg (by decide), if_neg (by decide), if_neg (by decide), if_neg (by decide), if_pos rfl, if_pos (by decide)]
    cases hneg : m.neg
    · rw [hneg] at r4
      have HZ : Hid (condStep m 59 = plainStep { m with state := behindOf m } 59) := HY.out.trans (by
        have e : ({ cur m with num := if m.neg then -(cur m).num else (cur m).num } : St) = cur m := by rw [hneg]; rfl
        rw [e, setCur_cur hn])
      clear hneg HY
      have HR : Hid (Rep _ _ _ _ _ _ _ _ _) := h
      have OK : Hid (Ok m) := ok
      clear h ok
      go_enter Tryd.func95, Tryd.ntmps95
      go_wp2_with (first | (go_at_call 110; refine hc.mono ?_; rintro e w' ⟨rfl, k, rfl⟩) | (go_at_call 107; refine (variable_no _ _ (by omega) (by omega) (by omega)).mono ?_; rintro e w' ⟨rfl, rfl⟩))
      have e1 := HR.out.drewN k
      refine (e1.behind (by first | exact hn | (rw [len_setCur]; exact hn)) (by first | exact OK.out.len | (rw [len_setCur]; exact OK.out.len))).mono ?_
      rintro e w' ⟨rfl, k2, rfl⟩
      have e2 := (HR.out.drewN (k + k2)).setRd 0 (.int .u8 (behindOf m)) { m with state := behindOf m } rfl rfl rfl
      have HE : Hid (Rep _ _ _ _ _ _ _ _ _) := e2
      clear e1 e2
      go_wp2_with fail
      refine (HE.out.bytePlain (by first | exact OK.out.len | (show (setCur _ _).st.length ≤ 20; rw [len_setCur]; exact OK.out.len)) OK.out.oplen (by first | exact hn | (show 0 < (setCur _ _).st.length; rw [len_setCur]; exact hn)) (by simpa using hB) _ (by omega) (by omega) (by show behindOf _ = 59 ∨ behindOf _ = 123; exact behind_or _)).mono ?_
      rintro e w' ⟨rfl, hb, hr⟩
      go_wp2
      go_ret
      exact post_via HZ.out (Below.setCell (below_drewN (Below.refl _ _) _) geR _) hb hr
    · rw [hneg] at r4
      have HZ : Hid (condStep m 59 = plainStep { setCur m { cur m with num := -(cur m).num } with state := behindOf m } 59) := HY.out.trans (by rw [hneg]; rfl)
      have HBe : Hid (behindOf (setCur m { cur m with num := -(cur m).num }) = behindOf m) := by show behindOf _ = _; unfold behindOf; rw [cur_setCur hn]
      clear hneg HY
      have HR : Hid (Rep _ _ _ _ _ _ _ _ _) := h
      have OK : Hid (Ok m) := ok
      clear h ok
      go_enter Tryd.func95, Tryd.ntmps95
      go_wp2_with (first | (go_at_call 110; refine hc.mono ?_; rintro e w' ⟨rfl, k, rfl⟩) | (go_at_call 107; refine (variable_no _ _ (by omega) (by omega) (by omega)).mono ?_; rintro e w' ⟨rfl, rfl⟩))
      have e1 := (HR.out.drewN k).setC hn { cur m with num := -(cur m).num } 4 (.int .i64 (-(cur m).num)) rfl rfl
      refine (e1.behind (by first | exact hn | (rw [len_setCur]; exact hn)) (by first | exact OK.out.len | (rw [len_setCur]; exact OK.out.len))).mono ?_
      rintro e w' ⟨rfl, k2, rfl⟩
      have e2 := (e1.drewN k2).setRd 0 (.int .u8 (behindOf (setCur m { cur m with num := -(cur m).num }))) { (setCur m { cur m with num := -(cur m).num }) with state := behindOf (setCur m { cur m with num := -(cur m).num }) } rfl rfl rfl
      have HE : Hid (Rep _ _ _ _ _ _ _ _ _) := e2
      clear e1 e2
      go_wp2_with fail
      refine (HE.out.bytePlain (by first | exact OK.out.len | (show (setCur _ _).st.length ≤ 20; rw [len_setCur]; exact OK.out.len)) OK.out.oplen (by first | exact hn | (show 0 < (setCur _ _).st.length; rw [len_setCur]; exact hn)) (by simpa using hB) _ (by omega) (by omega) (by show behindOf _ = 59 ∨ behindOf _ = 123; exact behind_or _)).mono ?_
      rintro e w' ⟨rfl, hb, hr⟩
      go_wp2
      go_ret
      refine post_via (HZ.out.trans ?_) (Below.setCell (below_drewN (Below.setCell (below_drewN (Below.refl _ _) _) geP _) _) geR _) hb hr
      rw [HBe.out]

  by_cases h123 : c = 123
  · subst h123
    clear h59
    have HY : Hid (condStep m 123 = plainStep { setCur m { cur m with num := if m.neg then -(cur m).num else (cur m).num } with state := behindOf m } 123) := by show condStep m 123 = _; unfold condStep; rw [HX.out, if_neg (by decide), if_neg (by decide), if_neg (by decide), if_neg (by decide), if_neg (by decide), if_neg (by decide), if_neg (by decide), if_neg (by decide), if_pos rfl, if_pos (by decide)]
    cases hneg : m.neg
    · rw [hneg] at r4
      have HZ : Hid (condStep m 123 = plainStep { m with state := behindOf m } 123) := HY.out.trans (by
        have e : ({ cur m with num := if m.neg then -(cur m).num else (cur m).num } : St) = cur m := by rw [hneg]; rfl
        rw [e, setCur_cur hn])
      clear hneg HY
      have HR : Hid (Rep _ _ _ _ _ _ _ _ _) := h
      have OK : Hid (Ok m) := ok
      clear h ok
      go_enter Tryd.func95, Tryd.ntmps95
      go_wp2_with (first | (go_at_call 110; refine hc.mono ?_; rintro e w' ⟨rfl, k, rfl⟩) | (go_at_call 107; refine (variable_no _ _ (by omega) (by omega) (by omega)).mono ?_; rintro e w' ⟨rfl, rfl⟩))
      have e1 := HR.out.drewN k
      refine (e1.behind (by first | exact hn | (rw [len_setCur]; exact hn)) (by first | exact OK.out.len | (rw [len_setCur]; exact OK.out.len))).mono ?_
      rintro e w' ⟨rfl, k2, rfl⟩
      have e2 := (HR.out.drewN (k + k2)).setRd 0 (.int .u8 (behindOf m)) { m with state := behindOf m } rfl rfl rfl
      have HE : Hid (Rep _ _ _ _ _ _ _ _ _) := e2
      clear e1 e2
      go_wp2_with fail
      refine (HE.out.bytePlain (by first | exact OK.out.len | (show (setCur _ _).st.length ≤ 20; rw [len_setCur]; exact OK.out.len)) OK.out.oplen (by first | exact hn | (show 0 < (setCur _ _).st.length; rw [len_setCur]; exact hn)) (by simpa using hB) _ (by omega) (by omega) (by show behindOf _ = 59 ∨ behindOf _ = 123; exact behind_or _)).mono ?_
      rintro e w' ⟨rfl, hb, hr⟩
      go_wp2
      go_ret
      exact post_via HZ.out (Below.setCell (below_drewN (Below.refl _ _) _) geR _) hb hr
    · rw [hneg] at r4
      have HZ : Hid (condStep m 123 = plainStep { setCur m { cur m with num := -(cur m).num } with state := behindOf m } 123) := HY.out.trans (by rw [hneg]; rfl)
      have HBe : Hid (behindOf (setCur m { cur m with num := -(cur m).num }) = behindOf m) := by show behindOf _ = _; unfold behindOf; rw [cur_setCur hn]
      clear hneg HY
      have HR : Hid (Rep _ _ _ _ _ _ _ _ _) := h
      have OK : Hid (Ok m) := ok
      clear h ok
      go_enter Tryd.func95, Tryd.ntmps95
      go_wp2_with (first | (go_at_call 110; refine hc.mono ?_; rintro e w' ⟨rfl, k, rfl⟩) | (go_at_call 107; refine (variable_no _ _ (by omega) (by omega) (by omega)).mono ?_; rintro e w' ⟨rfl, rfl⟩))
      have e1 := (HR.out.drewN k).setC hn { cur m with num := -(cur m).num } 4 (.int .i64 (-(cur m).num)) rfl rfl
      refine (e1.behind (by first | exact hn | (rw [len_setCur]; exact hn)) (by first | exact OK.out.len | (rw [len_setCur]; exact OK.out.len))).mono ?_
      rintro e w' ⟨rfl, k2, rfl⟩
      have e2 := (e1.drewN k2).setRd 0 (.int .u8 (behindOf (setCur m { cur m with num := -(cur m).num }))) { (setCur m { cur m with num := -(cur m).num }) with state := behindOf (setCur m { cur m with num := -(cur m).num }) } rfl rfl rfl
      have HE : Hid (Rep _ _ _ _ _ _ _ _ _) := e2
      clear e1 e2
      go_wp2_with fail
      refine (HE.out.bytePlain (by first | exact OK.out.len | (show (setCur _ _).st.length ≤ 20; rw [len_setCur]; exact OK.out.len)) OK.out.oplen (by first | exact hn | (show 0 < (setCur _ _).st.length; rw [len_setCur]; exact hn)) (by simpa using hB) _ (by omega) (by omega) (by show behindOf _ = 59 ∨ behindOf _ = 123; exact behind_or _)).mono ?_
      rintro e w' ⟨rfl, hb, hr⟩
      go_wp2
      go_ret
      refine post_via (HZ.out.trans ?_) (Below.setCell (below_drewN (Below.setCell (below_drewN (Below.refl _ _) _) geP _) _) geR _) hb hr
      rw [HBe.out]

  have b59 : (c == 59) = false := by simpa using h59
  have b123 : (c == 123) = false := by simpa using h123
  have HY : Hid (condStep m c = digitStep m c false 109) := by show condStep m c = _; unfold condStep; rw [HX.out, if_neg (by decide), if_neg (by decide), if_neg (by decide), if_neg (by decide), if_neg (by decide), if_neg (by decide), if_neg (by decide), if_neg (by decide), if_pos rfl, if_neg (fun e => e.elim h59 h123)]
  clear h59 h123
  by_cases hv : 97 ≤ c ∧ c ≤ 100
  · obtain ⟨hva, hvb⟩ := hv
    have HR : Hid (Rep _ _ _ _ _ _ _ _ _) := h
    have OK : Hid (Ok m) := ok
    clear h ok
    go_enter Tryd.func95, Tryd.ntmps95
    go_wp2_with (first | (go_at_call 110; refine hc.mono ?_; rintro e w' ⟨rfl, k, rfl⟩) | (go_at_call 107; refine (variable_yes c _ hva hvb).mono ?_; rintro e w' ⟨rfl, rfl⟩))
    refine ((HR.out.drewN k).digit OK.out hn c false h0 h1 109).mono ?_
    rintro e w' ⟨rfl, hb, hr⟩
    go_wp2
    go_ret
    exact post_via HY.out (below_drewN (Below.refl _ _) _) hb hr
  · have HR : Hid (Rep _ _ _ _ _ _ _ _ _) := h
    have OK : Hid (Ok m) := ok
    clear h ok
    go_enter Tryd.func95, Tryd.ntmps95
    go_wp2_with (first | (go_at_call 110; refine hc.mono ?_; rintro e w' ⟨rfl, k, rfl⟩) | (go_at_call 107; refine (variable_no _ _ (by omega) (by omega) (by omega)).mono ?_; rintro e w' ⟨rfl, rfl⟩))
    refine ((HR.out.drewN k).digit OK.out hn c false h0 h1 109).mono ?_
    rintro e w' ⟨rfl, hb, hr⟩
    go_wp2
    go_ret
    exact post_via HY.out (below_drewN (Below.refl _ _) _) hb hr

end Go.Proofs.YtffajooegiempaaDoor

namespace Go.Proofs.YtffajooegiempaaDoor
open Go.RowKit
variable {B : Nat} {w w' : World} {r : Nat} {m : Rd} {vs vo : Value} {P Q O : Nat → Nat}


set_option maxRecDepth 100000 in
set_option maxHeartbeats 1600000 in
theorem Rep.condZ (h : Rep B w r m vs vo P Q O) (ok : Ok m) (hn : 0 < m.st.length) (_hB : B ≤ w.heap.size) (c : Int) (h0 : 0 ≤ c) (h1 : c ≤ 255) (hx : m.state = 125) :
    Calls Tryd.prog 95 #[.pointer (some ⟨r, 0, none⟩), .int .u8 c] w (Post B w r (condStep m c)) := by
  have hc := h.now hn ok.len
  have hcur := Rep.curs hn
  obtain ⟨c0, c1, c2, c3, c4, c5, c6, f7, f8, n9, n10, n11⟩ := h.stc _ _ hcur
  obtain ⟨r0, r1, r2, r3, r4, r5, rf⟩ := h.rdc
  have geR := h.geR
  obtain ⟨geP, geQ⟩ := h.geC hn
  obtain ⟨sg0, sg1⟩ := ok.sgn
  obtain ⟨nu0, nu1⟩ := ok.nums (cur m) (List.mem_of_getElem? hcur)
  have HC : Hid (_ = _) := hcur
  clear hcur
  rw [hx] at r0
  have HX : Hid (_ = _) := hx
  clear hx
  have nrp : r ≠ P (m.st.length - 1) := fun e => n9 e.symm
  have nrq : r ≠ Q (m.st.length - 1) := fun e => n10 e.symm
  have npq : P (m.st.length - 1) ≠ Q (m.st.length - 1) := fun e => n11 e.symm
  have ho := ok.open_ HX.out
  have ht := tops ho
  have hol := ok.oplen
  obtain ⟨go, capo, hvo, hrowo, ngor, hcapo, ngop, ngo⟩ := h.rowO ho
  obtain ⟨o0, o1, of, nor, nop⟩ := h.opc _ _ ht
  have hg2 := hrowo (m.op.length - 1) (by omega)
  unfold ptr at hg2
  have geO := h.geO (m.op.length - 1) (by omega)
  have nro : r ≠ O (m.op.length - 1) := fun e => nor e.symm
  subst hvo
  have HT : Hid (m.op[m.op.length - 1]? = some (top m)) := ht
  clear ht nop ngo ngop hrowo
  by_cases h123 : c = 123
  · subst h123
    have HY : Hid (condStep m 123 = some { m with op := m.op.set (m.op.length - 1) { top m with second := true }, state := 115 }) := by show condStep m 123 = _; unfold condStep; rw [HX.out, if_neg (by decide), if_neg (by decide), if_neg (by decide), if_neg (by decide), if_neg (by decide), if_neg (by decide), if_neg (by decide), if_neg (by decide), if_neg (by decide), if_pos rfl]
    have HR : Hid (Rep _ _ _ _ _ _ _ _ _) := h
    have OK : Hid (Ok m) := ok
    clear h ok
    go_enter Tryd.func95, Tryd.ntmps95
    go_wp2_with (first | (go_at_call 110; refine hc.mono ?_; rintro e w' ⟨rfl, k, rfl⟩) | (go_at_call 107; refine (variable_no _ _ (by omega) (by omega) (by omega)).mono ?_; rintro e w' ⟨rfl, rfl⟩))
    go_quiet (fail)
    go_wp2
    go_ret
    exact post_yes HY.out (Below.setCell (Below.setCell (below_drewN (Below.refl _ _) _) geO _) geR _) (((HR.out.drewN _).setBk (m.op.length - 1) (top m) { top m with second := true } HT.out 1 (.bool true) _ rfl rfl).setRd 0 (.int .u8 115) _ rfl rfl rfl)
  have b123 : (c == 123) = false := by simpa using h123
  have n123 : (c != 123) = true := by simpa using h123
  have HY : Hid (condStep m c = none) := by show condStep m c = _; unfold condStep; rw [HX.out, if_neg (by decide), if_neg (by decide), if_neg (by decide), if_neg (by decide), if_neg (by decide), if_neg (by decide), if_neg (by decide), if_neg (by decide), if_neg (by decide), if_neg h123]
  clear h123
  have HR : Hid (Rep _ _ _ _ _ _ _ _ _) := h
  have OK : Hid (Ok m) := ok
  clear h ok
  by_cases hv : 97 ≤ c ∧ c ≤ 100
  · obtain ⟨hva, hvb⟩ := hv
    go_enter Tryd.func95, Tryd.ntmps95
    go_wp2_with (first | (go_at_call 110; refine hc.mono ?_; rintro e w' ⟨rfl, k, rfl⟩) | (go_at_call 107; refine (variable_yes c _ hva hvb).mono ?_; rintro e w' ⟨rfl, rfl⟩))
    go_ret
    exact post_no HY.out (below_drewN (Below.refl _ _) _)
  · go_enter Tryd.func95, Tryd.ntmps95
    go_wp2_with (first | (go_at_call 110; refine hc.mono ?_; rintro e w' ⟨rfl, k, rfl⟩) | (go_at_call 107; refine (variable_no _ _ (by omega) (by omega) (by omega)).mono ?_; rintro e w' ⟨rfl, rfl⟩))
    go_ret
    exact post_no HY.out (below_drewN (Below.refl _ _) _)

end Go.Proofs.YtffajooegiempaaDoor

namespace Go.Proofs.YtffajooegiempaaDoor
open Go.RowKit
variable {B : Nat} {w w' : World} {r : Nat} {m : Rd} {vs vo : Value} {P Q O : Nat → Nat}

theorem Rep.value (h : Rep B w r m vs vo P Q O) (ok : Ok m) (c : Int) (h0 : 0 ≤ c) (h1 : c ≤ 255) (hx : m.state = 118 ∨ m.state = 86 ∨ m.state = 120 ∨ m.state = 121 ∨ m.state = 110) :
    Calls Tryd.prog 94 #[.pointer (some ⟨r, 0, none⟩), .int .u8 c] w (Post B w r (valueStep m c)) := by
  have hn := ok.some_ (by omega)
  rcases hx with hx | hx | hx | hx | hx
  · exact h.valueV ok hn c h0 h1 hx
  · exact h.valueVV ok hn c h0 h1 hx
  · exact h.valueX ok hn c h0 h1 hx
  · exact h.valueY ok hn c h0 h1 hx
  · exact h.valueN ok hn c h0 h1 hx

theorem Rep.cond (h : Rep B w r m vs vo P Q O) (ok : Ok m) (hB : B ≤ w.heap.size) (c : Int) (h0 : 0 ≤ c) (h1 : c ≤ 255)
    (hx : m.state = 99 ∨ m.state = 67 ∨ m.state = 100 ∨ m.state = 101 ∨ m.state = 102 ∨ m.state = 60 ∨ m.state = 98 ∨ m.state = 66 ∨ m.state = 109 ∨ m.state = 125) :
    Calls Tryd.prog 95 #[.pointer (some ⟨r, 0, none⟩), .int .u8 c] w (Post B w r (condStep m c)) := by
  have hn := ok.some_ (by omega)
  rcases hx with hx | hx | hx | hx | hx | hx | hx | hx | hx | hx
  · exact h.condC ok hn hB c h0 h1 hx
  · exact h.condCC ok hn hB c h0 h1 hx
  · exact h.condD ok hn hB c h0 h1 hx
  · exact h.condE ok hn hB c h0 h1 hx
  · exact h.condF ok hn hB c h0 h1 hx
  · exact h.condL ok hn hB c h0 h1 hx
  · exact h.condB ok hn hB c h0 h1 hx
  · exact h.condBB ok hn hB c h0 h1 hx
  · exact h.condM ok hn hB c h0 h1 hx
  · exact h.condZ ok hn hB c h0 h1 hx

set_option maxRecDepth 100000 in
set_option maxHeartbeats 1600000 in
theorem Rep.byte (h : Rep B w r m vs vo P Q O) (ok : Ok m) (hB : B ≤ w.heap.size) (c : Int) (h0 : 0 ≤ c) (h1 : c ≤ 255) :
    Calls Tryd.prog 72 #[.pointer (some ⟨r, 0, none⟩), .int .u8 c] w (Post B w r (byteStep m c)) := by
  obtain ⟨r0, r1, r2, r3, r4, r5, rf⟩ := h.rdc
  have geR := h.geR
  rcases ok.states with hx | hx | hx | hx | hx
  · have HY : Hid (byteStep m c = startStep m c) := by show byteStep m c = _; unfold byteStep; rw [if_pos hx]
    have hc := h.start ok hB c h0 h1
    rw [hx] at r0
    clear hx h ok
    go_enter Tryd.func72, Tryd.ntmps72
    go_wp2_with (go_at_call 93; refine hc.mono ?_; rintro e w' ⟨rfl, hb, hr⟩)
    go_ret
    exact post_via HY.out (Below.refl _ _) hb hr
  · rw [hx] at r0
    by_cases hc : c = 61
    · subst hc
      have HY : Hid (byteStep m 61 = some { m with state := 118 }) := by show byteStep m 61 = _; unfold byteStep; rw [hx, if_neg (by decide), if_pos rfl, if_pos rfl]
      have HR : Hid (Rep _ _ _ _ _ _ _ _ _) := h
      clear h ok hx
      go_enter Tryd.func72, Tryd.ntmps72
      go_wp2_with fail
      go_ret
      exact post_yes HY.out (Below.setCell (Below.refl _ _) geR _) (HR.out.setRd 0 (.int .u8 118) _ rfl rfl rfl)
    · have HY : Hid (byteStep m c = none) := by show byteStep m c = _; unfold byteStep; rw [hx, if_neg (by decide), if_pos rfl, if_neg hc]
      have bc : (c == 61) = false := by simpa using hc
      clear h ok hx hc
      go_enter Tryd.func72, Tryd.ntmps72
      go_wp2_with fail
      go_ret
      exact post_no HY.out (Below.setCell (Below.refl _ _) geR _)
  · have HY : Hid (byteStep m c = valueStep m c) := byte_value hx c
    have hc := h.value ok c h0 h1 hx
    have HR : Hid (Rep _ _ _ _ _ _ _ _ _) := h
    clear h ok
    rcases hx with hx | hx | hx | hx | hx
    all_goals
      rw [hx] at r0
      clear hx
      go_enter Tryd.func72, Tryd.ntmps72
      go_wp2_with (go_at_call 94; refine hc.mono ?_; rintro e w' ⟨rfl, hb, hr⟩)
      go_ret
      exact post_via HY.out (Below.refl _ _) hb hr
  · rw [byte_plain hx]
    exact h.bytePlain ok.len ok.oplen (ok.some_ (by omega)) hB c h0 h1 hx
  · have HY : Hid (byteStep m c = condStep m c) := byte_cond hx c
    have hc := h.cond ok hB c h0 h1 hx
    have HR : Hid (Rep _ _ _ _ _ _ _ _ _) := h
    clear h ok
    rcases hx with hx | hx | hx | hx | hx | hx | hx | hx | hx | hx
    all_goals
      rw [hx] at r0
      clear hx
      go_enter Tryd.func72, Tryd.ntmps72
      go_wp2_with (go_at_call 95; refine hc.mono ?_; rintro e w' ⟨rfl, hb, hr⟩)
      go_ret
      exact post_via HY.out (Below.refl _ _) hb hr

end Go.Proofs.YtffajooegiempaaDoor

namespace Go.Proofs.YtffajooegiempaaDoor
open Go.RowKit

theorem rep_init (w : World) : Rep w.heap.size (w.alloc (.cells (rdCells init (.slice none 0 0) (.slice none 0 0)) tR)) w.heap.size init (.slice none 0 0) (.slice none 0 0) id id id where
  rd := by
    show (w.heap.push _)[w.heap.size]? = _
    rw [Array.getElem?_push, if_pos rfl]
  rs := World.ownsRow_nil _ _ _ _
  ro := World.ownsRow_nil _ _ _ _
  st := by intro i s h; simp [init] at h
  op := by intro i s h; simp [init] at h
  injP := by intro i j h; exact absurd h (by simp [init])
  injQ := by intro i j h; exact absurd h (by simp [init])
  injO := by intro i j h; exact absurd h (by simp [init])
  geR := Nat.le_refl _
  geP := by intro i h; exact absurd h (by simp [init])
  geO := by intro i h; exact absurd h (by simp [init])

/-- What Read gives. -/
def ReadPost (w : World) (l : List Int) : Ending → World → Prop := fun e w' =>
  Below w.heap.size w w' ∧ w.heap.size < w'.heap.size ∧
    match readFrom init l 0 with
    | (n, none) => e = .returned (.tuple #[.pointer (some ⟨w.heap.size, 0, none⟩), .int .i64 n, .bool false])
    | (n, some m) => e = .returned (.tuple #[.pointer (some ⟨w.heap.size, 0, none⟩), .int .i64 n, .bool (isDone m)]) ∧ Ok m ∧ ∃ vs vo P Q O, Rep w.heap.size w' w.heap.size m vs vo P Q O

theorem readPost_none {w w' : World} {l : List Int} {m : Rd} {k : Nat} {c : Int} (hb : Below w.heap.size w w') (hz : w.heap.size < w'.heap.size) (h : feed init (l.take k) = some m) (hc : l[k]? = some c) (hs : byteStep m c = none) :
    ReadPost w l (.returned (.tuple #[.pointer (some ⟨w.heap.size, 0, none⟩), .int .i64 k, .bool false])) w' := by
  refine ⟨hb, hz, ?_⟩
  rw [readFrom_none (n := 0) h hc hs, Nat.zero_add]
theorem readPost_some {w w' : World} {l : List Int} {m : Rd} {vs vo : Value} {P Q O : Nat → Nat} {b : Bool} {n : Nat} (hb : Below w.heap.size w w') (hz : w.heap.size < w'.heap.size) (h : feed init l = some m) (ok : Ok m) (hr : Rep w.heap.size w' w.heap.size m vs vo P Q O) (hd : isDone m = b) (hl : l.length = n) :
    ReadPost w l (.returned (.tuple #[.pointer (some ⟨w.heap.size, 0, none⟩), .int .i64 n, .bool b])) w' := by
  refine ⟨hb, hz, ?_⟩
  rw [readFrom_some (n := 0) h, Nat.zero_add, hl]
  exact ⟨by rw [hd], ok, _, _, _, _, _, hr⟩

set_option maxRecDepth 100000 in
set_option maxHeartbeats 1600000 in
theorem ref_read (s : ByteArray) (w : World) (hs : s.size ≤ 160) :
    Calls Tryd.prog 45 #[.string s] w (ReadPost w (bytesOf s)) := by
  have HI : Hid (Rep _ _ _ _ _ _ _ _ _) := rep_init w
  go_enter Tryd.func45, Tryd.ntmps45
  go_wp2
  go_loopw [6] (fun i wr => ∃ k : Nat, k ≤ s.size ∧ i = .int .i64 k ∧ w.heap.size < wr.heap.size ∧ Below w.heap.size w wr ∧ ∃ m, feed init ((bytesOf s).take k) = some m ∧ ∃ vs vo P Q O, Rep w.heap.size wr w.heap.size m vs vo P Q O) (fun i _ => s.size - (intOf i).toNat)
  case atStart => exact ⟨0, Nat.zero_le _, rfl, by simp, (Below.refl _ _).alloc (Nat.le_refl _) _, init, rfl, _, _, _, _, _, HI.out⟩
  case round =>
    obtain ⟨k, hk, rfl, hz, hbel, m, hfeed, vs, vo, P, Q, O, hrep⟩ := hrel
    have ok := Ok.init.feed hfeed
    have HF : Hid (_ = _) := hfeed
    clear hfeed
    by_cases hlt : k < s.size
    · have hb0 : (0 : Int) ≤ ((s[k]).toNat : Int) := by omega
      have hb1 : ((s[k]).toNat : Int) ≤ 255 := by have := (s[k]).toNat_lt; omega
      have hc := hrep.byte ok (by omega) ((s[k]).toNat : Int) hb0 hb1
      have HG : Hid (_ = _) := bytesOf_get s k hlt
      have HT : Hid (_ = _) := bytesOf_take s k hlt
      have OK : Hid (Ok m) := ok
      have HR : Hid (Rep _ _ _ _ _ _ _ _ _) := hrep
      clear ok hrep
      cases hst : byteStep m ((s[k]).toNat : Int) with
      | none =>
        rw [hst] at hc
        have HS : Hid (_ = _) := hst
        clear hst
        go_wp2_with (go_at_call 72; refine hc.mono ?_; rintro e w' ⟨rfl, hb, hr⟩)
        go_ret3
        exact readPost_none (hbel.trans hb) (Nat.lt_of_lt_of_le hz hb.size) HF.out HG.out HS.out
      | some m' =>
        rw [hst] at hc
        have HS : Hid (_ = _) := hst
        clear hst
        go_wp2_with (go_at_call 72; refine hc.mono ?_; rintro e w' ⟨rfl, hb, hr⟩)
        go_roundw
        case rel => exact ⟨k + 1, by omega, by go_num, Nat.lt_of_lt_of_le hz hb.size, hbel.trans hb, m', by rw [HT.out, feed_snoc, HF.out]; exact HS.out, hr m' rfl⟩
        case measure => simp [intOf]; omega
    · have hke : k = s.size := by omega
      have hall : (bytesOf s).take k = bytesOf s := List.take_of_length_le (by rw [bytesOf_len]; omega)
      have HF2 : Hid (feed init (bytesOf s) = some m) := by show feed init (bytesOf s) = some m; rw [← hall]; exact HF.out
      obtain ⟨r0, r1, r2, r3, r4, r5, rf⟩ := hrep.rdc
      obtain ⟨ao, cap, hvo⟩ := hrep.olen
      rw [hvo] at r2
      have hol := ok.oplen
      have OK : Hid (Ok m) := ok
      have HR : Hid (Rep _ _ _ _ _ _ _ _ _) := hrep
      have HL : Hid ((bytesOf s).length = s.size) := bytesOf_len s
      clear ok hrep hall hke hvo
      by_cases h115 : m.state = 115
      · rw [h115] at r0
        by_cases h0 : m.op.length = 0
        · have HD : Hid (isDone m = true) := by show isDone m = true; simp [isDone, h115, h0]
          rw [h0] at r2
          clear h115 h0
          go_wp2
          go_quiet (fail)
          go_wp2
          go_ret3
          exact readPost_some (below_drewN hbel _) hz HF2.out OK.out (HR.out.drewN _) HD.out HL.out
        · have HD : Hid (isDone m = false) := by show isDone m = false; simp [isDone, h0]
          have b0 : (((m.op.length : Nat) : Int) == 0) = false := by rw [beq_eq_false_iff_ne]; omega
          clear h115 h0
          go_wp2
          go_quiet (fail)
          go_wp2
          go_ret3
          exact readPost_some (below_drewN hbel _) hz HF2.out OK.out (HR.out.drewN _) HD.out HL.out
      · have HD : Hid (isDone m = false) := by show isDone m = false; simp [isDone, h115]
        have b115 : (m.state == 115) = false := by simpa using h115
        clear h115
        go_wp2
        go_quiet (fail)
        go_wp2
        go_ret3
        exact readPost_some (below_drewN hbel _) hz HF2.out OK.out (HR.out.drewN _) HD.out HL.out

end Go.Proofs.YtffajooegiempaaDoor

namespace Go.Proofs.YtffajooegiempaaDoor
open Go.RowKit

set_option maxRecDepth 100000 in
set_option maxHeartbeats 1600000 in
theorem ref_scan (s : ByteArray) (w : World) (hm : s.size ≤ maxLen) :
    Calls Tryd.prog 43 #[.string s] w fun e w' => e = three (scanOf (bytesOf s)) ∧ Below w.heap.size w w' := by
  unfold maxLen at hm
  have hl := bytesOf_len s
  by_cases h : 160 < s.size
  · have HS : Hid (scanOf (bytesOf s) = (0, 1, 0)) := by show scanOf _ = _; unfold scanOf; rw [if_pos (by omega)]
    clear hl
    go_enter Tryd.func43, Tryd.ntmps43
    go_wp2_with fail
    go_ret3
    exact ⟨by rw [HS.out]; rfl, Below.refl _ _⟩
  · have hr := ref_read s w (by omega)
    have HS : Hid (scanOf (bytesOf s) = match readFrom init (bytesOf s) 0 with
      | (n, none) => (0, 1, n)
      | (n, some m) => if isDone m then ((m.st.length : Int) + 1, 0, 0) else (0, 1, n)) := by show scanOf _ = _; unfold scanOf; rw [if_neg (by omega)]; rfl
    clear hl
    rcases hrf : readFrom init (bytesOf s) 0 with ⟨n, _ | m⟩
    · rw [hrf] at HS
      have hr' := hr.mono (R' := fun e w' => e = .returned (.tuple #[.pointer (some ⟨w.heap.size, 0, none⟩), .int .i64 n, .bool false]) ∧ Below w.heap.size w w') (by
        rintro e w' ⟨hb, hz, hm⟩
        rw [hrf] at hm
        exact ⟨hm, hb⟩)
      clear hr hrf
      go_enter Tryd.func43, Tryd.ntmps43
      go_wp2_with (go_at_call 45; refine hr'.mono ?_; rintro e w' ⟨rfl, hb⟩)
      go_ret3
      exact ⟨by rw [HS.out]; rfl, hb⟩
    · rw [hrf] at HS
      have hr' := hr.mono (R' := fun e w' => e = .returned (.tuple #[.pointer (some ⟨w.heap.size, 0, none⟩), .int .i64 n, .bool (isDone m)]) ∧ Below w.heap.size w w' ∧ m.st.length ≤ 20 ∧ ∃ ao cap, w'.cell? ⟨w.heap.size, 1, none⟩ = some (.slice ao m.st.length cap)) (by
        rintro e w' ⟨hb, hz, hm⟩
        rw [hrf] at hm
        obtain ⟨he, ok, vs, vo, P, Q, O, hrep⟩ := hm
        obtain ⟨ao, cap, hv⟩ := hrep.slen
        exact ⟨he, hb, ok.len, ao, cap, by rw [← hv]; exact hrep.rdc.2.1⟩)
      clear hr hrf
      cases hd : isDone m
      · have HS2 : Hid (scanOf (bytesOf s) = (0, 1, (n : Int))) := HS.out.trans (by simp [hd])
        rw [hd] at hr'
        clear hd HS
        go_enter Tryd.func43, Tryd.ntmps43
        go_wp2_with (go_at_call 45; refine hr'.mono ?_; rintro e w' ⟨rfl, hb, hlen, ao, cap, hcell⟩)
        go_ret3
        exact ⟨by rw [HS2.out]; rfl, hb⟩
      · have HS2 : Hid (scanOf (bytesOf s) = ((m.st.length : Int) + 1, 0, 0)) := HS.out.trans (by simp [hd])
        rw [hd] at hr'
        clear hd HS
        go_enter Tryd.func43, Tryd.ntmps43
        go_wp2_with (go_at_call 45; refine hr'.mono ?_; rintro e w' ⟨rfl, hb, hlen, ao, cap, hcell⟩)
        go_ret3
        exact ⟨by rw [HS2.out]; rfl, hb⟩

end Go.Proofs.YtffajooegiempaaDoor

/- The document's ways, plain. -/
namespace Go.Proofs.YtffajooegiempaaDoor

/-- The last statement ahead of i that ends behind it. -/
def lastOpen (S : List St) (i : Nat) : Nat → Int
  | 0 => -1
  | k + 1 => if i < (S.getD k noSt).fin then (k : Int) else lastOpen S i k
def endOf (u : St) (i : Nat) : Nat := if u.kind = 63 ∧ i < u.mid then u.mid else u.fin
def followR (S : List St) : Nat → Nat → Int
  | 0, _ => 0
  | n + 1, i => if lastOpen S i i < 0 then ((S.getD i noSt).fin : Int)
    else if (S.getD i noSt).fin < endOf (S.getD (lastOpen S i i).toNat noSt) i then ((S.getD i noSt).fin : Int)
    else if (S.getD (lastOpen S i i).toNat noSt).kind = 64 then lastOpen S i i
    else followR S n (lastOpen S i i).toNat

/-- How many ways lead out of a statement. -/
def waysR (u : St) : Int := if u.kind = 61 ∨ u.kind = 33 then 1 else 2
/-- Where a way leads. -/
def nextR (S : List St) (p : Nat) (way : Int) : Int :=
  let u := S.getD p noSt
  let f := followR S 21 p
  if u.kind = 61 ∨ u.kind = 33 ∨ (u.kind = 64 ∧ way = 1) then f
  else if u.kind = 64 ∧ u.fin = p + 1 then p
  else if u.kind = 64 then (p : Int) + 1
  else if way = 0 ∧ p + 1 < u.mid then (p : Int) + 1
  else if way = 1 ∧ u.mid < u.fin then u.mid
  else f

theorem lastOpen_lt (S : List St) (i : Nat) : ∀ k, -1 ≤ lastOpen S i k ∧ lastOpen S i k < k := by
  intro k
  induction k with
  | zero => unfold lastOpen; omega
  | succ k ih =>
    unfold lastOpen
    split
    · omega
    · omega

end Go.Proofs.YtffajooegiempaaDoor

namespace Go.Proofs.YtffajooegiempaaDoor
open Go.RowKit
variable {B : Nat} {w w' : World} {r : Nat} {m : Rd} {vs vo : Value} {P Q O : Nat → Nat}

theorem Rep.gets {j : Nat} (hj : j < m.st.length) : m.st[j]? = some (m.st.getD j noSt) := by rw [List.getD_eq_getElem?_getD, List.getElem?_eq_getElem hj]; rfl
theorem Rep.slen' (h : Rep B w r m vs vo P Q O) : ∃ ao cap, vs = .slice ao m.st.length cap := by
  obtain ⟨_, h2⟩ := h.rs
  rcases h2 with ⟨rfl, e⟩ | ⟨g, cap, c, rfl, _⟩
  · exact ⟨none, 0, by rw [e]⟩
  · exact ⟨_, cap, rfl⟩

set_option maxRecDepth 100000 in
set_option maxHeartbeats 800000 in
theorem Rep.ways (h : Rep B w r m vs vo P Q O) (p : Int) :
    Calls Tryd.prog 60 #[.pointer (some ⟨r, 0, none⟩), .int .i64 p] w fun e w' => e = .returned (.int .i64 (if p < 0 ∨ (m.st.length : Int) ≤ p then 0 else waysR (m.st.getD p.toNat noSt))) ∧ w' = w := by
  obtain ⟨ao, cap, hvs⟩ := h.slen'
  obtain ⟨r0, r1, r2, r3, r4, r5, rf⟩ := h.rdc
  by_cases h0 : p < 0
  · rw [if_pos (.inl h0)]
    clear h r0 r2 r3 r4 r5 rf
    go_enter Tryd.func60, Tryd.ntmps60
    go_wp2_with fail
    go_ret
    exact ⟨rfl, rfl⟩
  by_cases h1 : (m.st.length : Int) ≤ p
  · rw [if_pos (.inr h1)]
    rw [hvs] at r1
    clear h r0 r2 r3 r4 r5 rf
    go_enter Tryd.func60, Tryd.ntmps60
    go_wp2_with fail
    go_ret
    exact ⟨rfl, rfl⟩
  rw [if_neg (fun e => e.elim h0 h1)]
  obtain ⟨k, rfl⟩ : ∃ k : Nat, p = k := ⟨p.toNat, by omega⟩
  rw [Int.toNat_natCast]
  have hk : k < m.st.length := by omega
  obtain ⟨g, cap', hvs', hrow, _⟩ := h.row (by omega)
  rw [hvs'] at r1
  have hc : w.cell? ⟨g, k, none⟩ = some (.pointer (some ⟨P k, 0, none⟩)) := hrow k hk
  obtain ⟨c0, -⟩ := h.stc k _ (Rep.gets hk)
  have hki : (k : Int) < (m.st.length : Int) := by omega
  unfold waysR
  clear h hrow hvs hvs' r0 r2 r3 r4 r5 rf h1
  generalize m.st.getD k noSt = u at *
  generalize P k = q at *
  by_cases k61 : u.kind = 61
  · rw [if_pos (.inl k61)]
    rw [k61] at c0
    clear k61
    go_enter Tryd.func60, Tryd.ntmps60
    go_wp2_with fail
    go_ret
    exact ⟨rfl, rfl⟩
  have b61 : (u.kind == 61) = false := by simpa using k61
  by_cases k33 : u.kind = 33
  · rw [if_pos (.inr k33)]
    rw [k33] at c0
    clear k33 k61 b61
    go_enter Tryd.func60, Tryd.ntmps60
    go_wp2_with fail
    go_ret
    exact ⟨rfl, rfl⟩
  have b33 : (u.kind == 33) = false := by simpa using k33
  rw [if_neg (fun e => e.elim k61 k33)]
  clear k33 k61
  go_enter Tryd.func60, Tryd.ntmps60
  go_wp2_with fail
  go_ret
  exact ⟨rfl, rfl⟩

end Go.Proofs.YtffajooegiempaaDoor

