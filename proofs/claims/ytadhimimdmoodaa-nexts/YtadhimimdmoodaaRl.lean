import Derived.Test.YtadhimimdmoodaaRj
import Derived.Test.YtadhimimdmoodaaRk
namespace Go.Proofs.Ytadhimimdmoodaa
open Go.RowKit
variable {B : Nat} {w w' : World} {r : Nat} {m : Rd} {vs vo : Value} {P Q O : Nat → Nat}

set_option maxRecDepth 100000 in
set_option maxHeartbeats 1600000 in
theorem Rep.start (h : Rep B w r m vs vo P Q O) (ok : Ok m) (hB : B ≤ w.heap.size) (c : Int) (h0 : 0 ≤ c) (h1 : c ≤ 255) :
    Calls Try.prog 41 #[.pointer (some ⟨r, 0, none⟩), .int .u8 c] w (Post B w r (startStep m c)) := by
  obtain ⟨r0, r1, r2, r3, r4, r5, rf⟩ := h.rdc
  have geR := h.geR
  have hlen := ok.len
  have holen := ok.oplen
  obtain ⟨ao, cap, hvo⟩ := h.olen
  by_cases hv : 97 ≤ c ∧ c ≤ 100
  · obtain ⟨hva, hvb⟩ := hv
    by_cases h20 : m.st.length = 20
    · have HY : Hid (startStep m c = none) := by show startStep m c = _; unfold startStep beginStep; rw [if_pos ⟨hva, hvb⟩, if_pos h20]
      have HR : Hid (Rep _ _ _ _ _ _ _ _ _) := h
      have OK : Hid (Ok m) := ok
      clear h ok
      go_enter Try.func41, Try.ntmps41
      go_wp2_with (first | (go_at_call 50; refine (variable_yes c _ hva hvb).mono ?_; rintro e w' ⟨rfl, rfl⟩) | (go_at_call 51; refine (HR.out.beginFull h20 _ _).mono ?_; rintro e w' ⟨rfl, rfl⟩))
      go_ret
      exact post_no HY.out (Below.setCell (Below.refl _ _) geR _)
    · have HY : Hid (startStep m c = some { m with st := m.st ++ [⟨61, c - 97, false, [0, 0, 0, 0], 0, 0, m.st.length + 1⟩], state := 61 }) := by
        show startStep m c = _; unfold startStep beginStep; rw [if_pos ⟨hva, hvb⟩, if_neg h20]
      replace h20 : m.st.length < 20 := by omega
      have HR : Hid (Rep _ _ _ _ _ _ _ _ _) := h
      have OK : Hid (Ok m) := ok
      clear h ok
      go_enter Try.func41, Try.ntmps41
      go_wp2_with (first | (go_at_call 50; refine (variable_yes c _ hva hvb).mono ?_; rintro e w' ⟨rfl, rfl⟩) | (go_at_call 51; refine (HR.out.begin_ h20 _ _ hB).mono ?_; rintro e w' ⟨rfl, hb, vs', P', Q', hr⟩; have hr0 := hr.rdc.1; have hr2 := hr.rdc.2.2.1; have hrf := hr.rdc.2.2.2.2.2.2; have HQ : Hid (Rep _ _ _ _ _ _ _ _ _) := hr; clear hr))
      go_ret
      exact post_yes HY.out (Below.setCell hb geR _) (HQ.out.setRd 0 (.int .u8 61) _ rfl rfl rfl)
  by_cases hq : c = 63 ∨ c = 64
  · have b33 : (c == 33) = false := by rcases hq with rfl | rfl <;> rfl
    have hqb : ((c == 63) || (c == 64)) = true := by rcases hq with rfl | rfl <;> rfl
    by_cases h20 : m.st.length = 20
    · have HY : Hid (startStep m c = none) := by show startStep m c = _; unfold startStep beginStep; rw [if_neg hv, if_pos hq]; simp [h20]
      subst hvo
      clear hqb
      rcases hq with rfl | rfl
      · have HR : Hid (Rep _ _ _ _ _ _ _ _ _) := h
        have OK : Hid (Ok m) := ok
        clear h ok
        go_enter Try.func41, Try.ntmps41
        go_wp2_with (first | (go_at_call 50; refine (variable_no _ _ (by omega) (by omega) (by omega)).mono ?_; rintro e w' ⟨rfl, rfl⟩) | (go_at_call 51; refine (HR.out.beginFull h20 _ _).mono ?_; rintro e w' ⟨rfl, rfl⟩))
        go_ret
        exact post_no HY.out (Below.setCell (Below.refl _ _) geR _)
      · have HR : Hid (Rep _ _ _ _ _ _ _ _ _) := h
        have OK : Hid (Ok m) := ok
        clear h ok
        go_enter Try.func41, Try.ntmps41
        go_wp2_with (first | (go_at_call 50; refine (variable_no _ _ (by omega) (by omega) (by omega)).mono ?_; rintro e w' ⟨rfl, rfl⟩) | (go_at_call 51; refine (HR.out.beginFull h20 _ _).mono ?_; rintro e w' ⟨rfl, rfl⟩))
        go_ret
        exact post_no HY.out (Below.setCell (Below.refl _ _) geR _)
    · by_cases h4 : m.op.length < 4
      · have HY : Hid (startStep m c = some { m with st := m.st ++ [⟨c, 0, false, [0, 0, 0, 0], 0, 0, m.st.length + 1⟩], state := 99 }) := by
          show startStep m c = _; unfold startStep beginStep; rw [if_neg hv, if_pos hq, if_pos h4, if_neg h20]
        replace h20 : m.st.length < 20 := by omega
        have d4 : decide (((m.op.length : Nat) : Int) < 4) = true := by simp; omega
        subst hvo
        clear hqb
        rcases hq with rfl | rfl
        · have HR : Hid (Rep _ _ _ _ _ _ _ _ _) := h
          have OK : Hid (Ok m) := ok
          clear h ok
          go_enter Try.func41, Try.ntmps41
          go_wp2_with (first | (go_at_call 50; refine (variable_no _ _ (by omega) (by omega) (by omega)).mono ?_; rintro e w' ⟨rfl, rfl⟩) | (go_at_call 51; refine (HR.out.begin_ h20 _ _ hB).mono ?_; rintro e w' ⟨rfl, hb, vs', P', Q', hr⟩; have hr0 := hr.rdc.1; have hr2 := hr.rdc.2.2.1; have hrf := hr.rdc.2.2.2.2.2.2; have HQ : Hid (Rep _ _ _ _ _ _ _ _ _) := hr; clear hr))
          go_ret
          exact post_yes HY.out (Below.setCell hb geR _) (HQ.out.setRd 0 (.int .u8 99) _ rfl rfl rfl)
        · have HR : Hid (Rep _ _ _ _ _ _ _ _ _) := h
          have OK : Hid (Ok m) := ok
          clear h ok
          go_enter Try.func41, Try.ntmps41
          go_wp2_with (first | (go_at_call 50; refine (variable_no _ _ (by omega) (by omega) (by omega)).mono ?_; rintro e w' ⟨rfl, rfl⟩) | (go_at_call 51; refine (HR.out.begin_ h20 _ _ hB).mono ?_; rintro e w' ⟨rfl, hb, vs', P', Q', hr⟩; have hr0 := hr.rdc.1; have hr2 := hr.rdc.2.2.1; have hrf := hr.rdc.2.2.2.2.2.2; have HQ : Hid (Rep _ _ _ _ _ _ _ _ _) := hr; clear hr))
          go_ret
          exact post_yes HY.out (Below.setCell hb geR _) (HQ.out.setRd 0 (.int .u8 99) _ rfl rfl rfl)
      · have HY : Hid (startStep m c = none) := by show startStep m c = _; unfold startStep; rw [if_neg hv, if_pos hq, if_neg h4]
        replace h20 : m.st.length < 20 := by omega
        have d4 : decide (((m.op.length : Nat) : Int) < 4) = false := by simp; omega
        clear h4
        subst hvo
        clear hqb
        rcases hq with rfl | rfl
        · have HR : Hid (Rep _ _ _ _ _ _ _ _ _) := h
          have OK : Hid (Ok m) := ok
          clear h ok
          go_enter Try.func41, Try.ntmps41
          go_wp2_with (first | (go_at_call 50; refine (variable_no _ _ (by omega) (by omega) (by omega)).mono ?_; rintro e w' ⟨rfl, rfl⟩) | (go_at_call 51; refine (HR.out.begin_ h20 _ _ hB).mono ?_; rintro e w' ⟨rfl, hb, vs', P', Q', hr⟩; have hr0 := hr.rdc.1; have hr2 := hr.rdc.2.2.1; have hrf := hr.rdc.2.2.2.2.2.2; have HQ : Hid (Rep _ _ _ _ _ _ _ _ _) := hr; clear hr))
          go_ret
          exact post_no HY.out (Below.setCell hb geR _)
        · have HR : Hid (Rep _ _ _ _ _ _ _ _ _) := h
          have OK : Hid (Ok m) := ok
          clear h ok
          go_enter Try.func41, Try.ntmps41
          go_wp2_with (first | (go_at_call 50; refine (variable_no _ _ (by omega) (by omega) (by omega)).mono ?_; rintro e w' ⟨rfl, rfl⟩) | (go_at_call 51; refine (HR.out.begin_ h20 _ _ hB).mono ?_; rintro e w' ⟨rfl, hb, vs', P', Q', hr⟩; have hr0 := hr.rdc.1; have hr2 := hr.rdc.2.2.1; have hrf := hr.rdc.2.2.2.2.2.2; have HQ : Hid (Rep _ _ _ _ _ _ _ _ _) := hr; clear hr))
          go_ret
          exact post_no HY.out (Below.setCell hb geR _)
  have b63 : (c == 63) = false := by simp; omega
  have b64 : (c == 64) = false := by simp; omega
  by_cases h33 : c = 33
  · by_cases h20 : m.st.length = 20
    · have HY : Hid (startStep m c = none) := by show startStep m c = _; unfold startStep beginStep; rw [if_neg hv, if_neg hq, if_pos h33, if_pos h20]
      subst h33
      clear b63 b64
      have HR : Hid (Rep _ _ _ _ _ _ _ _ _) := h
      have OK : Hid (Ok m) := ok
      clear h ok
      go_enter Try.func41, Try.ntmps41
      go_wp2_with (first | (go_at_call 50; refine (variable_no _ _ (by omega) (by omega) (by omega)).mono ?_; rintro e w' ⟨rfl, rfl⟩) | (go_at_call 51; refine (HR.out.beginFull h20 _ _).mono ?_; rintro e w' ⟨rfl, rfl⟩))
      go_ret
      exact post_no HY.out (Below.setCell (Below.refl _ _) geR _)
    · have HY : Hid (startStep m c = some { m with st := m.st ++ [⟨c, 0, false, [0, 0, 0, 0], 0, 0, m.st.length + 1⟩], state := 99 }) := by
        show startStep m c = _; unfold startStep beginStep; rw [if_neg hv, if_neg hq, if_pos h33, if_neg h20]
      replace h20 : m.st.length < 20 := by omega
      subst h33
      clear b63 b64
      have HR : Hid (Rep _ _ _ _ _ _ _ _ _) := h
      have OK : Hid (Ok m) := ok
      clear h ok
      go_enter Try.func41, Try.ntmps41
      go_wp2_with (first | (go_at_call 50; refine (variable_no _ _ (by omega) (by omega) (by omega)).mono ?_; rintro e w' ⟨rfl, rfl⟩) | (go_at_call 51; refine (HR.out.begin_ h20 _ _ hB).mono ?_; rintro e w' ⟨rfl, hb, vs', P', Q', hr⟩; have hr0 := hr.rdc.1; have hr2 := hr.rdc.2.2.1; have hrf := hr.rdc.2.2.2.2.2.2; have HQ : Hid (Rep _ _ _ _ _ _ _ _ _) := hr; clear hr))
      go_ret
      exact post_yes HY.out (Below.setCell hb geR _) (HQ.out.setRd 0 (.int .u8 99) _ rfl rfl rfl)
  have b33 : (c == 33) = false := by simpa using h33
  by_cases h125 : c = 125
  · by_cases ho : 0 < m.op.length
    · have HY : Hid (startStep m c = shutStep m) := by show startStep m c = _; unfold startStep; rw [if_neg hv, if_neg hq, if_neg h33, if_pos ⟨h125, ho⟩]
      subst h125
      subst hvo
      clear b63 b64 b33
      have HR : Hid (Rep _ _ _ _ _ _ _ _ _) := h
      have OK : Hid (Ok m) := ok
      clear h ok
      go_enter Try.func41, Try.ntmps41
      go_wp2_with (first | (go_at_call 50; refine (variable_no _ _ (by omega) (by omega) (by omega)).mono ?_; rintro e w' ⟨rfl, rfl⟩) | (go_at_call 52; refine (HR.out.shut OK.out ho).mono ?_; rintro e w' ⟨rfl, hb, hr⟩))
      go_ret
      exact post_via HY.out (Below.refl _ _) hb hr
    · have HY : Hid (startStep m c = none) := by show startStep m c = _; unfold startStep; rw [if_neg hv, if_neg hq, if_neg h33, if_neg (fun e => ho e.2)]
      have ho0 : m.op.length = 0 := by omega
      rw [hvo, ho0] at r2
      subst h125
      clear b63 b64 b33 hvo ho ho0
      have HR : Hid (Rep _ _ _ _ _ _ _ _ _) := h
      have OK : Hid (Ok m) := ok
      clear h ok
      go_enter Try.func41, Try.ntmps41
      go_wp2_with (go_at_call 50; refine (variable_no _ _ (by omega) (by omega) (by omega)).mono ?_; rintro e w' ⟨rfl, rfl⟩)
      go_ret
      exact post_no HY.out (Below.refl _ _)
  · have b125 : (c == 125) = false := by simpa using h125
    have HY : Hid (startStep m c = none) := by show startStep m c = _; unfold startStep; rw [if_neg hv, if_neg hq, if_neg h33, if_neg (fun e => h125 e.1)]
    clear h125 h33 hq
    have HR : Hid (Rep _ _ _ _ _ _ _ _ _) := h
    have OK : Hid (Ok m) := ok
    clear h ok
    go_enter Try.func41, Try.ntmps41
    go_wp2_with (go_at_call 50; refine (variable_no _ _ (by omega) (by omega) hv).mono ?_; rintro e w' ⟨rfl, rfl⟩)
    go_ret
    exact post_no HY.out (Below.refl _ _)

end Go.Proofs.Ytadhimimdmoodaa
