import Derived.Test.YtjbpfbgemidleaaJ16
import Derived.ProofKit
import Derived.OpenShut
import Derived.ChangeMaps5
import Derived.ChangeSlices
import Derived.Carry
namespace Go.Proofs.Ytjbpfbgemidleaa
open Go.RowKit
variable {w : World}

/-- What the document's Run answers. -/
def RRunSays (w : World) (l : List Int) (L : List Int) (steps : Int) : Ending → World → Prop := fun e w' => Below w.heap.size w w' ∧
  ((progOf l = none ∧ e = .returned (.tuple #[.int .i64 0, .int .i64 0, .slice none 0 0, .int .i64 1])) ∨
   ∃ m, progOf l = some m ∧ ∃ q, e = .returned (.tuple #[.int .i64 (if (finR m.st L steps).pt = m.st.length then 1 else (finR m.st L steps).st), .int .i64 (finR m.st L steps).pt, .slice (some ⟨q, 0, none⟩) 4 4, .int .i64 0]) ∧ w.heap.size ≤ q ∧ At w' q (ic (finR m.st L steps).v) tN ∧ (finR m.st L steps).v.length = 4)

theorem wrep_first {r B2 : Nat} {m : Rd} {iv : Value} {L : List Int} (h : RAt B2 w r m) (hB : B2 ≤ w.heap.size) (hi : Inp w B2 iv L) (w2 : World)
    (hw2 : w2 = (w.alloc (.cells #[.int .i64 0, .int .i64 0, .int .i64 0, .int .i64 0] tN)).alloc (.cells #[.int .i64 0, .int .i64 0, .slice (some ⟨w.heap.size, 0, none⟩) 4 4, iv] tW)) : WRep B2 w2 r (w.heap.size + 1) w.heap.size m iv ⟨0, 0, [0, 0, 0, 0], L⟩ ∧ Below B2 w w2 := by
  have hb : Below w.heap.size w w2 := by rw [hw2]; exact ((Below.refl _ _).alloc (Nat.le_refl _) _).alloc (by simp) _
  have hb2 := hb.mono hB
  refine ⟨⟨h.keep hb2, ?_, ?_, hi.keep hb2, rfl, fun i => ?_, by omega, hB⟩, hb2⟩
  · rw [hw2]
    have := At.new (w.alloc (.cells #[.int .i64 0, .int .i64 0, .int .i64 0, .int .i64 0] tN)) #[.int .i64 0, .int .i64 0, .slice (some ⟨w.heap.size, 0, none⟩) 4 4, iv] tW
    rw [show (w.alloc (.cells #[.int .i64 0, .int .i64 0, .int .i64 0, .int .i64 0] tN)).heap.size = w.heap.size + 1 by simp] at this
    exact this
  · rw [hw2]
    exact (At.new w #[.int .i64 0, .int .i64 0, .int .i64 0, .int .i64 0] tN).alloc _
  · have : sgAt [0, 0, 0, 0] i = 0 := by
      unfold sgAt
      match i with
      | 0 | 1 | 2 | 3 => rfl
      | n + 4 => rfl
    show -999 ≤ sgAt [0, 0, 0, 0] i ∧ sgAt [0, 0, 0, 0] i ≤ 999
    omega

theorem RAt.slen {r B2 : Nat} {m : Rd} (h : RAt B2 w r m) : ∃ ao cap, w.cell? ⟨r, 1, none⟩ = some (.slice ao m.st.length cap) ∧ r < B2 := by
  obtain ⟨B, vs, vo, P, Q, O, h1, h2⟩ := h.rep
  obtain ⟨ao, cap, hv⟩ := h1.slen'
  exact ⟨ao, cap, by rw [← hv]; exact h1.rdc.2.1, h2⟩

set_option maxRecDepth 100000 in
set_option maxHeartbeats 3200000 in
theorem ref_run (s : ByteArray) (iv : Value) (L : List Int) (steps : Int) (hm : s.size ≤ maxLen) (hi : Inp w w.heap.size iv L) (hL : L.length ≤ 1073741824) :
    Calls Try.prog 12 #[.string s, iv, .int .i64 steps] w (RRunSays w (bytesOf s) L steps) := by
  have hs := ref_scan s w hm
  cases hp : progOf (bytesOf s) with
  | none =>
    have HP : Hid (progOf (bytesOf s) = none) := hp
    have h1 := progOf_none hp
    generalize scanOf (bytesOf s) = x at *
    obtain ⟨a, b, c⟩ := x
    have h2 : b = 1 := h1
    subst h2
    simp only [three] at hs
    clear hm hp h1 hi
    go_enter Try.func12, Try.ntmps12
    go_wp2_with fail
    refine hs.mono ?_
    rintro e w1 ⟨rfl, hb⟩
    go_wp2_with fail
    try simp only [Exit.inBlock, Exit.then]
    refine bodyPost_ret (results_tmp4 rfl _ _ _) rfl ?_
    exact ⟨hb, .inl ⟨HP.out, rfl⟩⟩
  | some m =>
    rw [(progOf_some hp).2.2.2] at hs
    simp only [three] at hs
    have HP : Hid (progOf (bytesOf s) = some m) := hp
    have hr := fun w => ref_again hp w
    obtain ⟨F, hW⟩ : ∃ F, Whole F m.st := by
      rcases prog_whole s (by rw [← bytesOf_len]; exact (progOf_some hp).1) with ⟨_, e⟩ | ⟨m', _, e, hW⟩
      · rw [hp] at e; cases e
      · rw [hp] at e; cases e; exact ⟨_, hW⟩
    have HW : Hid (Whole F m.st) := hW
    obtain ⟨hgd, ok⟩ := prog_gd hp
    have HSo : Hid (SOk m.st) := ⟨ok.len, ok.sgl, ok.nums, hgd⟩
    have hFl : F.length = m.st.length := hW.1.len
    have HFl : Hid (F.length = m.st.length) := hFl
    have hl20 : m.st.length ≤ 20 := ok.len
    have hmk : ∀ w, (Instr.makeSlice 29 (.int .i64 4) (.int .i64 4)).run Try.prog w = .ok (.slice (some ⟨w.heap.size, 0, none⟩) 4 4) (w.alloc (.cells #[.int .i64 0, .int .i64 0, .int .i64 0, .int .i64 0] tN)) := fun _ => by kernel_rfl
    have HI : Hid (Inp w w.heap.size iv L) := hi
    obtain ⟨ia, icap, rfl, -, -⟩ := hi
    obtain ⟨N, hN⟩ : ∃ N : Nat, N = min steps.toNat 2000 := ⟨_, rfl⟩
    have HFin : Hid (finR m.st L steps = runR m.st N ⟨0, 0, [0, 0, 0, 0], L⟩) := by show finR _ _ _ = _; rw [hN]; rfl
    have hN1 : N ≤ 2000 := by omega
    have hN2 : 0 < N → (N : Int) ≤ steps := by omega
    have hN3 : N < 2000 → steps ≤ N := by omega
    have HSt : Hid (∀ B2 w1 r b q iv' k, WRep B2 w1 r b q m iv' k → k.inp.length ≤ 1073741824 → 0 ≤ k.pt → k.pt < m.st.length → Calls Try.prog 22 #[.pointer (some ⟨b, 0, none⟩), .pointer (some ⟨r, 0, none⟩)] w1 fun e w' => e = .returned (.tuple #[]) ∧ WStep B2 w1 r b q m (stpR m.st k) w') := by
      intro B2 w1 r b q iv' k h1 h2 h3 h4
      by_cases k61 : (m.st.getD k.pt.toNat noSt).kind = 61
      · exact r_step61 h1 HSo.out h2 h3 h4 k61
      · exact r_stepc h1 HSo.out h2 h3 h4 k61
    clear hN hW hp hm hgd ok hFl
    obtain ⟨fin, hfq⟩ : ∃ fin, finR m.st L steps = fin := ⟨_, rfl⟩
    rw [hfq] at HFin
    have HFq : Hid (finR m.st L steps = fin) := hfq
    clear hfq
    go_enter Try.func12, Try.ntmps12
    go_wp2_with fail
    refine hs.mono ?_
    rintro e w1 ⟨rfl, hb⟩
    have HB1 : Hid (Below w.heap.size w w1) := hb
    clear hb hs
    go_wp2_with fail
    refine (hr _).mono ?_
    rintro e w2 ⟨n, rfl, hb2, hlen, vs, vo, P, Q, O, hrep⟩
    have hs1 := HB1.out.size
    have hs2 := hb2.size
    have hr1 : w1.heap.size < w2.heap.size := hrep.rd.lt
    have HB2 : Hid (Below w.heap.size w w2) := HB1.out.trans (hb2.mono hs1)
    have HRA : Hid (RAt w2.heap.size w2 w1.heap.size m) := ⟨_, w2, _, _, _, _, _, hrep, Nat.le_refl _, Below.refl _ _⟩
    have HI2 : Hid (Inp w2 w2.heap.size (.slice ia L.length icap) L) := by
      obtain ⟨ao, cap, hv, hc, h0⟩ := HI.out.keep HB2.out
      exact ⟨ao, cap, hv, hc, fun hn => by obtain ⟨b, off, q1, q2, q3⟩ := h0 hn; exact ⟨b, off, q1, by omega, q3⟩⟩
    have HWf := wrep_first HRA.out (Nat.le_refl _) HI2.out _ rfl
    have HWF : Hid (_ ∧ _) := HWf
    clear hb2 hr HWf hrep
    go_wp2_with fail
    go_loopw [17] (fun i wr => ∃ (j : Nat) (iv' : Value) (k : Wk), j ≤ N ∧ i = .int .i64 j ∧ Hid (WRep w2.heap.size wr w1.heap.size (w2.heap.size + 1) w2.heap.size m iv' k ∧ Below w2.heap.size w2 wr ∧ 0 ≤ k.pt ∧ k.pt ≤ m.st.length ∧ k.inp.length ≤ 1073741824 ∧ fin = runR m.st (N - j) k)) (fun i _ => N - (intOf i).toNat)
    case atStart => exact ⟨0, _, _, Nat.zero_le _, rfl, HWF.out.1, HWF.out.2, Int.le_refl _, by show (0 : Int) ≤ _; omega, hL, HFin.out⟩
    case round =>
      obtain ⟨j, iv', k, hj, rfl, HR⟩ := hrel
      obtain ⟨b0, b1, b2, b3, bf⟩ := HR.out.1.cells
      obtain ⟨ao, cap, r1, -⟩ := HR.out.1.rd.slen
      have hblt := HR.out.1.at_.lt
      have hwsz := HR.out.2.1.size
      obtain ⟨hpt0, hpt1⟩ : 0 ≤ k.pt ∧ k.pt ≤ m.st.length := ⟨HR.out.2.2.1, HR.out.2.2.2.1⟩
      by_cases hgo : j < N ∧ k.st = 0 ∧ k.pt < m.st.length
      · obtain ⟨hjN, hst, hptl⟩ := hgo
        have hj1 : (j : Int) < steps := by omega
        have hj2 : (j : Int) < 2000 := by omega
        have hstep := HSt.out _ _ _ _ _ _ _ HR.out.1 HR.out.2.2.2.2.1 hpt0 hptl
        have HN : Hid (fin = runR m.st (N - (j + 1)) (stpR m.st k)) := by
          show fin = _
          rw [HR.out.2.2.2.2.2, show N - j = (N - (j + 1)) + 1 by omega, runR, if_pos ⟨hst, hptl⟩]
        have HIn : Hid (0 ≤ (stpR m.st k).pt ∧ (stpR m.st k).pt ≤ m.st.length) := by
          have := stpR_in HW.out (by rw [HFl.out]; exact hl20) hst hpt0 (by rw [HFl.out]; exact hptl)
          rw [HFl.out] at this
          exact this
        have HLi : Hid ((stpR m.st k).inp.length ≤ 1073741824) := Nat.le_trans (stpR_inp m.st k) HR.out.2.2.2.2.1
        rw [hst] at b0
        clear hst
        go_wp2_with fail
        go_quiet (fail)
        obtain ⟨w5, hW5⟩ : ∃ w5, w5 = wr.drewN nq := ⟨_, rfl⟩
        rw [← hW5]
        have HR5 : Hid (WRep w2.heap.size w5 w1.heap.size (w2.heap.size + 1) w2.heap.size m iv' k ∧ Below w2.heap.size w2 w5) := by rw [hW5]; exact ⟨HR.out.1.drewN _, below_drewN HR.out.2.1 _⟩
        have hst5 := HSt.out _ _ _ _ _ _ _ HR5.out.1 HR.out.2.2.2.2.1 hpt0 hptl
        clear hW5 hstep
        go_wp2_with fail
        refine hst5.mono ?_
        rintro e w6 ⟨rfl, iv6, hw6, hb6⟩
        have HW6 : Hid (WRep w2.heap.size w6 w1.heap.size (w2.heap.size + 1) w2.heap.size m iv6 (stpR m.st k) ∧ Below w2.heap.size w2 w6) := ⟨hw6, HR5.out.2.trans hb6⟩
        clear hw6 hb6 hst5
        go_wp2_with fail
        go_roundw
        case rel => exact ⟨j + 1, iv6, _, by omega, by go_num, HW6.out.1, HW6.out.2, HIn.out.1, HIn.out.2, HLi.out, HN.out⟩
        case measure => simp [intOf]; omega
      · have HFi : Hid (fin = k) := by
          show fin = k
          rw [HR.out.2.2.2.2.2]
          cases hq : N - j with
          | zero => rfl
          | succ q => rw [runR, if_neg (fun e => hgo ⟨by omega, e.1, e.2⟩)]
        by_cases hj1 : (j : Int) < steps
        · by_cases hj2 : (j : Int) < 2000
          · by_cases hst : k.st = 0
            · have hptl : ¬ k.pt < m.st.length := fun e => hgo ⟨by omega, hst, e⟩
              have hd : decide (k.pt < (m.st.length : Int)) = false := by simpa using hptl
              rw [hst] at b0
              have HS0 : Hid (k.st = 0) := hst
              have hend : k.pt = m.st.length := by omega
              clear hgo hst hptl
              go_wp2_with fail
              go_quiet (fail)
              obtain ⟨w5, hW5⟩ : ∃ w5, w5 = wr.drewN nq := ⟨_, rfl⟩
              rw [← hW5]
              have k1 : ∀ a, w5.cell? a = wr.cell? a := fun a => by rw [hW5]; rfl
              have k2 : ∀ a, w5.frozen? a = wr.frozen? a := fun a => by rw [hW5]; rfl
              rw [← k1] at r1 b0 b1 b2
              have bf5 : ∀ i, w5.frozen? ⟨w2.heap.size + 1, i, none⟩ = false := fun i => (k2 _).trans (bf i)
              have HV5 : Hid (At w5 w2.heap.size (ic k.v) tN) := by rw [hW5]; exact HR.out.1.vt.drewN _
              have HB5 : Hid (Below w2.heap.size w2 w5) := by rw [hW5]; exact below_drewN HR.out.2.1 _
              have hl5 : w2.heap.size + 1 < w5.heap.size := by rw [hW5]; exact hblt
              have HLn : Hid (k.v.length = 4) := HR.out.1.len
              have hne5 : w2.heap.size ≠ w2.heap.size + 1 := by omega
              clear k1 k2 hW5 bf
              have hbe : (k.pt == (m.st.length : Int)) = true := by rw [beq_iff_eq]; exact hend
              have HSt2 : Hid ((if k.pt = m.st.length then (1 : Int) else k.st) = 1) := if_pos hend
              clear hend
              go_wp2_with fail
              go_quiet (fail)
              go_wp2_with fail
              go_quiet (fail)
              go_wp2_with fail
              try simp only [Exit.inBlock, Exit.then]
              refine bodyPost_ret (results_tmp4 rfl _ _ _) rfl ?_
              refine ⟨?_, .inr ⟨m, HP.out, w2.heap.size, ?_, by omega, ?_, ?_⟩⟩
              · exact below_drewN (((below_drewN (HB2.out.trans (HB5.out.mono (by omega))) _)).setCell (by show w.heap.size ≤ w2.heap.size + 1; omega) _) _
              · rw [HFq.out, HFi.out, HSt2.out]; rfl
              · rw [HFq.out, HFi.out]; exact ((HV5.out.drewN _).other 0 _ hne5).drewN _
              · rw [HFq.out, HFi.out]; exact HLn.out
            · have hsb : (k.st == 0) = false := by simpa using hst
              clear hgo hst
              go_wp2_with fail
              go_quiet (fail)
              obtain ⟨w5, hW5⟩ : ∃ w5, w5 = wr.drewN nq := ⟨_, rfl⟩
              rw [← hW5]
              have k1 : ∀ a, w5.cell? a = wr.cell? a := fun a => by rw [hW5]; rfl
              have k2 : ∀ a, w5.frozen? a = wr.frozen? a := fun a => by rw [hW5]; rfl
              rw [← k1] at r1 b0 b1 b2
              have bf5 : ∀ i, w5.frozen? ⟨w2.heap.size + 1, i, none⟩ = false := fun i => (k2 _).trans (bf i)
              have HV5 : Hid (At w5 w2.heap.size (ic k.v) tN) := by rw [hW5]; exact HR.out.1.vt.drewN _
              have HB5 : Hid (Below w2.heap.size w2 w5) := by rw [hW5]; exact below_drewN HR.out.2.1 _
              have hl5 : w2.heap.size + 1 < w5.heap.size := by rw [hW5]; exact hblt
              have HLn : Hid (k.v.length = 4) := HR.out.1.len
              have hne5 : w2.heap.size ≠ w2.heap.size + 1 := by omega
              clear k1 k2 hW5 bf
              by_cases hend : k.pt = m.st.length
              · have hbe : (k.pt == (m.st.length : Int)) = true := by rw [beq_iff_eq]; exact hend
                have HSt2 : Hid ((if k.pt = m.st.length then (1 : Int) else k.st) = 1) := if_pos hend
                clear hend
                go_wp2_with fail
                go_quiet (fail)
                go_wp2_with fail
                go_quiet (fail)
                go_wp2_with fail
                try simp only [Exit.inBlock, Exit.then]
                refine bodyPost_ret (results_tmp4 rfl _ _ _) rfl ?_
                refine ⟨?_, .inr ⟨m, HP.out, w2.heap.size, ?_, by omega, ?_, ?_⟩⟩
                · exact below_drewN (((below_drewN (HB2.out.trans (HB5.out.mono (by omega))) _)).setCell (by show w.heap.size ≤ w2.heap.size + 1; omega) _) _
                · rw [HFq.out, HFi.out, HSt2.out]; rfl
                · rw [HFq.out, HFi.out]; exact ((HV5.out.drewN _).other 0 _ hne5).drewN _
                · rw [HFq.out, HFi.out]; exact HLn.out
              · have hbe : (k.pt == (m.st.length : Int)) = false := by rw [beq_eq_false_iff_ne]; exact hend
                have HSt2 : Hid ((if k.pt = m.st.length then (1 : Int) else k.st) = k.st) := if_neg hend
                clear hend
                go_wp2_with fail
                go_quiet (fail)
                go_wp2_with fail
                go_quiet (fail)
                go_wp2_with fail
                try simp only [Exit.inBlock, Exit.then]
                refine bodyPost_ret (results_tmp4 rfl _ _ _) rfl ?_
                refine ⟨?_, .inr ⟨m, HP.out, w2.heap.size, ?_, by omega, ?_, ?_⟩⟩
                · exact below_drewN (below_drewN (HB2.out.trans (HB5.out.mono (by omega))) _) _
                · rw [HFq.out, HFi.out, HSt2.out]; rfl
                · rw [HFq.out, HFi.out]; exact HV5.out
                · rw [HFq.out, HFi.out]; exact HLn.out
          · have hd : decide ((j : Int) < 2000) = false := by simpa using hj2
            clear hgo
            go_wp2_with fail
            go_quiet (fail)
            obtain ⟨w5, hW5⟩ : ∃ w5, w5 = wr.drewN nq := ⟨_, rfl⟩
            rw [← hW5]
            have k1 : ∀ a, w5.cell? a = wr.cell? a := fun a => by rw [hW5]; rfl
            have k2 : ∀ a, w5.frozen? a = wr.frozen? a := fun a => by rw [hW5]; rfl
            rw [← k1] at r1 b0 b1 b2
            have bf5 : ∀ i, w5.frozen? ⟨w2.heap.size + 1, i, none⟩ = false := fun i => (k2 _).trans (bf i)
            have HV5 : Hid (At w5 w2.heap.size (ic k.v) tN) := by rw [hW5]; exact HR.out.1.vt.drewN _
            have HB5 : Hid (Below w2.heap.size w2 w5) := by rw [hW5]; exact below_drewN HR.out.2.1 _
            have hl5 : w2.heap.size + 1 < w5.heap.size := by rw [hW5]; exact hblt
            have HLn : Hid (k.v.length = 4) := HR.out.1.len
            have hne5 : w2.heap.size ≠ w2.heap.size + 1 := by omega
            clear k1 k2 hW5 bf
            by_cases hend : k.pt = m.st.length
            · have hbe : (k.pt == (m.st.length : Int)) = true := by rw [beq_iff_eq]; exact hend
              have HSt2 : Hid ((if k.pt = m.st.length then (1 : Int) else k.st) = 1) := if_pos hend
              clear hend
              go_wp2_with fail
              go_quiet (fail)
              go_wp2_with fail
              go_quiet (fail)
              go_wp2_with fail
              try simp only [Exit.inBlock, Exit.then]
              refine bodyPost_ret (results_tmp4 rfl _ _ _) rfl ?_
              refine ⟨?_, .inr ⟨m, HP.out, w2.heap.size, ?_, by omega, ?_, ?_⟩⟩
              · exact below_drewN (((below_drewN (HB2.out.trans (HB5.out.mono (by omega))) _)).setCell (by show w.heap.size ≤ w2.heap.size + 1; omega) _) _
              · rw [HFq.out, HFi.out, HSt2.out]; rfl
              · rw [HFq.out, HFi.out]; exact ((HV5.out.drewN _).other 0 _ hne5).drewN _
              · rw [HFq.out, HFi.out]; exact HLn.out
            · have hbe : (k.pt == (m.st.length : Int)) = false := by rw [beq_eq_false_iff_ne]; exact hend
              have HSt2 : Hid ((if k.pt = m.st.length then (1 : Int) else k.st) = k.st) := if_neg hend
              clear hend
              go_wp2_with fail
              go_quiet (fail)
              go_wp2_with fail
              go_quiet (fail)
              go_wp2_with fail
              try simp only [Exit.inBlock, Exit.then]
              refine bodyPost_ret (results_tmp4 rfl _ _ _) rfl ?_
              refine ⟨?_, .inr ⟨m, HP.out, w2.heap.size, ?_, by omega, ?_, ?_⟩⟩
              · exact below_drewN (below_drewN (HB2.out.trans (HB5.out.mono (by omega))) _) _
              · rw [HFq.out, HFi.out, HSt2.out]; rfl
              · rw [HFq.out, HFi.out]; exact HV5.out
              · rw [HFq.out, HFi.out]; exact HLn.out
        · have hd : decide ((j : Int) < steps) = false := by simpa using hj1
          clear hgo
          go_wp2_with fail
          go_quiet (fail)
          obtain ⟨w5, hW5⟩ : ∃ w5, w5 = wr.drewN nq := ⟨_, rfl⟩
          rw [← hW5]
          have k1 : ∀ a, w5.cell? a = wr.cell? a := fun a => by rw [hW5]; rfl
          have k2 : ∀ a, w5.frozen? a = wr.frozen? a := fun a => by rw [hW5]; rfl
          rw [← k1] at r1 b0 b1 b2
          have bf5 : ∀ i, w5.frozen? ⟨w2.heap.size + 1, i, none⟩ = false := fun i => (k2 _).trans (bf i)
          have HV5 : Hid (At w5 w2.heap.size (ic k.v) tN) := by rw [hW5]; exact HR.out.1.vt.drewN _
          have HB5 : Hid (Below w2.heap.size w2 w5) := by rw [hW5]; exact below_drewN HR.out.2.1 _
          have hl5 : w2.heap.size + 1 < w5.heap.size := by rw [hW5]; exact hblt
          have HLn : Hid (k.v.length = 4) := HR.out.1.len
          have hne5 : w2.heap.size ≠ w2.heap.size + 1 := by omega
          clear k1 k2 hW5 bf
          by_cases hend : k.pt = m.st.length
          · have hbe : (k.pt == (m.st.length : Int)) = true := by rw [beq_iff_eq]; exact hend
            have HSt2 : Hid ((if k.pt = m.st.length then (1 : Int) else k.st) = 1) := if_pos hend
            clear hend
            go_wp2_with fail
            go_quiet (fail)
            go_wp2_with fail
            go_quiet (fail)
            go_wp2_with fail
            try simp only [Exit.inBlock, Exit.then]
            refine bodyPost_ret (results_tmp4 rfl _ _ _) rfl ?_
            refine ⟨?_, .inr ⟨m, HP.out, w2.heap.size, ?_, by omega, ?_, ?_⟩⟩
            · exact below_drewN (((below_drewN (HB2.out.trans (HB5.out.mono (by omega))) _)).setCell (by show w.heap.size ≤ w2.heap.size + 1; omega) _) _
            · rw [HFq.out, HFi.out, HSt2.out]; rfl
            · rw [HFq.out, HFi.out]; exact ((HV5.out.drewN _).other 0 _ hne5).drewN _
            · rw [HFq.out, HFi.out]; exact HLn.out
          · have hbe : (k.pt == (m.st.length : Int)) = false := by rw [beq_eq_false_iff_ne]; exact hend
            have HSt2 : Hid ((if k.pt = m.st.length then (1 : Int) else k.st) = k.st) := if_neg hend
            clear hend
            go_wp2_with fail
            go_quiet (fail)
            go_wp2_with fail
            go_quiet (fail)
            go_wp2_with fail
            try simp only [Exit.inBlock, Exit.then]
            refine bodyPost_ret (results_tmp4 rfl _ _ _) rfl ?_
            refine ⟨?_, .inr ⟨m, HP.out, w2.heap.size, ?_, by omega, ?_, ?_⟩⟩
            · exact below_drewN (below_drewN (HB2.out.trans (HB5.out.mono (by omega))) _) _
            · rw [HFq.out, HFi.out, HSt2.out]; rfl
            · rw [HFq.out, HFi.out]; exact HV5.out
            · rw [HFq.out, HFi.out]; exact HLn.out

end Go.Proofs.Ytjbpfbgemidleaa

namespace Go.Proofs.Ytjbpfbgemidleaa
open Go.RowKit


set_option maxRecDepth 100000 in
set_option maxHeartbeats 800000 in
/-- A list that came out: the numbers that it is to have, and the caller's. -/
theorem l_result (w : World) (g cap : Nat) (b : Value) (l : List Int) (c : Array Value) (h : At w g c tN) (hs : c.size = cap) (hn : l.length ≤ cap) (hm : cap ≤ 1073741824)
    (hc : ∀ i, i < l.length → c[i]? = some (.int .i64 (l.getD i 0))) (hb : Reads w b l) (hb0 : ∀ n k, b ≠ .slice none n k) :
    Calls Try.prog 13 #[.slice (some ⟨g, 0, none⟩) l.length cap, b] w fun e w' => e = .returned (.bool true) ∧ Below g w w' := by
  have h1 := l_same w _ b l (by omega) (Reads.at_ h rfl hn hc) hb
  have h2 := fun k => l_mine (w.drewN k) g l.length cap c (h.drewN k) hs hn hm
  obtain ⟨bo, cb, rfl, -, -⟩ := hb
  obtain ⟨ba, rfl⟩ : ∃ a, bo = some a := by
    cases bo with
    | none => exact absurd rfl (hb0 _ _)
    | some a => exact ⟨a, rfl⟩
  have H2 : Hid (∀ k, Calls Try.prog 24 #[.slice (some ⟨g, 0, none⟩) l.length cap] (w.drewN k) fun e w' => e = .returned (.bool true) ∧ Below g (w.drewN k) w') := h2
  have hq1 : ∀ (w : World) (a : Option Addr) (n c : Nat), (binOp .eql 29 (.slice a n c) (.slice none 0 0)).run Try.prog w = .ok (.bool a.isNone) w := fun w a n c => Lib.run_eql_slice_nil w 29 tN a n c 0 0 Try.underlying29
  clear h hs hc hb0 h2
  go_enter Try.func13, Try.ntmps13
  go_wp2_with fail
  refine h1.mono ?_
  rintro e w1 ⟨rfl, k, hk⟩
  have h3 := H2.out k
  rw [← hk] at h3
  have HB : Hid (Below g w w1) := by rw [hk]; exact below_drewN (Below.refl _ _) k
  clear hk h1 H2
  go_wp2_with fail
  refine h3.mono ?_
  rintro e w2 ⟨rfl, hb2⟩
  go_wp2_with fail
  go_ret
  exact ⟨rfl, HB.out.trans hb2⟩

set_option maxRecDepth 100000 in
set_option maxHeartbeats 800000 in
theorem l_result_nil (w : World) : Calls Try.prog 13 #[.slice none 0 0, .slice none 0 0] w fun e w' => e = .returned (.bool true) ∧ ∃ k, w' = w.drewN k := by
  have h1 := l_same w (.slice none 0 0) (.slice none 0 0) [] (by simp) ⟨none, 0, rfl, Nat.le_refl _, fun h => absurd rfl h⟩ ⟨none, 0, rfl, Nat.le_refl _, fun h => absurd rfl h⟩
  have hq1 : ∀ (w : World) (a : Option Addr) (n c : Nat), (binOp .eql 29 (.slice a n c) (.slice none 0 0)).run Try.prog w = .ok (.bool a.isNone) w := fun w a n c => Lib.run_eql_slice_nil w 29 tN a n c 0 0 Try.underlying29
  have h2 := l_mine_nil
  go_enter Try.func13, Try.ntmps13
  go_wp2_with fail
  refine h1.mono ?_
  rintro e w1 ⟨rfl, k, hk⟩
  have HK : Hid (∃ k, w1 = w.drewN k) := ⟨k, hk⟩
  clear hk h1
  go_wp2_with fail
  refine (h2 _).mono ?_
  rintro e w2 ⟨rfl, rfl⟩
  go_wp2_with fail
  go_ret
  exact ⟨rfl, HK.out⟩

/-- What stands in a list that was handed over. -/
def lentCells (l : List Int) : Array Value := ic (l ++ [77, 77])

theorem splice_lent (l : List Int) : ((splice (List.replicate (l.length + 2) (Value.int .i64 0)) 0 (l.map (Value.int .i64))).toArray.setIfInBounds l.length (.int .i64 77)).setIfInBounds (l.length + 1) (.int .i64 77) = lentCells l := by
  unfold lentCells ic splice
  have e : (List.replicate (l.length + 2) (Value.int .i64 0)).drop (0 + (l.map (Value.int .i64)).length) = [.int .i64 0, .int .i64 0] := by
    rw [List.length_map, Nat.zero_add, List.drop_replicate, Nat.add_sub_cancel_left]; rfl
  rw [e]
  simp

set_option maxRecDepth 100000 in
set_option maxHeartbeats 1600000 in
theorem l_lent (w : World) (v : Value) (l : List Int) (hm : l.length ≤ 1073741824) (h : Reads w v l) :
    Calls Try.prog 10 #[v] w fun e w' => e = .returned (.slice (some ⟨w.heap.size, 0, none⟩) l.length (l.length + 2)) ∧ Below w.heap.size w w' ∧ At w' w.heap.size (lentCells l) tN ∧ w.heap.size < w'.heap.size := by
  have hmk : ∀ w, (Instr.makeSlice 29 (.int .i64 ((l.length : Int) + 2)) (.int .i64 ((l.length : Int) + 2))).run Try.prog w = .ok (.slice (some ⟨w.heap.size, 0, none⟩) (l.length + 2) (l.length + 2)) (w.alloc (.cells (List.replicate (l.length + 2) (Value.int .i64 0)).toArray tN)) := by
    intro w
    obtain ⟨i0, hi, hz0, hz1, hz2⟩ := info_parts (P := Try.prog) (e := tN) (z := .int .i64 0) (size := 1) (bytes := 8) (by kernel_rfl)
    have := run_make (P := Try.prog) w 29 tN i0 (.int .i64 0) Try.underlying29 hi hz0 .i64 .i64 ((l.length : Int) + 2) ((l.length : Int) + 2) (by omega) (Int.le_refl _) (by rw [hz2]; omega) (by omega)
    rw [this]
    have e1 : ((l.length : Int) + 2).toNat = l.length + 2 := by omega
    rw [e1, hz1]
    congr 2
    congr 1
    apply Array.ext
    · simp [size_madeCells]
    · intro i h1 h2
      simp [madeCells, Value.cells, Nat.mod_one]
  obtain ⟨ao, cap, rfl, hcap, h0⟩ := h
  have HMk : Hid (∀ w, (Instr.makeSlice 29 (.int .i64 ((l.length : Int) + 2)) (.int .i64 ((l.length : Int) + 2))).run Try.prog w = .ok (.slice (some ⟨w.heap.size, 0, none⟩) (l.length + 2) (l.length + 2)) (w.alloc (.cells (List.replicate (l.length + 2) (Value.int .i64 0)).toArray tN))) := hmk
  have H0 : Hid (l.length ≠ 0 → ∃ b off, ao = some ⟨b, off, none⟩ ∧ b < w.heap.size ∧ ∀ i, i < l.length → w.cell? ⟨b, off + i, none⟩ = some (.int .i64 (l.getD i 0))) := h0
  have HSp := (show Hid (_ = _) from splice_lent l)
  have HAl : Hid (At (w.alloc (.cells (List.replicate (l.length + 2) (Value.int .i64 0)).toArray tN)) w.heap.size (List.replicate (l.length + 2) (Value.int .i64 0)).toArray tN) := by
    show (w.heap.push _)[w.heap.size]? = _
    simp
  have HBe : Hid (Below w.heap.size w (w.alloc (.cells (List.replicate (l.length + 2) (Value.int .i64 0)).toArray tN))) := (Below.refl _ _).alloc (Nat.le_refl _) _
  obtain ⟨cs, hcs⟩ : ∃ cs, cs = l.map (Value.int .i64) := ⟨_, rfl⟩
  obtain ⟨cur, hcur⟩ : ∃ cur, cur = List.replicate (l.length + 2) (Value.int .i64 0) := ⟨_, rfl⟩
  rw [← hcur] at HAl HBe HMk
  rw [← hcs, ← hcur] at HSp
  have hmk' := HMk.out
  have HL1 : Hid (cs.length = l.length) := by show cs.length = _; rw [hcs]; simp
  have HL2 : Hid (cur.length = l.length + 2) := by show cur.length = _; rw [hcur]; simp
  have HCS : Hid (cs = l.map (Value.int .i64)) := hcs
  clear hmk h0 hcs hcur HMk
  generalize hn : l.length = n at *
  obtain ⟨w1, hcp, hat, hb1⟩ : ∃ w1, (Builtin.copy_ #[29, 29] tN #[.slice (some ⟨w.heap.size, 0, none⟩) (n + 2) (n + 2), .slice ao n cap]).run Try.prog (w.alloc (.cells cur.toArray tN)) = .ok (.int .i64 n) w1 ∧ At w1 w.heap.size (splice cur 0 cs).toArray tN ∧ Below w.heap.size w w1 := by
    by_cases hz : n = 0
    · have e0 : cs = [] := List.eq_nil_of_length_eq_zero (by rw [HL1.out]; exact hz)
      refine ⟨_, by rw [hz]; exact run_copy_none (P := Try.prog) _ 29 29 tN tN _ _ _ _ _ _ Try.underlying29 (by kernel_rfl) (by simp), ?_, HBe.out⟩
      have := HAl.out
      simpa [splice, e0] using this
    · obtain ⟨b, off, rfl, hlt, hc⟩ := H0.out hz
      have := run_copy_row (P := Try.prog) (w.alloc (.cells cur.toArray tN)) 29 29 tN tN w.heap.size 0 (n + 2) (n + 2) ⟨b, off, none⟩ n cap cur.toArray tN cs Try.underlying29 (by kernel_rfl) HAl.out (by rw [HL1.out]; simp) (by
        intro j v hj
        rw [HCS.out] at hj
        have hjl : j < n := by
          rcases Nat.lt_or_ge j n with h' | h'
          · exact h'
          · rw [List.getElem?_eq_none (by simp; omega)] at hj; cases hj
        have e1 : (⟨b, off, none⟩ : Addr).add j = ⟨b, off + j, none⟩ := by unfold Addr.add; split <;> simp_all
        rw [e1, HBe.out.cell (by exact hlt)]
        have := hc j hjl
        simp [List.getElem?_map, List.getElem?_eq_getElem (show j < l.length by omega)] at hj
        rw [← hj]
        simpa [List.getD, show j < l.length by omega] using this) (by
        have h1 := HL1.out
        have h2 := HL2.out
        simp only [List.size_toArray]; omega) (by
        intro u hu
        rw [HCS.out] at hu
        obtain ⟨x, _, rfl⟩ := List.mem_map.1 hu
        rfl)
      have e2 : goInt cs.length = .int .i64 n := by rw [HL1.out]; rfl
      rw [e2] at this
      refine ⟨_, this, ?_, below_setRow HBe.out (Nat.le_refl _) _⟩
      have h2 := setRow_heap (w.alloc (.cells cur.toArray tN)) w.heap.size cur.toArray (cur.toArray.toList.take 0 ++ cs ++ cur.toArray.toList.drop (0 + cs.length)).toArray tN (0, 0) HAl.out
      rw [show splice cur 0 cs = cur.toArray.toList.take 0 ++ cs ++ cur.toArray.toList.drop (0 + cs.length) by simp [splice]]
      exact h2
  have hsz : (splice cur 0 cs).toArray.size = n + 2 := by
    have := length_splice cur 0 cs (by rw [HL1.out, HL2.out]; omega)
    simp only [List.size_toArray]; rw [this]; exact HL2.out
  have hlt1 := hat.lt
  obtain ⟨x1, c1⟩ : ∃ x, w1.cell? ⟨w.heap.size, n, none⟩ = some x := ⟨(splice cur 0 cs).toArray[n]'(by omega), by rw [hat.cell]; exact Array.getElem?_eq_getElem _⟩
  obtain ⟨x2, c2⟩ : ∃ x, w1.cell? ⟨w.heap.size, n + 1, none⟩ = some x := ⟨(splice cur 0 cs).toArray[n + 1]'(by omega), by rw [hat.cell]; exact Array.getElem?_eq_getElem _⟩
  have f1 := hat.free n
  have f2 := hat.free (n + 1)
  have HAt : Hid (At w1 w.heap.size (splice cur 0 cs).toArray tN) := hat
  have HB1 : Hid (Below w.heap.size w w1) := hb1
  clear hat hsz hb1
  go_enter Try.func10, Try.ntmps10
  go_wp2_with fail
  go_ret
  refine ⟨rfl, (HB1.out.setCell (Nat.le_refl _) _).setCell (Nat.le_refl _) _, ?_, by simpa using hlt1⟩
  rw [← HSp.out]
  exact (HAt.out.put n _).put (n + 1) _

set_option maxRecDepth 100000 in
set_option maxHeartbeats 800000 in
theorem l_whole (w : World) (g : Nat) (v : Value) (l : List Int) (hm : l.length ≤ 1073741824) (h : At w g (lentCells l) tN) (hv : Reads w v l) :
    Calls Try.prog 14 #[.slice (some ⟨g, 0, none⟩) l.length (l.length + 2), v] w fun e w' => e = .returned (.bool true) ∧ ∃ k, w' = w.drewN k := by
  have hc : ∀ i, i < l.length → (lentCells l)[i]? = some (.int .i64 (l.getD i 0)) := by
    intro i hi
    unfold lentCells
    rw [ic_get _ _ (by simp; omega)]
    simp [List.getD, List.getElem?_append_left hi]
  have h1 := l_same w (.slice (some ⟨g, 0, none⟩) l.length (l.length + 2)) v l hm (Reads.at_ h rfl (by omega) hc) hv
  have c1 : w.cell? ⟨g, l.length, none⟩ = some (.int .i64 77) := by rw [h.cell]; unfold lentCells; rw [ic_get _ _ (by simp)]; simp [List.getD]
  have c2 : w.cell? ⟨g, l.length + 1, none⟩ = some (.int .i64 77) := by rw [h.cell]; unfold lentCells; rw [ic_get _ _ (by simp)]; simp [List.getD]
  obtain ⟨ao, cap, rfl, -, -⟩ := hv
  have hg := h.lt
  clear h hc
  generalize l.length = n at *
  go_enter Try.func14, Try.ntmps14
  go_wp2_with fail
  refine h1.mono ?_
  rintro e w1 ⟨rfl, k, hk⟩
  have c1' : w1.cell? ⟨g, n, none⟩ = some (.int .i64 77) := by rw [hk]; exact c1
  have c2' : w1.cell? ⟨g, n + 1, none⟩ = some (.int .i64 77) := by rw [hk]; exact c2
  have HK : Hid (∃ k, w1 = w.drewN k) := ⟨k, hk⟩
  clear hk h1 c1 c2
  go_wp2_with fail
  go_ret
  exact ⟨rfl, HK.out⟩

end Go.Proofs.Ytjbpfbgemidleaa

namespace Go.Proofs.Ytjbpfbgemidleaa
open Go.ChangeShapes Go.WideShapes Go.ChangeAt Go.RowKit Go.ChangeMaps

theorem Reads.inp {w : World} {v : Value} {l : List Int} (h : Reads w v l) : Inp w w.heap.size v l := h
theorem Reads.below {w w' : World} {v : Value} {l : List Int} {B : Nat} (h : Inp w B v l) (hb : Below B w w') (hs : B ≤ w.heap.size) : Reads w' v l := by
  obtain ⟨ao, cap, hv, hc, h0⟩ := h
  refine ⟨ao, cap, hv, hc, fun hn => ?_⟩
  obtain ⟨b, off, ha, hlt, hcell⟩ := h0 hn
  have := hb.size
  exact ⟨b, off, ha, by omega, fun i hi => (hb.cell (by exact hlt)).trans (hcell i hi)⟩

set_option maxRecDepth 100000 in
set_option maxHeartbeats 1600000 in
theorem runs_walk (s : ByteArray) (v : Value) (L : List Int) (steps : Int) (w : World) (hm : s.size ≤ maxLen) (hL : L.length ≤ maxLen) (hv : Reads w v L) :
    Calls Try.prog 5 #[.string s, v, .int .i64 steps] w fun e w' => e = .returned (.bool true) ∧ Below w.heap.size w w' := by
  unfold maxLen at hL
  by_cases hbig : 1073741824 < L.length
  · obtain ⟨ao, cap, rfl, -, -⟩ := hv
    have hb' : (1073741824 : Int) < (L.length : Int) := by omega
    go_enter Try.func5, Try.ntmps5
    go_wp2_with fail
    go_ret
    exact ⟨rfl, Below.refl _ _⟩
  have hL2 : L.length ≤ 1073741824 := by omega
  have hb' : ¬ (1073741824 : Int) < (L.length : Int) := by omega
  have hlent := l_lent w v L hL2 hv
  have HV : Hid (Reads w v L) := hv
  have HRun : Hid (∀ w1, Below w.heap.size w w1 → At w1 w.heap.size (lentCells L) tN → Calls Try.prog 11 #[.string s, .slice (some ⟨w.heap.size, 0, none⟩) L.length (L.length + 2), .int .i64 steps] w1 (RunSays w1 (bytesOf s) L steps)) := by
    intro w1 hb1 hat
    refine d_wrun s _ L steps w1 hm ?_ hL2
    have := hat.lt
    refine ⟨_, _, rfl, by omega, fun _ => ⟨w.heap.size, 0, rfl, this, fun i hi => ?_⟩⟩
    rw [Nat.zero_add, hat.cell]
    unfold lentCells
    rw [ic_get _ _ (by simp; omega)]
    simp [List.getD, List.getElem?_append_left hi]
  have HRef : Hid (∀ w1, Below w.heap.size w w1 → Calls Try.prog 12 #[.string s, v, .int .i64 steps] w1 (RRunSays w1 (bytesOf s) L steps)) := by
    intro w1 hb1
    exact ref_run s v L steps hm (HV.out.keep hb1).inp hL2
  obtain ⟨ao, cap, rfl, -, -⟩ := id hv
  clear hv hm hL hbig
  cases hp : progOf (bytesOf s) with
  | none =>
    have HP : Hid (progOf (bytesOf s) = none) := hp
    clear hp
    go_enter Try.func5, Try.ntmps5
    go_wp2_with fail
    refine hlent.mono ?_
    rintro e w1 ⟨rfl, hb1, hat1, hs1⟩
    have HB1 : Hid (Below w.heap.size w w1) := hb1
    have HA1 : Hid (At w1 w.heap.size (lentCells L) tN) := hat1
    clear hb1 hat1 hlent
    go_wp2_with fail
    refine (HRun.out w1 HB1.out HA1.out).mono ?_
    rintro e w2 ⟨hb2, ⟨-, rfl⟩ | ⟨m, F, e', -⟩⟩
    · have HB2 : Hid (Below w.heap.size w w2) := HB1.out.trans (hb2.mono (by omega))
      have HA2 : Hid (At w2 w.heap.size (lentCells L) tN) := HA1.out.keep hb2 hs1
      have hs2 : w1.heap.size ≤ w2.heap.size := hb2.size
      clear hb2
      go_wp2_with fail
      refine (HRef.out w2 HB2.out).mono ?_
      rintro e w3 ⟨hb3, ⟨-, rfl⟩ | ⟨m, e', -⟩⟩
      · have HB3 : Hid (Below w.heap.size w w3) := HB2.out.trans (hb3.mono (by omega))
        have HA3 : Hid (At w3 w.heap.size (lentCells L) tN) := HA2.out.keep hb3 (by omega)
        clear hb3
        go_wp2_with fail
        refine (l_result_nil w3).mono ?_
        rintro e w4 ⟨rfl, k, rfl⟩
        have hwh := l_whole (w3.drewN k) w.heap.size (.slice ao L.length cap) L hL2 (HA3.out.drewN k) (HV.out.keep (below_drewN HB3.out k))
        go_wp2_with fail
        refine hwh.mono ?_
        rintro e w5 ⟨rfl, k', rfl⟩
        go_wp2_with fail
        go_ret
        exact ⟨rfl, below_drewN HB3.out (k + k')⟩
      · rw [HP.out] at e'; cases e'
    · rw [HP.out] at e'; cases e'
  | some m =>
    have HP : Hid (progOf (bytesOf s) = some m) := hp
    clear hp
    go_enter Try.func5, Try.ntmps5
    go_wp2_with fail
    refine hlent.mono ?_
    rintro e w1 ⟨rfl, hb1, hat1, hs1⟩
    have HB1 : Hid (Below w.heap.size w w1) := hb1
    have HA1 : Hid (At w1 w.heap.size (lentCells L) tN) := hat1
    clear hb1 hat1 hlent
    go_wp2_with fail
    refine (HRun.out w1 HB1.out HA1.out).mono ?_
    rintro e w2 ⟨hb2, ⟨e', -⟩ | ⟨m', F, e', hW, hF, g, c, rfl, hg, hat, hsz, hls⟩⟩
    · rw [HP.out] at e'; cases e'
    · rw [HP.out] at e'
      cases e'
      have HB2 : Hid (Below w.heap.size w w2) := HB1.out.trans (hb2.mono (by omega))
      have HA2 : Hid (At w2 w.heap.size (lentCells L) tN) := HA1.out.keep hb2 hs1
      have hs2 : w1.heap.size ≤ w2.heap.size := hb2.size
      have hal := fin_alike hW hF.len L steps
      have hFl := hW.1.len
      have HG : Hid (At w2 g c tN ∧ c.size = 4 ∧ c.toList = _) := ⟨hat, hsz, hls⟩
      have hg2 := hat.lt
      clear hb2 hat hsz hls hW hF
      go_wp2_with fail
      refine (HRef.out w2 HB2.out).mono ?_
      rintro e w3 ⟨hb3, ⟨e', -⟩ | ⟨m', e', q, rfl, hq, hatq, hlq⟩⟩
      · rw [HP.out] at e'; cases e'
      · rw [HP.out] at e'
        cases e'
        have h1 : (finP F L steps).st = if (finR m.st L steps).pt = m.st.length then 1 else (finR m.st L steps).st := by rw [hal.st, hFl]
        have h2 := hal.pt
        have h3 := hal.v
        have HB3 : Hid (Below w.heap.size w w3) := HB2.out.trans (hb3.mono (by omega))
        have HA3 : Hid (At w3 w.heap.size (lentCells L) tN) := HA2.out.keep hb3 (by omega)
        have hres := l_result w3 g 4 (.slice (some ⟨q, 0, none⟩) 4 4) (finR m.st L steps).v c (HG.out.1.keep hb3 hg2) HG.out.2.1 (by omega) (by omega) (by
          intro i hi
          have := HG.out.2.2
          rw [← Array.getElem?_toList, this, h3]
          unfold sgAt
          rw [hlq] at hi
          rcases (show i = 0 ∨ i = 1 ∨ i = 2 ∨ i = 3 by omega) with rfl | rfl | rfl | rfl <;> rfl) (Reads.at_ hatq hlq (Nat.le_refl _) (fun i hi => by rw [ic_get _ _ (by omega)])) (by intro n k e; cases e)
        rw [hlq] at hres
        rw [h1, h2]
        have HRs : Hid (Calls Try.prog 13 #[.slice (some ⟨g, 0, none⟩) 4 4, .slice (some ⟨q, 0, none⟩) 4 4] w3 fun e w' => e = .returned (.bool true) ∧ Below g w3 w') := hres
        clear hb3 hatq hlq hal h1 h2 h3 hres HG
        generalize (if (finR m.st L steps).pt = m.st.length then (1 : Int) else (finR m.st L steps).st) = a at *
        generalize (finR m.st L steps).pt = b at *
        go_wp2_with fail
        refine HRs.out.mono ?_
        rintro e w4 ⟨rfl, hb4⟩
        have HB4 : Hid (Below w.heap.size w w4) := HB3.out.trans (hb4.mono (by omega))
        have hwh := l_whole w4 w.heap.size (.slice ao L.length cap) L hL2 (HA3.out.keep hb4 (by omega)) (HV.out.keep HB4.out)
        clear hb4
        go_wp2_with fail
        refine hwh.mono ?_
        rintro e w5 ⟨rfl, k', rfl⟩
        go_wp2_with fail
        go_ret
        exact ⟨rfl, below_drewN HB4.out k'⟩

theorem Try.ownR : ownKnob Try.prog.godebug = none := by kernel_rfl
theorem Try.laidOutR : laidOutB Try.prog = true := by kernel_rfl
theorem Try.cellsN : Try.prog.cellsOf tN = 1 := by kernel_rfl

set_option maxRecDepth 100000 in
theorem runs_lifted (os : Os) (started : os.Started) (H : Type) (enc : TypeId × Value → H) :
    ReturnsInHanded {} Try.checked os 5 .any (Rows.runsSpec.pre6 enc Try.prog Try.f5 Rows.runsRow.domain false) (Rows.runsSpec.post enc Try.prog Try.f5 false true false false) := by
  refine returnsInHanded_of_change (C := Try.checked) Try.ownR started (by kernel_rfl) Try.func5
    (ChangeSpec.witness6 (enc := enc) (C := Try.checked) false ⟨#[], #[.string ByteArray.empty, .slice none 0 0, .int .i64 0], []⟩ 8 (by kernel_rfl) (by kernel_rfl) (by kernel_rfl) (by kernel_rfl)) ?_
  intro W base args ds gs before hval0 hW _ _
  have hval : ∀ (j : Nat) t v, Try.f5.params[j]? = some t → args[j]? = some v → Value.okWide Try.prog W .any base t v := hval0
  have hW' := hW
  obtain ⟨p, q, hA0, hV, rfl, hfz, hnd⟩ := hW
  have hA : DataW.TrodAll enc Try.prog W 0 (fun _ => true) true Try.f5.params.toList args.toList ds p := hA0
  rw [Try.params5] at hA hval
  obtain ⟨v0, vs0, d0, ds0, p0, q0, hargs0, rfl, rfl, h0, r0⟩ := trodAll_cons hA
  obtain ⟨v1, vs1, d1, ds1, p1, q1, hargs1, rfl, rfl, h1, r1⟩ := trodAll_cons r0
  obtain ⟨v2, vs2, d2, ds2, p2, q2, hargs2, rfl, rfl, h2, r2⟩ := trodAll_cons r1
  obtain ⟨rfl, rfl, rfl⟩ := trodAll_nil r2
  obtain rfl : args = #[v0, v1, v2] := by cases args; simp_all
  obtain ⟨rfl, rfl⟩ := trodVars_none hV
  obtain ⟨s, rfl, rfl, rfl, hs⟩ := open_string Try.underlying9 (hval 0 9 v0 rfl rfl) h0
  obtain ⟨b, rfl, rfl, rfl, wb⟩ := open_int Try.underlying3 (hval 2 3 v2 rfl rfl) h2
  obtain ⟨a0, len, cap, rfl⟩ := okWide_slice Try.underlying29 (hval 1 29 v1 rfl rfl)
  clear hA0 hval0
  simp only [List.append_nil, List.nil_append] at hW'
  have hlt : ∀ x ∈ p1, x.block < W.heap.size := fun x hx => hW'.lt x (by simp [hx])
  have hrd : ∃ L, L.length ≤ maxLen ∧ Reads W (.slice a0 len cap) L := by
    obtain ⟨fuel, hf⟩ := h1
    rcases open_ints Try.underlying29 Try.underlying3 Try.cellsN hf with ⟨hcs, hx⟩ | ⟨a, len', cap', zs, hcs, _, hl, hm, hz, hx, hcell, hwz⟩
    · simp [Value.cells] at hcs
      obtain ⟨rfl, rfl, rfl⟩ := hcs
      exact ⟨[], Nat.zero_le _, none, 0, rfl, Nat.le_refl _, fun h => absurd rfl h⟩
    · simp [Value.cells] at hcs
      obtain ⟨rfl, rfl, rfl⟩ := hcs
      simp only [Prod.mk.injEq] at hx
      obtain ⟨rfl, rfl⟩ := hx
      simp only [if_true] at hz
      have htl : (zs.take len).length = len := by simp; omega
      refine ⟨zs.take len, by rw [htl]; exact Nat.le_trans hl hm, some a, cap, by rw [htl], by rw [htl]; exact hl, fun hn => ?_⟩
      rw [htl] at hn
      obtain ⟨bb, off, spot⟩ := a
      have hspot : spot = none := by simpa [Addr.add] using World.cell?_spot (hcell 0 (by omega))
      subst hspot
      refine ⟨bb, off, rfl, hlt (.cell bb off) (MemPlace.mem_row.2 ⟨0, by omega, by simp⟩), fun i hi => ?_⟩
      rw [htl] at hi
      rw [← add_plain, hcell i (by omega)]
      congr 2
      simp [List.getD, hi]
  obtain ⟨L, hLm, hR⟩ := hrd
  refine (runs_walk s _ L b W hs hLm hR).mono fun e W' ⟨he, hb⟩ => ?_
  subst he
  have hargs := Below.trod Try.laidOutR (by kernel_rfl) (of_decide_eq_true (by kernel_rfl)) h1 hb hlt
  have hall := trodAll_cons_mk (shut_string Try.underlying9 hs) (trodAll_cons_mk hargs (trodAll_cons_mk (shut_int Try.underlying3 wb) trodAll_mk0))
  simp only [List.append_nil, List.nil_append] at hall
  exact ⟨_, rfl, _, _, _, [], p1, [], hW', trodAll_cons_mk (shut_bool Try.underlying4 _) trodAll_mk0, hall, rfl, hb.frame _, fun h => by cases h⟩

theorem runs_holds : Rows.RunsSaid :=
  OpenClaim.holds_of_wide 5 Try.f5 rfl rfl rfl rfl rfl rfl rfl ⟨rfl, rfl, rfl, rfl, rfl⟩ rfl rfl rfl rfl rfl (by kernel_rfl) Try.func5 (by kernel_rfl)
    (of_decide_eq_true (by kernel_rfl)) (by unfold Func.isWrapper; first | (rw [if_pos (by decide +kernel)]; kernel_rfl) | (rw [if_neg (by decide +kernel)]; exact ⟨rfl, rfl⟩))
    (fun os started H enc _ => runs_lifted os started H enc)

end Go.Proofs.Ytjbpfbgemidleaa

