import Derived.Test.YtffajooegiempabDoorJ28
namespace Go.Proofs.YtffajooegiempabDoor
open Go.RowKit
variable {w : World} {L : List Int} {F : List Ds}

theorem Tryd.infoN : (Tryd.prog.info? tN).map (fun i => (i.zero, i.size, i.bytes)) = some (some (.int .i64 0), 1, 8) := by kernel_rfl

/-- What comes out of a run. -/
def RunPost (w : World) (f : Ms) : Ending → World → Prop := fun e w' => ∃ g c, e = .returned (.tuple #[.int .i64 f.st, .int .i64 f.pt, .slice (some ⟨g, 0, none⟩) 4 4]) ∧ w.heap.size ≤ g ∧ At w' g c tN ∧ c.size = 4 ∧ c.toList = [.int .i64 (sgAt f.v 0), .int .i64 (sgAt f.v 1), .int .i64 (sgAt f.v 2), .int .i64 (sgAt f.v 3)] ∧ Below w.heap.size w w'

theorem mrep_first {pv iv : Value} {o : Obj} (hp : PAt w w.heap.size pv F) (hi : Inp w w.heap.size iv L) : MRep ((w.alloc o).alloc (.cells (mCells pv iv ⟨0, 0, 0, [0, 0, 0, 0]⟩) tM)) (w.heap.size + 1) pv iv F L ⟨0, 0, 0, [0, 0, 0, 0]⟩ := by
  have hb : Below w.heap.size w ((w.alloc o).alloc (.cells (mCells pv iv ⟨0, 0, 0, [0, 0, 0, 0]⟩) tM)) := ((Below.refl _ _).alloc (Nat.le_refl _) _).alloc (by simp) _
  refine ⟨?_, ?_, ?_, ⟨rfl, fun i => ?_, Nat.zero_le _⟩⟩
  · have := At.new (w.alloc o) (mCells pv iv ⟨0, 0, 0, [0, 0, 0, 0]⟩) tM
    simpa using this
  · obtain ⟨ao, cap, hv, h0⟩ := hp.keep hb
    exact ⟨ao, cap, hv, fun hn => by obtain ⟨g, h1, h2, h3⟩ := h0 hn; exact ⟨g, h1, by omega, h3⟩⟩
  · obtain ⟨ao, cap, hv, hc, h0⟩ := hi.keep hb
    exact ⟨ao, cap, hv, hc, fun hn => by obtain ⟨b, off, h1, h2, h3⟩ := h0 hn; exact ⟨b, off, h1, by omega, h3⟩⟩
  · have : sgAt [0, 0, 0, 0] i = 0 := by
      unfold sgAt
      match i with
      | 0 | 1 | 2 | 3 => rfl
      | n + 4 => rfl
    show -999 ≤ sgAt [0, 0, 0, 0] i ∧ sgAt [0, 0, 0, 0] i ≤ 999
    omega

set_option maxRecDepth 100000 in
set_option maxHeartbeats 3200000 in
theorem x_run {pv iv : Value} (hp : PAt w w.heap.size pv F) (hi : Inp w w.heap.size iv L) (hF : FOk F) (hL : L.length ≤ 9223372036854775807) (steps : Int) :
    Calls Tryd.prog 31 #[.agg #[pv], iv, .int .i64 steps] w (RunPost w (finP F L steps)) := by
  obtain ⟨i0, hi0, hz0, hz1, hz2⟩ := info_parts Tryd.infoN
  have hmk : ∀ w, (Instr.makeSlice 22 (.int .i64 0) (.int .i64 4)).run Tryd.prog w = .ok (.slice (some ⟨w.heap.size, 0, none⟩) 0 4) (w.alloc (.cells #[.int .i64 0, .int .i64 0, .int .i64 0, .int .i64 0] tN)) := fun _ => by kernel_rfl
  have hix : ∀ (a b c d : Int) (w : World), (Instr.index 71 (.agg #[.int .i64 a, .int .i64 b, .int .i64 c, .int .i64 d]) (.int .i64 0)).run Tryd.prog w = .ok (.int .i64 a) w ∧ (Instr.index 71 (.agg #[.int .i64 a, .int .i64 b, .int .i64 c, .int .i64 d]) (.int .i64 1)).run Tryd.prog w = .ok (.int .i64 b) w ∧ (Instr.index 71 (.agg #[.int .i64 a, .int .i64 b, .int .i64 c, .int .i64 d]) (.int .i64 2)).run Tryd.prog w = .ok (.int .i64 c) w ∧ (Instr.index 71 (.agg #[.int .i64 a, .int .i64 b, .int .i64 c, .int .i64 d]) (.int .i64 3)).run Tryd.prog w = .ok (.int .i64 d) w := fun _ _ _ _ _ => ⟨by kernel_rfl, by kernel_rfl, by kernel_rfl, by kernel_rfl⟩
  have HM0 : Hid (∀ o, MRep ((w.alloc o).alloc (.cells (mCells pv iv ⟨0, 0, 0, [0, 0, 0, 0]⟩) tM)) (w.heap.size + 1) pv iv F L ⟨0, 0, 0, [0, 0, 0, 0]⟩) := fun o => mrep_first hp hi
  have HB0 : Hid (∀ o o', Below w.heap.size w ((w.alloc o).alloc o')) := fun o o' => ((Below.refl _ _).alloc (Nat.le_refl _) _).alloc (by simp) _
  have HF : Hid (FOk F) := hF
  have HEn : Hid (∀ o w1, w1 = (w.alloc o).alloc (.cells (mCells pv iv ⟨0, 0, 0, [0, 0, 0, 0]⟩) tM) → Calls Tryd.prog 44 #[.pointer (some ⟨w.heap.size + 1, 0, none⟩), .int .i64 0] w1 fun e w2 => e = .returned (.tuple #[]) ∧ Hid (MRep w2 (w.heap.size + 1) pv iv F L (entP F.length ⟨0, 0, 0, [0, 0, 0, 0]⟩ 0) ∧ Below w.heap.size w w2)) := by
    intro o w1 hw1
    have h1 := HM0.out o
    rw [← hw1] at h1
    have hb := HB0.out o (.cells (mCells pv iv ⟨0, 0, 0, [0, 0, 0, 0]⟩) tM)
    rw [← hw1] at hb
    refine (x_enter h1.at_ h1.prog HF.out.len 0).mono ?_
    rintro e w2 ⟨rfl, ha, ho⟩
    exact ⟨rfl, h1.next ha ho ⟨h1.ok.len, h1.ok.v, h1.ok.used⟩, hb.trans (ho.below (by omega) hb.size)⟩
  have HS : Hid (∀ w1 s, MRep w1 (w.heap.size + 1) pv iv F L s → InR F s → s.st = 0 → Calls Tryd.prog 45 #[.pointer (some ⟨w.heap.size + 1, 0, none⟩)] w1 fun e w2 => e = .returned (.tuple #[]) ∧ Hid (MRep w2 (w.heap.size + 1) pv iv F L (stpP F L s) ∧ Onl (w.heap.size + 1) w1 w2)) := by
    intro w1 s h1 hr hs
    obtain ⟨q0, q1⟩ := hr hs
    refine (x_step h1 HF.out hL q0 q1).mono ?_
    rintro e w2 ⟨rfl, ha, ho⟩
    exact ⟨rfl, h1.next ha ho (h1.ok.stp HF.out.ds), ho⟩
  obtain ⟨N, hN⟩ : ∃ N : Nat, N = min steps.toNat 2000 := ⟨_, rfl⟩
  have HFin : Hid (finP F L steps = runP F L N (entP F.length ⟨0, 0, 0, [0, 0, 0, 0]⟩ 0)) := by show finP F L steps = _; rw [hN]; rfl
  have hN1 : N ≤ 2000 := by omega
  have hN2 : 0 < N → (N : Int) ≤ steps := by omega
  have hN3 : N < 2000 → steps ≤ N := by omega
  obtain ⟨pa, pcap, rfl, -⟩ := hp
  obtain ⟨ia, icap, rfl, -, -⟩ := hi
  clear hN hF
  generalize finP F L steps = fin at *
  unfold mCells at HEn
  go_enter Tryd.func31, Tryd.ntmps31
  go_wp2_with fail
  refine (HEn.out _ _ rfl).mono ?_
  rintro e w2 ⟨rfl, hm2⟩
  go_wp2_with fail
  go_loopw [10] (fun i wr => ∃ (j : Nat) (s : Ms), j ≤ N ∧ i = .int .i64 j ∧ Hid (MRep wr (w.heap.size + 1) (.slice pa F.length pcap) (.slice ia L.length icap) F L s ∧ Below w.heap.size w wr ∧ InR F s ∧ fin = runP F L (N - j) s)) (fun i _ => N - (intOf i).toNat)
  case atStart => exact ⟨0, _, Nat.zero_le _, rfl, hm2.out.1, hm2.out.2, InR.ent _ (by omega) (by omega), HFin.out⟩
  case round =>
    obtain ⟨j, s, hj, rfl, HR⟩ := hrel
    obtain ⟨c0, c1, c2, c3, c4, c5, c6, c7, c8, cf⟩ := mcells HR.out.1.at_
    have hltm := HR.out.1.at_.lt
    have hszw := HR.out.2.1.size
    by_cases hgo : j < N ∧ s.st = 0
    · obtain ⟨hjN, hst⟩ := hgo
      rw [hst] at c3
      have hj1 : (j : Int) < steps := by omega
      have hj2 : (j : Int) < 2000 := by omega
      have hstep := HS.out wr s HR.out.1 HR.out.2.2.1 hst
      have HN : Hid (fin = runP F L (N - (j + 1)) (stpP F L s)) := by
        show fin = _
        rw [HR.out.2.2.2, show N - j = (N - (j + 1)) + 1 by omega, runP, if_pos hst]
      clear c0 c1 c2 c4 c5 c6 c7 c8
      go_wp2_with fail
      refine hstep.mono ?_
      rintro e w3 ⟨rfl, hm3⟩
      go_wp2_with fail
      go_roundw
      case rel => exact ⟨j + 1, _, by omega, by go_num, hm3.out.1, HR.out.2.1.trans (hm3.out.2.below (by omega) hszw), HR.out.2.2.1.stp, HN.out⟩
      case measure => simp [intOf]; omega
    · have HFi : Hid (fin = s) := by
        show fin = s
        rw [HR.out.2.2.2]
        cases hq : N - j with
        | zero => rfl
        | succ q => rw [runP, if_neg (fun e => hgo ⟨by omega, e⟩)]
      obtain ⟨w4, rfl⟩ : ∃ w4, w4 = wr := ⟨_, rfl⟩
      have hms := hltm
      have HMs : Hid (At w4 (w.heap.size + 1) _ tM) := HR.out.1.at_
      have HBw : Hid (Below w.heap.size w w4) := HR.out.2.1
      have hown0 := World.ownsRow_made (base := w4.heap.size) (e := tN) (size := 1) w4 #[.int .i64 0, .int .i64 0, .int .i64 0, .int .i64 0] 4 (Nat.le_refl _) (by decide) rfl
      have HOw : Hid (World.ownsRow _ _ _ _ _ _ _) := hown0
      clear hown0
      by_cases hj1 : (j : Int) < steps
      · by_cases hj2 : (j : Int) < 2000
        · have hst : s.st ≠ 0 := fun e => hgo ⟨by omega, e⟩
          have hsb : (s.st == 0) = false := by simpa using hst
          clear hgo hst
          go_wp2_with fail
          go_loopw [11, 36] (fun sl i wr => ∃ (q : Nat), q ≤ 4 ∧ i = .int .i64 q ∧ sl = .slice (some ⟨w4.heap.size, 0, none⟩) q 4 ∧ Hid (wr.ownsRow w4.heap.size tN 1 (.slice (some ⟨w4.heap.size, 0, none⟩) q 4) q ([.int .i64 (sgAt s.v 0), .int .i64 (sgAt s.v 1), .int .i64 (sgAt s.v 2), .int .i64 (sgAt s.v 3)].take q) ∧ Below w4.heap.size w4 wr)) (fun _ i _ => 4 - (intOf i).toNat)
          case atStart => exact ⟨0, by omega, rfl, rfl, HOw.out, (Below.refl _ _).alloc (Nat.le_refl _) _⟩
          case round =>
            obtain ⟨q, hq, rfl, rfl, HQ⟩ := hrel
            rcases (show q = 0 ∨ q = 1 ∨ q = 2 ∨ q = 3 ∨ q = 4 by omega) with rfl | rfl | rfl | rfl | rfl
            · have b2 : wr.cell? ⟨w.heap.size + 1, 3, none⟩ = some (.int .i64 s.st) := (HQ.out.2.cell (by exact hms)).trans c3
              obtain ⟨x0, x1, x2, x3⟩ := hix (sgAt s.v 0) (sgAt s.v 1) (sgAt s.v 2) (sgAt s.v 3) wr
              have y0 : (Instr.index 71 (.agg #[.int .i64 (sgAt s.v 0), .int .i64 (sgAt s.v 1), .int .i64 (sgAt s.v 2), .int .i64 (sgAt s.v 3)]) (.int .i64 ((0 : Nat) : Int))).run Tryd.prog wr = .ok (.int .i64 (sgAt s.v 0)) wr := x0
              have y1 : (Instr.index 71 (.agg #[.int .i64 (sgAt s.v 0), .int .i64 (sgAt s.v 1), .int .i64 (sgAt s.v 2), .int .i64 (sgAt s.v 3)]) (.int .i64 ((1 : Nat) : Int))).run Tryd.prog wr = .ok (.int .i64 (sgAt s.v 1)) wr := x1
              have y2 : (Instr.index 71 (.agg #[.int .i64 (sgAt s.v 0), .int .i64 (sgAt s.v 1), .int .i64 (sgAt s.v 2), .int .i64 (sgAt s.v 3)]) (.int .i64 ((2 : Nat) : Int))).run Tryd.prog wr = .ok (.int .i64 (sgAt s.v 2)) wr := x2
              have y3 : (Instr.index 71 (.agg #[.int .i64 (sgAt s.v 0), .int .i64 (sgAt s.v 1), .int .i64 (sgAt s.v 2), .int .i64 (sgAt s.v 3)]) (.int .i64 ((3 : Nat) : Int))).run Tryd.prog wr = .ok (.int .i64 (sgAt s.v 3)) wr := x3
              go_wp2_with (at_builtin; refine wpList_append_fits _ rfl (.tmp 39) (.tmp 41) 22 rfl w4.heap.size tN i0 1 Tryd.underlying22 hi0 hz1 w4.heap.size 0 4 _ rfl (HQ.out.1.alloc _) ⟨wr.heap.size, 0, none⟩ 1 1 [.int .i64 (sgAt s.v 0)] rfl rfl (by intro t u ht; match t, ht with | 0, ht => simp at ht; subst ht; exact World.cell?_alloc_at _ _ _ _ rfl) (by intro u hu; simp at hu; subst hu; rfl) (by omega) ?_; intro w5 hown5 hgrow5)
              go_roundw
              case rel => exact ⟨0 + 1, by omega, rfl, rfl, hown5, (HQ.out.2.alloc HQ.out.2.size _).grown hgrow5 (by have := HQ.out.2.size; simp; omega) (fun k hk => by cases hk; exact Nat.le_refl _)⟩
              case measure => simp [intOf]
            · have b2 : wr.cell? ⟨w.heap.size + 1, 3, none⟩ = some (.int .i64 s.st) := (HQ.out.2.cell (by exact hms)).trans c3
              obtain ⟨x0, x1, x2, x3⟩ := hix (sgAt s.v 0) (sgAt s.v 1) (sgAt s.v 2) (sgAt s.v 3) wr
              have y0 : (Instr.index 71 (.agg #[.int .i64 (sgAt s.v 0), .int .i64 (sgAt s.v 1), .int .i64 (sgAt s.v 2), .int .i64 (sgAt s.v 3)]) (.int .i64 ((0 : Nat) : Int))).run Tryd.prog wr = .ok (.int .i64 (sgAt s.v 0)) wr := x0
              have y1 : (Instr.index 71 (.agg #[.int .i64 (sgAt s.v 0), .int .i64 (sgAt s.v 1), .int .i64 (sgAt s.v 2), .int .i64 (sgAt s.v 3)]) (.int .i64 ((1 : Nat) : Int))).run Tryd.prog wr = .ok (.int .i64 (sgAt s.v 1)) wr := x1
              have y2 : (Instr.index 71 (.agg #[.int .i64 (sgAt s.v 0), .int .i64 (sgAt s.v 1), .int .i64 (sgAt s.v 2), .int .i64 (sgAt s.v 3)]) (.int .i64 ((2 : Nat) : Int))).run Tryd.prog wr = .ok (.int .i64 (sgAt s.v 2)) wr := x2
              have y3 : (Instr.index 71 (.agg #[.int .i64 (sgAt s.v 0), .int .i64 (sgAt s.v 1), .int .i64 (sgAt s.v 2), .int .i64 (sgAt s.v 3)]) (.int .i64 ((3 : Nat) : Int))).run Tryd.prog wr = .ok (.int .i64 (sgAt s.v 3)) wr := x3
              go_wp2_with (at_builtin; refine wpList_append_fits _ rfl (.tmp 39) (.tmp 41) 22 rfl w4.heap.size tN i0 1 Tryd.underlying22 hi0 hz1 w4.heap.size 1 4 _ rfl (HQ.out.1.alloc _) ⟨wr.heap.size, 0, none⟩ 1 1 [.int .i64 (sgAt s.v 1)] rfl rfl (by intro t u ht; match t, ht with | 0, ht => simp at ht; subst ht; exact World.cell?_alloc_at _ _ _ _ rfl) (by intro u hu; simp at hu; subst hu; rfl) (by omega) ?_; intro w5 hown5 hgrow5)
              go_roundw
              case rel => exact ⟨1 + 1, by omega, rfl, rfl, hown5, (HQ.out.2.alloc HQ.out.2.size _).grown hgrow5 (by have := HQ.out.2.size; simp; omega) (fun k hk => by cases hk; exact Nat.le_refl _)⟩
              case measure => simp [intOf]
            · have b2 : wr.cell? ⟨w.heap.size + 1, 3, none⟩ = some (.int .i64 s.st) := (HQ.out.2.cell (by exact hms)).trans c3
              obtain ⟨x0, x1, x2, x3⟩ := hix (sgAt s.v 0) (sgAt s.v 1) (sgAt s.v 2) (sgAt s.v 3) wr
              have y0 : (Instr.index 71 (.agg #[.int .i64 (sgAt s.v 0), .int .i64 (sgAt s.v 1), .int .i64 (sgAt s.v 2), .int .i64 (sgAt s.v 3)]) (.int .i64 ((0 : Nat) : Int))).run Tryd.prog wr = .ok (.int .i64 (sgAt s.v 0)) wr := x0
              have y1 : (Instr.index 71 (.agg #[.int .i64 (sgAt s.v 0), .int .i64 (sgAt s.v 1), .int .i64 (sgAt s.v 2), .int .i64 (sgAt s.v 3)]) (.int .i64 ((1 : Nat) : Int))).run Tryd.prog wr = .ok (.int .i64 (sgAt s.v 1)) wr := x1
              have y2 : (Instr.index 71 (.agg #[.int .i64 (sgAt s.v 0), .int .i64 (sgAt s.v 1), .int .i64 (sgAt s.v 2), .int .i64 (sgAt s.v 3)]) (.int .i64 ((2 : Nat) : Int))).run Tryd.prog wr = .ok (.int .i64 (sgAt s.v 2)) wr := x2
              have y3 : (Instr.index 71 (.agg #[.int .i64 (sgAt s.v 0), .int .i64 (sgAt s.v 1), .int .i64 (sgAt s.v 2), .int .i64 (sgAt s.v 3)]) (.int .i64 ((3 : Nat) : Int))).run Tryd.prog wr = .ok (.int .i64 (sgAt s.v 3)) wr := x3
              go_wp2_with (at_builtin; refine wpList_append_fits _ rfl (.tmp 39) (.tmp 41) 22 rfl w4.heap.size tN i0 1 Tryd.underlying22 hi0 hz1 w4.heap.size 2 4 _ rfl (HQ.out.1.alloc _) ⟨wr.heap.size, 0, none⟩ 1 1 [.int .i64 (sgAt s.v 2)] rfl rfl (by intro t u ht; match t, ht with | 0, ht => simp at ht; subst ht; exact World.cell?_alloc_at _ _ _ _ rfl) (by intro u hu; simp at hu; subst hu; rfl) (by omega) ?_; intro w5 hown5 hgrow5)
              go_roundw
              case rel => exact ⟨2 + 1, by omega, rfl, rfl, hown5, (HQ.out.2.alloc HQ.out.2.size _).grown hgrow5 (by have := HQ.out.2.size; simp; omega) (fun k hk => by cases hk; exact Nat.le_refl _)⟩
              case measure => simp [intOf]
            · have b2 : wr.cell? ⟨w.heap.size + 1, 3, none⟩ = some (.int .i64 s.st) := (HQ.out.2.cell (by exact hms)).trans c3
              obtain ⟨x0, x1, x2, x3⟩ := hix (sgAt s.v 0) (sgAt s.v 1) (sgAt s.v 2) (sgAt s.v 3) wr
              have y0 : (Instr.index 71 (.agg #[.int .i64 (sgAt s.v 0), .int .i64 (sgAt s.v 1), .int .i64 (sgAt s.v 2), .int .i64 (sgAt s.v 3)]) (.int .i64 ((0 : Nat) : Int))).run Tryd.prog wr = .ok (.int .i64 (sgAt s.v 0)) wr := x0
              have y1 : (Instr.index 71 (.agg #[.int .i64 (sgAt s.v 0), .int .i64 (sgAt s.v 1), .int .i64 (sgAt s.v 2), .int .i64 (sgAt s.v 3)]) (.int .i64 ((1 : Nat) : Int))).run Tryd.prog wr = .ok (.int .i64 (sgAt s.v 1)) wr := x1
              have y2 : (Instr.index 71 (.agg #[.int .i64 (sgAt s.v 0), .int .i64 (sgAt s.v 1), .int .i64 (sgAt s.v 2), .int .i64 (sgAt s.v 3)]) (.int .i64 ((2 : Nat) : Int))).run Tryd.prog wr = .ok (.int .i64 (sgAt s.v 2)) wr := x2
              have y3 : (Instr.index 71 (.agg #[.int .i64 (sgAt s.v 0), .int .i64 (sgAt s.v 1), .int .i64 (sgAt s.v 2), .int .i64 (sgAt s.v 3)]) (.int .i64 ((3 : Nat) : Int))).run Tryd.prog wr = .ok (.int .i64 (sgAt s.v 3)) wr := x3
              go_wp2_with (at_builtin; refine wpList_append_fits _ rfl (.tmp 39) (.tmp 41) 22 rfl w4.heap.size tN i0 1 Tryd.underlying22 hi0 hz1 w4.heap.size 3 4 _ rfl (HQ.out.1.alloc _) ⟨wr.heap.size, 0, none⟩ 1 1 [.int .i64 (sgAt s.v 3)] rfl rfl (by intro t u ht; match t, ht with | 0, ht => simp at ht; subst ht; exact World.cell?_alloc_at _ _ _ _ rfl) (by intro u hu; simp at hu; subst hu; rfl) (by omega) ?_; intro w5 hown5 hgrow5)
              go_roundw
              case rel => exact ⟨3 + 1, by omega, rfl, rfl, hown5, (HQ.out.2.alloc HQ.out.2.size _).grown hgrow5 (by have := HQ.out.2.size; simp; omega) (fun k hk => by cases hk; exact Nat.le_refl _)⟩
              case measure => simp [intOf]
            · have b3 : wr.cell? ⟨w.heap.size + 1, 3, none⟩ = some (.int .i64 s.st) := (HQ.out.2.cell (by exact hms)).trans c3
              have b4 : wr.cell? ⟨w.heap.size + 1, 4, none⟩ = some (.int .i64 s.pt) := (HQ.out.2.cell (by exact hms)).trans c4
              go_wp2_with fail
              go_quiet (fail)
              go_wp2_with fail
              go_ret3
              obtain ⟨⟨_, hrow⟩, hbq⟩ := HQ.out
              rcases hrow with ⟨e, _⟩ | ⟨g, cap, cur, e, hg, hh, hn4, hc4, hsz, htk⟩
              · cases e
              · cases e
                refine ⟨_, cur, by rw [HFi.out]; rfl, HBw.out.size, At.drewN hh _, by omega, ?_, below_drewN (HBw.out.trans (hbq.mono HBw.out.size)) _⟩
                rw [HFi.out]
                rw [← List.take_of_length_le (l := cur.toList) (i := 4 * 1) (by simp; omega), htk]
                rfl
        · clear hgo
          go_wp2_with fail
          go_loopw [11, 36] (fun sl i wr => ∃ (q : Nat), q ≤ 4 ∧ i = .int .i64 q ∧ sl = .slice (some ⟨w4.heap.size, 0, none⟩) q 4 ∧ Hid (wr.ownsRow w4.heap.size tN 1 (.slice (some ⟨w4.heap.size, 0, none⟩) q 4) q ([.int .i64 (sgAt s.v 0), .int .i64 (sgAt s.v 1), .int .i64 (sgAt s.v 2), .int .i64 (sgAt s.v 3)].take q) ∧ Below w4.heap.size w4 wr)) (fun _ i _ => 4 - (intOf i).toNat)
          case atStart => exact ⟨0, by omega, rfl, rfl, HOw.out, (Below.refl _ _).alloc (Nat.le_refl _) _⟩
          case round =>
            obtain ⟨q, hq, rfl, rfl, HQ⟩ := hrel
            rcases (show q = 0 ∨ q = 1 ∨ q = 2 ∨ q = 3 ∨ q = 4 by omega) with rfl | rfl | rfl | rfl | rfl
            · have b2 : wr.cell? ⟨w.heap.size + 1, 3, none⟩ = some (.int .i64 s.st) := (HQ.out.2.cell (by exact hms)).trans c3
              obtain ⟨x0, x1, x2, x3⟩ := hix (sgAt s.v 0) (sgAt s.v 1) (sgAt s.v 2) (sgAt s.v 3) wr
              have y0 : (Instr.index 71 (.agg #[.int .i64 (sgAt s.v 0), .int .i64 (sgAt s.v 1), .int .i64 (sgAt s.v 2), .int .i64 (sgAt s.v 3)]) (.int .i64 ((0 : Nat) : Int))).run Tryd.prog wr = .ok (.int .i64 (sgAt s.v 0)) wr := x0
              have y1 : (Instr.index 71 (.agg #[.int .i64 (sgAt s.v 0), .int .i64 (sgAt s.v 1), .int .i64 (sgAt s.v 2), .int .i64 (sgAt s.v 3)]) (.int .i64 ((1 : Nat) : Int))).run Tryd.prog wr = .ok (.int .i64 (sgAt s.v 1)) wr := x1
              have y2 : (Instr.index 71 (.agg #[.int .i64 (sgAt s.v 0), .int .i64 (sgAt s.v 1), .int .i64 (sgAt s.v 2), .int .i64 (sgAt s.v 3)]) (.int .i64 ((2 : Nat) : Int))).run Tryd.prog wr = .ok (.int .i64 (sgAt s.v 2)) wr := x2
              have y3 : (Instr.index 71 (.agg #[.int .i64 (sgAt s.v 0), .int .i64 (sgAt s.v 1), .int .i64 (sgAt s.v 2), .int .i64 (sgAt s.v 3)]) (.int .i64 ((3 : Nat) : Int))).run Tryd.prog wr = .ok (.int .i64 (sgAt s.v 3)) wr := x3
              go_wp2_with (at_builtin; refine wpList_append_fits _ rfl (.tmp 39) (.tmp 41) 22 rfl w4.heap.size tN i0 1 Tryd.underlying22 hi0 hz1 w4.heap.size 0 4 _ rfl (HQ.out.1.alloc _) ⟨wr.heap.size, 0, none⟩ 1 1 [.int .i64 (sgAt s.v 0)] rfl rfl (by intro t u ht; match t, ht with | 0, ht => simp at ht; subst ht; exact World.cell?_alloc_at _ _ _ _ rfl) (by intro u hu; simp at hu; subst hu; rfl) (by omega) ?_; intro w5 hown5 hgrow5)
              go_roundw
              case rel => exact ⟨0 + 1, by omega, rfl, rfl, hown5, (HQ.out.2.alloc HQ.out.2.size _).grown hgrow5 (by have := HQ.out.2.size; simp; omega) (fun k hk => by cases hk; exact Nat.le_refl _)⟩
              case measure => simp [intOf]
            · have b2 : wr.cell? ⟨w.heap.size + 1, 3, none⟩ = some (.int .i64 s.st) := (HQ.out.2.cell (by exact hms)).trans c3
              obtain ⟨x0, x1, x2, x3⟩ := hix (sgAt s.v 0) (sgAt s.v 1) (sgAt s.v 2) (sgAt s.v 3) wr
              have y0 : (Instr.index 71 (.agg #[.int .i64 (sgAt s.v 0), .int .i64 (sgAt s.v 1), .int .i64 (sgAt s.v 2), .int .i64 (sgAt s.v 3)]) (.int .i64 ((0 : Nat) : Int))).run Tryd.prog wr = .ok (.int .i64 (sgAt s.v 0)) wr := x0
              have y1 : (Instr.index 71 (.agg #[.int .i64 (sgAt s.v 0), .int .i64 (sgAt s.v 1), .int .i64 (sgAt s.v 2), .int .i64 (sgAt s.v 3)]) (.int .i64 ((1 : Nat) : Int))).run Tryd.prog wr = .ok (.int .i64 (sgAt s.v 1)) wr := x1
              have y2 : (Instr.index 71 (.agg #[.int .i64 (sgAt s.v 0), .int .i64 (sgAt s.v 1), .int .i64 (sgAt s.v 2), .int .i64 (sgAt s.v 3)]) (.int .i64 ((2 : Nat) : Int))).run Tryd.prog wr = .ok (.int .i64 (sgAt s.v 2)) wr := x2
              have y3 : (Instr.index 71 (.agg #[.int .i64 (sgAt s.v 0), .int .i64 (sgAt s.v 1), .int .i64 (sgAt s.v 2), .int .i64 (sgAt s.v 3)]) (.int .i64 ((3 : Nat) : Int))).run Tryd.prog wr = .ok (.int .i64 (sgAt s.v 3)) wr := x3
              go_wp2_with (at_builtin; refine wpList_append_fits _ rfl (.tmp 39) (.tmp 41) 22 rfl w4.heap.size tN i0 1 Tryd.underlying22 hi0 hz1 w4.heap.size 1 4 _ rfl (HQ.out.1.alloc _) ⟨wr.heap.size, 0, none⟩ 1 1 [.int .i64 (sgAt s.v 1)] rfl rfl (by intro t u ht; match t, ht with | 0, ht => simp at ht; subst ht; exact World.cell?_alloc_at _ _ _ _ rfl) (by intro u hu; simp at hu; subst hu; rfl) (by omega) ?_; intro w5 hown5 hgrow5)
              go_roundw
              case rel => exact ⟨1 + 1, by omega, rfl, rfl, hown5, (HQ.out.2.alloc HQ.out.2.size _).grown hgrow5 (by have := HQ.out.2.size; simp; omega) (fun k hk => by cases hk; exact Nat.le_refl _)⟩
              case measure => simp [intOf]
            · have b2 : wr.cell? ⟨w.heap.size + 1, 3, none⟩ = some (.int .i64 s.st) := (HQ.out.2.cell (by exact hms)).trans c3
              obtain ⟨x0, x1, x2, x3⟩ := hix (sgAt s.v 0) (sgAt s.v 1) (sgAt s.v 2) (sgAt s.v 3) wr
              have y0 : (Instr.index 71 (.agg #[.int .i64 (sgAt s.v 0), .int .i64 (sgAt s.v 1), .int .i64 (sgAt s.v 2), .int .i64 (sgAt s.v 3)]) (.int .i64 ((0 : Nat) : Int))).run Tryd.prog wr = .ok (.int .i64 (sgAt s.v 0)) wr := x0
              have y1 : (Instr.index 71 (.agg #[.int .i64 (sgAt s.v 0), .int .i64 (sgAt s.v 1), .int .i64 (sgAt s.v 2), .int .i64 (sgAt s.v 3)]) (.int .i64 ((1 : Nat) : Int))).run Tryd.prog wr = .ok (.int .i64 (sgAt s.v 1)) wr := x1
              have y2 : (Instr.index 71 (.agg #[.int .i64 (sgAt s.v 0), .int .i64 (sgAt s.v 1), .int .i64 (sgAt s.v 2), .int .i64 (sgAt s.v 3)]) (.int .i64 ((2 : Nat) : Int))).run Tryd.prog wr = .ok (.int .i64 (sgAt s.v 2)) wr := x2
              have y3 : (Instr.index 71 (.agg #[.int .i64 (sgAt s.v 0), .int .i64 (sgAt s.v 1), .int .i64 (sgAt s.v 2), .int .i64 (sgAt s.v 3)]) (.int .i64 ((3 : Nat) : Int))).run Tryd.prog wr = .ok (.int .i64 (sgAt s.v 3)) wr := x3
              go_wp2_with (at_builtin; refine wpList_append_fits _ rfl (.tmp 39) (.tmp 41) 22 rfl w4.heap.size tN i0 1 Tryd.underlying22 hi0 hz1 w4.heap.size 2 4 _ rfl (HQ.out.1.alloc _) ⟨wr.heap.size, 0, none⟩ 1 1 [.int .i64 (sgAt s.v 2)] rfl rfl (by intro t u ht; match t, ht with | 0, ht => simp at ht; subst ht; exact World.cell?_alloc_at _ _ _ _ rfl) (by intro u hu; simp at hu; subst hu; rfl) (by omega) ?_; intro w5 hown5 hgrow5)
              go_roundw
              case rel => exact ⟨2 + 1, by omega, rfl, rfl, hown5, (HQ.out.2.alloc HQ.out.2.size _).grown hgrow5 (by have := HQ.out.2.size; simp; omega) (fun k hk => by cases hk; exact Nat.le_refl _)⟩
              case measure => simp [intOf]
            · have b2 : wr.cell? ⟨w.heap.size + 1, 3, none⟩ = some (.int .i64 s.st) := (HQ.out.2.cell (by exact hms)).trans c3
              obtain ⟨x0, x1, x2, x3⟩ := hix (sgAt s.v 0) (sgAt s.v 1) (sgAt s.v 2) (sgAt s.v 3) wr
              have y0 : (Instr.index 71 (.agg #[.int .i64 (sgAt s.v 0), .int .i64 (sgAt s.v 1), .int .i64 (sgAt s.v 2), .int .i64 (sgAt s.v 3)]) (.int .i64 ((0 : Nat) : Int))).run Tryd.prog wr = .ok (.int .i64 (sgAt s.v 0)) wr := x0
              have y1 : (Instr.index 71 (.agg #[.int .i64 (sgAt s.v 0), .int .i64 (sgAt s.v 1), .int .i64 (sgAt s.v 2), .int .i64 (sgAt s.v 3)]) (.int .i64 ((1 : Nat) : Int))).run Tryd.prog wr = .ok (.int .i64 (sgAt s.v 1)) wr := x1
              have y2 : (Instr.index 71 (.agg #[.int .i64 (sgAt s.v 0), .int .i64 (sgAt s.v 1), .int .i64 (sgAt s.v 2), .int .i64 (sgAt s.v 3)]) (.int .i64 ((2 : Nat) : Int))).run Tryd.prog wr = .ok (.int .i64 (sgAt s.v 2)) wr := x2
              have y3 : (Instr.index 71 (.agg #[.int .i64 (sgAt s.v 0), .int .i64 (sgAt s.v 1), .int .i64 (sgAt s.v 2), .int .i64 (sgAt s.v 3)]) (.int .i64 ((3 : Nat) : Int))).run Tryd.prog wr = .ok (.int .i64 (sgAt s.v 3)) wr := x3
              go_wp2_with (at_builtin; refine wpList_append_fits _ rfl (.tmp 39) (.tmp 41) 22 rfl w4.heap.size tN i0 1 Tryd.underlying22 hi0 hz1 w4.heap.size 3 4 _ rfl (HQ.out.1.alloc _) ⟨wr.heap.size, 0, none⟩ 1 1 [.int .i64 (sgAt s.v 3)] rfl rfl (by intro t u ht; match t, ht with | 0, ht => simp at ht; subst ht; exact World.cell?_alloc_at _ _ _ _ rfl) (by intro u hu; simp at hu; subst hu; rfl) (by omega) ?_; intro w5 hown5 hgrow5)
              go_roundw
              case rel => exact ⟨3 + 1, by omega, rfl, rfl, hown5, (HQ.out.2.alloc HQ.out.2.size _).grown hgrow5 (by have := HQ.out.2.size; simp; omega) (fun k hk => by cases hk; exact Nat.le_refl _)⟩
              case measure => simp [intOf]
            · have b3 : wr.cell? ⟨w.heap.size + 1, 3, none⟩ = some (.int .i64 s.st) := (HQ.out.2.cell (by exact hms)).trans c3
              have b4 : wr.cell? ⟨w.heap.size + 1, 4, none⟩ = some (.int .i64 s.pt) := (HQ.out.2.cell (by exact hms)).trans c4
              go_wp2_with fail
              go_quiet (fail)
              go_wp2_with fail
              go_ret3
              obtain ⟨⟨_, hrow⟩, hbq⟩ := HQ.out
              rcases hrow with ⟨e, _⟩ | ⟨g, cap, cur, e, hg, hh, hn4, hc4, hsz, htk⟩
              · cases e
              · cases e
                refine ⟨_, cur, by rw [HFi.out]; rfl, HBw.out.size, At.drewN hh _, by omega, ?_, below_drewN (HBw.out.trans (hbq.mono HBw.out.size)) _⟩
                rw [HFi.out]
                rw [← List.take_of_length_le (l := cur.toList) (i := 4 * 1) (by simp; omega), htk]
                rfl
      · clear hgo
        go_wp2_with fail
        go_loopw [11, 36] (fun sl i wr => ∃ (q : Nat), q ≤ 4 ∧ i = .int .i64 q ∧ sl = .slice (some ⟨w4.heap.size, 0, none⟩) q 4 ∧ Hid (wr.ownsRow w4.heap.size tN 1 (.slice (some ⟨w4.heap.size, 0, none⟩) q 4) q ([.int .i64 (sgAt s.v 0), .int .i64 (sgAt s.v 1), .int .i64 (sgAt s.v 2), .int .i64 (sgAt s.v 3)].take q) ∧ Below w4.heap.size w4 wr)) (fun _ i _ => 4 - (intOf i).toNat)
        case atStart => exact ⟨0, by omega, rfl, rfl, HOw.out, (Below.refl _ _).alloc (Nat.le_refl _) _⟩
        case round =>
          obtain ⟨q, hq, rfl, rfl, HQ⟩ := hrel
          rcases (show q = 0 ∨ q = 1 ∨ q = 2 ∨ q = 3 ∨ q = 4 by omega) with rfl | rfl | rfl | rfl | rfl
          · have b2 : wr.cell? ⟨w.heap.size + 1, 3, none⟩ = some (.int .i64 s.st) := (HQ.out.2.cell (by exact hms)).trans c3
            obtain ⟨x0, x1, x2, x3⟩ := hix (sgAt s.v 0) (sgAt s.v 1) (sgAt s.v 2) (sgAt s.v 3) wr
            have y0 : (Instr.index 71 (.agg #[.int .i64 (sgAt s.v 0), .int .i64 (sgAt s.v 1), .int .i64 (sgAt s.v 2), .int .i64 (sgAt s.v 3)]) (.int .i64 ((0 : Nat) : Int))).run Tryd.prog wr = .ok (.int .i64 (sgAt s.v 0)) wr := x0
            have y1 : (Instr.index 71 (.agg #[.int .i64 (sgAt s.v 0), .int .i64 (sgAt s.v 1), .int .i64 (sgAt s.v 2), .int .i64 (sgAt s.v 3)]) (.int .i64 ((1 : Nat) : Int))).run Tryd.prog wr = .ok (.int .i64 (sgAt s.v 1)) wr := x1
            have y2 : (Instr.index 71 (.agg #[.int .i64 (sgAt s.v 0), .int .i64 (sgAt s.v 1), .int .i64 (sgAt s.v 2), .int .i64 (sgAt s.v 3)]) (.int .i64 ((2 : Nat) : Int))).run Tryd.prog wr = .ok (.int .i64 (sgAt s.v 2)) wr := x2
            have y3 : (Instr.index 71 (.agg #[.int .i64 (sgAt s.v 0), .int .i64 (sgAt s.v 1), .int .i64 (sgAt s.v 2), .int .i64 (sgAt s.v 3)]) (.int .i64 ((3 : Nat) : Int))).run Tryd.prog wr = .ok (.int .i64 (sgAt s.v 3)) wr := x3
            go_wp2_with (at_builtin; refine wpList_append_fits _ rfl (.tmp 39) (.tmp 41) 22 rfl w4.heap.size tN i0 1 Tryd.underlying22 hi0 hz1 w4.heap.size 0 4 _ rfl (HQ.out.1.alloc _) ⟨wr.heap.size, 0, none⟩ 1 1 [.int .i64 (sgAt s.v 0)] rfl rfl (by intro t u ht; match t, ht with | 0, ht => simp at ht; subst ht; exact World.cell?_alloc_at _ _ _ _ rfl) (by intro u hu; simp at hu; subst hu; rfl) (by omega) ?_; intro w5 hown5 hgrow5)
            go_roundw
            case rel => exact ⟨0 + 1, by omega, rfl, rfl, hown5, (HQ.out.2.alloc HQ.out.2.size _).grown hgrow5 (by have := HQ.out.2.size; simp; omega) (fun k hk => by cases hk; exact Nat.le_refl _)⟩
            case measure => simp [intOf]
          · have b2 : wr.cell? ⟨w.heap.size + 1, 3, none⟩ = some (.int .i64 s.st) := (HQ.out.2.cell (by exact hms)).trans c3
            obtain ⟨x0, x1, x2, x3⟩ := hix (sgAt s.v 0) (sgAt s.v 1) (sgAt s.v 2) (sgAt s.v 3) wr
            have y0 : (Instr.index 71 (.agg #[.int .i64 (sgAt s.v 0), .int .i64 (sgAt s.v 1), .int .i64 (sgAt s.v 2), .int .i64 (sgAt s.v 3)]) (.int .i64 ((0 : Nat) : Int))).run Tryd.prog wr = .ok (.int .i64 (sgAt s.v 0)) wr := x0
            have y1 : (Instr.index 71 (.agg #[.int .i64 (sgAt s.v 0), .int .i64 (sgAt s.v 1), .int .i64 (sgAt s.v 2), .int .i64 (sgAt s.v 3)]) (.int .i64 ((1 : Nat) : Int))).run Tryd.prog wr = .ok (.int .i64 (sgAt s.v 1)) wr := x1
            have y2 : (Instr.index 71 (.agg #[.int .i64 (sgAt s.v 0), .int .i64 (sgAt s.v 1), .int .i64 (sgAt s.v 2), .int .i64 (sgAt s.v 3)]) (.int .i64 ((2 : Nat) : Int))).run Tryd.prog wr = .ok (.int .i64 (sgAt s.v 2)) wr := x2
            have y3 : (Instr.index 71 (.agg #[.int .i64 (sgAt s.v 0), .int .i64 (sgAt s.v 1), .int .i64 (sgAt s.v 2), .int .i64 (sgAt s.v 3)]) (.int .i64 ((3 : Nat) : Int))).run Tryd.prog wr = .ok (.int .i64 (sgAt s.v 3)) wr := x3
            go_wp2_with (at_builtin; refine wpList_append_fits _ rfl (.tmp 39) (.tmp 41) 22 rfl w4.heap.size tN i0 1 Tryd.underlying22 hi0 hz1 w4.heap.size 1 4 _ rfl (HQ.out.1.alloc _) ⟨wr.heap.size, 0, none⟩ 1 1 [.int .i64 (sgAt s.v 1)] rfl rfl (by intro t u ht; match t, ht with | 0, ht => simp at ht; subst ht; exact World.cell?_alloc_at _ _ _ _ rfl) (by intro u hu; simp at hu; subst hu; rfl) (by omega) ?_; intro w5 hown5 hgrow5)
            go_roundw
            case rel => exact ⟨1 + 1, by omega, rfl, rfl, hown5, (HQ.out.2.alloc HQ.out.2.size _).grown hgrow5 (by have := HQ.out.2.size; simp; omega) (fun k hk => by cases hk; exact Nat.le_refl _)⟩
            case measure => simp [intOf]
          · have b2 : wr.cell? ⟨w.heap.size + 1, 3, none⟩ = some (.int .i64 s.st) := (HQ.out.2.cell (by exact hms)).trans c3
            obtain ⟨x0, x1, x2, x3⟩ := hix (sgAt s.v 0) (sgAt s.v 1) (sgAt s.v 2) (sgAt s.v 3) wr
            have y0 : (Instr.index 71 (.agg #[.int .i64 (sgAt s.v 0), .int .i64 (sgAt s.v 1), .int .i64 (sgAt s.v 2), .int .i64 (sgAt s.v 3)]) (.int .i64 ((0 : Nat) : Int))).run Tryd.prog wr = .ok (.int .i64 (sgAt s.v 0)) wr := x0
            have y1 : (Instr.index 71 (.agg #[.int .i64 (sgAt s.v 0), .int .i64 (sgAt s.v 1), .int .i64 (sgAt s.v 2), .int .i64 (sgAt s.v 3)]) (.int .i64 ((1 : Nat) : Int))).run Tryd.prog wr = .ok (.int .i64 (sgAt s.v 1)) wr := x1
            have y2 : (Instr.index 71 (.agg #[.int .i64 (sgAt s.v 0), .int .i64 (sgAt s.v 1), .int .i64 (sgAt s.v 2), .int .i64 (sgAt s.v 3)]) (.int .i64 ((2 : Nat) : Int))).run Tryd.prog wr = .ok (.int .i64 (sgAt s.v 2)) wr := x2
            have y3 : (Instr.index 71 (.agg #[.int .i64 (sgAt s.v 0), .int .i64 (sgAt s.v 1), .int .i64 (sgAt s.v 2), .int .i64 (sgAt s.v 3)]) (.int .i64 ((3 : Nat) : Int))).run Tryd.prog wr = .ok (.int .i64 (sgAt s.v 3)) wr := x3
            go_wp2_with (at_builtin; refine wpList_append_fits _ rfl (.tmp 39) (.tmp 41) 22 rfl w4.heap.size tN i0 1 Tryd.underlying22 hi0 hz1 w4.heap.size 2 4 _ rfl (HQ.out.1.alloc _) ⟨wr.heap.size, 0, none⟩ 1 1 [.int .i64 (sgAt s.v 2)] rfl rfl (by intro t u ht; match t, ht with | 0, ht => simp at ht; subst ht; exact World.cell?_alloc_at _ _ _ _ rfl) (by intro u hu; simp at hu; subst hu; rfl) (by omega) ?_; intro w5 hown5 hgrow5)
            go_roundw
            case rel => exact ⟨2 + 1, by omega, rfl, rfl, hown5, (HQ.out.2.alloc HQ.out.2.size _).grown hgrow5 (by have := HQ.out.2.size; simp; omega) (fun k hk => by cases hk; exact Nat.le_refl _)⟩
            case measure => simp [intOf]
          · have b2 : wr.cell? ⟨w.heap.size + 1, 3, none⟩ = some (.int .i64 s.st) := (HQ.out.2.cell (by exact hms)).trans c3
            obtain ⟨x0, x1, x2, x3⟩ := hix (sgAt s.v 0) (sgAt s.v 1) (sgAt s.v 2) (sgAt s.v 3) wr
            have y0 : (Instr.index 71 (.agg #[.int .i64 (sgAt s.v 0), .int .i64 (sgAt s.v 1), .int .i64 (sgAt s.v 2), .int .i64 (sgAt s.v 3)]) (.int .i64 ((0 : Nat) : Int))).run Tryd.prog wr = .ok (.int .i64 (sgAt s.v 0)) wr := x0
            have y1 : (Instr.index 71 (.agg #[.int .i64 (sgAt s.v 0), .int .i64 (sgAt s.v 1), .int .i64 (sgAt s.v 2), .int .i64 (sgAt s.v 3)]) (.int .i64 ((1 : Nat) : Int))).run Tryd.prog wr = .ok (.int .i64 (sgAt s.v 1)) wr := x1
            have y2 : (Instr.index 71 (.agg #[.int .i64 (sgAt s.v 0), .int .i64 (sgAt s.v 1), .int .i64 (sgAt s.v 2), .int .i64 (sgAt s.v 3)]) (.int .i64 ((2 : Nat) : Int))).run Tryd.prog wr = .ok (.int .i64 (sgAt s.v 2)) wr := x2
            have y3 : (Instr.index 71 (.agg #[.int .i64 (sgAt s.v 0), .int .i64 (sgAt s.v 1), .int .i64 (sgAt s.v 2), .int .i64 (sgAt s.v 3)]) (.int .i64 ((3 : Nat) : Int))).run Tryd.prog wr = .ok (.int .i64 (sgAt s.v 3)) wr := x3
            go_wp2_with (at_builtin; refine wpList_append_fits _ rfl (.tmp 39) (.tmp 41) 22 rfl w4.heap.size tN i0 1 Tryd.underlying22 hi0 hz1 w4.heap.size 3 4 _ rfl (HQ.out.1.alloc _) ⟨wr.heap.size, 0, none⟩ 1 1 [.int .i64 (sgAt s.v 3)] rfl rfl (by intro t u ht; match t, ht with | 0, ht => simp at ht; subst ht; exact World.cell?_alloc_at _ _ _ _ rfl) (by intro u hu; simp at hu; subst hu; rfl) (by omega) ?_; intro w5 hown5 hgrow5)
            go_roundw
            case rel => exact ⟨3 + 1, by omega, rfl, rfl, hown5, (HQ.out.2.alloc HQ.out.2.size _).grown hgrow5 (by have := HQ.out.2.size; simp; omega) (fun k hk => by cases hk; exact Nat.le_refl _)⟩
            case measure => simp [intOf]
          · have b3 : wr.cell? ⟨w.heap.size + 1, 3, none⟩ = some (.int .i64 s.st) := (HQ.out.2.cell (by exact hms)).trans c3
            have b4 : wr.cell? ⟨w.heap.size + 1, 4, none⟩ = some (.int .i64 s.pt) := (HQ.out.2.cell (by exact hms)).trans c4
            go_wp2_with fail
            go_quiet (fail)
            go_wp2_with fail
            go_ret3
            obtain ⟨⟨_, hrow⟩, hbq⟩ := HQ.out
            rcases hrow with ⟨e, _⟩ | ⟨g, cap, cur, e, hg, hh, hn4, hc4, hsz, htk⟩
            · cases e
            · cases e
              refine ⟨_, cur, by rw [HFi.out]; rfl, HBw.out.size, At.drewN hh _, by omega, ?_, below_drewN (HBw.out.trans (hbq.mono HBw.out.size)) _⟩
              rw [HFi.out]
              rw [← List.take_of_length_le (l := cur.toList) (i := 4 * 1) (by simp; omega), htk]
              rfl

end Go.Proofs.YtffajooegiempabDoor

namespace Go.Proofs.YtffajooegiempabDoor
end Go.Proofs.YtffajooegiempabDoor

namespace Go.Proofs.YtffajooegiempabDoor
end Go.Proofs.YtffajooegiempabDoor

namespace Go.Proofs.YtffajooegiempabDoor
end Go.Proofs.YtffajooegiempabDoor

namespace Go.Proofs.YtffajooegiempabDoor
open Go.RowKit
end Go.Proofs.YtffajooegiempabDoor

namespace Go.Proofs.YtffajooegiempabDoor
open Go.RowKit

theorem results_tmp4 {fn : Func} {t u v x : Tmp} (h : fn.results = #[.tmp t, .tmp u, .tmp v, .tmp x]) (tmps : Array Value) (P : Program) (w : World) :
    (results fn tmps).run P w = .ok (.tuple #[tmps.getD t undef, tmps.getD u undef, tmps.getD v undef, tmps.getD x undef]) w := by
  simp [results, h]

theorem prog_gd {l : List Int} {m : Rd} (hp : progOf l = some m) : AllGd m ∧ Ok m := by
  obtain ⟨_, ⟨n, hr⟩, _⟩ := progOf_some hp
  exact gd_from (m := init) (fun s hs => absurd hs (by simp [init])) Ok.init hr
theorem sgAt_mem (l : List Int) (i : Nat) (h : ∀ x, x ∈ l → -1 ≤ x ∧ x ≤ 1) : -1 ≤ sgAt l i ∧ sgAt l i ≤ 1 := by
  unfold sgAt
  rw [List.getD_eq_getElem?_getD]
  cases e : l[i]? with
  | none => simp
  | some x => exact h x (List.mem_of_getElem? e)
theorem fok_of {l : List Int} {m : Rd} {F : List Ds} (hp : progOf l = some m) (hW : Whole F m.st) : FOk F := by
  obtain ⟨hg, ok⟩ := prog_gd hp
  have hl := hW.1.len
  refine ⟨by have := ok.len; omega, hW.par, fun k x hx => ?_⟩
  have hk : k < F.length := by
    rcases Nat.lt_or_ge k F.length with h' | h'
    · exact h'
    · simp [List.getElem?_eq_none h'] at hx
  obtain ⟨u, hu⟩ : ∃ u, m.st[k]? = some u := ⟨m.st[k]'(by omega), List.getElem?_eq_getElem _⟩
  obtain ⟨_, c1, _, c3, c4⟩ := hW.1.cor k x u hx hu
  have hm := List.mem_of_getElem? hu
  obtain ⟨g1, g2, g3⟩ := hg u hm
  have hn := ok.nums u hm
  exact ⟨by rw [← c3]; exact ok.sgl u hm, fun i => by rw [← c3]; exact sgAt_mem _ _ g3, by rw [← c4]; exact hn, by rw [← c1]; exact ⟨g1, g2⟩⟩

/-- The same, of these statements. -/
def RunSaysF (w : World) (F : List Ds) (l : List Int) (L : List Int) (steps : Int) : Ending → World → Prop := fun e w' => Below w.heap.size w w' ∧
  ((progOf l = none ∧ e = .returned (.tuple #[.int .i64 0, .int .i64 0, .slice none 0 0, .int .i64 1])) ∨
   ∃ m, progOf l = some m ∧ Whole F m.st ∧ FOk F ∧ ∃ g c, e = .returned (.tuple #[.int .i64 (finP F L steps).st, .int .i64 (finP F L steps).pt, .slice (some ⟨g, 0, none⟩) 4 4, .int .i64 0]) ∧ w.heap.size ≤ g ∧ At w' g c tN ∧ c.size = 4 ∧
     c.toList = [.int .i64 (sgAt (finP F L steps).v 0), .int .i64 (sgAt (finP F L steps).v 1), .int .i64 (sgAt (finP F L steps).v 2), .int .i64 (sgAt (finP F L steps).v 3)])

set_option maxRecDepth 100000 in
set_option maxHeartbeats 800000 in
theorem d_wrunF (s : ByteArray) (iv : Value) (L : List Int) (steps : Int) (w : World) (hm : s.size ≤ maxLen) (hi : Inp w w.heap.size iv L) (hL : L.length ≤ 9223372036854775807) :
    Calls Tryd.prog 17 #[.string s, iv, .int .i64 steps] w (RunSaysF w (readZ s).2 (bytesOf s) L steps) := by
  have hr := d_read s w hm
  have hl := bytesOf_len s
  have HI : Hid (Inp w w.heap.size iv L) := hi
  have bad : progOf (bytesOf s) = none → (∀ e w', DReadPost w s e w' → ∃ c : Int, e = .returned (.tuple #[.agg #[.slice none 0 0], .int .i64 1, .int .i64 c]) ∧ Below w.heap.size w w') →
      Calls Tryd.prog 17 #[.string s, iv, .int .i64 steps] w (RunSaysF w (readZ s).2 (bytesOf s) L steps) := by
    intro hp hq
    have HE : Hid (progOf (bytesOf s) = none) := hp
    have hr' := hr.mono hq
    clear hr hp hq hm hl hi
    go_enter Tryd.func17, Tryd.ntmps17
    go_wp2_with fail
    refine hr'.mono ?_
    rintro e w1 ⟨c, rfl, hb⟩
    go_wp2_with fail
    try simp only [Exit.inBlock, Exit.then]
    refine bodyPost_ret (results_tmp4 rfl _ _ _) rfl ?_
    exact ⟨hb.alloc hb.size _, .inl ⟨HE.out, rfl⟩⟩
  by_cases h160 : 160 < s.size
  · refine bad (by unfold progOf; rw [if_pos (by omega)]) ?_
    rintro e w' ⟨hb, h | h | h⟩
    · exact ⟨0, h.2, hb⟩
    · exact absurd h.1 (by omega)
    · exact absurd h.1 (by omega)
  rcases prog_whole s (by omega) with ⟨hg, hp⟩ | ⟨m, hg, hp, hW⟩
  · refine bad hp ?_
    rintro e w' ⟨hb, h | h | h⟩
    · exact absurd h.1 h160
    · exact ⟨_, h.2.2, hb⟩
    · exact absurd h.2.1 (by rw [hg]; decide)
  clear bad
  have hr' := hr.mono (R' := fun e w' => ∃ v, e = .returned (.tuple #[.agg #[v], .int .i64 0, .int .i64 0]) ∧ Below w.heap.size w w' ∧ w'.ownsRow w.heap.size tDs 10 v (readZ s).2.length (flat (readZ s).2)) (by
    rintro e w' ⟨hb, h | h | h⟩
    · exact absurd h.1 h160
    · exact absurd h.2.1 (by rw [hg]; decide)
    · obtain ⟨_, _, v, he, hrow⟩ := h
      exact ⟨v, he, hb, hrow⟩)
  have HP : Hid (progOf (bytesOf s) = some m) := hp
  have HW : Hid (Whole (readZ s).2 m.st) := hW
  have HFo : Hid (FOk (readZ s).2) := fok_of hp hW
  clear hr hm hl h160 hg hp hW
  generalize (readZ s).2 = F at *
  have HRun : Hid (∀ w1 o v, Below w.heap.size w w1 → w1.ownsRow w.heap.size tDs 10 v F.length (flat F) → Calls Tryd.prog 31 #[.agg #[v], iv, .int .i64 steps] (w1.alloc o) fun e w' => ∃ g, e = .returned (.tuple #[.int .i64 (finP F L steps).st, .int .i64 (finP F L steps).pt, .slice (some ⟨g, 0, none⟩) 4 4]) ∧ Hid (RunSaysF w F (bytesOf s) L steps (.returned (.tuple #[.int .i64 (finP F L steps).st, .int .i64 (finP F L steps).pt, .slice (some ⟨g, 0, none⟩) 4 4, .int .i64 0])) w')) := by
    intro w1 o v hb hrow
    have hba : Below w1.heap.size w1 (w1.alloc o) := (Below.refl _ _).alloc (Nat.le_refl _) _
    have hPA : PAt (w1.alloc o) (w1.alloc o).heap.size v F := by
      obtain ⟨h1, h2⟩ := id hrow
      rcases h2 with ⟨rfl, e⟩ | ⟨g, cap, c, rfl, _⟩
      · exact ⟨none, 0, by rw [e], fun hn => absurd e hn⟩
      · have hlt := (hrow.lt g rfl).2
        exact ⟨_, cap, rfl, fun _ => ⟨g, rfl, by simp; omega, (prow_of hrow rfl hlt).keep hba⟩⟩
    have hIn : Inp (w1.alloc o) (w1.alloc o).heap.size iv L := by
      obtain ⟨ao, cap, hv, hc, h0⟩ := HI.out.keep (hb.alloc hb.size o)
      have := hb.size
      exact ⟨ao, cap, hv, hc, fun hn => by obtain ⟨b, off, q1, q2, q3⟩ := h0 hn; exact ⟨b, off, q1, by simp; omega, q3⟩⟩
    refine (x_run hPA hIn HFo.out hL steps).mono ?_
    rintro e w2 ⟨g, c, rfl, hg, hat, hsz, hls, hb2⟩
    have hs := hb.size
    simp at hg
    exact ⟨g, rfl, (hb.alloc hb.size o).trans (hb2.mono (by simp; omega)), .inr ⟨m, HP.out, HW.out, HFo.out, g, c, rfl, by omega, hat, hsz, hls⟩⟩
  clear hi
  go_enter Tryd.func17, Tryd.ntmps17
  go_wp2_with fail
  refine hr'.mono ?_
  rintro e w1 ⟨v, rfl, hb, hrow⟩
  have HRow : Hid (World.ownsRow _ _ _ _ _ _ _) := hrow
  obtain ⟨ao, cap, rfl⟩ : ∃ ao cap, v = .slice ao F.length cap := by
    obtain ⟨_, h2⟩ := hrow
    rcases h2 with ⟨rfl, e⟩ | ⟨g, cap, c, rfl, _⟩
    · exact ⟨none, 0, by rw [e]⟩
    · exact ⟨_, cap, rfl⟩
  clear hrow
  go_wp2_with fail
  refine (HRun.out _ _ _ hb HRow.out).mono ?_
  rintro e w2 ⟨g, rfl, hsay⟩
  go_wp2_with fail
  try simp only [Exit.inBlock, Exit.then]
  refine bodyPost_ret (results_tmp4 rfl _ _ _) rfl ?_
  exact hsay.out

end Go.Proofs.YtffajooegiempabDoor

namespace Go.Proofs.YtffajooegiempabDoor
open Go.RowKit
variable {w : World}

/-- What it says of a certificate that it is taken. -/
theorem chk_ok {s c : ByteArray} {b : Int} (h : ChkSays s c (0, b)) : ∃ m L, progOf (bytesOf s) = some m ∧ decF (bytesOf c) = some L ∧ CertOk (readZ s).2 L := by
  unfold ChkSays at h
  cases hp : progOf (bytesOf s) with
  | none =>
    rw [hp] at h
    have h1 := congrArg Prod.fst (show ((0 : Int), b) = _ from h)
    rw [progOf_none hp] at h1
    cases h1
  | some m =>
    rw [hp] at h
    have h1 : CertSays (readZ s).2 (bytesOf c) (0, b) := h
    unfold CertSays at h1
    cases hd : decF (bytesOf c) with
    | none => rw [hd] at h1; cases (show ((0 : Int), b) = (4, 0) from h1)
    | some L =>
      rw [hd] at h1
      simp only at h1
      split at h1
      · cases h1
      · split at h1
        · cases h1
        · rename_i q2
          refine ⟨m, L, rfl, rfl, (dec_ok (bys c) hd).2.2.2, by simpa using q2, ?_⟩
          rcases h1 with ⟨h2, _⟩ | ⟨k, _, _, h2, h3⟩
          · exact h2
          · exact absurd (congrArg Prod.fst h3).symm h2
/-- No run goes wrong of which a certificate is taken. -/
theorem sound_of {s c : ByteArray} {b : Int} (h : ChkSays s c (0, b)) (h160 : s.size ≤ 160) (I : List Int) (steps : Int) : (finP (readZ s).2 I steps).st = 0 ∨ (finP (readZ s).2 I steps).st = 1 := by
  obtain ⟨m, L, hp, _, hC⟩ := chk_ok h
  rcases prog_whole s h160 with ⟨_, hn⟩ | ⟨m', _, hp', hW⟩
  · rw [hp] at hn; cases hn
  · rw [hp] at hp'
    cases hp'
    exact hC.sound (fun k hk => dq_of hp hW hk) (fok_of hp hW).ds steps

end Go.Proofs.YtffajooegiempabDoor

namespace Go.Proofs.YtffajooegiempabDoor
open Go.RowKit
variable {w : World}
end Go.Proofs.YtffajooegiempabDoor

