import Derived.Test.YtffajooegiempabDoorJ21
namespace Go.Proofs.YtffajooegiempabDoor
open Go.RowKit
variable {w : World} {L : List Int} {F : List Ds}

theorem Tryd.infoN : (Tryd.prog.info? tN).map (fun i => (i.zero, i.size, i.bytes)) = some (some (.int .i64 0), 1, 8) := by kernel_rfl

/-- What comes out of a run. -/
def RunPost (w : World) (f : Ms) : Ending → World → Prop := fun e w' => ∃ g c, e = .returned (.tuple #[.int .i64 f.st, .int .i64 f.pt, .slice (some ⟨g, 0, none⟩) 4 4]) ∧ w.heap.size ≤ g ∧ At w' g c tN ∧ c.size = 4 ∧ c.toList = [.int .i64 (sgAt f.v 0), .int .i64 (sgAt f.v 1), .int .i64 (sgAt f.v 2), .int .i64 (sgAt f.v 3)] ∧ Below w.heap.size w w'

theorem mrep_first {pv iv : Value} {o : Obj} (hp : PAt w w.heap.size pv F) (hi : Inp w w.heap.size iv L) : MRep ((w.alloc o).alloc (.cells (mCells pv iv ⟨0, 0, 0, [0, 0, 0, 0]⟩) tM)) (w.heap.size + 1) pv iv F L ⟨0, 0, 0, [0, 0, 0, 0]⟩ := by
  have hb : Below w.heap.size w ((w.alloc o).alloc (.cells (mCells pv iv ⟨0, 0, 0, [0, 0, 0, 0]⟩) tM)) := ((Below.refl _ _).alloc (Nat.le_refl _) _).alloc (by simp) _
  refine ⟨?_, ?_, ?_, ⟨rfl, fun i => ?_, Nat.zero_le _⟩⟩
  · have := At.new (w.alloc o) (mCells pv iv ⟨0, 0, 0, [0, 0, 0, 0]⟩) tM
    simpa using this
  · obtain ⟨ao, cap, hv, h0⟩ := hp.keep hb
    exact ⟨ao, cap, hv, fun hn => by obtain ⟨g, h1, h2, h3⟩ := h0 hn; exact ⟨g, h1, by omega, h3⟩⟩
  · obtain ⟨ao, cap, hv, hc, h0⟩ := hi.keep hb
    exact ⟨ao, cap, hv, hc, fun hn => by obtain ⟨b, off, h1, h2, h3⟩ := h0 hn; exact ⟨b, off, h1, by omega, h3⟩⟩
  · have : sgAt [0, 0, 0, 0] i = 0 := by
      unfold sgAt
      match i with
      | 0 | 1 | 2 | 3 => rfl
      | n + 4 => rfl
    show -999 ≤ sgAt [0, 0, 0, 0] i ∧ sgAt [0, 0, 0, 0] i ≤ 999
    omega

set_option maxRecDepth 100000 in
set_option maxHeartbeats 3200000 in
theorem x_run {pv iv : Value} (hp : PAt w w.heap.size pv F) (hi : Inp w w.heap.size iv L) (hF : FOk F) (hL : L.length ≤ 9223372036854775807) (steps : Int) :
    Calls Tryd.prog 31 #[.agg #[pv], iv, .int .i64 steps] w (RunPost w (finP F L steps)) := by
  obtain ⟨i0, hi0, hz0, hz1, hz2⟩ := info_parts Tryd.infoN
  have hmk : ∀ w, (Instr.makeSlice 22 (.int .i64 0) (.int .i64 4)).run Tryd.prog w = .ok (.slice (some ⟨w.heap.size, 0, none⟩) 0 4) (w.alloc (.cells #[.int .i64 0, .int .i64 0, .int .i64 0, .int .i64 0] tN)) := fun _ => by kernel_rfl
  have hix : ∀ (a b c d : Int) (w : World), (Instr.index 71 (.agg #[.int .i64 a, .int .i64 b, .int .i64 c, .int .i64 d]) (.int .i64 0)).run Tryd.prog w = .ok (.int .i64 a) w ∧ (Instr.index 71 (.agg #[.int .i64 a, .int .i64 b, .int .i64 c, .int .i64 d]) (.int .i64 1)).run Tryd.prog w = .ok (.int .i64 b) w ∧ (Instr.index 71 (.agg #[.int .i64 a, .int .i64 b, .int .i64 c, .int .i64 d]) (.int .i64 2)).run Tryd.prog w = .ok (.int .i64 c) w ∧ (Instr.index 71 (.agg #[.int .i64 a, .int .i64 b, .int .i64 c, .int .i64 d]) (.int .i64 3)).run Tryd.prog w = .ok (.int .i64 d) w := fun _ _ _ _ _ => ⟨by kernel_rfl, by kernel_rfl, by kernel_rfl, by kernel_rfl⟩
  have HM0 : Hid (∀ o, MRep ((w.alloc o).alloc (.cells (mCells pv iv ⟨0, 0, 0, [0, 0, 0, 0]⟩) tM)) (w.heap.size + 1) pv iv F L ⟨0, 0, 0, [0, 0, 0, 0]⟩) := fun o => mrep_first hp hi
  have HB0 : Hid (∀ o o', Below w.heap.size w ((w.alloc o).alloc o')) := fun o o' => ((Below.refl _ _).alloc (Nat.le_refl _) _).alloc (by simp) _
  have HF : Hid (FOk F) := hF
  have HEn : Hid (∀ o w1, w1 = (w.alloc o).alloc (.cells (mCells pv iv ⟨0, 0, 0, [0, 0, 0, 0]⟩) tM) → Calls Tryd.prog 44 #[.pointer (some ⟨w.heap.size + 1, 0, none⟩), .int .i64 0] w1 fun e w2 => e = .returned (.tuple #[]) ∧ Hid (MRep w2 (w.heap.size + 1) pv iv F L (entP F.length ⟨0, 0, 0, [0, 0, 0, 0]⟩ 0) ∧ Below w.heap.size w w2)) := by
    intro o w1 hw1
    have h1 := HM0.out o
    rw [← hw1] at h1
    have hb := HB0.out o (.cells (mCells pv iv ⟨0, 0, 0, [0, 0, 0, 0]⟩) tM)
    rw [← hw1] at hb
    refine (x_enter h1.at_ h1.prog HF.out.len 0).mono ?_
    rintro e w2 ⟨rfl, ha, ho⟩
    exact ⟨rfl, h1.next ha ho ⟨h1.ok.len, h1.ok.v, h1.ok.used⟩, hb.trans (ho.below (by omega) hb.size)⟩
  have HS : Hid (∀ w1 s, MRep w1 (w.heap.size + 1) pv iv F L s → InR F s → s.st = 0 → Calls Tryd.prog 45 #[.pointer (some ⟨w.heap.size + 1, 0, none⟩)] w1 fun e w2 => e = .returned (.tuple #[]) ∧ Hid (MRep w2 (w.heap.size + 1) pv iv F L (stpP F L s) ∧ Onl (w.heap.size + 1) w1 w2)) := by
    intro w1 s h1 hr hs
    obtain ⟨q0, q1⟩ := hr hs
    refine (x_step h1 HF.out hL q0 q1).mono ?_
    rintro e w2 ⟨rfl, ha, ho⟩
    exact ⟨rfl, h1.next ha ho (h1.ok.stp HF.out.ds), ho⟩
  obtain ⟨N, hN⟩ : ∃ N : Nat, N = min steps.toNat 2000 := ⟨_, rfl⟩
  have HFin : Hid (finP F L steps = runP F L N (entP F.length ⟨0, 0, 0, [0, 0, 0, 0]⟩ 0)) := by show finP F L steps = _; rw [hN]; rfl
  have hN1 : N ≤ 2000 := by omega
  have hN2 : 0 < N → (N : Int) ≤ steps := by omega
  have hN3 : N < 2000 → steps ≤ N := by omega
  obtain ⟨pa, pcap, rfl, -⟩ := hp
  obtain ⟨ia, icap, rfl, -, -⟩ := hi
  clear hN hF
  generalize finP F L steps = fin at *
  unfold mCells at HEn
  go_enter Tryd.func31, Tryd.ntmps31
  go_wp2_with fail
  refine (HEn.out _ _ rfl).mono ?_
  rintro e w2 ⟨rfl, hm2⟩
  go_wp2_with fail
  go_loopw [10] (fun i wr => ∃ (j : Nat) (s : Ms), j ≤ N ∧ i = .int .i64 j ∧ Hid (MRep wr (w.heap.size + 1) (.slice pa F.length pcap) (.slice ia L.length icap) F L s ∧ Below w.heap.size w wr ∧ InR F s ∧ fin = runP F L (N - j) s)) (fun i _ => N - (intOf i).toNat)
  case atStart => exact ⟨0, _, Nat.zero_le _, rfl, hm2.out.1, hm2.out.2, InR.ent _ (by omega) (by omega), HFin.out⟩
  case round =>
    obtain ⟨j, s, hj, rfl, HR⟩ := hrel
    obtain ⟨c0, c1, c2, c3, c4, c5, c6, c7, c8, cf⟩ := mcells HR.out.1.at_
    have hltm := HR.out.1.at_.lt
    have hszw := HR.out.2.1.size
    by_cases hgo : j < N ∧ s.st = 0
    · obtain ⟨hjN, hst⟩ := hgo
      rw [hst] at c3
      have hj1 : (j : Int) < steps := by omega
      have hj2 : (j : Int) < 2000 := by omega
      have hstep := HS.out wr s HR.out.1 HR.out.2.2.1 hst
      have HN : Hid (fin = runP F L (N - (j + 1)) (stpP F L s)) := by
        show fin = _
        rw [HR.out.2.2.2, show N - j = (N - (j + 1)) + 1 by omega, runP, if_pos hst]
      clear c0 c1 c2 c4 c5 c6 c7 c8
      go_wp2_with fail
      refine hstep.mono ?_
      rintro e w3 ⟨rfl, hm3⟩
      go_wp2_with fail
      go_roundw
      case rel => exact ⟨j + 1, _, by omega, by go_num, hm3.out.1, HR.out.2.1.trans (hm3.out.2.below (by omega) hszw), HR.out.2.2.1.stp, HN.out⟩
      case measure => simp [intOf]; omega
    · have HFi : Hid (fin = s) := by
        show fin = s
        rw [HR.out.2.2.2]
        cases hq : N - j with
        | zero => rfl
        | succ q => rw [runP, if_neg (fun e => hgo ⟨by omega, e⟩)]
      obtain ⟨w4, rfl⟩ : ∃ w4, w4 = wr := ⟨_, rfl⟩
      have hms := hltm
      have HMs : Hid (At w4 (w.heap.size + 1) _ tM) := HR.out.1.at_
      have HBw : Hid (Below w.heap.size w w4) := HR.out.2.1
      have hown0 := World.ownsRow_made (base := w4.heap.size) (e := tN) (size := 1) w4 #[.int .i64 0, .int .i64 0, .int .i64 0, .int .i64 0] 4 (Nat.le_refl _) (by decide) rfl
      have HOw : Hid (World.ownsRow _ _ _ _ _ _ _) := hown0
      clear hown0
      by_cases hj1 : (j : Int) < steps
      · by_cases hj2 : (j : Int) < 2000
        · have hst : s.st ≠ 0 := fun e => hgo ⟨by omega, e⟩
          have hsb : (s.st == 0) = false := by simpa using hst
          clear hgo hst
          go_wp2_with fail
          go_loopw [11, 36] (fun sl i wr => ∃ (q : Nat), q ≤ 4 ∧ i = .int .i64 q ∧ sl = .slice (some ⟨w4.heap.size, 0, none⟩) q 4 ∧ Hid (wr.ownsRow w4.heap.size tN 1 (.slice (some ⟨w4.heap.size, 0, none⟩) q 4) q ([.int .i64 (sgAt s.v 0), .int .i64 (sgAt s.v 1), .int .i64 (sgAt s.v 2), .int .i64 (sgAt s.v 3)].take q) ∧ Below w4.heap.size w4 wr)) (fun _ i _ => 4 - (intOf i).toNat)
          case atStart => exact ⟨0, by omega, rfl, rfl, HOw.out, (Below.refl _ _).alloc (Nat.le_refl _) _⟩
          case round =>
            obtain ⟨q, hq, rfl, rfl, HQ⟩ := hrel
            rcases (show q = 0 ∨ q = 1 ∨ q = 2 ∨ q = 3 ∨ q = 4 by omega) with rfl | rfl | rfl | rfl | rfl
            · have b2 : wr.cell? ⟨w.heap.size + 1, 3, none⟩ = some (.int .i64 s.st) := (HQ.out.2.cell (by exact hms)).trans c3
              obtain ⟨x0, x1, x2, x3⟩ := hix (sgAt s.v 0) (sgAt s.v 1) (sgAt s.v 2) (sgAt s.v 3) wr
              have y0 : (Instr.index 71 (.agg #[.int .i64 (sgAt s.v 0), .int .i64 (sgAt s.v 1), .int .i64 (sgAt s.v 2), .int .i64 (sgAt s.v 3)]) (.int .i64 ((0 : Nat) : Int))).run Tryd.prog wr = .ok (.int .i64 (sgAt s.v 0)) wr := x0
              have y1 : (Instr.index 71 (.agg #[.int .i64 (sgAt s.v 0), .int .i64 (sgAt s.v 1), .int .i64 (sgAt s.v 2), .int .i64 (sgAt s.v 3)]) (.int .i64 ((1 : Nat) : Int))).run Tryd.prog wr = .ok (.int .i64 (sgAt s.v 1)) wr := x1
              have y2 : (Instr.index 71 (.agg #[.int .i64 (sgAt s.v 0), .int .i64 (sgAt s.v 1), .int .i64 (sgAt s.v 2), .int .i64 (sgAt s.v 3)]) (.int .i64 ((2 : Nat) : Int))).run Tryd.prog wr = .ok (.int .i64 (sgAt s.v 2)) wr := x2
              have y3 : (Instr.index 71 (.agg #[.int .i64 (sgAt s.v 0), .int .i64 (sgAt s.v 1), .int .i64 (sgAt s.v 2), .int .i64 (sgAt s.v 3)]) (.int .i64 ((3 : Nat) : Int))).run Tryd.prog wr = .ok (.int .i64 (sgAt s.v 3)) wr := x3
              go_wp2_with (at_builtin; refine wpList_append_fits _ rfl (.tmp 39) (.tmp 41) 22 rfl w4.heap.size tN i0 1 Tryd.underlying22 hi0 hz1 w4.heap.size 0 4 _ rfl (HQ.out.1.alloc _) ⟨wr.heap.size, 0, none⟩ 1 1 [.int .i64 (sgAt s.v 0)] rfl rfl (by intro t u ht; match t, ht with | 0, ht => simp at ht; subst ht; exact World.cell?_alloc_at _ _ _ _ rfl) (by intro u hu; simp at hu; subst hu; rfl) (by omega) ?_; intro w5 hown5 hgrow5)
              go_roundw
              case rel => exact ⟨0 + 1, by omega, rfl, rfl, hown5, (HQ.out.2.alloc HQ.out.2.size _).grown hgrow5 (by have := HQ.out.2.size; simp; omega) (fun k hk => by cases hk; exact Nat.le_refl _)⟩
              case measure => simp [intOf]
            · have b2 : wr.cell? ⟨w.heap.size + 1, 3, none⟩ = some (.int .i64 s.st) := (HQ.out.2.cell (by exact hms)).trans c3
              obtain ⟨x0, x1, x2, x3⟩ := hix (sgAt s.v 0) (sgAt s.v 1) (sgAt s.v 2) (sgAt s.v 3) wr
              have y0 : (Instr.index 71 (.agg #[.int .i64 (sgAt s.v 0), .int .i64 (sgAt s.v 1), .int .i64 (sgAt s.v 2), .int .i64 (sgAt s.v 3)]) (.int .i64 ((0 : Nat) : Int))).run Tryd.prog wr = .ok (.int .i64 (sgAt s.v 0)) wr := x0
              have y1 : (Instr.index 71 (.agg #[.int .i64 (sgAt s.v 0), .int .i64 (sgAt s.v 1), .int .i64 (sgAt s.v 2), .int .i64 (sgAt s.v 3)]) (.int .i64 ((1 : Nat) : Int))).run Tryd.prog wr = .ok (.int .i64 (sgAt s.v 1)) wr := x1
              have y2 : (Instr.index 71 (.agg #[.int .i64 (sgAt s.v 0), .int .i64 (sgAt s.v 1), .int .i64 (sgAt s.v 2), .int .i64 (sgAt s.v 3)]) (.int .i64 ((2 : Nat) : Int))).run Tryd.prog wr = .ok (.int .i64 (sgAt s.v 2)) wr := x2
              have y3 : (Instr.index 71 (.agg #[.int .i64 (sgAt s.v 0), .int .i64 (sgAt s.v 1), .int .i64 (sgAt s.v 2), .int .i64 (sgAt s.v 3)]) (.int .i64 ((3 : Nat) : Int))).run Tryd.prog wr = .ok (.int .i64 (sgAt s.v 3)) wr := x3
              go_wp2_with (at_builtin; refine wpList_append_fits _ rfl (.tmp 39) (.tmp 41) 22 rfl w4.heap.size tN i0 1 Tryd.underlying22 hi0 hz1 w4.heap.size 1 4 _ rfl (HQ.out.1.alloc _) ⟨wr.heap.size, 0, none⟩ 1 1 [.int .i64 (sgAt s.v 1)] rfl rfl (by intro t u ht; match t, ht with | 0, ht => simp at ht; subst ht; exact World.cell?_alloc_at _ _ _ _ rfl) (by intro u hu; simp at hu; subst hu; rfl) (by omega) ?_; intro w5 hown5 hgrow5)
              go_roundw
              case rel => exact ⟨1 + 1, by omega, rfl, rfl, hown5, (HQ.out.2.alloc HQ.out.2.size _).grown hgrow5 (by have := HQ.out.2.size; simp; omega) (fun k hk => by cases hk; exact Nat.le_refl _)⟩
              case measure => simp [intOf]
            · have b2 : wr.cell? ⟨w.heap.size + 1, 3, none⟩ = some (.int .i64 s.st) := (HQ.out.2.cell (by exact hms)).trans c3
              obtain ⟨x0, x1, x2, x3⟩ := hix (sgAt s.v 0) (sgAt s.v 1) (sgAt s.v 2) (sgAt s.v 3) wr
              have y0 : (Instr.index 71 (.agg #[.int .i64 (sgAt s.v 0), .int .i64 (sgAt s.v 1), .int .i64 (sgAt s.v 2), .int .i64 (sgAt s.v 3)]) (.int .i64 ((0 : Nat) : Int))).run Tryd.prog wr = .ok (.int .i64 (sgAt s.v 0)) wr := x0
              have y1 : (Instr.index 71 (.agg #[.int .i64 (sgAt s.v 0), .int .i64 (sgAt s.v 1), .int .i64 (sgAt s.v 2), .int .i64 (sgAt s.v 3)]) (.int .i64 ((1 : Nat) : Int))).run Tryd.prog wr = .ok (.int .i64 (sgAt s.v 1)) wr := x1
              have y2 : (Instr.index 71 (.agg #[.int .i64 (sgAt s.v 0), .int .i64 (sgAt s.v 1), .int .i64 (sgAt s.v 2), .int .i64 (sgAt s.v 3)]) (.int .i64 ((2 : Nat) : Int))).run Tryd.prog wr = .ok (.int .i64 (sgAt s.v 2)) wr := x2
              have y3 : (Instr.index 71 (.agg #[.int .i64 (sgAt s.v 0), .int .i64 (sgAt s.v 1), .int .i64 (sgAt s.v 2), .int .i64 (sgAt s.v 3)]) (.int .i64 ((3 : Nat) : Int))).run Tryd.prog wr = .ok (.int .i64 (sgAt s.v 3)) wr := x3
              go_wp2_with (at_builtin; refine wpList_append_fits _ rfl (.tmp 39) (.tmp 41) 22 rfl w4.heap.size tN i0 1 Tryd.underlying22 hi0 hz1 w4.heap.size 2 4 _ rfl (HQ.out.1.alloc _) ⟨wr.heap.size, 0, none⟩ 1 1 [.int .i64 (sgAt s.v 2)] rfl rfl (by intro t u ht; match t, ht with | 0, ht => simp at ht; subst ht; exact World.cell?_alloc_at _ _ _ _ rfl) (by intro u hu; simp at hu; subst hu; rfl) (by omega) ?_; intro w5 hown5 hgrow5)
              go_roundw
              case rel => exact ⟨2 + 1, by omega, rfl, rfl, hown5, (HQ.out.2.alloc HQ.out.2.size _).grown hgrow5 (by have := HQ.out.2.size; simp; omega) (fun k hk => by cases hk; exact Nat.le_refl _)⟩
              case measure => simp [intOf]
            · have b2 : wr.cell? ⟨w.heap.size + 1, 3, none⟩ = some (.int .i64 s.st) := (HQ.out.2.cell (by exact hms)).trans c3
              obtain ⟨x0, x1, x2, x3⟩ := hix (sgAt s.v 0) (sgAt s.v 1) (sgAt s.v 2) (sgAt s.v 3) wr
              have y0 : (Instr.index 71 (.agg #[.int .i64 (sgAt s.v 0), .int .i64 (sgAt s.v 1), .int .i64 (sgAt s.v 2), .int .i64 (sgAt s.v 3)]) (.int .i64 ((0 : Nat) : Int))).run Tryd.prog wr = .ok (.int .i64 (sgAt s.v 0)) wr := x0
              have y1 : (Instr.index 71 (.agg #[.int .i64 (sgAt s.v 0), .int .i64 (sgAt s.v 1), .int .i64 (sgAt s.v 2), .int .i64 (sgAt s.v 3)]) (.int .i64 ((1 : Nat) : Int))).run Tryd.prog wr = .ok (.int .i64 (sgAt s.v 1)) wr := x1
              have y2 : (Instr.index 71 (.agg #[.int .i64 (sgAt s.v 0), .int .i64 (sgAt s.v 1), .int .i64 (sgAt s.v 2), .int .i64 (sgAt s.v 3)]) (.int .i64 ((2 : Nat) : Int))).run Tryd.prog wr = .ok (.int .i64 (sgAt s.v 2)) wr := x2
              have y3 : (Instr.index 71 (.agg #[.int .i64 (sgAt s.v 0), .int .i64 (sgAt s.v 1), .int .i64 (sgAt s.v 2), .int .i64 (sgAt s.v 3)]) (.int .i64 ((3 : Nat) : Int))).run Tryd.prog wr = .ok (.int .i64 (sgAt s.v 3)) wr := x3
              go_wp2_with (at_builtin; refine wpList_append_fits _ rfl (.tmp 39) (.tmp 41) 22 rfl w4.heap.size tN i0 1 Tryd.underlying22 hi0 hz1 w4.heap.size 3 4 _ rfl (HQ.out.1.alloc _) ⟨wr.heap.size, 0, none⟩ 1 1 [.int .i64 (sgAt s.v 3)] rfl rfl (by intro t u ht; match t, ht with | 0, ht => simp at ht; subst ht; exact World.cell?_alloc_at _ _ _ _ rfl) (by intro u hu; simp at hu; subst hu; rfl) (by omega) ?_; intro w5 hown5 hgrow5)
              go_roundw
              case rel => exact ⟨3 + 1, by omega, rfl, rfl, hown5, (HQ.out.2.alloc HQ.out.2.size _).grown hgrow5 (by have := HQ.out.2.size; simp; omega) (fun k hk => by cases hk; exact Nat.le_refl _)⟩
              case measure => simp [intOf]
            · have b3 : wr.cell? ⟨w.heap.size + 1, 3, none⟩ = some (.int .i64 s.st) := (HQ.out.2.cell (by exact hms)).trans c3
              have b4 : wr.cell? ⟨w.heap.size + 1, 4, none⟩ = some (.int .i64 s.pt) := (HQ.out.2.cell (by exact hms)).trans c4
              go_wp2_with fail
              go_quiet (fail)
              go_wp2_with fail
              go_ret3
              obtain ⟨⟨_, hrow⟩, hbq⟩ := HQ.out
              rcases hrow with ⟨e, _⟩ | ⟨g, cap, cur, e, hg, hh, hn4, hc4, hsz, htk⟩
              · cases e
              · cases e
                refine ⟨_, cur, by rw [HFi.out]; rfl, HBw.out.size, At.drewN hh _, by omega, ?_, below_drewN (HBw.out.trans (hbq.mono HBw.out.size)) _⟩
                rw [HFi.out]
                rw [← List.take_of_length_le (l := cur.toList) (i := 4 * 1) (by simp; omega), htk]
                rfl
        · clear hgo
          go_wp2_with fail
          go_loopw [11, 36] (fun sl i wr => ∃ (q : Nat), q ≤ 4 ∧ i = .int .i64 q ∧ sl = .slice (some ⟨w4.heap.size, 0, none⟩) q 4 ∧ Hid (wr.ownsRow w4.heap.size tN 1 (.slice (some ⟨w4.heap.size, 0, none⟩) q 4) q ([.int .i64 (sgAt s.v 0), .int .i64 (sgAt s.v 1), .int .i64 (sgAt s.v 2), .int .i64 (sgAt s.v 3)].take q) ∧ Below w4.heap.size w4 wr)) (fun _ i _ => 4 - (intOf i).toNat)
          case atStart => exact ⟨0, by omega, rfl, rfl, HOw.out, (Below.refl _ _).alloc (Nat.le_refl _) _⟩
          case round =>
            obtain ⟨q, hq, rfl, rfl, HQ⟩ := hrel
            rcases (show q = 0 ∨ q = 1 ∨ q = 2 ∨ q = 3 ∨ q = 4 by omega) with rfl | rfl | rfl | rfl | rfl
            · have b2 : wr.cell? ⟨w.heap.size + 1, 3, none⟩ = some (.int .i64 s.st) := (HQ.out.2.cell (by exact hms)).trans c3
              obtain ⟨x0, x1, x2, x3⟩ := hix (sgAt s.v 0) (sgAt s.v 1) (sgAt s.v 2) (sgAt s.v 3) wr
              have y0 : (Instr.index 71 (.agg #[.int .i64 (sgAt s.v 0), .int .i64 (sgAt s.v 1), .int .i64 (sgAt s.v 2), .int .i64 (sgAt s.v 3)]) (.int .i64 ((0 : Nat) : Int))).run Tryd.prog wr = .ok (.int .i64 (sgAt s.v 0)) wr := x0
              have y1 : (Instr.index 71 (.agg #[.int .i64 (sgAt s.v 0), .int .i64 (sgAt s.v 1), .int .i64 (sgAt s.v 2), .int .i64 (sgAt s.v 3)]) (.int .i64 ((1 : Nat) : Int))).run Tryd.prog wr = .ok (.int .i64 (sgAt s.v 1)) wr := x1
              have y2 : (Instr.index 71 (.agg #[.int .i64 (sgAt s.v 0), .int .i64 (sgAt s.v 1), .int .i64 (sgAt s.v 2), .int .i64 (sgAt s.v 3)]) (.int .i64 ((2 : Nat) : Int))).run Tryd.prog wr = .ok (.int .i64 (sgAt s.v 2)) wr := x2
              have y3 : (Instr.index 71 (.agg #[.int .i64 (sgAt s.v 0), .int .i64 (sgAt s.v 1), .int .i64 (sgAt s.v 2), .int .i64 (sgAt s.v 3)]) (.int .i64 ((3 : Nat) : Int))).run Tryd.prog wr = .ok (.int .i64 (sgAt s.v 3)) wr := x3
              go_wp2_with (at_builtin; refine wpList_append_fits _ rfl (.tmp 39) (.tmp 41) 22 rfl w4.heap.size tN i0 1 Tryd.underlying22 hi0 hz1 w4.heap.size 0 4 _ rfl (HQ.out.1.alloc _) ⟨wr.heap.size, 0, none⟩ 1 1 [.int .i64 (sgAt s.v 0)] rfl rfl (by intro t u ht; match t, ht with | 0, ht => simp at ht; subst ht; exact World.cell?_alloc_at _ _ _ _ rfl) (by intro u hu; simp at hu; subst hu; rfl) (by omega) ?_; intro w5 hown5 hgrow5)
              go_roundw
              case rel => exact ⟨0 + 1, by omega, rfl, rfl, hown5, (HQ.out.2.alloc HQ.out.2.size _).grown hgrow5 (by have := HQ.out.2.size; simp; omega) (fun k hk => by cases hk; exact Nat.le_refl _)⟩
              case measure => simp [intOf]
            · have b2 : wr.cell? ⟨w.heap.size + 1, 3, none⟩ = some (.int .i64 s.st) := (HQ.out.2.cell (by exact hms)).trans c3
              obtain ⟨x0, x1, x2, x3⟩ := hix (sgAt s.v 0) (sgAt s.v 1) (sgAt s.v 2) (sgAt s.v 3) wr
              have y0 : (Instr.index 71 (.agg #[.int .i64 (sgAt s.v 0), .int .i64 (sgAt s.v 1), .int .i64 (sgAt s.v 2), .int .i64 (sgAt s.v 3)]) (.int .i64 ((0 : Nat) : Int))).run Tryd.prog wr = .ok (.int .i64 (sgAt s.v 0)) wr := x0
              have y1 : (Instr.index 71 (.agg #[.int .i64 (sgAt s.v 0), .int .i64 (sgAt s.v 1), .int .i64 (sgAt s.v 2), .int .i64 (sgAt s.v 3)]) (.int .i64 ((1 : Nat) : Int))).run Tryd.prog wr = .ok (.int .i64 (sgAt s.v 1)) wr := x1
              have y2 : (Instr.index 71 (.agg #[.int .i64 (sgAt s.v 0), .int .i64 (sgAt s.v 1), .int .i64 (sgAt s.v 2), .int .i64 (sgAt s.v 3)]) (.int .i64 ((2 : Nat) : Int))).run Tryd.prog wr = .ok (.int .i64 (sgAt s.v 2)) wr := x2
              have y3 : (Instr.index 71 (.agg #[.int .i64 (sgAt s.v 0), .int .i64 (sgAt s.v 1), .int .i64 (sgAt s.v 2), .int .i64 (sgAt s.v 3)]) (.int .i64 ((3 : Nat) : Int))).run Tryd.prog wr = .ok (.int .i64 (sgAt s.v 3)) wr := x3
              go_wp2_with (at_builtin; refine wpList_append_fits _ rfl (.tmp 39) (.tmp 41) 22 rfl w4.heap.size tN i0 1 Tryd.underlying22 hi0 hz1 w4.heap.size 1 4 _ rfl (HQ.out.1.alloc _) ⟨wr.heap.size, 0, none⟩ 1 1 [.int .i64 (sgAt s.v 1)] rfl rfl (by intro t u ht; match t, ht with | 0, ht => simp at ht; subst ht; exact World.cell?_alloc_at _ _ _ _ rfl) (by intro u hu; simp at hu; subst hu; rfl) (by omega) ?_; intro w5 hown5 hgrow5)
              go_roundw
              case rel => exact ⟨1 + 1, by omega, rfl, rfl, hown5, (HQ.out.2.alloc HQ.out.2.size _).grown hgrow5 (by have := HQ.out.2.size; simp; omega) (fun k hk => by cases hk; exact Nat.le_refl _)⟩
              case measure => simp [intOf]
            · have b2 : wr.cell? ⟨w.heap.size + 1, 3, none⟩ = some (.int .i64 s.st) := (HQ.out.2.cell (by exact hms)).trans c3
              obtain ⟨x0, x1, x2, x3⟩ := hix (sgAt s.v 0) (sgAt s.v 1) (sgAt s.v 2) (sgAt s.v 3) wr
              have y0 : (Instr.index 71 (.agg #[.int .i64 (sgAt s.v 0), .int .i64 (sgAt s.v 1), .int .i64 (sgAt s.v 2), .int .i64 (sgAt s.v 3)]) (.int .i64 ((0 : Nat) : Int))).run Tryd.prog wr = .ok (.int .i64 (sgAt s.v 0)) wr := x0
              have y1 : (Instr.index 71 (.agg #[.int .i64 (sgAt s.v 0), .int .i64 (sgAt s.v 1), .int .i64 (sgAt s.v 2), .int .i64 (sgAt s.v 3)]) (.int .i64 ((1 : Nat) : Int))).run Tryd.prog wr = .ok (.int .i64 (sgAt s.v 1)) wr := x1
              have y2 : (Instr.index 71 (.agg #[.int .i64 (sgAt s.v 0), .int .i64 (sgAt s.v 1), .int .i64 (sgAt s.v 2), .int .i64 (sgAt s.v 3)]) (.int .i64 ((2 : Nat) : Int))).run Tryd.prog wr = .ok (.int .i64 (sgAt s.v 2)) wr := x2
              have y3 : (Instr.index 71 (.agg #[.int .i64 (sgAt s.v 0), .int .i64 (sgAt s.v 1), .int .i64 (sgAt s.v 2), .int .i64 (sgAt s.v 3)]) (.int .i64 ((3 : Nat) : Int))).run Tryd.prog wr = .ok (.int .i64 (sgAt s.v 3)) wr := x3
              go_wp2_with (at_builtin; refine wpList_append_fits _ rfl (.tmp 39) (.tmp 41) 22 rfl w4.heap.size tN i0 1 Tryd.underlying22 hi0 hz1 w4.heap.size 2 4 _ rfl (HQ.out.1.alloc _) ⟨wr.heap.size, 0, none⟩ 1 1 [.int .i64 (sgAt s.v 2)] rfl rfl (by intro t u ht; match t, ht with | 0, ht => simp at ht; subst ht; exact World.cell?_alloc_at _ _ _ _ rfl) (by intro u hu; simp at hu; subst hu; rfl) (by omega) ?_; intro w5 hown5 hgrow5)
              go_roundw
              case rel => exact ⟨2 + 1, by omega, rfl, rfl, hown5, (HQ.out.2.alloc HQ.out.2.size _).grown hgrow5 (by have := HQ.out.2.size; simp; omega) (fun k hk => by cases hk; exact Nat.le_refl _)⟩
              case measure => simp [intOf]
            · have b2 : wr.cell? ⟨w.heap.size + 1, 3, none⟩ = some (.int .i64 s.st) := (HQ.out.2.cell (by exact hms)).trans c3
              obtain ⟨x0, x1, x2, x3⟩ := hix (sgAt s.v 0) (sgAt s.v 1) (sgAt s.v 2) (sgAt s.v 3) wr
              have y0 : (Instr.index 71 (.agg #[.int .i64 (sgAt s.v 0), .int .i64 (sgAt s.v 1), .int .i64 (sgAt s.v 2), .int .i64 (sgAt s.v 3)]) (.int .i64 ((0 : Nat) : Int))).run Tryd.prog wr = .ok (.int .i64 (sgAt s.v 0)) wr := x0
              have y1 : (Instr.index 71 (.agg #[.int .i64 (sgAt s.v 0), .int .i64 (sgAt s.v 1), .int .i64 (sgAt s.v 2), .int .i64 (sgAt s.v 3)]) (.int .i64 ((1 : Nat) : Int))).run Tryd.prog wr = .ok (.int .i64 (sgAt s.v 1)) wr := x1
              have y2 : (Instr.index 71 (.agg #[.int .i64 (sgAt s.v 0), .int .i64 (sgAt s.v 1), .int .i64 (sgAt s.v 2), .int .i64 (sgAt s.v 3)]) (.int .i64 ((2 : Nat) : Int))).run Tryd.prog wr = .ok (.int .i64 (sgAt s.v 2)) wr := x2
              have y3 : (Instr.index 71 (.agg #[.int .i64 (sgAt s.v 0), .int .i64 (sgAt s.v 1), .int .i64 (sgAt s.v 2), .int .i64 (sgAt s.v 3)]) (.int .i64 ((3 : Nat) : Int))).run Tryd.prog wr = .ok (.int .i64 (sgAt s.v 3)) wr := x3
              go_wp2_with (at_builtin; refine wpList_append_fits _ rfl (.tmp 39) (.tmp 41) 22 rfl w4.heap.size tN i0 1 Tryd.underlying22 hi0 hz1 w4.heap.size 3 4 _ rfl (HQ.out.1.alloc _) ⟨wr.heap.size, 0, none⟩ 1 1 [.int .i64 (sgAt s.v 3)] rfl rfl (by intro t u ht; match t, ht with | 0, ht => simp at ht; subst ht; exact World.cell?_alloc_at _ _ _ _ rfl) (by intro u hu; simp at hu; subst hu; rfl) (by omega) ?_; intro w5 hown5 hgrow5)
              go_roundw
              case rel => exact ⟨3 + 1, by omega, rfl, rfl, hown5, (HQ.out.2.alloc HQ.out.2.size _).grown hgrow5 (by have := HQ.out.2.size; simp; omega) (fun k hk => by cases hk; exact Nat.le_refl _)⟩
              case measure => simp [intOf]
            · have b3 : wr.cell? ⟨w.heap.size + 1, 3, none⟩ = some (.int .i64 s.st) := (HQ.out.2.cell (by exact hms)).trans c3
              have b4 : wr.cell? ⟨w.heap.size + 1, 4, none⟩ = some (.int .i64 s.pt) := (HQ.out.2.cell (by exact hms)).trans c4
              go_wp2_with fail
              go_quiet (fail)
              go_wp2_with fail
              go_ret3
              obtain ⟨⟨_, hrow⟩, hbq⟩ := HQ.out
              rcases hrow with ⟨e, _⟩ | ⟨g, cap, cur, e, hg, hh, hn4, hc4, hsz, htk⟩
              · cases e
              · cases e
                refine ⟨_, cur, by rw [HFi.out]; rfl, HBw.out.size, At.drewN hh _, by omega, ?_, below_drewN (HBw.out.trans (hbq.mono HBw.out.size)) _⟩
                rw [HFi.out]
                rw [← List.take_of_length_le (l := cur.toList) (i := 4 * 1) (by simp; omega), htk]
                rfl
      · clear hgo
        go_wp2_with fail
        go_loopw [11, 36] (fun sl i wr => ∃ (q : Nat), q ≤ 4 ∧ i = .int .i64 q ∧ sl = .slice (some ⟨w4.heap.size, 0, none⟩) q 4 ∧ Hid (wr.ownsRow w4.heap.size tN 1 (.slice (some ⟨w4.heap.size, 0, none⟩) q 4) q ([.int .i64 (sgAt s.v 0), .int .i64 (sgAt s.v 1), .int .i64 (sgAt s.v 2), .int .i64 (sgAt s.v 3)].take q) ∧ Below w4.heap.size w4 wr)) (fun _ i _ => 4 - (intOf i).toNat)
        case atStart => exact ⟨0, by omega, rfl, rfl, HOw.out, (Below.refl _ _).alloc (Nat.le_refl _) _⟩
        case round =>
          obtain ⟨q, hq, rfl, rfl, HQ⟩ := hrel
          rcases (show q = 0 ∨ q = 1 ∨ q = 2 ∨ q = 3 ∨ q = 4 by omega) with rfl | rfl | rfl | rfl | rfl
          · have b2 : wr.cell? ⟨w.heap.size + 1, 3, none⟩ = some (.int .i64 s.st) := (HQ.out.2.cell (by exact hms)).trans c3
            obtain ⟨x0, x1, x2, x3⟩ := hix (sgAt s.v 0) (sgAt s.v 1) (sgAt s.v 2) (sgAt s.v 3) wr
            have y0 : (Instr.index 71 (.agg #[.int .i64 (sgAt s.v 0), .int .i64 (sgAt s.v 1), .int .i64 (sgAt s.v 2), .int .i64 (sgAt s.v 3)]) (.int .i64 ((0 : Nat) : Int))).run Tryd.prog wr = .ok (.int .i64 (sgAt s.v 0)) wr := x0
            have y1 : (Instr.index 71 (.agg #[.int .i64 (sgAt s.v 0), .int .i64 (sgAt s.v 1), .int .i64 (sgAt s.v 2), .int .i64 (sgAt s.v 3)]) (.int .i64 ((1 : Nat) : Int))).run Tryd.prog wr = .ok (.int .i64 (sgAt s.v 1)) wr := x1
            have y2 : (Instr.index 71 (.agg #[.int .i64 (sgAt s.v 0), .int .i64 (sgAt s.v 1), .int .i64 (sgAt s.v 2), .int .i64 (sgAt s.v 3)]) (.int .i64 ((2 : Nat) : Int))).run Tryd.prog wr = .ok (.int .i64 (sgAt s.v 2)) wr := x2
            have y3 : (Instr.index 71 (.agg #[.int .i64 (sgAt s.v 0), .int .i64 (sgAt s.v 1), .int .i64 (sgAt s.v 2), .int .i64 (sgAt s.v 3)]) (.int .i64 ((3 : Nat) : Int))).run Tryd.prog wr = .ok (.int .i64 (sgAt s.v 3)) wr := x3
            go_wp2_with (at_builtin; refine wpList_append_fits _ rfl (.tmp 39) (.tmp 41) 22 rfl w4.heap.size tN i0 1 Tryd.underlying22 hi0 hz1 w4.heap.size 0 4 _ rfl (HQ.out.1.alloc _) ⟨wr.heap.size, 0, none⟩ 1 1 [.int .i64 (sgAt s.v 0)] rfl rfl (by intro t u ht; match t, ht with | 0, ht => simp at ht; subst ht; exact World.cell?_alloc_at _ _ _ _ rfl) (by intro u hu; simp at hu; subst hu; rfl) (by omega) ?_; intro w5 hown5 hgrow5)
            go_roundw
            case rel => exact ⟨0 + 1, by omega, rfl, rfl, hown5, (HQ.out.2.alloc HQ.out.2.size _).grown hgrow5 (by have := HQ.out.2.size; simp; omega) (fun k hk => by cases hk; exact Nat.le_refl _)⟩
            case measure => simp [intOf]
          · have b2 : wr.cell? ⟨w.heap.size + 1, 3, none⟩ = some (.int .i64 s.st) := (HQ.out.2.cell (by exact hms)).trans c3
            obtain ⟨x0, x1, x2, x3⟩ := hix (sgAt s.v 0) (sgAt s.v 1) (sgAt s.v 2) (sgAt s.v 3) wr
            have y0 : (Instr.index 71 (.agg #[.int .i64 (sgAt s.v 0), .int .i64 (sgAt s.v 1), .int .i64 (sgAt s.v 2), .int .i64 (sgAt s.v 3)]) (.int .i64 ((0 : Nat) : Int))).run Tryd.prog wr = .ok (.int .i64 (sgAt s.v 0)) wr := x0
            have y1 : (Instr.index 71 (.agg #[.int .i64 (sgAt s.v 0), .int .i64 (sgAt s.v 1), .int .i64 (sgAt s.v 2), .int .i64 (sgAt s.v 3)]) (.int .i64 ((1 : Nat) : Int))).run Tryd.prog wr = .ok (.int .i64 (sgAt s.v 1)) wr := x1
            have y2 : (Instr.index 71 (.agg #[.int .i64 (sgAt s.v 0), .int .i64 (sgAt s.v 1), .int .i64 (sgAt s.v 2), .int .i64 (sgAt s.v 3)]) (.int .i64 ((2 : Nat) : Int))).run Tryd.prog wr = .ok (.int .i64 (sgAt s.v 2)) wr := x2
            have y3 : (Instr.index 71 (.agg #[.int .i64 (sgAt s.v 0), .int .i64 (sgAt s.v 1), .int .i64 (sgAt s.v 2), .int .i64 (sgAt s.v 3)]) (.int .i64 ((3 : Nat) : Int))).run Tryd.prog wr = .ok (.int .i64 (sgAt s.v 3)) wr := x3
            go_wp2_with (at_builtin; refine wpList_append_fits _ rfl (.tmp 39) (.tmp 41) 22 rfl w4.heap.size tN i0 1 Tryd.underlying22 hi0 hz1 w4.heap.size 1 4 _ rfl (HQ.out.1.alloc _) ⟨wr.heap.size, 0, none⟩ 1 1 [.int .i64 (sgAt s.v 1)] rfl rfl (by intro t u ht; match t, ht with | 0, ht => simp at ht; subst ht; exact World.cell?_alloc_at _ _ _ _ rfl) (by intro u hu; simp at hu; subst hu; rfl) (by omega) ?_; intro w5 hown5 hgrow5)
            go_roundw
            case rel => exact ⟨1 + 1, by omega, rfl, rfl, hown5, (HQ.out.2.alloc HQ.out.2.size _).grown hgrow5 (by have := HQ.out.2.size; simp; omega) (fun k hk => by cases hk; exact Nat.le_refl _)⟩
            case measure => simp [intOf]
          · have b2 : wr.cell? ⟨w.heap.size + 1, 3, none⟩ = some (.int .i64 s.st) := (HQ.out.2.cell (by exact hms)).trans c3
            obtain ⟨x0, x1, x2, x3⟩ := hix (sgAt s.v 0) (sgAt s.v 1) (sgAt s.v 2) (sgAt s.v 3) wr
            have y0 : (Instr.index 71 (.agg #[.int .i64 (sgAt s.v 0), .int .i64 (sgAt s.v 1), .int .i64 (sgAt s.v 2), .int .i64 (sgAt s.v 3)]) (.int .i64 ((0 : Nat) : Int))).run Tryd.prog wr = .ok (.int .i64 (sgAt s.v 0)) wr := x0
            have y1 : (Instr.index 71 (.agg #[.int .i64 (sgAt s.v 0), .int .i64 (sgAt s.v 1), .int .i64 (sgAt s.v 2), .int .i64 (sgAt s.v 3)]) (.int .i64 ((1 : Nat) : Int))).run Tryd.prog wr = .ok (.int .i64 (sgAt s.v 1)) wr := x1
            have y2 : (Instr.index 71 (.agg #[.int .i64 (sgAt s.v 0), .int .i64 (sgAt s.v 1), .int .i64 (sgAt s.v 2), .int .i64 (sgAt s.v 3)]) (.int .i64 ((2 : Nat) : Int))).run Tryd.prog wr = .ok (.int .i64 (sgAt s.v 2)) wr := x2
            have y3 : (Instr.index 71 (.agg #[.int .i64 (sgAt s.v 0), .int .i64 (sgAt s.v 1), .int .i64 (sgAt s.v 2), .int .i64 (sgAt s.v 3)]) (.int .i64 ((3 : Nat) : Int))).run Tryd.prog wr = .ok (.int .i64 (sgAt s.v 3)) wr := x3
            go_wp2_with (at_builtin; refine wpList_append_fits _ rfl (.tmp 39) (.tmp 41) 22 rfl w4.heap.size tN i0 1 Tryd.underlying22 hi0 hz1 w4.heap.size 2 4 _ rfl (HQ.out.1.alloc _) ⟨wr.heap.size, 0, none⟩ 1 1 [.int .i64 (sgAt s.v 2)] rfl rfl (by intro t u ht; match t, ht with | 0, ht => simp at ht; subst ht; exact World.cell?_alloc_at _ _ _ _ rfl) (by intro u hu; simp at hu; subst hu; rfl) (by omega) ?_; intro w5 hown5 hgrow5)
            go_roundw
            case rel => exact ⟨2 + 1, by omega, rfl, rfl, hown5, (HQ.out.2.alloc HQ.out.2.size _).grown hgrow5 (by have := HQ.out.2.size; simp; omega) (fun k hk => by cases hk; exact Nat.le_refl _)⟩
            case measure => simp [intOf]
          · have b2 : wr.cell? ⟨w.heap.size + 1, 3, none⟩ = some (.int .i64 s.st) := (HQ.out.2.cell (by exact hms)).trans c3
            obtain ⟨x0, x1, x2, x3⟩ := hix (sgAt s.v 0) (sgAt s.v 1) (sgAt s.v 2) (sgAt s.v 3) wr
            have y0 : (Instr.index 71 (.agg #[.int .i64 (sgAt s.v 0), .int .i64 (sgAt s.v 1), .int .i64 (sgAt s.v 2), .int .i64 (sgAt s.v 3)]) (.int .i64 ((0 : Nat) : Int))).run Tryd.prog wr = .ok (.int .i64 (sgAt s.v 0)) wr := x0
            have y1 : (Instr.index 71 (.agg #[.int .i64 (sgAt s.v 0), .int .i64 (sgAt s.v 1), .int .i64 (sgAt s.v 2), .int .i64 (sgAt s.v 3)]) (.int .i64 ((1 : Nat) : Int))).run Tryd.prog wr = .ok (.int .i64 (sgAt s.v 1)) wr := x1
            have y2 : (Instr.index 71 (.agg #[.int .i64 (sgAt s.v 0), .int .i64 (sgAt s.v 1), .int .i64 (sgAt s.v 2), .int .i64 (sgAt s.v 3)]) (.int .i64 ((2 : Nat) : Int))).run Tryd.prog wr = .ok (.int .i64 (sgAt s.v 2)) wr := x2
            have y3 : (Instr.index 71 (.agg #[.int .i64 (sgAt s.v 0), .int .i64 (sgAt s.v 1), .int .i64 (sgAt s.v 2), .int .i64 (sgAt s.v 3)]) (.int .i64 ((3 : Nat) : Int))).run Tryd.prog wr = .ok (.int .i64 (sgAt s.v 3)) wr := x3
            go_wp2_with (at_builtin; refine wpList_append_fits _ rfl (.tmp 39) (.tmp 41) 22 rfl w4.heap.size tN i0 1 Tryd.underlying22 hi0 hz1 w4.heap.size 3 4 _ rfl (HQ.out.1.alloc _) ⟨wr.heap.size, 0, none⟩ 1 1 [.int .i64 (sgAt s.v 3)] rfl rfl (by intro t u ht; match t, ht with | 0, ht => simp at ht; subst ht; exact World.cell?_alloc_at _ _ _ _ rfl) (by intro u hu; simp at hu; subst hu; rfl) (by omega) ?_; intro w5 hown5 hgrow5)
            go_roundw
            case rel => exact ⟨3 + 1, by omega, rfl, rfl, hown5, (HQ.out.2.alloc HQ.out.2.size _).grown hgrow5 (by have := HQ.out.2.size; simp; omega) (fun k hk => by cases hk; exact Nat.le_refl _)⟩
            case measure => simp [intOf]
          · have b3 : wr.cell? ⟨w.heap.size + 1, 3, none⟩ = some (.int .i64 s.st) := (HQ.out.2.cell (by exact hms)).trans c3
            have b4 : wr.cell? ⟨w.heap.size + 1, 4, none⟩ = some (.int .i64 s.pt) := (HQ.out.2.cell (by exact hms)).trans c4
            go_wp2_with fail
            go_quiet (fail)
            go_wp2_with fail
            go_ret3
            obtain ⟨⟨_, hrow⟩, hbq⟩ := HQ.out
            rcases hrow with ⟨e, _⟩ | ⟨g, cap, cur, e, hg, hh, hn4, hc4, hsz, htk⟩
            · cases e
            · cases e
              refine ⟨_, cur, by rw [HFi.out]; rfl, HBw.out.size, At.drewN hh _, by omega, ?_, below_drewN (HBw.out.trans (hbq.mono HBw.out.size)) _⟩
              rw [HFi.out]
              rw [← List.take_of_length_le (l := cur.toList) (i := 4 * 1) (by simp; omega), htk]
              rfl

end Go.Proofs.YtffajooegiempabDoor

namespace Go.Proofs.YtffajooegiempabDoor
end Go.Proofs.YtffajooegiempabDoor

namespace Go.Proofs.YtffajooegiempabDoor
end Go.Proofs.YtffajooegiempabDoor

namespace Go.Proofs.YtffajooegiempabDoor
/-- The document's Next. -/
def nextOf (l : List Int) (p way : Int) : Int × Int :=
  match progOf l with
  | none => (0, 1)
  | some m => if way < 0 ∨ waysAt m p ≤ way then (0, 2) else (nextR m.st p.toNat way, 0)
end Go.Proofs.YtffajooegiempabDoor

namespace Go.Proofs.YtffajooegiempabDoor
open Go.RowKit

set_option maxRecDepth 100000 in
set_option maxHeartbeats 800000 in
theorem d_wnext (s : ByteArray) (p way : Int) (w : World) (hm : s.size ≤ maxLen) :
    Calls Tryd.prog 19 #[.string s, .int .i64 p, .int .i64 way] w fun e w' => e = two (nextOf (bytesOf s) p way) ∧ Below w.heap.size w w' := by
  have hr := d_read s w hm
  have hl := bytesOf_len s
  have bad : progOf (bytesOf s) = none → (∀ e w', DReadPost w s e w' → ∃ c : Int, e = .returned (.tuple #[.agg #[.slice none 0 0], .int .i64 1, .int .i64 c]) ∧ Below w.heap.size w w') →
      Calls Tryd.prog 19 #[.string s, .int .i64 p, .int .i64 way] w fun e w' => e = two (nextOf (bytesOf s) p way) ∧ Below w.heap.size w w' := by
    intro hp hq
    have HE : Hid (nextOf (bytesOf s) p way = (0, 1)) := by show nextOf _ _ _ = _; unfold nextOf; rw [hp]
    have hr' := hr.mono hq
    clear hr hp hq hm hl
    go_enter Tryd.func19, Tryd.ntmps19
    go_wp2_with fail
    refine hr'.mono ?_
    rintro e w1 ⟨c, rfl, hb⟩
    go_wp2_with fail
    go_ret2
    exact ⟨by rw [HE.out]; rfl, hb.alloc hb.size _⟩
  by_cases h160 : 160 < s.size
  · refine bad (by unfold progOf; rw [if_pos (by omega)]) ?_
    rintro e w' ⟨hb, h | h | h⟩
    · exact ⟨0, h.2, hb⟩
    · exact absurd h.1 (by omega)
    · exact absurd h.1 (by omega)
  rcases prog_whole s (by omega) with ⟨hg, hp⟩ | ⟨m, hg, hp, hW⟩
  · refine bad hp ?_
    rintro e w' ⟨hb, h | h | h⟩
    · exact absurd h.1 h160
    · exact ⟨_, h.2.2, hb⟩
    · exact absurd h.2.1 (by rw [hg]; decide)
  clear bad
  have hlen : (readZ s).2.length ≤ 20 := (rStmts_goes s 22 (-1) 0 0 ((0, false), []) ⟨Nat.zero_le _, Nat.zero_le _⟩).ok.len
  have hSl : (readZ s).2.length = m.st.length := hW.1.len
  have hr' := hr.mono (R' := fun e w' => ∃ v, e = .returned (.tuple #[.agg #[v], .int .i64 0, .int .i64 0]) ∧ Below w.heap.size w w' ∧ w'.ownsRow w.heap.size tDs 10 v (readZ s).2.length (flat (readZ s).2)) (by
    rintro e w' ⟨hb, h | h | h⟩
    · exact absurd h.1 h160
    · exact absurd h.2.1 (by rw [hg]; decide)
    · obtain ⟨_, _, v, he, hrow⟩ := h
      exact ⟨v, he, hb, hrow⟩)
  have HE : Hid (nextOf (bytesOf s) p way = if way < 0 ∨ waysAt m p ≤ way then (0, 2) else (nextR m.st p.toNat way, 0)) := by show nextOf _ _ _ = _; unfold nextOf; rw [hp]
  have HW : Hid (Whole (readZ s).2 m.st) := hW
  have HSl : Hid ((readZ s).2.length = m.st.length) := hSl
  clear hr hm hl h160 hg hp hW hSl
  generalize (readZ s).2 = F at *
  by_cases hout : p < 0 ∨ (F.length : Int) ≤ p
  · have hwa : waysAt m p = 0 := by have := HSl.out; unfold waysAt; rw [if_pos (by omega)]
    have HE2 : Hid (nextOf (bytesOf s) p way = (0, 2)) := HE.out.trans (by rw [hwa, if_pos (by omega)])
    clear HE hwa
    go_enter Tryd.func19, Tryd.ntmps19
    go_wp2_with fail
    refine hr'.mono ?_
    rintro e w1 ⟨v, rfl, hb, hrow⟩
    obtain ⟨ao, cap, rfl⟩ : ∃ ao cap, v = .slice ao F.length cap := by
      obtain ⟨_, h2⟩ := hrow
      rcases h2 with ⟨rfl, e⟩ | ⟨g, cap, c, rfl, _⟩
      · exact ⟨none, 0, by rw [e]⟩
      · exact ⟨_, cap, rfl⟩
    clear hrow
    go_wp2_with fail
    refine (d_next_out ao F.length hlen p way hout _).mono ?_
    rintro e w2 ⟨rfl, hb2⟩
    simp only [twoD]
    go_wp2_with fail
    go_ret2
    exact ⟨by rw [HE2.out]; rfl, (hb.alloc hb.size _).trans (hb2.mono (by have := hb.size; simp; omega))⟩
  · obtain ⟨k, rfl⟩ : ∃ k : Nat, p = k := ⟨p.toNat, by omega⟩
    have hk : k < F.length := by omega
    have hns := next_same HW.out hlen k hk way
    have HE2 : Hid (nextOf (bytesOf s) k way = nextP F k way) := by
      show nextOf _ _ _ = _
      rw [HE.out, hns]
      have hwa : waysAt m k = waysR (m.st.getD k noSt) := by have := HSl.out; unfold waysAt; rw [if_neg (by omega), Int.toNat_natCast]
      rw [hwa, Int.toNat_natCast]
    have HNI : Hid (∀ (w2 : World) (g cap : Nat), PRow w2 g F → Calls Tryd.prog 34 #[.agg #[.slice (some ⟨g, 0, none⟩) F.length cap], .int .i64 (k : Int), .int .i64 way] w2 fun e w' => e = twoD (nextP F k way) ∧ Below w2.heap.size w2 w') := fun w2 g cap hP => d_next_in hP hlen HW.out.par k hk way
    clear HE hns hout
    generalize nextP F k way = nx at *
    obtain ⟨n1, n2⟩ := nx
    go_enter Tryd.func19, Tryd.ntmps19
    go_wp2_with fail
    refine hr'.mono ?_
    rintro e w1 ⟨v, rfl, hb, hrow⟩
    obtain ⟨g, cap, rfl⟩ : ∃ g cap, v = .slice (some ⟨g, 0, none⟩) F.length cap := by
      obtain ⟨_, h2⟩ := hrow
      rcases h2 with ⟨_, e⟩ | ⟨g, cap, c, rfl, _⟩
      · omega
      · exact ⟨g, cap, rfl⟩
    have HPr : Hid (PRow w1 g F) := prow_of hrow rfl (hrow.lt g rfl).2
    clear hrow
    go_wp2_with fail
    refine (HNI.out _ g cap (HPr.out.keep ((Below.refl _ _).alloc (Nat.le_refl _) _))).mono ?_
    rintro e w2 ⟨rfl, hb2⟩
    simp only [twoD]
    go_wp2_with fail
    go_ret2
    exact ⟨by rw [HE2.out]; rfl, (hb.alloc hb.size _).trans (hb2.mono (by have := hb.size; simp; omega))⟩

end Go.Proofs.YtffajooegiempabDoor

