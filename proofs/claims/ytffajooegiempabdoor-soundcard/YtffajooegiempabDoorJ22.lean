import Derived.Test.YtffajooegiempabDoorJ21
namespace Go.Proofs.YtffajooegiempabDoor
open Go.RowKit

def vv (l : List Int) : Value := .agg #[.int .i64 (sgAt l 0), .int .i64 (sgAt l 1), .int .i64 (sgAt l 2), .int .i64 (sgAt l 3)]

set_option maxRecDepth 100000 in
set_option maxHeartbeats 1600000 in
theorem x_sum (x : Ds) (l : List Int) (hx : ∀ i, -1 ≤ sgAt x.sg i ∧ sgAt x.sg i ≤ 1) (hv : ∀ i, -999 ≤ sgAt l i ∧ sgAt l i ≤ 999) (w : World) :
    Calls Tryd.prog 101 #[dsv x, vv l] w fun e w' => e = .returned (.int .i64 (sumTo x.sg l 4)) ∧ Below w.heap.size w w' := by
  unfold dsv vv
  obtain ⟨w0, hw0⟩ : ∃ w0, w0 = (w.alloc (.cells #[.int .i64 x.kind, .int .i64 x.target, .bool x.any, .int .i64 (sgAt x.sg 0), .int .i64 (sgAt x.sg 1), .int .i64 (sgAt x.sg 2), .int .i64 (sgAt x.sg 3), .int .i64 x.num, .int .i64 x.parent, .int .i64 x.block] tDs)).alloc (.cells #[.int .i64 (sgAt l 0), .int .i64 (sgAt l 1), .int .i64 (sgAt l 2), .int .i64 (sgAt l 3)] 71) := ⟨_, rfl⟩
  have HW0 : Hid (w0 = _) := hw0
  clear hw0
  have HB : Hid (Below w.heap.size w w0) := by rw [HW0.out]; exact ((Below.refl _ _).alloc (Nat.le_refl _) _).alloc (by simp) _
  go_enter Tryd.func101, Tryd.ntmps101
  go_wp2_with fail
  go_loopw [5, 6] (fun sm i wr => ∃ (j k : Nat), j ≤ 4 ∧ i = .int .i64 j ∧ sm = .int .i64 (sumTo x.sg l j) ∧ wr = w0.drewN k) (fun _ i _ => 4 - (intOf i).toNat)
  case atStart => exact ⟨0, 0, by omega, rfl, rfl, HW0.out.symm⟩
  case round =>
    obtain ⟨j, k, hj, rfl, rfl, hwr⟩ := hrel
    have HW : Hid (∃ k, wr = w0.drewN k) := ⟨k, hwr⟩
    have k1 : ∀ a, wr.cell? a = w0.cell? a := fun a => by rw [hwr]; rfl
    have q0 : ∀ i : Nat, wr.cell? ⟨w.heap.size, i, none⟩ = #[.int .i64 x.kind, .int .i64 x.target, .bool x.any, .int .i64 (sgAt x.sg 0), .int .i64 (sgAt x.sg 1), .int .i64 (sgAt x.sg 2), .int .i64 (sgAt x.sg 3), .int .i64 x.num, .int .i64 x.parent, .int .i64 x.block][i]? := by
      intro i
      rw [k1, HW0.out, World.cell?_alloc_past _ _ _ (by simp)]
      exact World.cell?_alloc_at _ _ _ _ rfl
    have q1 : ∀ i : Nat, wr.cell? ⟨w.heap.size + 1, i, none⟩ = #[.int .i64 (sgAt l 0), .int .i64 (sgAt l 1), .int .i64 (sgAt l 2), .int .i64 (sgAt l 3)][i]? := by
      intro i
      rw [k1, HW0.out]
      exact World.cell?_alloc_at _ _ _ _ (by simp)
    have a0 := q0 3
    have a1 := q0 4
    have a2 := q0 5
    have a3 := q0 6
    have b0 := q1 0
    have b1 := q1 1
    have b2 := q1 2
    have b3 := q1 3
    simp at a0 a1 a2 a3 b0 b1 b2 b3
    have hsz : w.heap.size + 1 < wr.heap.size := by rw [hwr, HW0.out]; simp
    clear hwr k1 q0 q1
    rcases (show j = 0 ∨ j = 1 ∨ j = 2 ∨ j = 3 ∨ j = 4 by omega) with rfl | rfl | rfl | rfl | rfl
    · have hp := mul_sg (sgAt x.sg 0) (sgAt l 0) (hx 0).1 (hx 0).2 (hv 0).1 (hv 0).2
      have hs := sumTo_le hx hv 0
      have hmw : wrap64 (sgAt x.sg 0 * sgAt l 0) = sgAt x.sg 0 * sgAt l 0 := by unfold wrap64; omega
      have hL : Hid (sumTo x.sg l (0 + 1) = sumTo x.sg l 0 + sgAt x.sg 0 * sgAt l 0) := rfl
      have hlo : -4000 ≤ sumTo x.sg l 0 := by omega
      have hhi : sumTo x.sg l 0 ≤ 4000 := by omega
      clear hs
      generalize sumTo x.sg l 0 = sm at *
      go_wp2_with fail
      go_quiet (fail)
      go_wp2_with fail
      go_roundw
      case rel => obtain ⟨k', e⟩ := HW.out; exact ⟨0 + 1, _, by omega, rfl, by rw [hL.out], by rw [e]; exact drewN_two _ _ _⟩
      case measure => simp [intOf]
    · have hp := mul_sg (sgAt x.sg 1) (sgAt l 1) (hx 1).1 (hx 1).2 (hv 1).1 (hv 1).2
      have hs := sumTo_le hx hv 1
      have hmw : wrap64 (sgAt x.sg 1 * sgAt l 1) = sgAt x.sg 1 * sgAt l 1 := by unfold wrap64; omega
      have hL : Hid (sumTo x.sg l (1 + 1) = sumTo x.sg l 1 + sgAt x.sg 1 * sgAt l 1) := rfl
      have hlo : -4000 ≤ sumTo x.sg l 1 := by omega
      have hhi : sumTo x.sg l 1 ≤ 4000 := by omega
      clear hs
      generalize sumTo x.sg l 1 = sm at *
      go_wp2_with fail
      go_quiet (fail)
      go_wp2_with fail
      go_roundw
      case rel => obtain ⟨k', e⟩ := HW.out; exact ⟨1 + 1, _, by omega, rfl, by rw [hL.out], by rw [e]; exact drewN_two _ _ _⟩
      case measure => simp [intOf]
    · have hp := mul_sg (sgAt x.sg 2) (sgAt l 2) (hx 2).1 (hx 2).2 (hv 2).1 (hv 2).2
      have hs := sumTo_le hx hv 2
      have hmw : wrap64 (sgAt x.sg 2 * sgAt l 2) = sgAt x.sg 2 * sgAt l 2 := by unfold wrap64; omega
      have hL : Hid (sumTo x.sg l (2 + 1) = sumTo x.sg l 2 + sgAt x.sg 2 * sgAt l 2) := rfl
      have hlo : -4000 ≤ sumTo x.sg l 2 := by omega
      have hhi : sumTo x.sg l 2 ≤ 4000 := by omega
      clear hs
      generalize sumTo x.sg l 2 = sm at *
      go_wp2_with fail
      go_quiet (fail)
      go_wp2_with fail
      go_roundw
      case rel => obtain ⟨k', e⟩ := HW.out; exact ⟨2 + 1, _, by omega, rfl, by rw [hL.out], by rw [e]; exact drewN_two _ _ _⟩
      case measure => simp [intOf]
    · have hp := mul_sg (sgAt x.sg 3) (sgAt l 3) (hx 3).1 (hx 3).2 (hv 3).1 (hv 3).2
      have hs := sumTo_le hx hv 3
      have hmw : wrap64 (sgAt x.sg 3 * sgAt l 3) = sgAt x.sg 3 * sgAt l 3 := by unfold wrap64; omega
      have hL : Hid (sumTo x.sg l (3 + 1) = sumTo x.sg l 3 + sgAt x.sg 3 * sgAt l 3) := rfl
      have hlo : -4000 ≤ sumTo x.sg l 3 := by omega
      have hhi : sumTo x.sg l 3 ≤ 4000 := by omega
      clear hs
      generalize sumTo x.sg l 3 = sm at *
      go_wp2_with fail
      go_quiet (fail)
      go_wp2_with fail
      go_roundw
      case rel => obtain ⟨k', e⟩ := HW.out; exact ⟨3 + 1, _, by omega, rfl, by rw [hL.out], by rw [e]; exact drewN_two _ _ _⟩
      case measure => simp [intOf]
    · go_wp2_with fail
      go_ret
      refine ⟨rfl, ?_⟩
      obtain ⟨k', e⟩ := HW.out
      rw [e]
      exact below_drewN HB.out _

end Go.Proofs.YtffajooegiempabDoor

namespace Go.Proofs.YtffajooegiempabDoor
open Go.RowKit
variable {w : World} {m : Nat} {pv iv : Value} {L : List Int} {s : Ms} {F : List Ds}

set_option maxRecDepth 100000 in
set_option maxHeartbeats 1600000 in
theorem x_value (x : Ds) (hx : DsOk x) (h : At w m (mCells pv iv s) tM) (hi : Inp w m iv L) (ho : MsOk L s) (hL : L.length ≤ 9223372036854775807) :
    Calls Tryd.prog 89 #[.pointer (some ⟨m, 0, none⟩), dsv x] w fun e w' => e = .returned (.int .i64 (valP L x s).1) ∧ MPost m w pv iv ⟨(valP L x s).2, s.st, s.pt, s.v⟩ w' := by
  have hlt := h.lt
  have HB : Hid (∀ o, Below w.heap.size w (w.alloc o)) := fun o => (Below.refl _ _).alloc (Nat.le_refl _) _
  have HA : Hid (At w m _ tM) := h
  have HI : Hid (Inp w m iv L) := hi
  have HO : Hid (MsOk L s) := ho
  have HX : Hid (DsOk x) := hx
  cases ha : x.any
  · have HE : Hid (valP L x s = (sumTo x.sg s.v 4 + x.num, s.used)) := by show valP L x s = _; unfold valP; rw [ha]; rfl
    obtain ⟨c0, c1, c2, c3, c4, c5, c6, c7, c8, cf⟩ := mcells h
    have hsum := sumTo_le hx.sg ho.v 4
    obtain ⟨hn0, hn1⟩ := hx.num
    have HS : Hid (∀ w1, Below (w.heap.size + 1) (w.alloc (.cells (dsCells x) tDs)) w1 → Calls Tryd.prog 101 #[dsv x, vv s.v] w1 fun e w' => e = .returned (.int .i64 (sumTo x.sg s.v 4)) ∧ w'.cell? ⟨w.heap.size, 7, none⟩ = some (.int .i64 x.num) ∧ Hid (Below w.heap.size w w')) := by
      intro w1 hb1
      refine (x_sum x s.v HX.out.sg HO.out.v w1).mono ?_
      rintro e w2 ⟨rfl, hb2⟩
      have hsz := hb1.size
      simp at hsz
      refine ⟨rfl, ?_, ((HB.out _).trans (hb1.mono (by omega))).trans (hb2.mono (by omega))⟩
      rw [hb2.cell (by show w.heap.size < _; omega), hb1.cell (by show w.heap.size < _; omega), World.cell?_alloc_at _ _ _ _ rfl]
      rfl
    unfold dsv vv dsCells at *
    rw [ha] at *
    generalize sumTo x.sg s.v 4 = sm at *
    have e1 : -3996 ≤ sm := by omega
    have e2 : sm ≤ 3996 := by omega
    have hw : IntKind.i64.wrap (sm + x.num) = sm + x.num := by rw [IntKind.wrap_i64]; omega
    clear h hi ho hx hsum ha
    go_enter Tryd.func89, Tryd.ntmps89
    go_wp2_with fail
    go_region_with (go_at_call 101; refine (HS.out _ (by first | exact Below.refl _ _ | exact (Below.refl _ _).drew)).mono ?_; rintro e w1 ⟨rfl, hN, hB⟩)
    all_goals
      go_wp2_with fail
      go_ret
      refine ⟨by rw [HE.out]; first | rfl | (show Ending.returned (Value.int .i64 (IntKind.i64.wrap (sm + x.num))) = _; rw [hw]), ?_, ?_⟩
      · rw [HE.out]; exact HA.out.keep hB.out hlt
      · exact Onl.of hB.out m
  · have HE : Hid (valP L x s = (clampI (inP L s.used).1, (inP L s.used).2)) := by show valP L x s = _; unfold valP; rw [ha]; rfl
    have HIn : Hid (∀ w', Below w.heap.size w w' → Calls Tryd.prog 99 #[.pointer (some ⟨m, 0, none⟩)] w' fun e w2 => e = .returned (.int .i64 (inP L s.used).1) ∧ MPost m w' pv iv ⟨(inP L s.used).2, s.st, s.pt, s.v⟩ w2) :=
      fun w' hb => x_input (HA.out.keep hb hlt) (HI.out.keep ⟨hb.os, hb.tape, hb.output, hb.size, fun k hk => hb.block k (by omega)⟩) HO.out.used hL
    unfold dsv at *
    rw [ha] at *
    generalize inP L s.used = y at *
    clear h hi ho hx ha
    go_enter Tryd.func89, Tryd.ntmps89
    go_wp2_with fail
    refine (HIn.out _ (HB.out _)).mono ?_
    rintro e w2 ⟨rfl, hat, hb2⟩
    have HA2 : Hid (At w2 m _ tM) := hat
    clear hat
    go_wp2_with fail
    refine (x_clamp _ _).mono ?_
    rintro e w3 ⟨rfl, rfl⟩
    go_wp2_with fail
    go_ret
    refine ⟨by rw [HE.out]; rfl, ?_, ?_⟩
    · rw [HE.out]; exact HA2.out
    · exact (Onl.of (HB.out _) m).trans hb2

end Go.Proofs.YtffajooegiempabDoor

namespace Go.Proofs.YtffajooegiempabDoor
open Go.RowKit
variable {w : World} {m : Nat} {pv iv : Value} {L : List Int} {s : Ms} {F : List Ds}

set_option maxRecDepth 100000 in
set_option maxHeartbeats 1600000 in
theorem x_holds (x : Ds) (hx : DsOk x) (h : At w m (mCells pv iv s) tM) (hi : Inp w m iv L) (ho : MsOk L s) (hL : L.length ≤ 9223372036854775807) :
    Calls Tryd.prog 91 #[.pointer (some ⟨m, 0, none⟩), dsv x] w fun e w' => e = .returned (.bool (holP L x s).1) ∧ MPost m w pv iv ⟨(holP L x s).2, s.st, s.pt, s.v⟩ w' := by
  have hlt := h.lt
  have HB : Hid (∀ o, Below w.heap.size w (w.alloc o)) := fun o => (Below.refl _ _).alloc (Nat.le_refl _) _
  have HA : Hid (At w m _ tM) := h
  have HI : Hid (Inp w m iv L) := hi
  have HO : Hid (MsOk L s) := ho
  have HX : Hid (DsOk x) := hx
  cases ha : x.any
  · have HE : Hid (holP L x s = (decide (sumTo x.sg s.v 4 ≤ x.num), s.used)) := by show holP L x s = _; unfold holP; rw [ha]; rfl
    obtain ⟨c0, c1, c2, c3, c4, c5, c6, c7, c8, cf⟩ := mcells h
    have hsum := sumTo_le hx.sg ho.v 4
    obtain ⟨hn0, hn1⟩ := hx.num
    have HS : Hid (∀ w1, Below (w.heap.size + 1) (w.alloc (.cells (dsCells x) tDs)) w1 → Calls Tryd.prog 101 #[dsv x, vv s.v] w1 fun e w' => e = .returned (.int .i64 (sumTo x.sg s.v 4)) ∧ w'.cell? ⟨w.heap.size, 7, none⟩ = some (.int .i64 x.num) ∧ Hid (Below w.heap.size w w')) := by
      intro w1 hb1
      refine (x_sum x s.v HX.out.sg HO.out.v w1).mono ?_
      rintro e w2 ⟨rfl, hb2⟩
      have hsz := hb1.size
      simp at hsz
      refine ⟨rfl, ?_, ((HB.out _).trans (hb1.mono (by omega))).trans (hb2.mono (by omega))⟩
      rw [hb2.cell (by show w.heap.size < _; omega), hb1.cell (by show w.heap.size < _; omega), World.cell?_alloc_at _ _ _ _ rfl]
      rfl
    unfold dsv vv dsCells at *
    rw [ha] at *
    generalize sumTo x.sg s.v 4 = sm at *
    have e1 : -3996 ≤ sm := by omega
    have e2 : sm ≤ 3996 := by omega
    clear h hi ho hx hsum ha
    go_enter Tryd.func91, Tryd.ntmps91
    go_wp2_with fail
    go_region_with (go_at_call 101; refine (HS.out _ (by first | exact Below.refl _ _ | exact (Below.refl _ _).drew)).mono ?_; rintro e w1 ⟨rfl, hN, hB⟩)
    all_goals
      go_wp2_with fail
      go_ret
      refine ⟨by rw [HE.out]; rfl, ?_, ?_⟩
      · rw [HE.out]; exact HA.out.keep hB.out hlt
      · exact Onl.of hB.out m
  · have HE : Hid (holP L x s = ((inP L s.used).1 != 0, (inP L s.used).2)) := by show holP L x s = _; unfold holP; rw [ha]; rfl
    have HIn : Hid (∀ w', Below w.heap.size w w' → Calls Tryd.prog 99 #[.pointer (some ⟨m, 0, none⟩)] w' fun e w2 => e = .returned (.int .i64 (inP L s.used).1) ∧ MPost m w' pv iv ⟨(inP L s.used).2, s.st, s.pt, s.v⟩ w2) :=
      fun w' hb => x_input (HA.out.keep hb hlt) (HI.out.keep ⟨hb.os, hb.tape, hb.output, hb.size, fun k hk => hb.block k (by omega)⟩) HO.out.used hL
    unfold dsv at *
    rw [ha] at *
    generalize inP L s.used = y at *
    clear h hi ho hx ha
    go_enter Tryd.func91, Tryd.ntmps91
    go_wp2_with fail
    refine (HIn.out _ (HB.out _)).mono ?_
    rintro e w2 ⟨rfl, hat, hb2⟩
    have HA2 : Hid (At w2 m _ tM) := hat
    clear hat
    go_wp2_with fail
    go_ret
    refine ⟨by rw [HE.out]; rfl, ?_, ?_⟩
    · rw [HE.out]; exact HA2.out
    · exact (Onl.of (HB.out _) m).trans hb2

end Go.Proofs.YtffajooegiempabDoor

namespace Go.Proofs.YtffajooegiempabDoor
open Go.RowKit
variable {w : World} {m : Nat} {pv iv : Value} {L : List Int} {s : Ms} {F : List Ds}

set_option maxRecDepth 100000 in
set_option maxHeartbeats 800000 in
theorem x_enter (h : At w m (mCells pv iv s) tM) (hp : PAt w m pv F) (hl : F.length ≤ 20) (p : Int) :
    Calls Tryd.prog 44 #[.pointer (some ⟨m, 0, none⟩), .int .i64 p] w fun e w' => e = .returned (.tuple #[]) ∧ MPost m w pv iv (entP F.length s p) w' := by
  obtain ⟨c0, c1, c2, c3, c4, c5, c6, c7, c8, cf⟩ := mcells h
  obtain ⟨ao, cap, rfl, -⟩ := hp
  have hlt := h.lt
  have HA : Hid (At w m _ tM) := h
  by_cases hq : p = F.length
  · have HE : Hid (entP F.length s p = ⟨s.used, 1, p, s.v⟩) := by show entP _ _ _ = _; unfold entP; rw [if_pos hq]
    have hb : (p == (F.length : Int)) = true := by rw [beq_iff_eq]; exact hq
    clear h hq
    go_enter Tryd.func44, Tryd.ntmps44
    go_wp2_with fail
    refine (d_end _ F.length cap _ hl).mono ?_
    rintro e w2 ⟨rfl, o, rfl⟩
    go_wp2_with fail
    go_end0
    refine ⟨rfl, ?_, ?_⟩
    · rw [HE.out]
      exact ((HA.out.put 4 (.int .i64 p)).put 3 (.int .i64 1)).alloc o
    · exact (((Onl.refl m w).setCell _ _).setCell _ _).alloc _
  · have HE : Hid (entP F.length s p = ⟨s.used, s.st, p, s.v⟩) := by show entP _ _ _ = _; unfold entP; rw [if_neg hq]
    have hb : (p == (F.length : Int)) = false := by rw [beq_eq_false_iff_ne]; exact hq
    clear h hq
    go_enter Tryd.func44, Tryd.ntmps44
    go_wp2_with fail
    refine (d_end _ F.length cap _ hl).mono ?_
    rintro e w2 ⟨rfl, o, rfl⟩
    go_wp2_with fail
    go_end0
    refine ⟨rfl, ?_, ?_⟩
    · rw [HE.out]
      exact (HA.out.put 4 (.int .i64 p)).alloc o
    · exact ((Onl.refl m w).setCell _ _).alloc _

/-- What a program in memory keeps to. -/
structure FOk (F : List Ds) : Prop where
  len : F.length ≤ 20
  par : ∀ (k : Nat) (x : Ds), F[k]? = some x → -1 ≤ x.parent ∧ x.parent < (k : Int)
  ds : ∀ (k : Nat) (x : Ds), F[k]? = some x → DsOk x

set_option maxRecDepth 100000 in
set_option maxHeartbeats 1600000 in
theorem x_leave (h : At w m (mCells pv iv s) tM) (hp : PAt w m pv F) (hF : FOk F) (h0 : 0 ≤ s.pt) (h1 : s.pt < F.length) (way : Int) :
    Calls Tryd.prog 90 #[.pointer (some ⟨m, 0, none⟩), .int .i64 way] w fun e w' => e = .returned (.tuple #[]) ∧ MPost m w pv iv (leaP F s way) w' := by
  obtain ⟨c0, c1, c2, c3, c4, c5, c6, c7, c8, cf⟩ := mcells h
  have HP : Hid (PAt w m pv F) := hp
  obtain ⟨ao, cap, hpv, hg⟩ := hp
  obtain ⟨g, rfl, hgm, hrow⟩ := hg (by omega)
  have hlt := h.lt
  have HA : Hid (At w m _ tM) := h
  have HF : Hid (FOk F) := hF
  have HR : Hid (PRow w g F) := hrow
  obtain ⟨k, hk⟩ : ∃ k : Nat, s.pt = k := ⟨s.pt.toNat, by omega⟩
  have hkl : k < F.length := by omega
  have HN : Hid (∀ w1, Below w.heap.size w w1 → Calls Tryd.prog 34 #[.agg #[.slice (some ⟨g, 0, none⟩) F.length cap], .int .i64 (k : Int), .int .i64 way] w1 fun e w' => e = .returned (.tuple #[.int .i64 (nextP F k way).1, .int .i64 (nextP F k way).2]) ∧ Hid (Below w.heap.size w w')) := by
    intro w1 hb1
    refine (d_next_in (HR.out.keep hb1) HF.out.len HF.out.par k hkl way).mono ?_
    rintro e w2 ⟨rfl, hb2⟩
    exact ⟨rfl, hb1.trans (hb2.mono hb1.size)⟩
  have HE0 : Hid (leaP F s way = if (nextP F k way).2 = 0 then entP F.length s (nextP F k way).1 else s) := by show leaP F s way = _; unfold leaP; rw [hk]
  have HEn : Hid (∀ w1 p, Below w.heap.size w w1 → Calls Tryd.prog 44 #[.pointer (some ⟨m, 0, none⟩), .int .i64 p] w1 fun e w' => e = .returned (.tuple #[]) ∧ MPost m w1 pv iv (entP F.length s p) w') := by
    intro w1 p hb1
    exact x_enter (HA.out.keep hb1 hlt) (HP.out.keep (hb1.mono (by omega))) HF.out.len p
  rw [hpv] at c0
  rw [hk] at c4
  generalize nextP F k way = nx at *
  obtain ⟨n1, n2⟩ := nx
  simp only at HE0 HN
  clear h hrow hg hF
  by_cases hz : n2 = 0
  · subst hz
    have HE : Hid (leaP F s way = entP F.length s n1) := HE0.out.trans (if_pos rfl)
    clear HE0
    go_enter Tryd.func90, Tryd.ntmps90
    go_wp2_with fail
    go_region_with (go_at_call 34; refine (HN.out _ (by first | exact Below.refl _ _ | exact (Below.refl _ _).drew)).mono ?_; rintro e w1 ⟨rfl, hB⟩)
    all_goals
      go_wp2_with fail
      refine (HEn.out _ _ hB.out).mono ?_
      rintro e w2 ⟨rfl, hat, hb2⟩
      have HA2 : Hid (At w2 m _ tM) := hat
      clear hat
      go_wp2_with fail
      go_end0
      exact ⟨rfl, by rw [HE.out]; exact HA2.out, (Onl.of hB.out m).trans hb2⟩
  · have hz' : (n2 == 0) = false := by simpa using hz
    have HE : Hid (leaP F s way = s) := HE0.out.trans (if_neg hz)
    clear HE0
    go_enter Tryd.func90, Tryd.ntmps90
    go_wp2_with fail
    go_region_with (go_at_call 34; refine (HN.out _ (by first | exact Below.refl _ _ | exact (Below.refl _ _).drew)).mono ?_; rintro e w1 ⟨rfl, hB⟩)
    all_goals
      go_wp2_with fail
      go_end0
      exact ⟨rfl, by rw [HE.out]; exact HA.out.keep hB.out hlt, Onl.of hB.out m⟩

end Go.Proofs.YtffajooegiempabDoor

namespace Go.Proofs.YtffajooegiempabDoor
open Go.RowKit
variable {w : World} {m : Nat} {pv iv : Value} {L : List Int} {s : Ms} {F : List Ds}

/-- A machine of a run, as it lies in memory. -/
structure MRep (w : World) (m : Nat) (pv iv : Value) (F : List Ds) (L : List Int) (s : Ms) : Prop where
  at_ : At w m (mCells pv iv s) tM
  prog : PAt w m pv F
  inp : Inp w m iv L
  ok : MsOk L s
theorem MRep.next (h : MRep w m pv iv F L s) {w' : World} {s' : Ms} (ha : At w' m (mCells pv iv s') tM) (ho : Onl m w w') (hk : MsOk L s') : MRep w' m pv iv F L s' :=
  have hb : Below m w w' := ho.below (Nat.le_refl _) (Nat.le_of_lt h.at_.lt)
  ⟨ha, h.prog.keep hb, h.inp.keep hb, hk⟩
theorem MRep.same (h : MRep w m pv iv F L s) {w' : World} (ho : Below w.heap.size w w') : MRep w' m pv iv F L s :=
  have hb : Below m w w' := ho.mono (Nat.le_of_lt h.at_.lt)
  ⟨h.at_.keep ho h.at_.lt, h.prog.keep hb, h.inp.keep hb, h.ok⟩

theorem box_cells (w : World) (x : Ds) : At (w.alloc (.cells #[.int .i64 x.kind, .int .i64 x.target, .bool x.any, .int .i64 (sgAt x.sg 0), .int .i64 (sgAt x.sg 1), .int .i64 (sgAt x.sg 2), .int .i64 (sgAt x.sg 3), .int .i64 x.num, .int .i64 x.parent, .int .i64 x.block] tDs)) w.heap.size (dsCells x) tDs := At.new _ _ _

/-- The values behind an assignment. -/
theorem mCells_set (pv iv : Value) (s : Ms) (hl : s.v.length = 4) (t : Nat) (ht : t < 4) (y : Int) (u : Nat) : (mCells pv iv ⟨u, s.st, s.pt, s.v⟩).setIfInBounds (5 + t) (.int .i64 y) = mCells pv iv ⟨u, s.st, s.pt, s.v.set t y⟩ := by
  unfold mCells
  simp only [sgAt_set _ _ _ _ (show t < s.v.length by omega)]
  rcases (show t = 0 ∨ t = 1 ∨ t = 2 ∨ t = 3 by omega) with rfl | rfl | rfl | rfl <;> rfl

set_option maxRecDepth 100000 in
set_option maxHeartbeats 1600000 in
theorem x_assign (x : Ds) (hx : DsOk x) (h : MRep w m pv iv F L s) (hF : FOk F) (hL : L.length ≤ 9223372036854775807) (h0 : 0 ≤ s.pt) (h1 : s.pt < F.length) :
    Calls Tryd.prog 74 #[.pointer (some ⟨m, 0, none⟩), dsv x] w fun e w' => e = .returned (.tuple #[]) ∧ MPost m w pv iv (asgP F L x s) w' := by
  have hlt := h.at_.lt
  have HM : Hid (MRep w m pv iv F L s) := h
  have HX : Hid (DsOk x) := hx
  have HF : Hid (FOk F) := hF
  have HB : Hid (∀ o, Below w.heap.size w (w.alloc o)) := fun o => (Below.refl _ _).alloc (Nat.le_refl _) _
  obtain ⟨kd, tg, an, sg, nm, pa, bl⟩ := x
  have HV : Hid (∀ o, Calls Tryd.prog 89 #[.pointer (some ⟨m, 0, none⟩), dsv ⟨kd, tg, an, sg, nm, pa, bl⟩] (w.alloc o) fun e w' => e = .returned (.int .i64 (valP L ⟨kd, tg, an, sg, nm, pa, bl⟩ s).1) ∧ Hid (MPost m (w.alloc o) pv iv ⟨(valP L ⟨kd, tg, an, sg, nm, pa, bl⟩ s).2, s.st, s.pt, s.v⟩ w')) := fun o =>
    have h' := HM.out.same (HB.out o)
    x_value ⟨kd, tg, an, sg, nm, pa, bl⟩ HX.out h'.at_ h'.inp h'.ok hL
  have HU : Hid ((valP L ⟨kd, tg, an, sg, nm, pa, bl⟩ s).2 ≤ L.length) := valP_used h.ok
  have HE0 : Hid (asgP F L ⟨kd, tg, an, sg, nm, pa, bl⟩ s = if 999 < (valP L ⟨kd, tg, an, sg, nm, pa, bl⟩ s).1 ∨ (valP L ⟨kd, tg, an, sg, nm, pa, bl⟩ s).1 < -999 then ⟨(valP L ⟨kd, tg, an, sg, nm, pa, bl⟩ s).2, 2, s.pt, s.v⟩ else leaP F ⟨(valP L ⟨kd, tg, an, sg, nm, pa, bl⟩ s).2, s.st, s.pt, s.v.set tg.toNat (valP L ⟨kd, tg, an, sg, nm, pa, bl⟩ s).1⟩ 0) := rfl
  have HBox := (show Hid (At _ _ _ _) from box_cells w ⟨kd, tg, an, sg, nm, pa, bl⟩)
  have ht := hx.tg
  unfold dsv at *
  simp only at ht HBox HV ⊢
  generalize valP L ⟨kd, tg, an, sg, nm, pa, bl⟩ s = y at *
  obtain ⟨y, u⟩ := y
  simp only at HE0 HV HU
  clear h hF hx
  obtain ⟨ht0, ht3⟩ := ht
  by_cases hov : 999 < y ∨ y < -999
  · have HE : Hid (_ = _) := HE0.out.trans (if_pos hov)
    have hd : (decide (999 < y) || decide (y < -999)) = true := by simpa using hov
    clear HE0
    rcases hov with hov | hov
    all_goals
      go_enter Tryd.func74, Tryd.ntmps74
      go_wp2_with fail
      refine (HV.out _).mono ?_
      rintro e w1 ⟨rfl, hp⟩
      obtain ⟨c0, c1, c2, c3, c4, c5, c6, c7, c8, cf⟩ := mcells hp.out.1
      have hl1 := hp.out.1.lt
      go_wp2_with fail
      try simp only [Exit.inBlock, Exit.then]
      refine bodyPost_ret (results_none rfl _ _ _) rfl ?_
      exact ⟨rfl, by rw [HE.out]; exact hp.out.1.put 3 _, ((Onl.of (HB.out _) m).trans hp.out.2).setCell _ _⟩
  · have HE1 : Hid (_ = _) := HE0.out.trans (if_neg hov)
    have hy0 : ¬ 999 < y := fun e => hov (.inl e)
    have hy1 : ¬ y < -999 := fun e => hov (.inr e)
    clear HE0 hov
    have HLv : Hid (∀ (t : Nat), t < 4 → ∀ w1, MRep w1 m pv iv F L ⟨u, s.st, s.pt, s.v⟩ → ∀ w2, w2 = (w1.setCell ⟨m, 5 + t, none⟩ (.int .i64 y)).drew → Calls Tryd.prog 90 #[.pointer (some ⟨m, 0, none⟩), .int .i64 0] w2 fun e w' => e = .returned (.tuple #[]) ∧ Hid (MPost m w1 pv iv (leaP F ⟨u, s.st, s.pt, s.v.set t y⟩ 0) w')) := by
      intro t ht w1 h1' w2 hw2
      have hat := h1'.at_.put (5 + t) (.int .i64 y)
      rw [mCells_set pv iv s HM.out.ok.len t ht y u] at hat
      have hat : At w2 m (mCells pv iv ⟨u, s.st, s.pt, s.v.set t y⟩) tM := by rw [hw2]; exact hat
      have ho : Onl m w1 w2 := by rw [hw2]; exact ((Onl.refl m w1).setCell (5 + t) (.int .i64 y)).drewN 1
      have hok : MsOk L ⟨u, s.st, s.pt, s.v.set t y⟩ := by
        refine ⟨by simp only [List.length_set]; exact HM.out.ok.len, fun i => ?_, HU.out⟩
        have hl := HM.out.ok.len
        simp only
        rw [sgAt_set _ _ _ _ (by omega)]
        split
        · omega
        · exact HM.out.ok.v i
      have h2 := h1'.next hat ho hok
      refine (x_leave h2.at_ h2.prog HF.out h0 h1 0).mono ?_
      rintro e w3 ⟨rfl, ha, ho3⟩
      exact ⟨rfl, ha, ho.trans ho3⟩
    have HMu : Hid (∀ o w1, MPost m (w.alloc o) pv iv ⟨u, s.st, s.pt, s.v⟩ w1 → MRep w1 m pv iv F L ⟨u, s.st, s.pt, s.v⟩) := fun o w1 hp => (HM.out.same (HB.out o)).next hp.1 hp.2 ⟨HM.out.ok.len, HM.out.ok.v, HU.out⟩
    rcases (show tg = 0 ∨ tg = 1 ∨ tg = 2 ∨ tg = 3 by omega) with rfl | rfl | rfl | rfl
    · have HE : Hid (asgP F L ⟨kd, 0, an, sg, nm, pa, bl⟩ s = leaP F ⟨u, s.st, s.pt, s.v.set 0 y⟩ 0) := HE1.out
      clear HE1
      go_enter Tryd.func74, Tryd.ntmps74
      go_wp2_with fail
      refine (HV.out _).mono ?_
      rintro e w1 ⟨rfl, hp⟩
      obtain ⟨c0, c1, c2, c3, c4, c5, c6, c7, c8, cf⟩ := mcells hp.out.1
      have hl1 := hp.out.1.lt
      have b1 : w1.cell? ⟨w.heap.size, 1, none⟩ = some (.int .i64 0) := by
        rw [hp.out.2.cell (by simp) (by omega)]
        exact HBox.out.cell 1
      go_wp2_with fail
      go_region
      all_goals
        go_wp2_with fail
        refine (HLv.out 0 (by omega) w1 (HMu.out _ _ hp.out) _ rfl).mono ?_
        rintro e w2 ⟨rfl, hp2⟩
        go_wp2_with fail
        go_end0
        exact ⟨rfl, by rw [HE.out]; exact hp2.out.1, ((Onl.of (HB.out _) m).trans hp.out.2).trans hp2.out.2⟩
    · have HE : Hid (asgP F L ⟨kd, 1, an, sg, nm, pa, bl⟩ s = leaP F ⟨u, s.st, s.pt, s.v.set 1 y⟩ 0) := HE1.out
      clear HE1
      go_enter Tryd.func74, Tryd.ntmps74
      go_wp2_with fail
      refine (HV.out _).mono ?_
      rintro e w1 ⟨rfl, hp⟩
      obtain ⟨c0, c1, c2, c3, c4, c5, c6, c7, c8, cf⟩ := mcells hp.out.1
      have hl1 := hp.out.1.lt
      have b1 : w1.cell? ⟨w.heap.size, 1, none⟩ = some (.int .i64 1) := by
        rw [hp.out.2.cell (by simp) (by omega)]
        exact HBox.out.cell 1
      go_wp2_with fail
      go_region
      all_goals
        go_wp2_with fail
        refine (HLv.out 1 (by omega) w1 (HMu.out _ _ hp.out) _ rfl).mono ?_
        rintro e w2 ⟨rfl, hp2⟩
        go_wp2_with fail
        go_end0
        exact ⟨rfl, by rw [HE.out]; exact hp2.out.1, ((Onl.of (HB.out _) m).trans hp.out.2).trans hp2.out.2⟩
    · have HE : Hid (asgP F L ⟨kd, 2, an, sg, nm, pa, bl⟩ s = leaP F ⟨u, s.st, s.pt, s.v.set 2 y⟩ 0) := HE1.out
      clear HE1
      go_enter Tryd.func74, Tryd.ntmps74
      go_wp2_with fail
      refine (HV.out _).mono ?_
      rintro e w1 ⟨rfl, hp⟩
      obtain ⟨c0, c1, c2, c3, c4, c5, c6, c7, c8, cf⟩ := mcells hp.out.1
      have hl1 := hp.out.1.lt
      have b1 : w1.cell? ⟨w.heap.size, 1, none⟩ = some (.int .i64 2) := by
        rw [hp.out.2.cell (by simp) (by omega)]
        exact HBox.out.cell 1
      go_wp2_with fail
      go_region
      all_goals
        go_wp2_with fail
        refine (HLv.out 2 (by omega) w1 (HMu.out _ _ hp.out) _ rfl).mono ?_
        rintro e w2 ⟨rfl, hp2⟩
        go_wp2_with fail
        go_end0
        exact ⟨rfl, by rw [HE.out]; exact hp2.out.1, ((Onl.of (HB.out _) m).trans hp.out.2).trans hp2.out.2⟩
    · have HE : Hid (asgP F L ⟨kd, 3, an, sg, nm, pa, bl⟩ s = leaP F ⟨u, s.st, s.pt, s.v.set 3 y⟩ 0) := HE1.out
      clear HE1
      go_enter Tryd.func74, Tryd.ntmps74
      go_wp2_with fail
      refine (HV.out _).mono ?_
      rintro e w1 ⟨rfl, hp⟩
      obtain ⟨c0, c1, c2, c3, c4, c5, c6, c7, c8, cf⟩ := mcells hp.out.1
      have hl1 := hp.out.1.lt
      have b1 : w1.cell? ⟨w.heap.size, 1, none⟩ = some (.int .i64 3) := by
        rw [hp.out.2.cell (by simp) (by omega)]
        exact HBox.out.cell 1
      go_wp2_with fail
      go_region
      all_goals
        go_wp2_with fail
        refine (HLv.out 3 (by omega) w1 (HMu.out _ _ hp.out) _ rfl).mono ?_
        rintro e w2 ⟨rfl, hp2⟩
        go_wp2_with fail
        go_end0
        exact ⟨rfl, by rw [HE.out]; exact hp2.out.1, ((Onl.of (HB.out _) m).trans hp.out.2).trans hp2.out.2⟩

end Go.Proofs.YtffajooegiempabDoor

namespace Go.Proofs.YtffajooegiempabDoor
open Go.RowKit
variable {w : World} {m : Nat} {pv iv : Value} {L : List Int} {s : Ms} {F : List Ds}

set_option maxRecDepth 100000 in
set_option maxHeartbeats 1600000 in
theorem x_assert (x : Ds) (hx : DsOk x) (h : MRep w m pv iv F L s) (hF : FOk F) (hL : L.length ≤ 9223372036854775807) (h0 : 0 ≤ s.pt) (h1 : s.pt < F.length) :
    Calls Tryd.prog 75 #[.pointer (some ⟨m, 0, none⟩), dsv x] w fun e w' => e = .returned (.tuple #[]) ∧ MPost m w pv iv (astP F L x s) w' := by
  have hlt := h.at_.lt
  have HM : Hid (MRep w m pv iv F L s) := h
  have HX : Hid (DsOk x) := hx
  have HF : Hid (FOk F) := hF
  have HB : Hid (∀ o, Below w.heap.size w (w.alloc o)) := fun o => (Below.refl _ _).alloc (Nat.le_refl _) _
  have HV : Hid (∀ o, Calls Tryd.prog 91 #[.pointer (some ⟨m, 0, none⟩), dsv x] (w.alloc o) fun e w' => e = .returned (.bool (holP L x s).1) ∧ Hid (MPost m (w.alloc o) pv iv ⟨(holP L x s).2, s.st, s.pt, s.v⟩ w')) := fun o =>
    have h' := HM.out.same (HB.out o)
    x_holds x HX.out h'.at_ h'.inp h'.ok hL
  have HU : Hid ((holP L x s).2 ≤ L.length) := holP_used h.ok
  have HE0 : Hid (astP F L x s = if (holP L x s).1 = true then leaP F ⟨(holP L x s).2, s.st, s.pt, s.v⟩ 0 else ⟨(holP L x s).2, 3, s.pt, s.v⟩) := rfl
  unfold dsv at *
  generalize holP L x s = y at *
  obtain ⟨y, u⟩ := y
  simp only at HE0 HV HU
  clear h hF hx
  cases y
  · have HE : Hid (_ = _) := HE0.out.trans (if_neg (by decide))
    clear HE0
    go_enter Tryd.func75, Tryd.ntmps75
    go_wp2_with fail
    refine (HV.out _).mono ?_
    rintro e w1 ⟨rfl, hp⟩
    obtain ⟨c0, c1, c2, c3, c4, c5, c6, c7, c8, cf⟩ := mcells hp.out.1
    have hl1 := hp.out.1.lt
    go_wp2_with fail
    try simp only [Exit.inBlock, Exit.then]
    refine bodyPost_ret (results_none rfl _ _ _) rfl ?_
    exact ⟨rfl, by rw [HE.out]; exact hp.out.1.put 3 _, ((Onl.of (HB.out _) m).trans hp.out.2).setCell _ _⟩
  · have HE : Hid (_ = _) := HE0.out.trans (if_pos rfl)
    clear HE0
    have HLv : Hid (∀ o w1 (way : Int), MPost m (w.alloc o) pv iv ⟨u, s.st, s.pt, s.v⟩ w1 → Calls Tryd.prog 90 #[.pointer (some ⟨m, 0, none⟩), .int .i64 way] w1 fun e w' => e = .returned (.tuple #[]) ∧ Hid (MPost m w pv iv (leaP F ⟨u, s.st, s.pt, s.v⟩ way) w')) := by
      intro o w1 way hp
      have h2 := (HM.out.same (HB.out o)).next hp.1 hp.2 ⟨HM.out.ok.len, HM.out.ok.v, HU.out⟩
      refine (x_leave h2.at_ h2.prog HF.out h0 h1 way).mono ?_
      rintro e w3 ⟨rfl, ha, ho3⟩
      exact ⟨rfl, ha, ((Onl.of (HB.out o) m).trans hp.2).trans ho3⟩
    go_enter Tryd.func75, Tryd.ntmps75
    go_wp2_with fail
    refine (HV.out _).mono ?_
    rintro e w1 ⟨rfl, hp⟩
    go_wp2_with fail
    refine (HLv.out _ _ 0 hp.out).mono ?_
    rintro e w2 ⟨rfl, hp2⟩
    go_wp2_with fail
    go_end0
    exact ⟨rfl, by rw [HE.out]; exact hp2.out.1, hp2.out.2⟩

set_option maxRecDepth 100000 in
set_option maxHeartbeats 1600000 in
theorem x_branch (x : Ds) (hx : DsOk x) (h : MRep w m pv iv F L s) (hF : FOk F) (hL : L.length ≤ 9223372036854775807) (h0 : 0 ≤ s.pt) (h1 : s.pt < F.length) :
    Calls Tryd.prog 76 #[.pointer (some ⟨m, 0, none⟩), dsv x] w fun e w' => e = .returned (.tuple #[]) ∧ MPost m w pv iv (braP F L x s) w' := by
  have hlt := h.at_.lt
  have HM : Hid (MRep w m pv iv F L s) := h
  have HX : Hid (DsOk x) := hx
  have HF : Hid (FOk F) := hF
  have HB : Hid (∀ o, Below w.heap.size w (w.alloc o)) := fun o => (Below.refl _ _).alloc (Nat.le_refl _) _
  have HV : Hid (∀ o, Calls Tryd.prog 91 #[.pointer (some ⟨m, 0, none⟩), dsv x] (w.alloc o) fun e w' => e = .returned (.bool (holP L x s).1) ∧ Hid (MPost m (w.alloc o) pv iv ⟨(holP L x s).2, s.st, s.pt, s.v⟩ w')) := fun o =>
    have h' := HM.out.same (HB.out o)
    x_holds x HX.out h'.at_ h'.inp h'.ok hL
  have HU : Hid ((holP L x s).2 ≤ L.length) := holP_used h.ok
  have HE0 : Hid (braP F L x s = leaP F ⟨(holP L x s).2, s.st, s.pt, s.v⟩ (if (holP L x s).1 = true then 0 else 1)) := rfl
  unfold dsv at *
  generalize holP L x s = y at *
  obtain ⟨y, u⟩ := y
  simp only at HE0 HV HU
  clear h hF hx
  have HLv : Hid (∀ o w1 (way : Int), MPost m (w.alloc o) pv iv ⟨u, s.st, s.pt, s.v⟩ w1 → Calls Tryd.prog 90 #[.pointer (some ⟨m, 0, none⟩), .int .i64 way] w1 fun e w' => e = .returned (.tuple #[]) ∧ Hid (MPost m w pv iv (leaP F ⟨u, s.st, s.pt, s.v⟩ way) w')) := by
    intro o w1 way hp
    have h2 := (HM.out.same (HB.out o)).next hp.1 hp.2 ⟨HM.out.ok.len, HM.out.ok.v, HU.out⟩
    refine (x_leave h2.at_ h2.prog HF.out h0 h1 way).mono ?_
    rintro e w3 ⟨rfl, ha, ho3⟩
    exact ⟨rfl, ha, ((Onl.of (HB.out o) m).trans hp.2).trans ho3⟩
  cases y
  · have HE : Hid (braP F L x s = leaP F ⟨u, s.st, s.pt, s.v⟩ 1) := HE0.out
    clear HE0
    go_enter Tryd.func76, Tryd.ntmps76
    go_wp2_with fail
    refine (HV.out _).mono ?_
    rintro e w1 ⟨rfl, hp⟩
    go_wp2_with fail
    refine (HLv.out _ _ 1 hp.out).mono ?_
    rintro e w2 ⟨rfl, hp2⟩
    go_wp2_with fail
    go_end0
    exact ⟨rfl, by rw [HE.out]; exact hp2.out.1, hp2.out.2⟩
  · have HE : Hid (braP F L x s = leaP F ⟨u, s.st, s.pt, s.v⟩ 0) := HE0.out
    clear HE0
    go_enter Tryd.func76, Tryd.ntmps76
    go_wp2_with fail
    refine (HV.out _).mono ?_
    rintro e w1 ⟨rfl, hp⟩
    go_wp2_with fail
    refine (HLv.out _ _ 0 hp.out).mono ?_
    rintro e w2 ⟨rfl, hp2⟩
    go_wp2_with fail
    go_end0
    exact ⟨rfl, by rw [HE.out]; exact hp2.out.1, hp2.out.2⟩

end Go.Proofs.YtffajooegiempabDoor

namespace Go.Proofs.YtffajooegiempabDoor
open Go.RowKit
variable {w : World} {m : Nat} {pv iv : Value} {L : List Int} {s : Ms} {F : List Ds}

theorem below10 {w w1 : World} (h : Below w.heap.size w w1) (v0 v1 v2 v3 v4 v5 v6 v7 v8 v9 : Value) : Below w.heap.size w ((((((((((w1.setCell ⟨w.heap.size, 0, none⟩ v0).setCell ⟨w.heap.size, 1, none⟩ v1).setCell ⟨w.heap.size, 2, none⟩ v2).setCell ⟨w.heap.size, 3, none⟩ v3).setCell ⟨w.heap.size, 4, none⟩ v4).setCell ⟨w.heap.size, 5, none⟩ v5).setCell ⟨w.heap.size, 6, none⟩ v6).setCell ⟨w.heap.size, 7, none⟩ v7).setCell ⟨w.heap.size, 8, none⟩ v8).setCell ⟨w.heap.size, 9, none⟩ v9) := (Below.setCell (p := ⟨w.heap.size, 9, none⟩) (Below.setCell (p := ⟨w.heap.size, 8, none⟩) (Below.setCell (p := ⟨w.heap.size, 7, none⟩) (Below.setCell (p := ⟨w.heap.size, 6, none⟩) (Below.setCell (p := ⟨w.heap.size, 5, none⟩) (Below.setCell (p := ⟨w.heap.size, 4, none⟩) (Below.setCell (p := ⟨w.heap.size, 3, none⟩) (Below.setCell (p := ⟨w.heap.size, 2, none⟩) (Below.setCell (p := ⟨w.heap.size, 1, none⟩) (Below.setCell (p := ⟨w.heap.size, 0, none⟩) h (Nat.le_refl w.heap.size) v0) (Nat.le_refl w.heap.size) v1) (Nat.le_refl w.heap.size) v2) (Nat.le_refl w.heap.size) v3) (Nat.le_refl w.heap.size) v4) (Nat.le_refl w.heap.size) v5) (Nat.le_refl w.heap.size) v6) (Nat.le_refl w.heap.size) v7) (Nat.le_refl w.heap.size) v8) (Nat.le_refl w.heap.size) v9)

set_option maxRecDepth 100000 in
set_option maxHeartbeats 1600000 in
theorem x_step (h : MRep w m pv iv F L s) (hF : FOk F) (hL : L.length ≤ 9223372036854775807) (h0 : 0 ≤ s.pt) (h1 : s.pt < F.length) :
    Calls Tryd.prog 45 #[.pointer (some ⟨m, 0, none⟩)] w fun e w' => e = .returned (.tuple #[]) ∧ MPost m w pv iv (stpP F L s) w' := by
  obtain ⟨c0, c1, c2, c3, c4, c5, c6, c7, c8, cf⟩ := mcells h.at_
  have hlt := h.at_.lt
  have HM : Hid (MRep w m pv iv F L s) := h
  have HF : Hid (FOk F) := hF
  obtain ⟨ao, cap, hpv, hg⟩ := h.prog
  obtain ⟨g, rfl, hgm, hrow⟩ := hg (by omega)
  obtain ⟨k, hk⟩ : ∃ k : Nat, s.pt = k := ⟨s.pt.toNat, by omega⟩
  have hkl : k < F.length := by omega
  have hki : (k : Int) < (F.length : Int) := by omega
  have HAt : Hid (∀ w1, Below w.heap.size w w1 → Calls Tryd.prog 32 #[.agg #[.slice (some ⟨g, 0, none⟩) F.length cap], .int .i64 (k : Int)] w1 fun e w' => e = .returned (.tuple #[dsv (F.getD k (newDs 0 0)), .int .i64 0]) ∧ Below w.heap.size w w') := fun w1 hb => (d_at_in (hrow.keep hb) k hkl).mono fun e w' h => ⟨h.1, hb.trans (h.2.mono hb.size)⟩
  have HAt2 : Calls Tryd.prog 32 #[.agg #[.slice (some ⟨g, 0, none⟩) F.length cap], .int .i64 (k : Int)] (w.alloc (.cells #[.int .i64 0, .int .i64 0, .bool false, .int .i64 0, .int .i64 0, .int .i64 0, .int .i64 0, .int .i64 0, .int .i64 0, .int .i64 0] tDs)).drew fun e w' => e = .returned (.tuple #[dsv (F.getD k (newDs 0 0)), .int .i64 0]) ∧ Hid (Below w.heap.size w w' ∧ At w' w.heap.size #[.int .i64 0, .int .i64 0, .bool false, .int .i64 0, .int .i64 0, .int .i64 0, .int .i64 0, .int .i64 0, .int .i64 0, .int .i64 0] tDs) := by
    have hb : Below w.heap.size w (w.alloc (.cells #[.int .i64 0, .int .i64 0, .bool false, .int .i64 0, .int .i64 0, .int .i64 0, .int .i64 0, .int .i64 0, .int .i64 0, .int .i64 0] tDs)).drew := ((Below.refl _ _).alloc (Nat.le_refl _) _).drew
    refine (d_at_in (hrow.keep hb) k hkl).mono ?_
    rintro e w' ⟨rfl, h⟩
    exact ⟨rfl, hb.trans (h.mono hb.size), At.keep (w := (w.alloc (.cells #[.int .i64 0, .int .i64 0, .bool false, .int .i64 0, .int .i64 0, .int .i64 0, .int .i64 0, .int .i64 0, .int .i64 0, .int .i64 0] tDs)).drew) (At.new w _ _) h (by show w.heap.size < (w.heap.push _).size; simp)⟩
  have HX : Hid (DsOk (F.getD k (newDs 0 0))) := hF.ds k _ (gets' hkl)
  have HE0 : Hid (stpP F L s = if (F.getD k (newDs 0 0)).kind = 0 then asgP F L (F.getD k (newDs 0 0)) s else if (F.getD k (newDs 0 0)).kind = 1 then astP F L (F.getD k (newDs 0 0)) s else braP F L (F.getD k (newDs 0 0)) s) := by
    show stpP F L s = _
    unfold stpP
    rw [if_neg (by omega), hk, Int.toNat_natCast]
  have hge : ¬ (F.length : Int) ≤ (k : Int) := by omega
  have hk0 : ¬ (k : Int) < 0 := by omega
  rw [hpv] at c0
  rw [hk] at c4
  generalize F.getD k (newDs 0 0) = x at *
  have hgs : g < w.heap.size := by omega
  clear h hrow hg hF c1 c2 c3 c5 c6 c7 c8
  by_cases k0 : x.kind = 0
  · have HE : Hid (_ = _) := HE0.out.trans (if_pos k0)
    clear HE0
    have HC : Hid (∀ w1, Below w.heap.size w w1 → Calls Tryd.prog 74 #[.pointer (some ⟨m, 0, none⟩), dsv x] w1 fun e w' => e = .returned (.tuple #[]) ∧ Hid (MPost m w pv iv (asgP F L x s) w')) := by
      intro w1 hb
      refine (x_assign x HX.out (HM.out.same hb) HF.out hL h0 h1).mono ?_
      rintro e w2 ⟨rfl, ha, ho⟩
      exact ⟨rfl, ha, (Onl.of hb m).trans ho⟩
    unfold dsv at HC HAt HAt2
    rw [k0] at HAt HAt2 HC
    clear k0
    go_enter Tryd.func45, Tryd.ntmps45
    go_wp2_with fail
    go_region_with (go_at_call 32; first
      | (refine (HAt.out _ (by exact (Below.refl _ _).drew)).mono ?_
         rintro e w1 ⟨rfl, hb1⟩
         have HW1 : Hid (Below w.heap.size w w1) := hb1
         have hl1 : m < w1.heap.size := Nat.lt_of_lt_of_le hlt HW1.out.size
         clear hb1)
      | (refine HAt2.mono ?_
         rintro e w1 ⟨rfl, hb1⟩
         have HW1 : Hid (Below w.heap.size w w1) := hb1.out.1
         have hl1 : m < w1.heap.size := Nat.lt_of_lt_of_le hlt HW1.out.size
         have hz := hb1.out.2
         have hl2 : w.heap.size < w1.heap.size := hz.lt
         have z0 := hz.cell 0
         have z1 := hz.cell 1
         have z2 := hz.cell 2
         have z3 := hz.cell 3
         have z4 := hz.cell 4
         have z5 := hz.cell 5
         have z6 := hz.cell 6
         have z7 := hz.cell 7
         have z8 := hz.cell 8
         have z9 := hz.cell 9
         have zf := hz.free
         simp at z0 z1 z2 z3 z4 z5 z6 z7 z8 z9
         clear hb1 hz))
    all_goals
      go_wp2_with fail
      refine (HC.out _ (by with_reducible (first | exact HW1.out.alloc HW1.out.size _ | exact below10 HW1.out _ _ _ _ _ _ _ _ _ _))).mono ?_
      rintro e w2 ⟨rfl, hp2⟩
      go_wp2_with fail
      go_end0
      exact ⟨rfl, by rw [HE.out]; exact hp2.out.1, hp2.out.2⟩
  by_cases k1 : x.kind = 1
  · have HE : Hid (_ = _) := (HE0.out.trans (if_neg k0)).trans (if_pos k1)
    clear HE0
    have HC : Hid (∀ w1, Below w.heap.size w w1 → Calls Tryd.prog 75 #[.pointer (some ⟨m, 0, none⟩), dsv x] w1 fun e w' => e = .returned (.tuple #[]) ∧ Hid (MPost m w pv iv (astP F L x s) w')) := by
      intro w1 hb
      refine (x_assert x HX.out (HM.out.same hb) HF.out hL h0 h1).mono ?_
      rintro e w2 ⟨rfl, ha, ho⟩
      exact ⟨rfl, ha, (Onl.of hb m).trans ho⟩
    unfold dsv at HC HAt HAt2
    rw [k1] at HAt HAt2 HC
    clear k0 k1
    go_enter Tryd.func45, Tryd.ntmps45
    go_wp2_with fail
    go_region_with (go_at_call 32; first
      | (refine (HAt.out _ (by exact (Below.refl _ _).drew)).mono ?_
         rintro e w1 ⟨rfl, hb1⟩
         have HW1 : Hid (Below w.heap.size w w1) := hb1
         have hl1 : m < w1.heap.size := Nat.lt_of_lt_of_le hlt HW1.out.size
         clear hb1)
      | (refine HAt2.mono ?_
         rintro e w1 ⟨rfl, hb1⟩
         have HW1 : Hid (Below w.heap.size w w1) := hb1.out.1
         have hl1 : m < w1.heap.size := Nat.lt_of_lt_of_le hlt HW1.out.size
         have hz := hb1.out.2
         have hl2 : w.heap.size < w1.heap.size := hz.lt
         have z0 := hz.cell 0
         have z1 := hz.cell 1
         have z2 := hz.cell 2
         have z3 := hz.cell 3
         have z4 := hz.cell 4
         have z5 := hz.cell 5
         have z6 := hz.cell 6
         have z7 := hz.cell 7
         have z8 := hz.cell 8
         have z9 := hz.cell 9
         have zf := hz.free
         simp at z0 z1 z2 z3 z4 z5 z6 z7 z8 z9
         clear hb1 hz))
    all_goals
      go_wp2_with fail
      refine (HC.out _ (by with_reducible (first | exact HW1.out.alloc HW1.out.size _ | exact below10 HW1.out _ _ _ _ _ _ _ _ _ _))).mono ?_
      rintro e w2 ⟨rfl, hp2⟩
      go_wp2_with fail
      go_end0
      exact ⟨rfl, by rw [HE.out]; exact hp2.out.1, hp2.out.2⟩
  · have HE : Hid (_ = _) := (HE0.out.trans (if_neg k0)).trans (if_neg k1)
    clear HE0
    have HC : Hid (∀ w1, Below w.heap.size w w1 → Calls Tryd.prog 76 #[.pointer (some ⟨m, 0, none⟩), dsv x] w1 fun e w' => e = .returned (.tuple #[]) ∧ Hid (MPost m w pv iv (braP F L x s) w')) := by
      intro w1 hb
      refine (x_branch x HX.out (HM.out.same hb) HF.out hL h0 h1).mono ?_
      rintro e w2 ⟨rfl, ha, ho⟩
      exact ⟨rfl, ha, (Onl.of hb m).trans ho⟩
    unfold dsv at HC HAt HAt2
    have q0 : (x.kind == 0) = false := by simpa using k0
    have q1 : (x.kind == 1) = false := by simpa using k1
    clear k0 k1
    go_enter Tryd.func45, Tryd.ntmps45
    go_wp2_with fail
    go_region_with (go_at_call 32; first
      | (refine (HAt.out _ (by exact (Below.refl _ _).drew)).mono ?_
         rintro e w1 ⟨rfl, hb1⟩
         have HW1 : Hid (Below w.heap.size w w1) := hb1
         have hl1 : m < w1.heap.size := Nat.lt_of_lt_of_le hlt HW1.out.size
         clear hb1)
      | (refine HAt2.mono ?_
         rintro e w1 ⟨rfl, hb1⟩
         have HW1 : Hid (Below w.heap.size w w1) := hb1.out.1
         have hl1 : m < w1.heap.size := Nat.lt_of_lt_of_le hlt HW1.out.size
         have hz := hb1.out.2
         have hl2 : w.heap.size < w1.heap.size := hz.lt
         have z0 := hz.cell 0
         have z1 := hz.cell 1
         have z2 := hz.cell 2
         have z3 := hz.cell 3
         have z4 := hz.cell 4
         have z5 := hz.cell 5
         have z6 := hz.cell 6
         have z7 := hz.cell 7
         have z8 := hz.cell 8
         have z9 := hz.cell 9
         have zf := hz.free
         simp at z0 z1 z2 z3 z4 z5 z6 z7 z8 z9
         clear hb1 hz))
    all_goals
      go_wp2_with fail
      refine (HC.out _ (by with_reducible (first | exact HW1.out.alloc HW1.out.size _ | exact below10 HW1.out _ _ _ _ _ _ _ _ _ _))).mono ?_
      rintro e w2 ⟨rfl, hp2⟩
      go_wp2_with fail
      go_end0
      exact ⟨rfl, by rw [HE.out]; exact hp2.out.1, hp2.out.2⟩

end Go.Proofs.YtffajooegiempabDoor

