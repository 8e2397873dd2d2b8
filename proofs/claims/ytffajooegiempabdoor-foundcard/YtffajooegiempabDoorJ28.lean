import Derived.Test.YtffajooegiempabDoorJ27
namespace Go.Proofs.YtffajooegiempabDoor
open Go.RowKit
variable {w : World} {m : Nat} {pv iv : Value} {L : List Int} {s : Ms} {F : List Ds}

/-- A machine of a run, as it lies in memory. -/
structure MRep (w : World) (m : Nat) (pv iv : Value) (F : List Ds) (L : List Int) (s : Ms) : Prop where
  at_ : At w m (mCells pv iv s) tM
  prog : PAt w m pv F
  inp : Inp w m iv L
  ok : MsOk L s
theorem MRep.next (h : MRep w m pv iv F L s) {w' : World} {s' : Ms} (ha : At w' m (mCells pv iv s') tM) (ho : Onl m w w') (hk : MsOk L s') : MRep w' m pv iv F L s' :=
  have hb : Below m w w' := ho.below (Nat.le_refl _) (Nat.le_of_lt h.at_.lt)
  ⟨ha, h.prog.keep hb, h.inp.keep hb, hk⟩
theorem MRep.same (h : MRep w m pv iv F L s) {w' : World} (ho : Below w.heap.size w w') : MRep w' m pv iv F L s :=
  have hb : Below m w w' := ho.mono (Nat.le_of_lt h.at_.lt)
  ⟨h.at_.keep ho h.at_.lt, h.prog.keep hb, h.inp.keep hb, h.ok⟩

theorem box_cells (w : World) (x : Ds) : At (w.alloc (.cells #[.int .i64 x.kind, .int .i64 x.target, .bool x.any, .int .i64 (sgAt x.sg 0), .int .i64 (sgAt x.sg 1), .int .i64 (sgAt x.sg 2), .int .i64 (sgAt x.sg 3), .int .i64 x.num, .int .i64 x.parent, .int .i64 x.block] tDs)) w.heap.size (dsCells x) tDs := At.new _ _ _

/-- The values behind an assignment. -/
theorem mCells_set (pv iv : Value) (s : Ms) (hl : s.v.length = 4) (t : Nat) (ht : t < 4) (y : Int) (u : Nat) : (mCells pv iv ⟨u, s.st, s.pt, s.v⟩).setIfInBounds (5 + t) (.int .i64 y) = mCells pv iv ⟨u, s.st, s.pt, s.v.set t y⟩ := by
  unfold mCells
  simp only [sgAt_set _ _ _ _ (show t < s.v.length by omega)]
  rcases (show t = 0 ∨ t = 1 ∨ t = 2 ∨ t = 3 by omega) with rfl | rfl | rfl | rfl <;> rfl

set_option maxRecDepth 100000 in
set_option maxHeartbeats 1600000 in
theorem x_assign (x : Ds) (hx : DsOk x) (h : MRep w m pv iv F L s) (hF : FOk F) (hL : L.length ≤ 9223372036854775807) (h0 : 0 ≤ s.pt) (h1 : s.pt < F.length) :
    Calls Tryd.prog 74 #[.pointer (some ⟨m, 0, none⟩), dsv x] w fun e w' => e = .returned (.tuple #[]) ∧ MPost m w pv iv (asgP F L x s) w' := by
  have hlt := h.at_.lt
  have HM : Hid (MRep w m pv iv F L s) := h
  have HX : Hid (DsOk x) := hx
  have HF : Hid (FOk F) := hF
  have HB : Hid (∀ o, Below w.heap.size w (w.alloc o)) := fun o => (Below.refl _ _).alloc (Nat.le_refl _) _
  obtain ⟨kd, tg, an, sg, nm, pa, bl⟩ := x
  have HV : Hid (∀ o, Calls Tryd.prog 89 #[.pointer (some ⟨m, 0, none⟩), dsv ⟨kd, tg, an, sg, nm, pa, bl⟩] (w.alloc o) fun e w' => e = .returned (.int .i64 (valP L ⟨kd, tg, an, sg, nm, pa, bl⟩ s).1) ∧ Hid (MPost m (w.alloc o) pv iv ⟨(valP L ⟨kd, tg, an, sg, nm, pa, bl⟩ s).2, s.st, s.pt, s.v⟩ w')) := fun o =>
    have h' := HM.out.same (HB.out o)
    x_value ⟨kd, tg, an, sg, nm, pa, bl⟩ HX.out h'.at_ h'.inp h'.ok hL
  have HU : Hid ((valP L ⟨kd, tg, an, sg, nm, pa, bl⟩ s).2 ≤ L.length) := valP_used h.ok
  have HE0 : Hid (asgP F L ⟨kd, tg, an, sg, nm, pa, bl⟩ s = if 999 < (valP L ⟨kd, tg, an, sg, nm, pa, bl⟩ s).1 ∨ (valP L ⟨kd, tg, an, sg, nm, pa, bl⟩ s).1 < -999 then ⟨(valP L ⟨kd, tg, an, sg, nm, pa, bl⟩ s).2, 2, s.pt, s.v⟩ else leaP F ⟨(valP L ⟨kd, tg, an, sg, nm, pa, bl⟩ s).2, s.st, s.pt, s.v.set tg.toNat (valP L ⟨kd, tg, an, sg, nm, pa, bl⟩ s).1⟩ 0) := rfl
  have HBox := (show Hid (At _ _ _ _) from box_cells w ⟨kd, tg, an, sg, nm, pa, bl⟩)
  have ht := hx.tg
  unfold dsv at *
  simp only at ht HBox HV ⊢
  generalize valP L ⟨kd, tg, an, sg, nm, pa, bl⟩ s = y at *
  obtain ⟨y, u⟩ := y
  simp only at HE0 HV HU
  clear h hF hx
  obtain ⟨ht0, ht3⟩ := ht
  by_cases hov : 999 < y ∨ y < -999
  · have HE : Hid (_ = _) := HE0.out.trans (if_pos hov)
    have hd : (decide (999 < y) || decide (y < -999)) = true := by simpa using hov
    clear HE0
    rcases hov with hov | hov
    all_goals
      go_enter Tryd.func74, Tryd.ntmps74
      go_wp2_with fail
      refine (HV.out _).mono ?_
      rintro e w1 ⟨rfl, hp⟩
      obtain ⟨c0, c1, c2, c3, c4, c5, c6, c7, c8, cf⟩ := mcells hp.out.1
      have hl1 := hp.out.1.lt
      go_wp2_with fail
      try simp only [Exit.inBlock, Exit.then]
      refine bodyPost_ret (results_none rfl _ _ _) rfl ?_
      exact ⟨rfl, by rw [HE.out]; exact hp.out.1.put 3 _, ((Onl.of (HB.out _) m).trans hp.out.2).setCell _ _⟩
  · have HE1 : Hid (_ = _) := HE0.out.trans (if_neg hov)
    have hy0 : ¬ 999 < y := fun e => hov (.inl e)
    have hy1 : ¬ y < -999 := fun e => hov (.inr e)
    clear HE0 hov
    have HLv : Hid (∀ (t : Nat), t < 4 → ∀ w1, MRep w1 m pv iv F L ⟨u, s.st, s.pt, s.v⟩ → ∀ w2, w2 = (w1.setCell ⟨m, 5 + t, none⟩ (.int .i64 y)).drew → Calls Tryd.prog 90 #[.pointer (some ⟨m, 0, none⟩), .int .i64 0] w2 fun e w' => e = .returned (.tuple #[]) ∧ Hid (MPost m w1 pv iv (leaP F ⟨u, s.st, s.pt, s.v.set t y⟩ 0) w')) := by
      intro t ht w1 h1' w2 hw2
      have hat := h1'.at_.put (5 + t) (.int .i64 y)
      rw [mCells_set pv iv s HM.out.ok.len t ht y u] at hat
      have hat : At w2 m (mCells pv iv ⟨u, s.st, s.pt, s.v.set t y⟩) tM := by rw [hw2]; exact hat
      have ho : Onl m w1 w2 := by rw [hw2]; exact ((Onl.refl m w1).setCell (5 + t) (.int .i64 y)).drewN 1
      have hok : MsOk L ⟨u, s.st, s.pt, s.v.set t y⟩ := by
        refine ⟨by simp only [List.length_set]; exact HM.out.ok.len, fun i => ?_, HU.out⟩
        have hl := HM.out.ok.len
        simp only
        rw [sgAt_set _ _ _ _ (by omega)]
        split
        · omega
        · exact HM.out.ok.v i
      have h2 := h1'.next hat ho hok
      refine (x_leave h2.at_ h2.prog HF.out h0 h1 0).mono ?_
      rintro e w3 ⟨rfl, ha, ho3⟩
      exact ⟨rfl, ha, ho.trans ho3⟩
    have HMu : Hid (∀ o w1, MPost m (w.alloc o) pv iv ⟨u, s.st, s.pt, s.v⟩ w1 → MRep w1 m pv iv F L ⟨u, s.st, s.pt, s.v⟩) := fun o w1 hp => (HM.out.same (HB.out o)).next hp.1 hp.2 ⟨HM.out.ok.len, HM.out.ok.v, HU.out⟩
    rcases (show tg = 0 ∨ tg = 1 ∨ tg = 2 ∨ tg = 3 by omega) with rfl | rfl | rfl | rfl
    · have HE : Hid (asgP F L ⟨kd, 0, an, sg, nm, pa, bl⟩ s = leaP F ⟨u, s.st, s.pt, s.v.set 0 y⟩ 0) := HE1.out
      clear HE1
      go_enter Tryd.func74, Tryd.ntmps74
      go_wp2_with fail
      refine (HV.out _).mono ?_
      rintro e w1 ⟨rfl, hp⟩
      obtain ⟨c0, c1, c2, c3, c4, c5, c6, c7, c8, cf⟩ := mcells hp.out.1
      have hl1 := hp.out.1.lt
      have b1 : w1.cell? ⟨w.heap.size, 1, none⟩ = some (.int .i64 0) := by
        rw [hp.out.2.cell (by simp) (by omega)]
        exact HBox.out.cell 1
      go_wp2_with fail
      go_region
      all_goals
        go_wp2_with fail
        refine (HLv.out 0 (by omega) w1 (HMu.out _ _ hp.out) _ rfl).mono ?_
        rintro e w2 ⟨rfl, hp2⟩
        go_wp2_with fail
        go_end0
        exact ⟨rfl, by rw [HE.out]; exact hp2.out.1, ((Onl.of (HB.out _) m).trans hp.out.2).trans hp2.out.2⟩
    · have HE : Hid (asgP F L ⟨kd, 1, an, sg, nm, pa, bl⟩ s = leaP F ⟨u, s.st, s.pt, s.v.set 1 y⟩ 0) := HE1.out
      clear HE1
      go_enter Tryd.func74, Tryd.ntmps74
      go_wp2_with fail
      refine (HV.out _).mono ?_
      rintro e w1 ⟨rfl, hp⟩
      obtain ⟨c0, c1, c2, c3, c4, c5, c6, c7, c8, cf⟩ := mcells hp.out.1
      have hl1 := hp.out.1.lt
      have b1 : w1.cell? ⟨w.heap.size, 1, none⟩ = some (.int .i64 1) := by
        rw [hp.out.2.cell (by simp) (by omega)]
        exact HBox.out.cell 1
      go_wp2_with fail
      go_region
      all_goals
        go_wp2_with fail
        refine (HLv.out 1 (by omega) w1 (HMu.out _ _ hp.out) _ rfl).mono ?_
        rintro e w2 ⟨rfl, hp2⟩
        go_wp2_with fail
        go_end0
        exact ⟨rfl, by rw [HE.out]; exact hp2.out.1, ((Onl.of (HB.out _) m).trans hp.out.2).trans hp2.out.2⟩
    · have HE : Hid (asgP F L ⟨kd, 2, an, sg, nm, pa, bl⟩ s = leaP F ⟨u, s.st, s.pt, s.v.set 2 y⟩ 0) := HE1.out
      clear HE1
      go_enter Tryd.func74, Tryd.ntmps74
      go_wp2_with fail
      refine (HV.out _).mono ?_
      rintro e w1 ⟨rfl, hp⟩
      obtain ⟨c0, c1, c2, c3, c4, c5, c6, c7, c8, cf⟩ := mcells hp.out.1
      have hl1 := hp.out.1.lt
      have b1 : w1.cell? ⟨w.heap.size, 1, none⟩ = some (.int .i64 2) := by
        rw [hp.out.2.cell (by simp) (by omega)]
        exact HBox.out.cell 1
      go_wp2_with fail
      go_region
      all_goals
        go_wp2_with fail
        refine (HLv.out 2 (by omega) w1 (HMu.out _ _ hp.out) _ rfl).mono ?_
        rintro e w2 ⟨rfl, hp2⟩
        go_wp2_with fail
        go_end0
        exact ⟨rfl, by rw [HE.out]; exact hp2.out.1, ((Onl.of (HB.out _) m).trans hp.out.2).trans hp2.out.2⟩
    · have HE : Hid (asgP F L ⟨kd, 3, an, sg, nm, pa, bl⟩ s = leaP F ⟨u, s.st, s.pt, s.v.set 3 y⟩ 0) := HE1.out
      clear HE1
      go_enter Tryd.func74, Tryd.ntmps74
      go_wp2_with fail
      refine (HV.out _).mono ?_
      rintro e w1 ⟨rfl, hp⟩
      obtain ⟨c0, c1, c2, c3, c4, c5, c6, c7, c8, cf⟩ := mcells hp.out.1
      have hl1 := hp.out.1.lt
      have b1 : w1.cell? ⟨w.heap.size, 1, none⟩ = some (.int .i64 3) := by
        rw [hp.out.2.cell (by simp) (by omega)]
        exact HBox.out.cell 1
      go_wp2_with fail
      go_region
      all_goals
        go_wp2_with fail
        refine (HLv.out 3 (by omega) w1 (HMu.out _ _ hp.out) _ rfl).mono ?_
        rintro e w2 ⟨rfl, hp2⟩
        go_wp2_with fail
        go_end0
        exact ⟨rfl, by rw [HE.out]; exact hp2.out.1, ((Onl.of (HB.out _) m).trans hp.out.2).trans hp2.out.2⟩

end Go.Proofs.YtffajooegiempabDoor

namespace Go.Proofs.YtffajooegiempabDoor
open Go.RowKit
variable {w : World} {m : Nat} {pv iv : Value} {L : List Int} {s : Ms} {F : List Ds}

set_option maxRecDepth 100000 in
set_option maxHeartbeats 1600000 in
theorem x_assert (x : Ds) (hx : DsOk x) (h : MRep w m pv iv F L s) (hF : FOk F) (hL : L.length ≤ 9223372036854775807) (h0 : 0 ≤ s.pt) (h1 : s.pt < F.length) :
    Calls Tryd.prog 75 #[.pointer (some ⟨m, 0, none⟩), dsv x] w fun e w' => e = .returned (.tuple #[]) ∧ MPost m w pv iv (astP F L x s) w' := by
  have hlt := h.at_.lt
  have HM : Hid (MRep w m pv iv F L s) := h
  have HX : Hid (DsOk x) := hx
  have HF : Hid (FOk F) := hF
  have HB : Hid (∀ o, Below w.heap.size w (w.alloc o)) := fun o => (Below.refl _ _).alloc (Nat.le_refl _) _
  have HV : Hid (∀ o, Calls Tryd.prog 91 #[.pointer (some ⟨m, 0, none⟩), dsv x] (w.alloc o) fun e w' => e = .returned (.bool (holP L x s).1) ∧ Hid (MPost m (w.alloc o) pv iv ⟨(holP L x s).2, s.st, s.pt, s.v⟩ w')) := fun o =>
    have h' := HM.out.same (HB.out o)
    x_holds x HX.out h'.at_ h'.inp h'.ok hL
  have HU : Hid ((holP L x s).2 ≤ L.length) := holP_used h.ok
  have HE0 : Hid (astP F L x s = if (holP L x s).1 = true then leaP F ⟨(holP L x s).2, s.st, s.pt, s.v⟩ 0 else ⟨(holP L x s).2, 3, s.pt, s.v⟩) := rfl
  unfold dsv at *
  generalize holP L x s = y at *
  obtain ⟨y, u⟩ := y
  simp only at HE0 HV HU
  clear h hF hx
  cases y
  · have HE : Hid (_ = _) := HE0.out.trans (if_neg (by decide))
    clear HE0
    go_enter Tryd.func75, Tryd.ntmps75
    go_wp2_with fail
    refine (HV.out _).mono ?_
    rintro e w1 ⟨rfl, hp⟩
    obtain ⟨c0, c1, c2, c3, c4, c5, c6, c7, c8, cf⟩ := mcells hp.out.1
    have hl1 := hp.out.1.lt
    go_wp2_with fail
    try simp only [Exit.inBlock, Exit.then]
    refine bodyPost_ret (results_none rfl _ _ _) rfl ?_
    exact ⟨rfl, by rw [HE.out]; exact hp.out.1.put 3 _, ((Onl.of (HB.out _) m).trans hp.out.2).setCell _ _⟩
  · have HE : Hid (_ = _) := HE0.out.trans (if_pos rfl)
    clear HE0
    have HLv : Hid (∀ o w1 (way : Int), MPost m (w.alloc o) pv iv ⟨u, s.st, s.pt, s.v⟩ w1 → Calls Tryd.prog 90 #[.pointer (some ⟨m, 0, none⟩), .int .i64 way] w1 fun e w' => e = .returned (.tuple #[]) ∧ Hid (MPost m w pv iv (leaP F ⟨u, s.st, s.pt, s.v⟩ way) w')) := by
      intro o w1 way hp
      have h2 := (HM.out.same (HB.out o)).next hp.1 hp.2 ⟨HM.out.ok.len, HM.out.ok.v, HU.out⟩
      refine (x_leave h2.at_ h2.prog HF.out h0 h1 way).mono ?_
      rintro e w3 ⟨rfl, ha, ho3⟩
      exact ⟨rfl, ha, ((Onl.of (HB.out o) m).trans hp.2).trans ho3⟩
    go_enter Tryd.func75, Tryd.ntmps75
    go_wp2_with fail
    refine (HV.out _).mono ?_
    rintro e w1 ⟨rfl, hp⟩
    go_wp2_with fail
    refine (HLv.out _ _ 0 hp.out).mono ?_
    rintro e w2 ⟨rfl, hp2⟩
    go_wp2_with fail
    go_end0
    exact ⟨rfl, by rw [HE.out]; exact hp2.out.1, hp2.out.2⟩

set_option maxRecDepth 100000 in
set_option maxHeartbeats 1600000 in
theorem x_branch (x : Ds) (hx : DsOk x) (h : MRep w m pv iv F L s) (hF : FOk F) (hL : L.length ≤ 9223372036854775807) (h0 : 0 ≤ s.pt) (h1 : s.pt < F.length) :
    Calls Tryd.prog 76 #[.pointer (some ⟨m, 0, none⟩), dsv x] w fun e w' => e = .returned (.tuple #[]) ∧ MPost m w pv iv (braP F L x s) w' := by
  have hlt := h.at_.lt
  have HM : Hid (MRep w m pv iv F L s) := h
  have HX : Hid (DsOk x) := hx
  have HF : Hid (FOk F) := hF
  have HB : Hid (∀ o, Below w.heap.size w (w.alloc o)) := fun o => (Below.refl _ _).alloc (Nat.le_refl _) _
  have HV : Hid (∀ o, Calls Tryd.prog 91 #[.pointer (some ⟨m, 0, none⟩), dsv x] (w.alloc o) fun e w' => e = .returned (.bool (holP L x s).1) ∧ Hid (MPost m (w.alloc o) pv iv ⟨(holP L x s).2, s.st, s.pt, s.v⟩ w')) := fun o =>
    have h' := HM.out.same (HB.out o)
    x_holds x HX.out h'.at_ h'.inp h'.ok hL
  have HU : Hid ((holP L x s).2 ≤ L.length) := holP_used h.ok
  have HE0 : Hid (braP F L x s = leaP F ⟨(holP L x s).2, s.st, s.pt, s.v⟩ (if (holP L x s).1 = true then 0 else 1)) := rfl
  unfold dsv at *
  generalize holP L x s = y at *
  obtain ⟨y, u⟩ := y
  simp only at HE0 HV HU
  clear h hF hx
  have HLv : Hid (∀ o w1 (way : Int), MPost m (w.alloc o) pv iv ⟨u, s.st, s.pt, s.v⟩ w1 → Calls Tryd.prog 90 #[.pointer (some ⟨m, 0, none⟩), .int .i64 way] w1 fun e w' => e = .returned (.tuple #[]) ∧ Hid (MPost m w pv iv (leaP F ⟨u, s.st, s.pt, s.v⟩ way) w')) := by
    intro o w1 way hp
    have h2 := (HM.out.same (HB.out o)).next hp.1 hp.2 ⟨HM.out.ok.len, HM.out.ok.v, HU.out⟩
    refine (x_leave h2.at_ h2.prog HF.out h0 h1 way).mono ?_
    rintro e w3 ⟨rfl, ha, ho3⟩
    exact ⟨rfl, ha, ((Onl.of (HB.out o) m).trans hp.2).trans ho3⟩
  cases y
  · have HE : Hid (braP F L x s = leaP F ⟨u, s.st, s.pt, s.v⟩ 1) := HE0.out
    clear HE0
    go_enter Tryd.func76, Tryd.ntmps76
    go_wp2_with fail
    refine (HV.out _).mono ?_
    rintro e w1 ⟨rfl, hp⟩
    go_wp2_with fail
    refine (HLv.out _ _ 1 hp.out).mono ?_
    rintro e w2 ⟨rfl, hp2⟩
    go_wp2_with fail
    go_end0
    exact ⟨rfl, by rw [HE.out]; exact hp2.out.1, hp2.out.2⟩
  · have HE : Hid (braP F L x s = leaP F ⟨u, s.st, s.pt, s.v⟩ 0) := HE0.out
    clear HE0
    go_enter Tryd.func76, Tryd.ntmps76
    go_wp2_with fail
    refine (HV.out _).mono ?_
    rintro e w1 ⟨rfl, hp⟩
    go_wp2_with fail
    refine (HLv.out _ _ 0 hp.out).mono ?_
    rintro e w2 ⟨rfl, hp2⟩
    go_wp2_with fail
    go_end0
    exact ⟨rfl, by rw [HE.out]; exact hp2.out.1, hp2.out.2⟩

end Go.Proofs.YtffajooegiempabDoor

namespace Go.Proofs.YtffajooegiempabDoor
open Go.RowKit
variable {w : World} {m : Nat} {pv iv : Value} {L : List Int} {s : Ms} {F : List Ds}

theorem below10 {w w1 : World} (h : Below w.heap.size w w1) (v0 v1 v2 v3 v4 v5 v6 v7 v8 v9 : Value) : Below w.heap.size w ((((((((((w1.setCell ⟨w.heap.size, 0, none⟩ v0).setCell ⟨w.heap.size, 1, none⟩ v1).setCell ⟨w.heap.size, 2, none⟩ v2).setCell ⟨w.heap.size, 3, none⟩ v3).setCell ⟨w.heap.size, 4, none⟩ v4).setCell ⟨w.heap.size, 5, none⟩ v5).setCell ⟨w.heap.size, 6, none⟩ v6).setCell ⟨w.heap.size, 7, none⟩ v7).setCell ⟨w.heap.size, 8, none⟩ v8).setCell ⟨w.heap.size, 9, none⟩ v9) := (Below.setCell (p := ⟨w.heap.size, 9, none⟩) (Below.setCell (p := ⟨w.heap.size, 8, none⟩) (Below.setCell (p := ⟨w.heap.size, 7, none⟩) (Below.setCell (p := ⟨w.heap.size, 6, none⟩) (Below.setCell (p := ⟨w.heap.size, 5, none⟩) (Below.setCell (p := ⟨w.heap.size, 4, none⟩) (Below.setCell (p := ⟨w.heap.size, 3, none⟩) (Below.setCell (p := ⟨w.heap.size, 2, none⟩) (Below.setCell (p := ⟨w.heap.size, 1, none⟩) (Below.setCell (p := ⟨w.heap.size, 0, none⟩) h (Nat.le_refl w.heap.size) v0) (Nat.le_refl w.heap.size) v1) (Nat.le_refl w.heap.size) v2) (Nat.le_refl w.heap.size) v3) (Nat.le_refl w.heap.size) v4) (Nat.le_refl w.heap.size) v5) (Nat.le_refl w.heap.size) v6) (Nat.le_refl w.heap.size) v7) (Nat.le_refl w.heap.size) v8) (Nat.le_refl w.heap.size) v9)

set_option maxRecDepth 100000 in
set_option maxHeartbeats 1600000 in
theorem x_step (h : MRep w m pv iv F L s) (hF : FOk F) (hL : L.length ≤ 9223372036854775807) (h0 : 0 ≤ s.pt) (h1 : s.pt < F.length) :
    Calls Tryd.prog 45 #[.pointer (some ⟨m, 0, none⟩)] w fun e w' => e = .returned (.tuple #[]) ∧ MPost m w pv iv (stpP F L s) w' := by
  obtain ⟨c0, c1, c2, c3, c4, c5, c6, c7, c8, cf⟩ := mcells h.at_
  have hlt := h.at_.lt
  have HM : Hid (MRep w m pv iv F L s) := h
  have HF : Hid (FOk F) := hF
  obtain ⟨ao, cap, hpv, hg⟩ := h.prog
  obtain ⟨g, rfl, hgm, hrow⟩ := hg (by omega)
  obtain ⟨k, hk⟩ : ∃ k : Nat, s.pt = k := ⟨s.pt.toNat, by omega⟩
  have hkl : k < F.length := by omega
  have hki : (k : Int) < (F.length : Int) := by omega
  have HAt : Hid (∀ w1, Below w.heap.size w w1 → Calls Tryd.prog 32 #[.agg #[.slice (some ⟨g, 0, none⟩) F.length cap], .int .i64 (k : Int)] w1 fun e w' => e = .returned (.tuple #[dsv (F.getD k (newDs 0 0)), .int .i64 0]) ∧ Below w.heap.size w w') := fun w1 hb => (d_at_in (hrow.keep hb) k hkl).mono fun e w' h => ⟨h.1, hb.trans (h.2.mono hb.size)⟩
  have HAt2 : Calls Tryd.prog 32 #[.agg #[.slice (some ⟨g, 0, none⟩) F.length cap], .int .i64 (k : Int)] (w.alloc (.cells #[.int .i64 0, .int .i64 0, .bool false, .int .i64 0, .int .i64 0, .int .i64 0, .int .i64 0, .int .i64 0, .int .i64 0, .int .i64 0] tDs)).drew fun e w' => e = .returned (.tuple #[dsv (F.getD k (newDs 0 0)), .int .i64 0]) ∧ Hid (Below w.heap.size w w' ∧ At w' w.heap.size #[.int .i64 0, .int .i64 0, .bool false, .int .i64 0, .int .i64 0, .int .i64 0, .int .i64 0, .int .i64 0, .int .i64 0, .int .i64 0] tDs) := by
    have hb : Below w.heap.size w (w.alloc (.cells #[.int .i64 0, .int .i64 0, .bool false, .int .i64 0, .int .i64 0, .int .i64 0, .int .i64 0, .int .i64 0, .int .i64 0, .int .i64 0] tDs)).drew := ((Below.refl _ _).alloc (Nat.le_refl _) _).drew
    refine (d_at_in (hrow.keep hb) k hkl).mono ?_
    rintro e w' ⟨rfl, h⟩
    exact ⟨rfl, hb.trans (h.mono hb.size), At.keep (w := (w.alloc (.cells #[.int .i64 0, .int .i64 0, .bool false, .int .i64 0, .int .i64 0, .int .i64 0, .int .i64 0, .int .i64 0, .int .i64 0, .int .i64 0] tDs)).drew) (At.new w _ _) h (by show w.heap.size < (w.heap.push _).size; simp)⟩
  have HX : Hid (DsOk (F.getD k (newDs 0 0))) := hF.ds k _ (gets' hkl)
  have HE0 : Hid (stpP F L s = if (F.getD k (newDs 0 0)).kind = 0 then asgP F L (F.getD k (newDs 0 0)) s else if (F.getD k (newDs 0 0)).kind = 1 then astP F L (F.getD k (newDs 0 0)) s else braP F L (F.getD k (newDs 0 0)) s) := by
    show stpP F L s = _
    unfold stpP
    rw [if_neg (by omega), hk, Int.toNat_natCast]
  have hge : ¬ (F.length : Int) ≤ (k : Int) := by omega
  have hk0 : ¬ (k : Int) < 0 := by omega
  rw [hpv] at c0
  rw [hk] at c4
  generalize F.getD k (newDs 0 0) = x at *
  have hgs : g < w.heap.size := by omega
  clear h hrow hg hF c1 c2 c3 c5 c6 c7 c8
  by_cases k0 : x.kind = 0
  · have HE : Hid (_ = _) := HE0.out.trans (if_pos k0)
    clear HE0
    have HC : Hid (∀ w1, Below w.heap.size w w1 → Calls Tryd.prog 74 #[.pointer (some ⟨m, 0, none⟩), dsv x] w1 fun e w' => e = .returned (.tuple #[]) ∧ Hid (MPost m w pv iv (asgP F L x s) w')) := by
      intro w1 hb
      refine (x_assign x HX.out (HM.out.same hb) HF.out hL h0 h1).mono ?_
      rintro e w2 ⟨rfl, ha, ho⟩
      exact ⟨rfl, ha, (Onl.of hb m).trans ho⟩
    unfold dsv at HC HAt HAt2
    rw [k0] at HAt HAt2 HC
    clear k0
    go_enter Tryd.func45, Tryd.ntmps45
    go_wp2_with fail
    go_region_with (go_at_call 32; first
      | (refine (HAt.out _ (by exact (Below.refl _ _).drew)).mono ?_
         rintro e w1 ⟨rfl, hb1⟩
         have HW1 : Hid (Below w.heap.size w w1) := hb1
         have hl1 : m < w1.heap.size := Nat.lt_of_lt_of_le hlt HW1.out.size
         clear hb1)
      | (refine HAt2.mono ?_
         rintro e w1 ⟨rfl, hb1⟩
         have HW1 : Hid (Below w.heap.size w w1) := hb1.out.1
         have hl1 : m < w1.heap.size := Nat.lt_of_lt_of_le hlt HW1.out.size
         have hz := hb1.out.2
         have hl2 : w.heap.size < w1.heap.size := hz.lt
         have z0 := hz.cell 0
         have z1 := hz.cell 1
         have z2 := hz.cell 2
         have z3 := hz.cell 3
         have z4 := hz.cell 4
         have z5 := hz.cell 5
         have z6 := hz.cell 6
         have z7 := hz.cell 7
         have z8 := hz.cell 8
         have z9 := hz.cell 9
         have zf := hz.free
         simp at z0 z1 z2 z3 z4 z5 z6 z7 z8 z9
         clear hb1 hz))
    all_goals
      go_wp2_with fail
      refine (HC.out _ (by with_reducible (first | exact HW1.out.alloc HW1.out.size _ | exact below10 HW1.out _ _ _ _ _ _ _ _ _ _))).mono ?_
      rintro e w2 ⟨rfl, hp2⟩
      go_wp2_with fail
      go_end0
      exact ⟨rfl, by rw [HE.out]; exact hp2.out.1, hp2.out.2⟩
  by_cases k1 : x.kind = 1
  · have HE : Hid (_ = _) := (HE0.out.trans (if_neg k0)).trans (if_pos k1)
    clear HE0
    have HC : Hid (∀ w1, Below w.heap.size w w1 → Calls Tryd.prog 75 #[.pointer (some ⟨m, 0, none⟩), dsv x] w1 fun e w' => e = .returned (.tuple #[]) ∧ Hid (MPost m w pv iv (astP F L x s) w')) := by
      intro w1 hb
      refine (x_assert x HX.out (HM.out.same hb) HF.out hL h0 h1).mono ?_
      rintro e w2 ⟨rfl, ha, ho⟩
      exact ⟨rfl, ha, (Onl.of hb m).trans ho⟩
    unfold dsv at HC HAt HAt2
    rw [k1] at HAt HAt2 HC
    clear k0 k1
    go_enter Tryd.func45, Tryd.ntmps45
    go_wp2_with fail
    go_region_with (go_at_call 32; first
      | (refine (HAt.out _ (by exact (Below.refl _ _).drew)).mono ?_
         rintro e w1 ⟨rfl, hb1⟩
         have HW1 : Hid (Below w.heap.size w w1) := hb1
         have hl1 : m < w1.heap.size := Nat.lt_of_lt_of_le hlt HW1.out.size
         clear hb1)
      | (refine HAt2.mono ?_
         rintro e w1 ⟨rfl, hb1⟩
         have HW1 : Hid (Below w.heap.size w w1) := hb1.out.1
         have hl1 : m < w1.heap.size := Nat.lt_of_lt_of_le hlt HW1.out.size
         have hz := hb1.out.2
         have hl2 : w.heap.size < w1.heap.size := hz.lt
         have z0 := hz.cell 0
         have z1 := hz.cell 1
         have z2 := hz.cell 2
         have z3 := hz.cell 3
         have z4 := hz.cell 4
         have z5 := hz.cell 5
         have z6 := hz.cell 6
         have z7 := hz.cell 7
         have z8 := hz.cell 8
         have z9 := hz.cell 9
         have zf := hz.free
         simp at z0 z1 z2 z3 z4 z5 z6 z7 z8 z9
         clear hb1 hz))
    all_goals
      go_wp2_with fail
      refine (HC.out _ (by with_reducible (first | exact HW1.out.alloc HW1.out.size _ | exact below10 HW1.out _ _ _ _ _ _ _ _ _ _))).mono ?_
      rintro e w2 ⟨rfl, hp2⟩
      go_wp2_with fail
      go_end0
      exact ⟨rfl, by rw [HE.out]; exact hp2.out.1, hp2.out.2⟩
  · have HE : Hid (_ = _) := (HE0.out.trans (if_neg k0)).trans (if_neg k1)
    clear HE0
    have HC : Hid (∀ w1, Below w.heap.size w w1 → Calls Tryd.prog 76 #[.pointer (some ⟨m, 0, none⟩), dsv x] w1 fun e w' => e = .returned (.tuple #[]) ∧ Hid (MPost m w pv iv (braP F L x s) w')) := by
      intro w1 hb
      refine (x_branch x HX.out (HM.out.same hb) HF.out hL h0 h1).mono ?_
      rintro e w2 ⟨rfl, ha, ho⟩
      exact ⟨rfl, ha, (Onl.of hb m).trans ho⟩
    unfold dsv at HC HAt HAt2
    have q0 : (x.kind == 0) = false := by simpa using k0
    have q1 : (x.kind == 1) = false := by simpa using k1
    clear k0 k1
    go_enter Tryd.func45, Tryd.ntmps45
    go_wp2_with fail
    go_region_with (go_at_call 32; first
      | (refine (HAt.out _ (by exact (Below.refl _ _).drew)).mono ?_
         rintro e w1 ⟨rfl, hb1⟩
         have HW1 : Hid (Below w.heap.size w w1) := hb1
         have hl1 : m < w1.heap.size := Nat.lt_of_lt_of_le hlt HW1.out.size
         clear hb1)
      | (refine HAt2.mono ?_
         rintro e w1 ⟨rfl, hb1⟩
         have HW1 : Hid (Below w.heap.size w w1) := hb1.out.1
         have hl1 : m < w1.heap.size := Nat.lt_of_lt_of_le hlt HW1.out.size
         have hz := hb1.out.2
         have hl2 : w.heap.size < w1.heap.size := hz.lt
         have z0 := hz.cell 0
         have z1 := hz.cell 1
         have z2 := hz.cell 2
         have z3 := hz.cell 3
         have z4 := hz.cell 4
         have z5 := hz.cell 5
         have z6 := hz.cell 6
         have z7 := hz.cell 7
         have z8 := hz.cell 8
         have z9 := hz.cell 9
         have zf := hz.free
         simp at z0 z1 z2 z3 z4 z5 z6 z7 z8 z9
         clear hb1 hz))
    all_goals
      go_wp2_with fail
      refine (HC.out _ (by with_reducible (first | exact HW1.out.alloc HW1.out.size _ | exact below10 HW1.out _ _ _ _ _ _ _ _ _ _))).mono ?_
      rintro e w2 ⟨rfl, hp2⟩
      go_wp2_with fail
      go_end0
      exact ⟨rfl, by rw [HE.out]; exact hp2.out.1, hp2.out.2⟩

end Go.Proofs.YtffajooegiempabDoor

