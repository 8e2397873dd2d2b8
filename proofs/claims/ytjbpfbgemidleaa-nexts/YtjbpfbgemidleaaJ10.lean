import Derived.Test.YtjbpfbgemidleaaJ9
namespace Go.Proofs.Ytjbpfbgemidleaa
open Go.RowKit
variable {B2 : Nat} {w : World} {r : Nat} {m : Rd}

set_option maxRecDepth 100000 in
set_option maxHeartbeats 3200000 in
theorem r_step61 {b q : Nat} {iv : Value} {k : Wk} (h : WRep B2 w r b q m iv k) (hS : SOk m.st) (hL : k.inp.length ≤ 1073741824) (h0 : 0 ≤ k.pt) (h1 : k.pt < m.st.length) (k61 : (m.st.getD k.pt.toNat noSt).kind = 61) :
    Calls Try.prog 22 #[.pointer (some ⟨b, 0, none⟩), .pointer (some ⟨r, 0, none⟩)] w fun e w' => e = .returned (.tuple #[]) ∧ WStep B2 w r b q m (stpR m.st k) w' := by
  obtain ⟨p, hp⟩ : ∃ p : Nat, k.pt = p := ⟨k.pt.toNat, by omega⟩
  have hpl : p < m.st.length := by omega
  have hpi : (p : Int) < (m.st.length : Int) := by omega
  obtain ⟨g, cap, X, Y, hs⟩ := h.rd.stmt p hpl
  have hmem : m.st.getD p noSt ∈ m.st := List.mem_of_getElem? (Rep.gets hpl)
  have hsgl := hS.sgl _ hmem
  obtain ⟨hn0, hn1⟩ := hS.num _ hmem
  obtain ⟨hv0, hv3, hsg⟩ := hS.gd _ hmem
  obtain ⟨b0, b1, b2, b3, bf⟩ := h.cells
  rw [hp] at b1
  have qf := h.vt.free
  have hvc : ∀ i, i < 4 → w.cell? ⟨q, i, none⟩ = some (.int .i64 (sgAt k.v i)) := fun i hi => by rw [h.vt.cell, ic_get _ _ (by have := h.len; omega)]; rfl
  have v0 := hvc 0 (by omega)
  have v1 := hvc 1 (by omega)
  have v2 := hvc 2 (by omega)
  have v3 := hvc 3 (by omega)
  have hbq : b ≠ q := h.at_.ne h.vt (by decide)
  have hqb : q ≠ b := Ne.symm hbq
  have hbl := h.at_.lt
  have hql := h.vt.lt
  have HS' : Hid (SAt w B2 r p m.st.length (m.st.getD p noSt) g cap X Y) := hs
  obtain ⟨r1, gp, c0, c1, c2, c3, c4, sg, lr, lg, lX, lY⟩ := hs
  have HW : Hid (WRep B2 w r b q m iv k) := h
  have HSum : Hid (∀ w1, (∃ n0, w1 = w.drewN n0) → ∀ n, Calls Try.prog 35 #[.slice (some ⟨Y, 0, none⟩) 4 4, .slice (some ⟨q, 0, none⟩) 4 4] (w1.drewN n) fun e w' => e = .returned (.int .i64 (sumTo (m.st.getD p noSt).sg k.v 4)) ∧ ∃ j, w' = (w1.drewN n).drewN j) := by
    rintro w1 ⟨n0, rfl⟩ n
    exact r_sum _ _ Y q (fun i => sgAt_mem' _ i hsg) HW.out.v _ ((sg.drewN n0).drewN n) ((HW.out.vt.drewN n0).drewN n) hsgl HW.out.len
  have hsum := sumTo_le (fun i => sgAt_mem' (m.st.getD p noSt).sg i hsg) h.v 4
  have HNx : Hid (∀ iv' k' w1 way, WRep B2 w1 r b q m iv' k' → Calls Try.prog 20 #[.pointer (some ⟨r, 0, none⟩), .int .i64 (p : Int), .int .i64 way] w1 fun e w' => e = .returned (.int .i64 (nextR m.st p way)) ∧ ∃ j, w' = w1.drewN j) := fun iv' k' w1 way h1 => next_of h1 hS.len p hpl way
  have HTk : Hid (∀ w1, WRep B2 w1 r b q m iv k → Calls Try.prog 36 #[.pointer (some ⟨b, 0, none⟩)] w1 fun e w' => e = .returned (.int .i64 (k.inp.headD 0)) ∧ WStep B2 w1 r b q m ⟨k.st, k.pt, k.v, k.inp.tail⟩ w') := fun w1 h1 => r_take h1 hL
  have HE0 : Hid (stpR m.st k = stpRu m.st p (m.st.getD p noSt) k) := by show stpR m.st k = _; unfold stpR; rw [hp, Int.toNat_natCast]
  clear h hS sg hsg hmem hsgl hvc
  rw [hp, Int.toNat_natCast] at k61
  generalize m.st.getD p noSt = u at *
  unfold stpRu at HE0
  generalize sumTo u.sg k.v 4 = sm at *
  have e1 : -3996 ≤ sm := by omega
  have e2 : sm ≤ 3996 := by omega
  have hw : IntKind.i64.wrap (sm + u.num) = sm + u.num := by rw [IntKind.wrap_i64]; omega
  clear hsum
  have HE1 : Hid (_ = _) := HE0.out.trans (if_pos k61)
  rw [k61] at c0
  clear HE0 k61
  cases hst : u.star
  · rw [hst] at c2 HE1
    have HE2 : Hid (_ = _) := HE1.out.trans (if_neg (by decide))
    clear HE1 hst
    by_cases hov : 999 < sm + u.num ∨ sm + u.num < -999
    · have HE : Hid (_ = _) := HE2.out.trans (if_pos hov)
      clear HE2
      rcases hov with hov | hov
      all_goals
        go_enter Try.func22, Try.ntmps22
        go_wp2_with fail
        go_quiet (fail)
        obtain ⟨w1, hW1⟩ : ∃ w1, w1 = w.drewN nq := ⟨_, rfl⟩
        rw [← hW1]
        have k1 : ∀ a, w1.cell? a = w.cell? a := fun a => by rw [hW1]; rfl
        have k2 : ∀ a, w1.frozen? a = w.frozen? a := fun a => by rw [hW1]; rfl
        rw [← k1] at r1 gp c0 c1 c2 c3 c4 b0 b1 b2 b3 v0 v1 v2 v3
        have bf1 : ∀ i, w1.frozen? ⟨b, i, none⟩ = false := fun i => (k2 _).trans (bf i)
        have qf1 : ∀ i, w1.frozen? ⟨q, i, none⟩ = false := fun i => (k2 _).trans (qf i)
        have HW1 : Hid (WRep B2 w1 r b q m iv k) := by rw [hW1]; exact HW.out.drewN _
        have HB1 : Hid (Below B2 w w1) := by rw [hW1]; exact below_drewN (Below.refl _ _) _
        have HSum1 := HSum.out w1 ⟨_, hW1⟩
        have HSm : Hid (∀ n, Calls Try.prog 35 #[.slice (some ⟨Y, 0, none⟩) 4 4, .slice (some ⟨q, 0, none⟩) 4 4] (w1.drewN n) fun e w' => e = .returned (.int .i64 sm) ∧ ∃ j, w' = (w1.drewN n).drewN j) := HSum1
        clear k1 k2 hW1 HSum1 bf qf
        go_wp2_with fail
        go_quiet (first | (go_at_call 35; refine Calls.quiet_of (HSm.out _)))
        go_wp2_with fail
        try simp only [Exit.inBlock, Exit.then]
        refine bodyPost_ret (results_none rfl _ _ _) rfl ?_
        exact ⟨rfl, iv, by rw [HE.out]; exact (HW1.out.drewN _).set 0 _ rfl rfl (HW1.out.drewN _).inp, (below_drewN HB1.out _).setCell HW1.out.gb _⟩
    · have HE : Hid (_ = _) := HE2.out.trans (if_neg hov)
      have hy0 : ¬ 999 < sm + u.num := fun e => hov (.inl e)
      have hy1 : ¬ sm + u.num < -999 := fun e => hov (.inr e)
      clear HE2 hov
      rcases (show u.var = 0 ∨ u.var = 1 ∨ u.var = 2 ∨ u.var = 3 by omega) with hv | hv | hv | hv
      · rw [hv] at c1 HE
        have HE' : Hid (stpR m.st k = ⟨k.st, nextR m.st p 0, k.v.set 0 (sm + u.num), k.inp⟩) := HE.out
        clear hv HE
        go_enter Try.func22, Try.ntmps22
        go_wp2_with fail
        go_quiet (fail)
        obtain ⟨w1, hW1⟩ : ∃ w1, w1 = w.drewN nq := ⟨_, rfl⟩
        rw [← hW1]
        have k1 : ∀ a, w1.cell? a = w.cell? a := fun a => by rw [hW1]; rfl
        have k2 : ∀ a, w1.frozen? a = w.frozen? a := fun a => by rw [hW1]; rfl
        rw [← k1] at r1 gp c0 c1 c2 c3 c4 b0 b1 b2 b3 v0 v1 v2 v3
        have bf1 : ∀ i, w1.frozen? ⟨b, i, none⟩ = false := fun i => (k2 _).trans (bf i)
        have qf1 : ∀ i, w1.frozen? ⟨q, i, none⟩ = false := fun i => (k2 _).trans (qf i)
        have HW1 : Hid (WRep B2 w1 r b q m iv k) := by rw [hW1]; exact HW.out.drewN _
        have HB1 : Hid (Below B2 w w1) := by rw [hW1]; exact below_drewN (Below.refl _ _) _
        have HSum1 := HSum.out w1 ⟨_, hW1⟩
        have HSm : Hid (∀ n, Calls Try.prog 35 #[.slice (some ⟨Y, 0, none⟩) 4 4, .slice (some ⟨q, 0, none⟩) 4 4] (w1.drewN n) fun e w' => e = .returned (.int .i64 sm) ∧ ∃ j, w' = (w1.drewN n).drewN j) := HSum1
        clear k1 k2 hW1 HSum1 bf qf
        go_wp2_with fail
        go_quiet (first | (go_at_call 35; refine Calls.quiet_of (HSm.out _)))
        go_wp2_with fail
        go_region
        all_goals
          go_wp2_with fail
          refine (HNx.out _ _ _ _ ((HW1.out.drewN (nq + 1)).setV 0 (by omega) (sm + u.num) (by omega) (by omega))).mono ?_
          rintro e w2 ⟨rfl, j, rfl⟩
          have HWf : Hid (WRep B2 _ r b q m iv _) := ((HW1.out.drewN (nq + 1)).setV 0 (by omega) (sm + u.num) (by omega) (by omega)).drewN j
          obtain ⟨b0', b1', b2', b3', bf'⟩ := HWf.out.cells
          clear b0 b1 b2 b3
          go_wp2_with fail
          try simp only [Exit.inBlock, Exit.then]
          refine bodyPost_ret (results_none rfl _ _ _) rfl ?_
          refine ⟨rfl, iv, ?_, ?_⟩
          · rw [HE'.out]; exact HWf.out.set 1 _ rfl rfl HWf.out.inp
          · exact (below_drewN ((below_drewN HB1.out (nq + 1)).setCell HW1.out.gq _) j).setCell HW1.out.gb _
      · rw [hv] at c1 HE
        have HE' : Hid (stpR m.st k = ⟨k.st, nextR m.st p 0, k.v.set 1 (sm + u.num), k.inp⟩) := HE.out
        clear hv HE
        go_enter Try.func22, Try.ntmps22
        go_wp2_with fail
        go_quiet (fail)
        obtain ⟨w1, hW1⟩ : ∃ w1, w1 = w.drewN nq := ⟨_, rfl⟩
        rw [← hW1]
        have k1 : ∀ a, w1.cell? a = w.cell? a := fun a => by rw [hW1]; rfl
        have k2 : ∀ a, w1.frozen? a = w.frozen? a := fun a => by rw [hW1]; rfl
        rw [← k1] at r1 gp c0 c1 c2 c3 c4 b0 b1 b2 b3 v0 v1 v2 v3
        have bf1 : ∀ i, w1.frozen? ⟨b, i, none⟩ = false := fun i => (k2 _).trans (bf i)
        have qf1 : ∀ i, w1.frozen? ⟨q, i, none⟩ = false := fun i => (k2 _).trans (qf i)
        have HW1 : Hid (WRep B2 w1 r b q m iv k) := by rw [hW1]; exact HW.out.drewN _
        have HB1 : Hid (Below B2 w w1) := by rw [hW1]; exact below_drewN (Below.refl _ _) _
        have HSum1 := HSum.out w1 ⟨_, hW1⟩
        have HSm : Hid (∀ n, Calls Try.prog 35 #[.slice (some ⟨Y, 0, none⟩) 4 4, .slice (some ⟨q, 0, none⟩) 4 4] (w1.drewN n) fun e w' => e = .returned (.int .i64 sm) ∧ ∃ j, w' = (w1.drewN n).drewN j) := HSum1
        clear k1 k2 hW1 HSum1 bf qf
        go_wp2_with fail
        go_quiet (first | (go_at_call 35; refine Calls.quiet_of (HSm.out _)))
        go_wp2_with fail
        go_region
        all_goals
          go_wp2_with fail
          refine (HNx.out _ _ _ _ ((HW1.out.drewN (nq + 1)).setV 1 (by omega) (sm + u.num) (by omega) (by omega))).mono ?_
          rintro e w2 ⟨rfl, j, rfl⟩
          have HWf : Hid (WRep B2 _ r b q m iv _) := ((HW1.out.drewN (nq + 1)).setV 1 (by omega) (sm + u.num) (by omega) (by omega)).drewN j
          obtain ⟨b0', b1', b2', b3', bf'⟩ := HWf.out.cells
          clear b0 b1 b2 b3
          go_wp2_with fail
          try simp only [Exit.inBlock, Exit.then]
          refine bodyPost_ret (results_none rfl _ _ _) rfl ?_
          refine ⟨rfl, iv, ?_, ?_⟩
          · rw [HE'.out]; exact HWf.out.set 1 _ rfl rfl HWf.out.inp
          · exact (below_drewN ((below_drewN HB1.out (nq + 1)).setCell HW1.out.gq _) j).setCell HW1.out.gb _
      · rw [hv] at c1 HE
        have HE' : Hid (stpR m.st k = ⟨k.st, nextR m.st p 0, k.v.set 2 (sm + u.num), k.inp⟩) := HE.out
        clear hv HE
        go_enter Try.func22, Try.ntmps22
        go_wp2_with fail
        go_quiet (fail)
        obtain ⟨w1, hW1⟩ : ∃ w1, w1 = w.drewN nq := ⟨_, rfl⟩
        rw [← hW1]
        have k1 : ∀ a, w1.cell? a = w.cell? a := fun a => by rw [hW1]; rfl
        have k2 : ∀ a, w1.frozen? a = w.frozen? a := fun a => by rw [hW1]; rfl
        rw [← k1] at r1 gp c0 c1 c2 c3 c4 b0 b1 b2 b3 v0 v1 v2 v3
        have bf1 : ∀ i, w1.frozen? ⟨b, i, none⟩ = false := fun i => (k2 _).trans (bf i)
        have qf1 : ∀ i, w1.frozen? ⟨q, i, none⟩ = false := fun i => (k2 _).trans (qf i)
        have HW1 : Hid (WRep B2 w1 r b q m iv k) := by rw [hW1]; exact HW.out.drewN _
        have HB1 : Hid (Below B2 w w1) := by rw [hW1]; exact below_drewN (Below.refl _ _) _
        have HSum1 := HSum.out w1 ⟨_, hW1⟩
        have HSm : Hid (∀ n, Calls Try.prog 35 #[.slice (some ⟨Y, 0, none⟩) 4 4, .slice (some ⟨q, 0, none⟩) 4 4] (w1.drewN n) fun e w' => e = .returned (.int .i64 sm) ∧ ∃ j, w' = (w1.drewN n).drewN j) := HSum1
        clear k1 k2 hW1 HSum1 bf qf
        go_wp2_with fail
        go_quiet (first | (go_at_call 35; refine Calls.quiet_of (HSm.out _)))
        go_wp2_with fail
        go_region
        all_goals
          go_wp2_with fail
          refine (HNx.out _ _ _ _ ((HW1.out.drewN (nq + 1)).setV 2 (by omega) (sm + u.num) (by omega) (by omega))).mono ?_
          rintro e w2 ⟨rfl, j, rfl⟩
          have HWf : Hid (WRep B2 _ r b q m iv _) := ((HW1.out.drewN (nq + 1)).setV 2 (by omega) (sm + u.num) (by omega) (by omega)).drewN j
          obtain ⟨b0', b1', b2', b3', bf'⟩ := HWf.out.cells
          clear b0 b1 b2 b3
          go_wp2_with fail
          try simp only [Exit.inBlock, Exit.then]
          refine bodyPost_ret (results_none rfl _ _ _) rfl ?_
          refine ⟨rfl, iv, ?_, ?_⟩
          · rw [HE'.out]; exact HWf.out.set 1 _ rfl rfl HWf.out.inp
          · exact (below_drewN ((below_drewN HB1.out (nq + 1)).setCell HW1.out.gq _) j).setCell HW1.out.gb _
      · rw [hv] at c1 HE
        have HE' : Hid (stpR m.st k = ⟨k.st, nextR m.st p 0, k.v.set 3 (sm + u.num), k.inp⟩) := HE.out
        clear hv HE
        go_enter Try.func22, Try.ntmps22
        go_wp2_with fail
        go_quiet (fail)
        obtain ⟨w1, hW1⟩ : ∃ w1, w1 = w.drewN nq := ⟨_, rfl⟩
        rw [← hW1]
        have k1 : ∀ a, w1.cell? a = w.cell? a := fun a => by rw [hW1]; rfl
        have k2 : ∀ a, w1.frozen? a = w.frozen? a := fun a => by rw [hW1]; rfl
        rw [← k1] at r1 gp c0 c1 c2 c3 c4 b0 b1 b2 b3 v0 v1 v2 v3
        have bf1 : ∀ i, w1.frozen? ⟨b, i, none⟩ = false := fun i => (k2 _).trans (bf i)
        have qf1 : ∀ i, w1.frozen? ⟨q, i, none⟩ = false := fun i => (k2 _).trans (qf i)
        have HW1 : Hid (WRep B2 w1 r b q m iv k) := by rw [hW1]; exact HW.out.drewN _
        have HB1 : Hid (Below B2 w w1) := by rw [hW1]; exact below_drewN (Below.refl _ _) _
        have HSum1 := HSum.out w1 ⟨_, hW1⟩
        have HSm : Hid (∀ n, Calls Try.prog 35 #[.slice (some ⟨Y, 0, none⟩) 4 4, .slice (some ⟨q, 0, none⟩) 4 4] (w1.drewN n) fun e w' => e = .returned (.int .i64 sm) ∧ ∃ j, w' = (w1.drewN n).drewN j) := HSum1
        clear k1 k2 hW1 HSum1 bf qf
        go_wp2_with fail
        go_quiet (first | (go_at_call 35; refine Calls.quiet_of (HSm.out _)))
        go_wp2_with fail
        go_region
        all_goals
          go_wp2_with fail
          refine (HNx.out _ _ _ _ ((HW1.out.drewN (nq + 1)).setV 3 (by omega) (sm + u.num) (by omega) (by omega))).mono ?_
          rintro e w2 ⟨rfl, j, rfl⟩
          have HWf : Hid (WRep B2 _ r b q m iv _) := ((HW1.out.drewN (nq + 1)).setV 3 (by omega) (sm + u.num) (by omega) (by omega)).drewN j
          obtain ⟨b0', b1', b2', b3', bf'⟩ := HWf.out.cells
          clear b0 b1 b2 b3
          go_wp2_with fail
          try simp only [Exit.inBlock, Exit.then]
          refine bodyPost_ret (results_none rfl _ _ _) rfl ?_
          refine ⟨rfl, iv, ?_, ?_⟩
          · rw [HE'.out]; exact HWf.out.set 1 _ rfl rfl HWf.out.inp
          · exact (below_drewN ((below_drewN HB1.out (nq + 1)).setCell HW1.out.gq _) j).setCell HW1.out.gb _
  · rw [hst] at c2 HE1
    have HE2 : Hid (_ = _) := HE1.out.trans (if_pos rfl)
    clear HE1 hst
    generalize k.inp.headD 0 = hd at *
    by_cases q1 : 999 < hd
    · have hcl : clampI hd = 999 := if_pos q1
      rw [hcl] at HE2
      have HE : Hid (_ = _) := HE2.out
      clear HE2 hcl
      rcases (show u.var = 0 ∨ u.var = 1 ∨ u.var = 2 ∨ u.var = 3 by omega) with hv | hv | hv | hv
      all_goals rw [hv] at HE
      · have HE' : Hid (stpR m.st k = ⟨k.st, nextR m.st p 0, k.v.set 0 (999), k.inp.tail⟩) := HE.out
        go_enter Try.func22, Try.ntmps22
        go_wp2_with fail
        go_quiet (fail)
        obtain ⟨w1, hW1⟩ : ∃ w1, w1 = w.drewN nq := ⟨_, rfl⟩
        rw [← hW1]
        have k1 : ∀ a, w1.cell? a = w.cell? a := fun a => by rw [hW1]; rfl
        have k2 : ∀ a, w1.frozen? a = w.frozen? a := fun a => by rw [hW1]; rfl
        rw [← k1] at r1 gp c0 c1 c2 c3 c4 b0 b1 b2 b3 v0 v1 v2 v3
        have bf1 : ∀ i, w1.frozen? ⟨b, i, none⟩ = false := fun i => (k2 _).trans (bf i)
        have qf1 : ∀ i, w1.frozen? ⟨q, i, none⟩ = false := fun i => (k2 _).trans (qf i)
        have HW1 : Hid (WRep B2 w1 r b q m iv k) := by rw [hW1]; exact HW.out.drewN _
        have HB1 : Hid (Below B2 w w1) := by rw [hW1]; exact below_drewN (Below.refl _ _) _
        have HSum1 := HSum.out w1 ⟨_, hW1⟩
        have HSm : Hid (∀ n, Calls Try.prog 35 #[.slice (some ⟨Y, 0, none⟩) 4 4, .slice (some ⟨q, 0, none⟩) 4 4] (w1.drewN n) fun e w' => e = .returned (.int .i64 sm) ∧ ∃ j, w' = (w1.drewN n).drewN j) := HSum1
        clear k1 k2 hW1 HSum1 bf qf
        go_wp2_with fail
        go_quiet (first | (go_at_call 35; refine Calls.quiet_of (HSm.out _)))
        go_wp2_with fail
        refine (HTk.out _ (HW1.out.drewN _)).mono ?_
        rintro e w2 ⟨rfl, iv2, hw2, hb2⟩
        have HW2 : Hid (WRep B2 w2 r b q m iv2 ⟨k.st, k.pt, k.v, k.inp.tail⟩) := hw2
        have HB2 : Hid (Below B2 w w2) := (below_drewN HB1.out nq).trans hb2
        have hs2 := HS'.out.keep HB2.out
        have x0 := hs2.c0
        have x1 := hs2.c1
        have x4 := hs2.c4
        obtain ⟨y0, y1, y2, y3, yf⟩ := hw2.cells
        simp only at y0 y1 y2 y3
        rw [hp] at y1
        have qf2 := hw2.vt.free
        have hvc2 : ∀ i, i < 4 → w2.cell? ⟨q, i, none⟩ = some (.int .i64 (sgAt k.v i)) := fun i hi => by rw [hw2.vt.cell, ic_get _ _ (by have := hw2.len; simp only at this ⊢; omega)]; rfl
        have z0 := hvc2 0 (by omega)
        have z1 := hvc2 1 (by omega)
        have z2 := hvc2 2 (by omega)
        have z3 := hvc2 3 (by omega)
        have hbl2 := hw2.at_.lt
        have hql2 := hw2.vt.lt
        clear hs2 hw2 hb2 hvc2 r1 gp c0 c1 c2 c3 c4 b0 b1 b2 b3 v0 v1 v2 v3
        rw [hv] at x1
        clear hv
        go_wp2_with fail
        go_region
        all_goals
          go_wp2_with fail
          refine (HNx.out _ _ _ _ ((HW2.out.drewN 1).setV 0 (by omega) (999) (by omega) (by omega))).mono ?_
          rintro e w3 ⟨rfl, j, rfl⟩
          have HWf : Hid (WRep B2 _ r b q m iv2 _) := ((HW2.out.drewN 1).setV 0 (by omega) (999) (by omega) (by omega)).drewN j
          obtain ⟨b0', b1', b2', b3', bf'⟩ := HWf.out.cells
          clear y0 y1 y2 y3
          go_wp2_with fail
          try simp only [Exit.inBlock, Exit.then]
          refine bodyPost_ret (results_none rfl _ _ _) rfl ?_
          refine ⟨rfl, iv2, ?_, ?_⟩
          · rw [HE'.out]; exact HWf.out.set 1 _ rfl rfl HWf.out.inp
          · exact (below_drewN ((below_drewN HB2.out 1).setCell HW2.out.gq _) j).setCell HW2.out.gb _
      · have HE' : Hid (stpR m.st k = ⟨k.st, nextR m.st p 0, k.v.set 1 (999), k.inp.tail⟩) := HE.out
        go_enter Try.func22, Try.ntmps22
        go_wp2_with fail
        go_quiet (fail)
        obtain ⟨w1, hW1⟩ : ∃ w1, w1 = w.drewN nq := ⟨_, rfl⟩
        rw [← hW1]
        have k1 : ∀ a, w1.cell? a = w.cell? a := fun a => by rw [hW1]; rfl
        have k2 : ∀ a, w1.frozen? a = w.frozen? a := fun a => by rw [hW1]; rfl
        rw [← k1] at r1 gp c0 c1 c2 c3 c4 b0 b1 b2 b3 v0 v1 v2 v3
        have bf1 : ∀ i, w1.frozen? ⟨b, i, none⟩ = false := fun i => (k2 _).trans (bf i)
        have qf1 : ∀ i, w1.frozen? ⟨q, i, none⟩ = false := fun i => (k2 _).trans (qf i)
        have HW1 : Hid (WRep B2 w1 r b q m iv k) := by rw [hW1]; exact HW.out.drewN _
        have HB1 : Hid (Below B2 w w1) := by rw [hW1]; exact below_drewN (Below.refl _ _) _
        have HSum1 := HSum.out w1 ⟨_, hW1⟩
        have HSm : Hid (∀ n, Calls Try.prog 35 #[.slice (some ⟨Y, 0, none⟩) 4 4, .slice (some ⟨q, 0, none⟩) 4 4] (w1.drewN n) fun e w' => e = .returned (.int .i64 sm) ∧ ∃ j, w' = (w1.drewN n).drewN j) := HSum1
        clear k1 k2 hW1 HSum1 bf qf
        go_wp2_with fail
        go_quiet (first | (go_at_call 35; refine Calls.quiet_of (HSm.out _)))
        go_wp2_with fail
        refine (HTk.out _ (HW1.out.drewN _)).mono ?_
        rintro e w2 ⟨rfl, iv2, hw2, hb2⟩
        have HW2 : Hid (WRep B2 w2 r b q m iv2 ⟨k.st, k.pt, k.v, k.inp.tail⟩) := hw2
        have HB2 : Hid (Below B2 w w2) := (below_drewN HB1.out nq).trans hb2
        have hs2 := HS'.out.keep HB2.out
        have x0 := hs2.c0
        have x1 := hs2.c1
        have x4 := hs2.c4
        obtain ⟨y0, y1, y2, y3, yf⟩ := hw2.cells
        simp only at y0 y1 y2 y3
        rw [hp] at y1
        have qf2 := hw2.vt.free
        have hvc2 : ∀ i, i < 4 → w2.cell? ⟨q, i, none⟩ = some (.int .i64 (sgAt k.v i)) := fun i hi => by rw [hw2.vt.cell, ic_get _ _ (by have := hw2.len; simp only at this ⊢; omega)]; rfl
        have z0 := hvc2 0 (by omega)
        have z1 := hvc2 1 (by omega)
        have z2 := hvc2 2 (by omega)
        have z3 := hvc2 3 (by omega)
        have hbl2 := hw2.at_.lt
        have hql2 := hw2.vt.lt
        clear hs2 hw2 hb2 hvc2 r1 gp c0 c1 c2 c3 c4 b0 b1 b2 b3 v0 v1 v2 v3
        rw [hv] at x1
        clear hv
        go_wp2_with fail
        go_region
        all_goals
          go_wp2_with fail
          refine (HNx.out _ _ _ _ ((HW2.out.drewN 1).setV 1 (by omega) (999) (by omega) (by omega))).mono ?_
          rintro e w3 ⟨rfl, j, rfl⟩
          have HWf : Hid (WRep B2 _ r b q m iv2 _) := ((HW2.out.drewN 1).setV 1 (by omega) (999) (by omega) (by omega)).drewN j
          obtain ⟨b0', b1', b2', b3', bf'⟩ := HWf.out.cells
          clear y0 y1 y2 y3
          go_wp2_with fail
          try simp only [Exit.inBlock, Exit.then]
          refine bodyPost_ret (results_none rfl _ _ _) rfl ?_
          refine ⟨rfl, iv2, ?_, ?_⟩
          · rw [HE'.out]; exact HWf.out.set 1 _ rfl rfl HWf.out.inp
          · exact (below_drewN ((below_drewN HB2.out 1).setCell HW2.out.gq _) j).setCell HW2.out.gb _
      · have HE' : Hid (stpR m.st k = ⟨k.st, nextR m.st p 0, k.v.set 2 (999), k.inp.tail⟩) := HE.out
        go_enter Try.func22, Try.ntmps22
        go_wp2_with fail
        go_quiet (fail)
        obtain ⟨w1, hW1⟩ : ∃ w1, w1 = w.drewN nq := ⟨_, rfl⟩
        rw [← hW1]
        have k1 : ∀ a, w1.cell? a = w.cell? a := fun a => by rw [hW1]; rfl
        have k2 : ∀ a, w1.frozen? a = w.frozen? a := fun a => by rw [hW1]; rfl
        rw [← k1] at r1 gp c0 c1 c2 c3 c4 b0 b1 b2 b3 v0 v1 v2 v3
        have bf1 : ∀ i, w1.frozen? ⟨b, i, none⟩ = false := fun i => (k2 _).trans (bf i)
        have qf1 : ∀ i, w1.frozen? ⟨q, i, none⟩ = false := fun i => (k2 _).trans (qf i)
        have HW1 : Hid (WRep B2 w1 r b q m iv k) := by rw [hW1]; exact HW.out.drewN _
        have HB1 : Hid (Below B2 w w1) := by rw [hW1]; exact below_drewN (Below.refl _ _) _
        have HSum1 := HSum.out w1 ⟨_, hW1⟩
        have HSm : Hid (∀ n, Calls Try.prog 35 #[.slice (some ⟨Y, 0, none⟩) 4 4, .slice (some ⟨q, 0, none⟩) 4 4] (w1.drewN n) fun e w' => e = .returned (.int .i64 sm) ∧ ∃ j, w' = (w1.drewN n).drewN j) := HSum1
        clear k1 k2 hW1 HSum1 bf qf
        go_wp2_with fail
        go_quiet (first | (go_at_call 35; refine Calls.quiet_of (HSm.out _)))
        go_wp2_with fail
        refine (HTk.out _ (HW1.out.drewN _)).mono ?_
        rintro e w2 ⟨rfl, iv2, hw2, hb2⟩
        have HW2 : Hid (WRep B2 w2 r b q m iv2 ⟨k.st, k.pt, k.v, k.inp.tail⟩) := hw2
        have HB2 : Hid (Below B2 w w2) := (below_drewN HB1.out nq).trans hb2
        have hs2 := HS'.out.keep HB2.out
        have x0 := hs2.c0
        have x1 := hs2.c1
        have x4 := hs2.c4
        obtain ⟨y0, y1, y2, y3, yf⟩ := hw2.cells
        simp only at y0 y1 y2 y3
        rw [hp] at y1
        have qf2 := hw2.vt.free
        have hvc2 : ∀ i, i < 4 → w2.cell? ⟨q, i, none⟩ = some (.int .i64 (sgAt k.v i)) := fun i hi => by rw [hw2.vt.cell, ic_get _ _ (by have := hw2.len; simp only at this ⊢; omega)]; rfl
        have z0 := hvc2 0 (by omega)
        have z1 := hvc2 1 (by omega)
        have z2 := hvc2 2 (by omega)
        have z3 := hvc2 3 (by omega)
        have hbl2 := hw2.at_.lt
        have hql2 := hw2.vt.lt
        clear hs2 hw2 hb2 hvc2 r1 gp c0 c1 c2 c3 c4 b0 b1 b2 b3 v0 v1 v2 v3
        rw [hv] at x1
        clear hv
        go_wp2_with fail
        go_region
        all_goals
          go_wp2_with fail
          refine (HNx.out _ _ _ _ ((HW2.out.drewN 1).setV 2 (by omega) (999) (by omega) (by omega))).mono ?_
          rintro e w3 ⟨rfl, j, rfl⟩
          have HWf : Hid (WRep B2 _ r b q m iv2 _) := ((HW2.out.drewN 1).setV 2 (by omega) (999) (by omega) (by omega)).drewN j
          obtain ⟨b0', b1', b2', b3', bf'⟩ := HWf.out.cells
          clear y0 y1 y2 y3
          go_wp2_with fail
          try simp only [Exit.inBlock, Exit.then]
          refine bodyPost_ret (results_none rfl _ _ _) rfl ?_
          refine ⟨rfl, iv2, ?_, ?_⟩
          · rw [HE'.out]; exact HWf.out.set 1 _ rfl rfl HWf.out.inp
          · exact (below_drewN ((below_drewN HB2.out 1).setCell HW2.out.gq _) j).setCell HW2.out.gb _
      · have HE' : Hid (stpR m.st k = ⟨k.st, nextR m.st p 0, k.v.set 3 (999), k.inp.tail⟩) := HE.out
        go_enter Try.func22, Try.ntmps22
        go_wp2_with fail
        go_quiet (fail)
        obtain ⟨w1, hW1⟩ : ∃ w1, w1 = w.drewN nq := ⟨_, rfl⟩
        rw [← hW1]
        have k1 : ∀ a, w1.cell? a = w.cell? a := fun a => by rw [hW1]; rfl
        have k2 : ∀ a, w1.frozen? a = w.frozen? a := fun a => by rw [hW1]; rfl
        rw [← k1] at r1 gp c0 c1 c2 c3 c4 b0 b1 b2 b3 v0 v1 v2 v3
        have bf1 : ∀ i, w1.frozen? ⟨b, i, none⟩ = false := fun i => (k2 _).trans (bf i)
        have qf1 : ∀ i, w1.frozen? ⟨q, i, none⟩ = false := fun i => (k2 _).trans (qf i)
        have HW1 : Hid (WRep B2 w1 r b q m iv k) := by rw [hW1]; exact HW.out.drewN _
        have HB1 : Hid (Below B2 w w1) := by rw [hW1]; exact below_drewN (Below.refl _ _) _
        have HSum1 := HSum.out w1 ⟨_, hW1⟩
        have HSm : Hid (∀ n, Calls Try.prog 35 #[.slice (some ⟨Y, 0, none⟩) 4 4, .slice (some ⟨q, 0, none⟩) 4 4] (w1.drewN n) fun e w' => e = .returned (.int .i64 sm) ∧ ∃ j, w' = (w1.drewN n).drewN j) := HSum1
        clear k1 k2 hW1 HSum1 bf qf
        go_wp2_with fail
        go_quiet (first | (go_at_call 35; refine Calls.quiet_of (HSm.out _)))
        go_wp2_with fail
        refine (HTk.out _ (HW1.out.drewN _)).mono ?_
        rintro e w2 ⟨rfl, iv2, hw2, hb2⟩
        have HW2 : Hid (WRep B2 w2 r b q m iv2 ⟨k.st, k.pt, k.v, k.inp.tail⟩) := hw2
        have HB2 : Hid (Below B2 w w2) := (below_drewN HB1.out nq).trans hb2
        have hs2 := HS'.out.keep HB2.out
        have x0 := hs2.c0
        have x1 := hs2.c1
        have x4 := hs2.c4
        obtain ⟨y0, y1, y2, y3, yf⟩ := hw2.cells
        simp only at y0 y1 y2 y3
        rw [hp] at y1
        have qf2 := hw2.vt.free
        have hvc2 : ∀ i, i < 4 → w2.cell? ⟨q, i, none⟩ = some (.int .i64 (sgAt k.v i)) := fun i hi => by rw [hw2.vt.cell, ic_get _ _ (by have := hw2.len; simp only at this ⊢; omega)]; rfl
        have z0 := hvc2 0 (by omega)
        have z1 := hvc2 1 (by omega)
        have z2 := hvc2 2 (by omega)
        have z3 := hvc2 3 (by omega)
        have hbl2 := hw2.at_.lt
        have hql2 := hw2.vt.lt
        clear hs2 hw2 hb2 hvc2 r1 gp c0 c1 c2 c3 c4 b0 b1 b2 b3 v0 v1 v2 v3
        rw [hv] at x1
        clear hv
        go_wp2_with fail
        go_region
        all_goals
          go_wp2_with fail
          refine (HNx.out _ _ _ _ ((HW2.out.drewN 1).setV 3 (by omega) (999) (by omega) (by omega))).mono ?_
          rintro e w3 ⟨rfl, j, rfl⟩
          have HWf : Hid (WRep B2 _ r b q m iv2 _) := ((HW2.out.drewN 1).setV 3 (by omega) (999) (by omega) (by omega)).drewN j
          obtain ⟨b0', b1', b2', b3', bf'⟩ := HWf.out.cells
          clear y0 y1 y2 y3
          go_wp2_with fail
          try simp only [Exit.inBlock, Exit.then]
          refine bodyPost_ret (results_none rfl _ _ _) rfl ?_
          refine ⟨rfl, iv2, ?_, ?_⟩
          · rw [HE'.out]; exact HWf.out.set 1 _ rfl rfl HWf.out.inp
          · exact (below_drewN ((below_drewN HB2.out 1).setCell HW2.out.gq _) j).setCell HW2.out.gb _
    by_cases q2 : hd < -999
    · have hcl : clampI hd = -999 := by unfold clampI; rw [if_neg q1, if_pos q2]
      rw [hcl] at HE2
      have HE : Hid (_ = _) := HE2.out
      clear HE2 hcl
      rcases (show u.var = 0 ∨ u.var = 1 ∨ u.var = 2 ∨ u.var = 3 by omega) with hv | hv | hv | hv
      all_goals rw [hv] at HE
      · have HE' : Hid (stpR m.st k = ⟨k.st, nextR m.st p 0, k.v.set 0 (-999), k.inp.tail⟩) := HE.out
        go_enter Try.func22, Try.ntmps22
        go_wp2_with fail
        go_quiet (fail)
        obtain ⟨w1, hW1⟩ : ∃ w1, w1 = w.drewN nq := ⟨_, rfl⟩
        rw [← hW1]
        have k1 : ∀ a, w1.cell? a = w.cell? a := fun a => by rw [hW1]; rfl
        have k2 : ∀ a, w1.frozen? a = w.frozen? a := fun a => by rw [hW1]; rfl
        rw [← k1] at r1 gp c0 c1 c2 c3 c4 b0 b1 b2 b3 v0 v1 v2 v3
        have bf1 : ∀ i, w1.frozen? ⟨b, i, none⟩ = false := fun i => (k2 _).trans (bf i)
        have qf1 : ∀ i, w1.frozen? ⟨q, i, none⟩ = false := fun i => (k2 _).trans (qf i)
        have HW1 : Hid (WRep B2 w1 r b q m iv k) := by rw [hW1]; exact HW.out.drewN _
        have HB1 : Hid (Below B2 w w1) := by rw [hW1]; exact below_drewN (Below.refl _ _) _
        have HSum1 := HSum.out w1 ⟨_, hW1⟩
        have HSm : Hid (∀ n, Calls Try.prog 35 #[.slice (some ⟨Y, 0, none⟩) 4 4, .slice (some ⟨q, 0, none⟩) 4 4] (w1.drewN n) fun e w' => e = .returned (.int .i64 sm) ∧ ∃ j, w' = (w1.drewN n).drewN j) := HSum1
        clear k1 k2 hW1 HSum1 bf qf
        go_wp2_with fail
        go_quiet (first | (go_at_call 35; refine Calls.quiet_of (HSm.out _)))
        go_wp2_with fail
        refine (HTk.out _ (HW1.out.drewN _)).mono ?_
        rintro e w2 ⟨rfl, iv2, hw2, hb2⟩
        have HW2 : Hid (WRep B2 w2 r b q m iv2 ⟨k.st, k.pt, k.v, k.inp.tail⟩) := hw2
        have HB2 : Hid (Below B2 w w2) := (below_drewN HB1.out nq).trans hb2
        have hs2 := HS'.out.keep HB2.out
        have x0 := hs2.c0
        have x1 := hs2.c1
        have x4 := hs2.c4
        obtain ⟨y0, y1, y2, y3, yf⟩ := hw2.cells
        simp only at y0 y1 y2 y3
        rw [hp] at y1
        have qf2 := hw2.vt.free
        have hvc2 : ∀ i, i < 4 → w2.cell? ⟨q, i, none⟩ = some (.int .i64 (sgAt k.v i)) := fun i hi => by rw [hw2.vt.cell, ic_get _ _ (by have := hw2.len; simp only at this ⊢; omega)]; rfl
        have z0 := hvc2 0 (by omega)
        have z1 := hvc2 1 (by omega)
        have z2 := hvc2 2 (by omega)
        have z3 := hvc2 3 (by omega)
        have hbl2 := hw2.at_.lt
        have hql2 := hw2.vt.lt
        clear hs2 hw2 hb2 hvc2 r1 gp c0 c1 c2 c3 c4 b0 b1 b2 b3 v0 v1 v2 v3
        rw [hv] at x1
        clear hv
        go_wp2_with fail
        go_region
        all_goals
          go_wp2_with fail
          refine (HNx.out _ _ _ _ ((HW2.out.drewN 1).setV 0 (by omega) (-999) (by omega) (by omega))).mono ?_
          rintro e w3 ⟨rfl, j, rfl⟩
          have HWf : Hid (WRep B2 _ r b q m iv2 _) := ((HW2.out.drewN 1).setV 0 (by omega) (-999) (by omega) (by omega)).drewN j
          obtain ⟨b0', b1', b2', b3', bf'⟩ := HWf.out.cells
          clear y0 y1 y2 y3
          go_wp2_with fail
          try simp only [Exit.inBlock, Exit.then]
          refine bodyPost_ret (results_none rfl _ _ _) rfl ?_
          refine ⟨rfl, iv2, ?_, ?_⟩
          · rw [HE'.out]; exact HWf.out.set 1 _ rfl rfl HWf.out.inp
          · exact (below_drewN ((below_drewN HB2.out 1).setCell HW2.out.gq _) j).setCell HW2.out.gb _
      · have HE' : Hid (stpR m.st k = ⟨k.st, nextR m.st p 0, k.v.set 1 (-999), k.inp.tail⟩) := HE.out
        go_enter Try.func22, Try.ntmps22
        go_wp2_with fail
        go_quiet (fail)
        obtain ⟨w1, hW1⟩ : ∃ w1, w1 = w.drewN nq := ⟨_, rfl⟩
        rw [← hW1]
        have k1 : ∀ a, w1.cell? a = w.cell? a := fun a => by rw [hW1]; rfl
        have k2 : ∀ a, w1.frozen? a = w.frozen? a := fun a => by rw [hW1]; rfl
        rw [← k1] at r1 gp c0 c1 c2 c3 c4 b0 b1 b2 b3 v0 v1 v2 v3
        have bf1 : ∀ i, w1.frozen? ⟨b, i, none⟩ = false := fun i => (k2 _).trans (bf i)
        have qf1 : ∀ i, w1.frozen? ⟨q, i, none⟩ = false := fun i => (k2 _).trans (qf i)
        have HW1 : Hid (WRep B2 w1 r b q m iv k) := by rw [hW1]; exact HW.out.drewN _
        have HB1 : Hid (Below B2 w w1) := by rw [hW1]; exact below_drewN (Below.refl _ _) _
        have HSum1 := HSum.out w1 ⟨_, hW1⟩
        have HSm : Hid (∀ n, Calls Try.prog 35 #[.slice (some ⟨Y, 0, none⟩) 4 4, .slice (some ⟨q, 0, none⟩) 4 4] (w1.drewN n) fun e w' => e = .returned (.int .i64 sm) ∧ ∃ j, w' = (w1.drewN n).drewN j) := HSum1
        clear k1 k2 hW1 HSum1 bf qf
        go_wp2_with fail
        go_quiet (first | (go_at_call 35; refine Calls.quiet_of (HSm.out _)))
        go_wp2_with fail
        refine (HTk.out _ (HW1.out.drewN _)).mono ?_
        rintro e w2 ⟨rfl, iv2, hw2, hb2⟩
        have HW2 : Hid (WRep B2 w2 r b q m iv2 ⟨k.st, k.pt, k.v, k.inp.tail⟩) := hw2
        have HB2 : Hid (Below B2 w w2) := (below_drewN HB1.out nq).trans hb2
        have hs2 := HS'.out.keep HB2.out
        have x0 := hs2.c0
        have x1 := hs2.c1
        have x4 := hs2.c4
        obtain ⟨y0, y1, y2, y3, yf⟩ := hw2.cells
        simp only at y0 y1 y2 y3
        rw [hp] at y1
        have qf2 := hw2.vt.free
        have hvc2 : ∀ i, i < 4 → w2.cell? ⟨q, i, none⟩ = some (.int .i64 (sgAt k.v i)) := fun i hi => by rw [hw2.vt.cell, ic_get _ _ (by have := hw2.len; simp only at this ⊢; omega)]; rfl
        have z0 := hvc2 0 (by omega)
        have z1 := hvc2 1 (by omega)
        have z2 := hvc2 2 (by omega)
        have z3 := hvc2 3 (by omega)
        have hbl2 := hw2.at_.lt
        have hql2 := hw2.vt.lt
        clear hs2 hw2 hb2 hvc2 r1 gp c0 c1 c2 c3 c4 b0 b1 b2 b3 v0 v1 v2 v3
        rw [hv] at x1
        clear hv
        go_wp2_with fail
        go_region
        all_goals
          go_wp2_with fail
          refine (HNx.out _ _ _ _ ((HW2.out.drewN 1).setV 1 (by omega) (-999) (by omega) (by omega))).mono ?_
          rintro e w3 ⟨rfl, j, rfl⟩
          have HWf : Hid (WRep B2 _ r b q m iv2 _) := ((HW2.out.drewN 1).setV 1 (by omega) (-999) (by omega) (by omega)).drewN j
          obtain ⟨b0', b1', b2', b3', bf'⟩ := HWf.out.cells
          clear y0 y1 y2 y3
          go_wp2_with fail
          try simp only [Exit.inBlock, Exit.then]
          refine bodyPost_ret (results_none rfl _ _ _) rfl ?_
          refine ⟨rfl, iv2, ?_, ?_⟩
          · rw [HE'.out]; exact HWf.out.set 1 _ rfl rfl HWf.out.inp
          · exact (below_drewN ((below_drewN HB2.out 1).setCell HW2.out.gq _) j).setCell HW2.out.gb _
      · have HE' : Hid (stpR m.st k = ⟨k.st, nextR m.st p 0, k.v.set 2 (-999), k.inp.tail⟩) := HE.out
        go_enter Try.func22, Try.ntmps22
        go_wp2_with fail
        go_quiet (fail)
        obtain ⟨w1, hW1⟩ : ∃ w1, w1 = w.drewN nq := ⟨_, rfl⟩
        rw [← hW1]
        have k1 : ∀ a, w1.cell? a = w.cell? a := fun a => by rw [hW1]; rfl
        have k2 : ∀ a, w1.frozen? a = w.frozen? a := fun a => by rw [hW1]; rfl
        rw [← k1] at r1 gp c0 c1 c2 c3 c4 b0 b1 b2 b3 v0 v1 v2 v3
        have bf1 : ∀ i, w1.frozen? ⟨b, i, none⟩ = false := fun i => (k2 _).trans (bf i)
        have qf1 : ∀ i, w1.frozen? ⟨q, i, none⟩ = false := fun i => (k2 _).trans (qf i)
        have HW1 : Hid (WRep B2 w1 r b q m iv k) := by rw [hW1]; exact HW.out.drewN _
        have HB1 : Hid (Below B2 w w1) := by rw [hW1]; exact below_drewN (Below.refl _ _) _
        have HSum1 := HSum.out w1 ⟨_, hW1⟩
        have HSm : Hid (∀ n, Calls Try.prog 35 #[.slice (some ⟨Y, 0, none⟩) 4 4, .slice (some ⟨q, 0, none⟩) 4 4] (w1.drewN n) fun e w' => e = .returned (.int .i64 sm) ∧ ∃ j, w' = (w1.drewN n).drewN j) := HSum1
        clear k1 k2 hW1 HSum1 bf qf
        go_wp2_with fail
        go_quiet (first | (go_at_call 35; refine Calls.quiet_of (HSm.out _)))
        go_wp2_with fail
        refine (HTk.out _ (HW1.out.drewN _)).mono ?_
        rintro e w2 ⟨rfl, iv2, hw2, hb2⟩
        have HW2 : Hid (WRep B2 w2 r b q m iv2 ⟨k.st, k.pt, k.v, k.inp.tail⟩) := hw2
        have HB2 : Hid (Below B2 w w2) := (below_drewN HB1.out nq).trans hb2
        have hs2 := HS'.out.keep HB2.out
        have x0 := hs2.c0
        have x1 := hs2.c1
        have x4 := hs2.c4
        obtain ⟨y0, y1, y2, y3, yf⟩ := hw2.cells
        simp only at y0 y1 y2 y3
        rw [hp] at y1
        have qf2 := hw2.vt.free
        have hvc2 : ∀ i, i < 4 → w2.cell? ⟨q, i, none⟩ = some (.int .i64 (sgAt k.v i)) := fun i hi => by rw [hw2.vt.cell, ic_get _ _ (by have := hw2.len; simp only at this ⊢; omega)]; rfl
        have z0 := hvc2 0 (by omega)
        have z1 := hvc2 1 (by omega)
        have z2 := hvc2 2 (by omega)
        have z3 := hvc2 3 (by omega)
        have hbl2 := hw2.at_.lt
        have hql2 := hw2.vt.lt
        clear hs2 hw2 hb2 hvc2 r1 gp c0 c1 c2 c3 c4 b0 b1 b2 b3 v0 v1 v2 v3
        rw [hv] at x1
        clear hv
        go_wp2_with fail
        go_region
        all_goals
          go_wp2_with fail
          refine (HNx.out _ _ _ _ ((HW2.out.drewN 1).setV 2 (by omega) (-999) (by omega) (by omega))).mono ?_
          rintro e w3 ⟨rfl, j, rfl⟩
          have HWf : Hid (WRep B2 _ r b q m iv2 _) := ((HW2.out.drewN 1).setV 2 (by omega) (-999) (by omega) (by omega)).drewN j
          obtain ⟨b0', b1', b2', b3', bf'⟩ := HWf.out.cells
          clear y0 y1 y2 y3
          go_wp2_with fail
          try simp only [Exit.inBlock, Exit.then]
          refine bodyPost_ret (results_none rfl _ _ _) rfl ?_
          refine ⟨rfl, iv2, ?_, ?_⟩
          · rw [HE'.out]; exact HWf.out.set 1 _ rfl rfl HWf.out.inp
          · exact (below_drewN ((below_drewN HB2.out 1).setCell HW2.out.gq _) j).setCell HW2.out.gb _
      · have HE' : Hid (stpR m.st k = ⟨k.st, nextR m.st p 0, k.v.set 3 (-999), k.inp.tail⟩) := HE.out
        go_enter Try.func22, Try.ntmps22
        go_wp2_with fail
        go_quiet (fail)
        obtain ⟨w1, hW1⟩ : ∃ w1, w1 = w.drewN nq := ⟨_, rfl⟩
        rw [← hW1]
        have k1 : ∀ a, w1.cell? a = w.cell? a := fun a => by rw [hW1]; rfl
        have k2 : ∀ a, w1.frozen? a = w.frozen? a := fun a => by rw [hW1]; rfl
        rw [← k1] at r1 gp c0 c1 c2 c3 c4 b0 b1 b2 b3 v0 v1 v2 v3
        have bf1 : ∀ i, w1.frozen? ⟨b, i, none⟩ = false := fun i => (k2 _).trans (bf i)
        have qf1 : ∀ i, w1.frozen? ⟨q, i, none⟩ = false := fun i => (k2 _).trans (qf i)
        have HW1 : Hid (WRep B2 w1 r b q m iv k) := by rw [hW1]; exact HW.out.drewN _
        have HB1 : Hid (Below B2 w w1) := by rw [hW1]; exact below_drewN (Below.refl _ _) _
        have HSum1 := HSum.out w1 ⟨_, hW1⟩
        have HSm : Hid (∀ n, Calls Try.prog 35 #[.slice (some ⟨Y, 0, none⟩) 4 4, .slice (some ⟨q, 0, none⟩) 4 4] (w1.drewN n) fun e w' => e = .returned (.int .i64 sm) ∧ ∃ j, w' = (w1.drewN n).drewN j) := HSum1
        clear k1 k2 hW1 HSum1 bf qf
        go_wp2_with fail
        go_quiet (first | (go_at_call 35; refine Calls.quiet_of (HSm.out _)))
        go_wp2_with fail
        refine (HTk.out _ (HW1.out.drewN _)).mono ?_
        rintro e w2 ⟨rfl, iv2, hw2, hb2⟩
        have HW2 : Hid (WRep B2 w2 r b q m iv2 ⟨k.st, k.pt, k.v, k.inp.tail⟩) := hw2
        have HB2 : Hid (Below B2 w w2) := (below_drewN HB1.out nq).trans hb2
        have hs2 := HS'.out.keep HB2.out
        have x0 := hs2.c0
        have x1 := hs2.c1
        have x4 := hs2.c4
        obtain ⟨y0, y1, y2, y3, yf⟩ := hw2.cells
        simp only at y0 y1 y2 y3
        rw [hp] at y1
        have qf2 := hw2.vt.free
        have hvc2 : ∀ i, i < 4 → w2.cell? ⟨q, i, none⟩ = some (.int .i64 (sgAt k.v i)) := fun i hi => by rw [hw2.vt.cell, ic_get _ _ (by have := hw2.len; simp only at this ⊢; omega)]; rfl
        have z0 := hvc2 0 (by omega)
        have z1 := hvc2 1 (by omega)
        have z2 := hvc2 2 (by omega)
        have z3 := hvc2 3 (by omega)
        have hbl2 := hw2.at_.lt
        have hql2 := hw2.vt.lt
        clear hs2 hw2 hb2 hvc2 r1 gp c0 c1 c2 c3 c4 b0 b1 b2 b3 v0 v1 v2 v3
        rw [hv] at x1
        clear hv
        go_wp2_with fail
        go_region
        all_goals
          go_wp2_with fail
          refine (HNx.out _ _ _ _ ((HW2.out.drewN 1).setV 3 (by omega) (-999) (by omega) (by omega))).mono ?_
          rintro e w3 ⟨rfl, j, rfl⟩
          have HWf : Hid (WRep B2 _ r b q m iv2 _) := ((HW2.out.drewN 1).setV 3 (by omega) (-999) (by omega) (by omega)).drewN j
          obtain ⟨b0', b1', b2', b3', bf'⟩ := HWf.out.cells
          clear y0 y1 y2 y3
          go_wp2_with fail
          try simp only [Exit.inBlock, Exit.then]
          refine bodyPost_ret (results_none rfl _ _ _) rfl ?_
          refine ⟨rfl, iv2, ?_, ?_⟩
          · rw [HE'.out]; exact HWf.out.set 1 _ rfl rfl HWf.out.inp
          · exact (below_drewN ((below_drewN HB2.out 1).setCell HW2.out.gq _) j).setCell HW2.out.gb _
    · have hcl : clampI hd = hd := by unfold clampI; rw [if_neg q1, if_neg q2]
      rw [hcl] at HE2
      have HE : Hid (_ = _) := HE2.out
      clear HE2 hcl
      rcases (show u.var = 0 ∨ u.var = 1 ∨ u.var = 2 ∨ u.var = 3 by omega) with hv | hv | hv | hv
      all_goals rw [hv] at HE
      · have HE' : Hid (stpR m.st k = ⟨k.st, nextR m.st p 0, k.v.set 0 (hd), k.inp.tail⟩) := HE.out
        go_enter Try.func22, Try.ntmps22
        go_wp2_with fail
        go_quiet (fail)
        obtain ⟨w1, hW1⟩ : ∃ w1, w1 = w.drewN nq := ⟨_, rfl⟩
        rw [← hW1]
        have k1 : ∀ a, w1.cell? a = w.cell? a := fun a => by rw [hW1]; rfl
        have k2 : ∀ a, w1.frozen? a = w.frozen? a := fun a => by rw [hW1]; rfl
        rw [← k1] at r1 gp c0 c1 c2 c3 c4 b0 b1 b2 b3 v0 v1 v2 v3
        have bf1 : ∀ i, w1.frozen? ⟨b, i, none⟩ = false := fun i => (k2 _).trans (bf i)
        have qf1 : ∀ i, w1.frozen? ⟨q, i, none⟩ = false := fun i => (k2 _).trans (qf i)
        have HW1 : Hid (WRep B2 w1 r b q m iv k) := by rw [hW1]; exact HW.out.drewN _
        have HB1 : Hid (Below B2 w w1) := by rw [hW1]; exact below_drewN (Below.refl _ _) _
        have HSum1 := HSum.out w1 ⟨_, hW1⟩
        have HSm : Hid (∀ n, Calls Try.prog 35 #[.slice (some ⟨Y, 0, none⟩) 4 4, .slice (some ⟨q, 0, none⟩) 4 4] (w1.drewN n) fun e w' => e = .returned (.int .i64 sm) ∧ ∃ j, w' = (w1.drewN n).drewN j) := HSum1
        clear k1 k2 hW1 HSum1 bf qf
        go_wp2_with fail
        go_quiet (first | (go_at_call 35; refine Calls.quiet_of (HSm.out _)))
        go_wp2_with fail
        refine (HTk.out _ (HW1.out.drewN _)).mono ?_
        rintro e w2 ⟨rfl, iv2, hw2, hb2⟩
        have HW2 : Hid (WRep B2 w2 r b q m iv2 ⟨k.st, k.pt, k.v, k.inp.tail⟩) := hw2
        have HB2 : Hid (Below B2 w w2) := (below_drewN HB1.out nq).trans hb2
        have hs2 := HS'.out.keep HB2.out
        have x0 := hs2.c0
        have x1 := hs2.c1
        have x4 := hs2.c4
        obtain ⟨y0, y1, y2, y3, yf⟩ := hw2.cells
        simp only at y0 y1 y2 y3
        rw [hp] at y1
        have qf2 := hw2.vt.free
        have hvc2 : ∀ i, i < 4 → w2.cell? ⟨q, i, none⟩ = some (.int .i64 (sgAt k.v i)) := fun i hi => by rw [hw2.vt.cell, ic_get _ _ (by have := hw2.len; simp only at this ⊢; omega)]; rfl
        have z0 := hvc2 0 (by omega)
        have z1 := hvc2 1 (by omega)
        have z2 := hvc2 2 (by omega)
        have z3 := hvc2 3 (by omega)
        have hbl2 := hw2.at_.lt
        have hql2 := hw2.vt.lt
        clear hs2 hw2 hb2 hvc2 r1 gp c0 c1 c2 c3 c4 b0 b1 b2 b3 v0 v1 v2 v3
        rw [hv] at x1
        clear hv
        go_wp2_with fail
        go_region
        all_goals
          go_wp2_with fail
          refine (HNx.out _ _ _ _ ((HW2.out.drewN 1).setV 0 (by omega) (hd) (by omega) (by omega))).mono ?_
          rintro e w3 ⟨rfl, j, rfl⟩
          have HWf : Hid (WRep B2 _ r b q m iv2 _) := ((HW2.out.drewN 1).setV 0 (by omega) (hd) (by omega) (by omega)).drewN j
          obtain ⟨b0', b1', b2', b3', bf'⟩ := HWf.out.cells
          clear y0 y1 y2 y3
          go_wp2_with fail
          try simp only [Exit.inBlock, Exit.then]
          refine bodyPost_ret (results_none rfl _ _ _) rfl ?_
          refine ⟨rfl, iv2, ?_, ?_⟩
          · rw [HE'.out]; exact HWf.out.set 1 _ rfl rfl HWf.out.inp
          · exact (below_drewN ((below_drewN HB2.out 1).setCell HW2.out.gq _) j).setCell HW2.out.gb _
      · have HE' : Hid (stpR m.st k = ⟨k.st, nextR m.st p 0, k.v.set 1 (hd), k.inp.tail⟩) := HE.out
        go_enter Try.func22, Try.ntmps22
        go_wp2_with fail
        go_quiet (fail)
        obtain ⟨w1, hW1⟩ : ∃ w1, w1 = w.drewN nq := ⟨_, rfl⟩
        rw [← hW1]
        have k1 : ∀ a, w1.cell? a = w.cell? a := fun a => by rw [hW1]; rfl
        have k2 : ∀ a, w1.frozen? a = w.frozen? a := fun a => by rw [hW1]; rfl
        rw [← k1] at r1 gp c0 c1 c2 c3 c4 b0 b1 b2 b3 v0 v1 v2 v3
        have bf1 : ∀ i, w1.frozen? ⟨b, i, none⟩ = false := fun i => (k2 _).trans (bf i)
        have qf1 : ∀ i, w1.frozen? ⟨q, i, none⟩ = false := fun i => (k2 _).trans (qf i)
        have HW1 : Hid (WRep B2 w1 r b q m iv k) := by rw [hW1]; exact HW.out.drewN _
        have HB1 : Hid (Below B2 w w1) := by rw [hW1]; exact below_drewN (Below.refl _ _) _
        have HSum1 := HSum.out w1 ⟨_, hW1⟩
        have HSm : Hid (∀ n, Calls Try.prog 35 #[.slice (some ⟨Y, 0, none⟩) 4 4, .slice (some ⟨q, 0, none⟩) 4 4] (w1.drewN n) fun e w' => e = .returned (.int .i64 sm) ∧ ∃ j, w' = (w1.drewN n).drewN j) := HSum1
        clear k1 k2 hW1 HSum1 bf qf
        go_wp2_with fail
        go_quiet (first | (go_at_call 35; refine Calls.quiet_of (HSm.out _)))
        go_wp2_with fail
        refine (HTk.out _ (HW1.out.drewN _)).mono ?_
        rintro e w2 ⟨rfl, iv2, hw2, hb2⟩
        have HW2 : Hid (WRep B2 w2 r b q m iv2 ⟨k.st, k.pt, k.v, k.inp.tail⟩) := hw2
        have HB2 : Hid (Below B2 w w2) := (below_drewN HB1.out nq).trans hb2
        have hs2 := HS'.out.keep HB2.out
        have x0 := hs2.c0
        have x1 := hs2.c1
        have x4 := hs2.c4
        obtain ⟨y0, y1, y2, y3, yf⟩ := hw2.cells
        simp only at y0 y1 y2 y3
        rw [hp] at y1
        have qf2 := hw2.vt.free
        have hvc2 : ∀ i, i < 4 → w2.cell? ⟨q, i, none⟩ = some (.int .i64 (sgAt k.v i)) := fun i hi => by rw [hw2.vt.cell, ic_get _ _ (by have := hw2.len; simp only at this ⊢; omega)]; rfl
        have z0 := hvc2 0 (by omega)
        have z1 := hvc2 1 (by omega)
        have z2 := hvc2 2 (by omega)
        have z3 := hvc2 3 (by omega)
        have hbl2 := hw2.at_.lt
        have hql2 := hw2.vt.lt
        clear hs2 hw2 hb2 hvc2 r1 gp c0 c1 c2 c3 c4 b0 b1 b2 b3 v0 v1 v2 v3
        rw [hv] at x1
        clear hv
        go_wp2_with fail
        go_region
        all_goals
          go_wp2_with fail
          refine (HNx.out _ _ _ _ ((HW2.out.drewN 1).setV 1 (by omega) (hd) (by omega) (by omega))).mono ?_
          rintro e w3 ⟨rfl, j, rfl⟩
          have HWf : Hid (WRep B2 _ r b q m iv2 _) := ((HW2.out.drewN 1).setV 1 (by omega) (hd) (by omega) (by omega)).drewN j
          obtain ⟨b0', b1', b2', b3', bf'⟩ := HWf.out.cells
          clear y0 y1 y2 y3
          go_wp2_with fail
          try simp only [Exit.inBlock, Exit.then]
          refine bodyPost_ret (results_none rfl _ _ _) rfl ?_
          refine ⟨rfl, iv2, ?_, ?_⟩
          · rw [HE'.out]; exact HWf.out.set 1 _ rfl rfl HWf.out.inp
          · exact (below_drewN ((below_drewN HB2.out 1).setCell HW2.out.gq _) j).setCell HW2.out.gb _
      · have HE' : Hid (stpR m.st k = ⟨k.st, nextR m.st p 0, k.v.set 2 (hd), k.inp.tail⟩) := HE.out
        go_enter Try.func22, Try.ntmps22
        go_wp2_with fail
        go_quiet (fail)
        obtain ⟨w1, hW1⟩ : ∃ w1, w1 = w.drewN nq := ⟨_, rfl⟩
        rw [← hW1]
        have k1 : ∀ a, w1.cell? a = w.cell? a := fun a => by rw [hW1]; rfl
        have k2 : ∀ a, w1.frozen? a = w.frozen? a := fun a => by rw [hW1]; rfl
        rw [← k1] at r1 gp c0 c1 c2 c3 c4 b0 b1 b2 b3 v0 v1 v2 v3
        have bf1 : ∀ i, w1.frozen? ⟨b, i, none⟩ = false := fun i => (k2 _).trans (bf i)
        have qf1 : ∀ i, w1.frozen? ⟨q, i, none⟩ = false := fun i => (k2 _).trans (qf i)
        have HW1 : Hid (WRep B2 w1 r b q m iv k) := by rw [hW1]; exact HW.out.drewN _
        have HB1 : Hid (Below B2 w w1) := by rw [hW1]; exact below_drewN (Below.refl _ _) _
        have HSum1 := HSum.out w1 ⟨_, hW1⟩
        have HSm : Hid (∀ n, Calls Try.prog 35 #[.slice (some ⟨Y, 0, none⟩) 4 4, .slice (some ⟨q, 0, none⟩) 4 4] (w1.drewN n) fun e w' => e = .returned (.int .i64 sm) ∧ ∃ j, w' = (w1.drewN n).drewN j) := HSum1
        clear k1 k2 hW1 HSum1 bf qf
        go_wp2_with fail
        go_quiet (first | (go_at_call 35; refine Calls.quiet_of (HSm.out _)))
        go_wp2_with fail
        refine (HTk.out _ (HW1.out.drewN _)).mono ?_
        rintro e w2 ⟨rfl, iv2, hw2, hb2⟩
        have HW2 : Hid (WRep B2 w2 r b q m iv2 ⟨k.st, k.pt, k.v, k.inp.tail⟩) := hw2
        have HB2 : Hid (Below B2 w w2) := (below_drewN HB1.out nq).trans hb2
        have hs2 := HS'.out.keep HB2.out
        have x0 := hs2.c0
        have x1 := hs2.c1
        have x4 := hs2.c4
        obtain ⟨y0, y1, y2, y3, yf⟩ := hw2.cells
        simp only at y0 y1 y2 y3
        rw [hp] at y1
        have qf2 := hw2.vt.free
        have hvc2 : ∀ i, i < 4 → w2.cell? ⟨q, i, none⟩ = some (.int .i64 (sgAt k.v i)) := fun i hi => by rw [hw2.vt.cell, ic_get _ _ (by have := hw2.len; simp only at this ⊢; omega)]; rfl
        have z0 := hvc2 0 (by omega)
        have z1 := hvc2 1 (by omega)
        have z2 := hvc2 2 (by omega)
        have z3 := hvc2 3 (by omega)
        have hbl2 := hw2.at_.lt
        have hql2 := hw2.vt.lt
        clear hs2 hw2 hb2 hvc2 r1 gp c0 c1 c2 c3 c4 b0 b1 b2 b3 v0 v1 v2 v3
        rw [hv] at x1
        clear hv
        go_wp2_with fail
        go_region
        all_goals
          go_wp2_with fail
          refine (HNx.out _ _ _ _ ((HW2.out.drewN 1).setV 2 (by omega) (hd) (by omega) (by omega))).mono ?_
          rintro e w3 ⟨rfl, j, rfl⟩
          have HWf : Hid (WRep B2 _ r b q m iv2 _) := ((HW2.out.drewN 1).setV 2 (by omega) (hd) (by omega) (by omega)).drewN j
          obtain ⟨b0', b1', b2', b3', bf'⟩ := HWf.out.cells
          clear y0 y1 y2 y3
          go_wp2_with fail
          try simp only [Exit.inBlock, Exit.then]
          refine bodyPost_ret (results_none rfl _ _ _) rfl ?_
          refine ⟨rfl, iv2, ?_, ?_⟩
          · rw [HE'.out]; exact HWf.out.set 1 _ rfl rfl HWf.out.inp
          · exact (below_drewN ((below_drewN HB2.out 1).setCell HW2.out.gq _) j).setCell HW2.out.gb _
      · have HE' : Hid (stpR m.st k = ⟨k.st, nextR m.st p 0, k.v.set 3 (hd), k.inp.tail⟩) := HE.out
        go_enter Try.func22, Try.ntmps22
        go_wp2_with fail
        go_quiet (fail)
        obtain ⟨w1, hW1⟩ : ∃ w1, w1 = w.drewN nq := ⟨_, rfl⟩
        rw [← hW1]
        have k1 : ∀ a, w1.cell? a = w.cell? a := fun a => by rw [hW1]; rfl
        have k2 : ∀ a, w1.frozen? a = w.frozen? a := fun a => by rw [hW1]; rfl
        rw [← k1] at r1 gp c0 c1 c2 c3 c4 b0 b1 b2 b3 v0 v1 v2 v3
        have bf1 : ∀ i, w1.frozen? ⟨b, i, none⟩ = false := fun i => (k2 _).trans (bf i)
        have qf1 : ∀ i, w1.frozen? ⟨q, i, none⟩ = false := fun i => (k2 _).trans (qf i)
        have HW1 : Hid (WRep B2 w1 r b q m iv k) := by rw [hW1]; exact HW.out.drewN _
        have HB1 : Hid (Below B2 w w1) := by rw [hW1]; exact below_drewN (Below.refl _ _) _
        have HSum1 := HSum.out w1 ⟨_, hW1⟩
        have HSm : Hid (∀ n, Calls Try.prog 35 #[.slice (some ⟨Y, 0, none⟩) 4 4, .slice (some ⟨q, 0, none⟩) 4 4] (w1.drewN n) fun e w' => e = .returned (.int .i64 sm) ∧ ∃ j, w' = (w1.drewN n).drewN j) := HSum1
        clear k1 k2 hW1 HSum1 bf qf
        go_wp2_with fail
        go_quiet (first | (go_at_call 35; refine Calls.quiet_of (HSm.out _)))
        go_wp2_with fail
        refine (HTk.out _ (HW1.out.drewN _)).mono ?_
        rintro e w2 ⟨rfl, iv2, hw2, hb2⟩
        have HW2 : Hid (WRep B2 w2 r b q m iv2 ⟨k.st, k.pt, k.v, k.inp.tail⟩) := hw2
        have HB2 : Hid (Below B2 w w2) := (below_drewN HB1.out nq).trans hb2
        have hs2 := HS'.out.keep HB2.out
        have x0 := hs2.c0
        have x1 := hs2.c1
        have x4 := hs2.c4
        obtain ⟨y0, y1, y2, y3, yf⟩ := hw2.cells
        simp only at y0 y1 y2 y3
        rw [hp] at y1
        have qf2 := hw2.vt.free
        have hvc2 : ∀ i, i < 4 → w2.cell? ⟨q, i, none⟩ = some (.int .i64 (sgAt k.v i)) := fun i hi => by rw [hw2.vt.cell, ic_get _ _ (by have := hw2.len; simp only at this ⊢; omega)]; rfl
        have z0 := hvc2 0 (by omega)
        have z1 := hvc2 1 (by omega)
        have z2 := hvc2 2 (by omega)
        have z3 := hvc2 3 (by omega)
        have hbl2 := hw2.at_.lt
        have hql2 := hw2.vt.lt
        clear hs2 hw2 hb2 hvc2 r1 gp c0 c1 c2 c3 c4 b0 b1 b2 b3 v0 v1 v2 v3
        rw [hv] at x1
        clear hv
        go_wp2_with fail
        go_region
        all_goals
          go_wp2_with fail
          refine (HNx.out _ _ _ _ ((HW2.out.drewN 1).setV 3 (by omega) (hd) (by omega) (by omega))).mono ?_
          rintro e w3 ⟨rfl, j, rfl⟩
          have HWf : Hid (WRep B2 _ r b q m iv2 _) := ((HW2.out.drewN 1).setV 3 (by omega) (hd) (by omega) (by omega)).drewN j
          obtain ⟨b0', b1', b2', b3', bf'⟩ := HWf.out.cells
          clear y0 y1 y2 y3
          go_wp2_with fail
          try simp only [Exit.inBlock, Exit.then]
          refine bodyPost_ret (results_none rfl _ _ _) rfl ?_
          refine ⟨rfl, iv2, ?_, ?_⟩
          · rw [HE'.out]; exact HWf.out.set 1 _ rfl rfl HWf.out.inp
          · exact (below_drewN ((below_drewN HB2.out 1).setCell HW2.out.gq _) j).setCell HW2.out.gb _

end Go.Proofs.Ytjbpfbgemidleaa

