import Derived.Test.YtjbpfbgemidleaaJ10
namespace Go.Proofs.Ytjbpfbgemidleaa
open Go.RowKit
variable {B2 : Nat} {w : World} {r : Nat} {m : Rd}

set_option maxRecDepth 100000 in
set_option maxHeartbeats 3200000 in
theorem r_stepc {b q : Nat} {iv : Value} {k : Wk} (h : WRep B2 w r b q m iv k) (hS : SOk m.st) (hL : k.inp.length ≤ 1073741824) (h0 : 0 ≤ k.pt) (h1 : k.pt < m.st.length) (k61 : (m.st.getD k.pt.toNat noSt).kind ≠ 61) :
    Calls Try.prog 22 #[.pointer (some ⟨b, 0, none⟩), .pointer (some ⟨r, 0, none⟩)] w fun e w' => e = .returned (.tuple #[]) ∧ WStep B2 w r b q m (stpR m.st k) w' := by
  obtain ⟨p, hp⟩ : ∃ p : Nat, k.pt = p := ⟨k.pt.toNat, by omega⟩
  have hpl : p < m.st.length := by omega
  have hpi : (p : Int) < (m.st.length : Int) := by omega
  obtain ⟨g, cap, X, Y, hs⟩ := h.rd.stmt p hpl
  have hmem : m.st.getD p noSt ∈ m.st := List.mem_of_getElem? (Rep.gets hpl)
  have hsgl := hS.sgl _ hmem
  obtain ⟨hn0, hn1⟩ := hS.num _ hmem
  obtain ⟨hv0, hv3, hsg⟩ := hS.gd _ hmem
  obtain ⟨b0, b1, b2, b3, bf⟩ := h.cells
  rw [hp] at b1
  have qf := h.vt.free
  have hvc : ∀ i, i < 4 → w.cell? ⟨q, i, none⟩ = some (.int .i64 (sgAt k.v i)) := fun i hi => by rw [h.vt.cell, ic_get _ _ (by have := h.len; omega)]; rfl
  have v0 := hvc 0 (by omega)
  have v1 := hvc 1 (by omega)
  have v2 := hvc 2 (by omega)
  have v3 := hvc 3 (by omega)
  have hbq : b ≠ q := h.at_.ne h.vt (by decide)
  have hqb : q ≠ b := Ne.symm hbq
  have hbl := h.at_.lt
  have hql := h.vt.lt
  have HS' : Hid (SAt w B2 r p m.st.length (m.st.getD p noSt) g cap X Y) := hs
  obtain ⟨r1, gp, c0, c1, c2, c3, c4, sg, lr, lg, lX, lY⟩ := hs
  have HW : Hid (WRep B2 w r b q m iv k) := h
  have HSum : Hid (∀ w1, (∃ n0, w1 = w.drewN n0) → ∀ n, Calls Try.prog 35 #[.slice (some ⟨Y, 0, none⟩) 4 4, .slice (some ⟨q, 0, none⟩) 4 4] (w1.drewN n) fun e w' => e = .returned (.int .i64 (sumTo (m.st.getD p noSt).sg k.v 4)) ∧ ∃ j, w' = (w1.drewN n).drewN j) := by
    rintro w1 ⟨n0, rfl⟩ n
    exact r_sum _ _ Y q (fun i => sgAt_mem' _ i hsg) HW.out.v _ ((sg.drewN n0).drewN n) ((HW.out.vt.drewN n0).drewN n) hsgl HW.out.len
  have hsum := sumTo_le (fun i => sgAt_mem' (m.st.getD p noSt).sg i hsg) h.v 4
  have HNx : Hid (∀ iv' k' w1 way, WRep B2 w1 r b q m iv' k' → Calls Try.prog 20 #[.pointer (some ⟨r, 0, none⟩), .int .i64 (p : Int), .int .i64 way] w1 fun e w' => e = .returned (.int .i64 (nextR m.st p way)) ∧ ∃ j, w' = w1.drewN j) := fun iv' k' w1 way h1 => next_of h1 hS.len p hpl way
  have HTk : Hid (∀ w1, WRep B2 w1 r b q m iv k → Calls Try.prog 36 #[.pointer (some ⟨b, 0, none⟩)] w1 fun e w' => e = .returned (.int .i64 (k.inp.headD 0)) ∧ WStep B2 w1 r b q m ⟨k.st, k.pt, k.v, k.inp.tail⟩ w') := fun w1 h1 => r_take h1 hL
  have HE0 : Hid (stpR m.st k = stpRu m.st p (m.st.getD p noSt) k) := by show stpR m.st k = _; unfold stpR; rw [hp, Int.toNat_natCast]
  clear h hS sg hsg hmem hsgl hvc
  rw [hp, Int.toNat_natCast] at k61
  generalize m.st.getD p noSt = u at *
  unfold stpRu at HE0
  generalize sumTo u.sg k.v 4 = sm at *
  have e1 : -3996 ≤ sm := by omega
  have e2 : sm ≤ 3996 := by omega
  have hw : IntKind.i64.wrap (sm + u.num) = sm + u.num := by rw [IntKind.wrap_i64]; omega
  clear hsum
  have HE1 : Hid (_ = _) := HE0.out.trans (if_neg k61)
  have q61 : (u.kind == 61) = false := by simpa using k61
  clear HE0 k61
  cases hst : u.star
  · rw [hst] at c2 HE1
    have HE2 : Hid (_ = _) := HE1.out.trans (if_neg (by decide))
    clear HE1 hst
    by_cases hle : sm ≤ u.num
    · have HE : Hid (stpR m.st k = ⟨k.st, nextR m.st p 0, k.v, k.inp⟩) := HE2.out.trans (if_pos hle)
      have hdl : decide (sm ≤ u.num) = true := by simpa using hle
      clear HE2
      go_enter Try.func22, Try.ntmps22
      go_wp2_with fail
      go_quiet (fail)
      obtain ⟨w1, hW1⟩ : ∃ w1, w1 = w.drewN nq := ⟨_, rfl⟩
      rw [← hW1]
      have k1 : ∀ a, w1.cell? a = w.cell? a := fun a => by rw [hW1]; rfl
      have k2 : ∀ a, w1.frozen? a = w.frozen? a := fun a => by rw [hW1]; rfl
      rw [← k1] at r1 gp c0 c1 c2 c3 c4 b0 b1 b2 b3 v0 v1 v2 v3
      have bf1 : ∀ i, w1.frozen? ⟨b, i, none⟩ = false := fun i => (k2 _).trans (bf i)
      have qf1 : ∀ i, w1.frozen? ⟨q, i, none⟩ = false := fun i => (k2 _).trans (qf i)
      have HW1 : Hid (WRep B2 w1 r b q m iv k) := by rw [hW1]; exact HW.out.drewN _
      have HB1 : Hid (Below B2 w w1) := by rw [hW1]; exact below_drewN (Below.refl _ _) _
      have HSum1 := HSum.out w1 ⟨_, hW1⟩
      have HSm : Hid (∀ n, Calls Try.prog 35 #[.slice (some ⟨Y, 0, none⟩) 4 4, .slice (some ⟨q, 0, none⟩) 4 4] (w1.drewN n) fun e w' => e = .returned (.int .i64 sm) ∧ ∃ j, w' = (w1.drewN n).drewN j) := HSum1
      clear k1 k2 hW1 HSum1 bf qf
      go_wp2_with fail
      go_quiet (first | (go_at_call 35; refine Calls.quiet_of (HSm.out _)))
      go_wp2_with fail
      refine (HNx.out _ _ _ _ (HW1.out.drewN _)).mono ?_
      rintro e w2 ⟨rfl, j, rfl⟩
      have HWf : Hid (WRep B2 _ r b q m iv k) := HW1.out.drewN (nq + j)
      obtain ⟨b0', b1', b2', b3', bf'⟩ := HWf.out.cells
      clear b0 b1 b2 b3
      go_wp2_with fail
      go_end0
      refine ⟨rfl, iv, ?_, ?_⟩
      · rw [HE.out]; exact HWf.out.set (k' := ⟨k.st, nextR m.st p 0, k.v, k.inp⟩) 1 _ rfl rfl HWf.out.inp
      · exact (below_drewN HB1.out (nq + j)).setCell (by exact HW1.out.gb) _
    · have HE3 : Hid (_ = _) := HE2.out.trans (if_neg hle)
      have hdl : decide (sm ≤ u.num) = false := by simpa using hle
      clear HE2
      by_cases k33 : u.kind = 33
      · have HE : Hid (stpR m.st k = ⟨3, k.pt, k.v, k.inp⟩) := HE3.out.trans (if_pos k33)
        rw [k33] at c0
        clear HE3 k33 q61
        go_enter Try.func22, Try.ntmps22
        go_wp2_with fail
        go_quiet (fail)
        obtain ⟨w1, hW1⟩ : ∃ w1, w1 = w.drewN nq := ⟨_, rfl⟩
        rw [← hW1]
        have k1 : ∀ a, w1.cell? a = w.cell? a := fun a => by rw [hW1]; rfl
        have k2 : ∀ a, w1.frozen? a = w.frozen? a := fun a => by rw [hW1]; rfl
        rw [← k1] at r1 gp c0 c1 c2 c3 c4 b0 b1 b2 b3 v0 v1 v2 v3
        have bf1 : ∀ i, w1.frozen? ⟨b, i, none⟩ = false := fun i => (k2 _).trans (bf i)
        have qf1 : ∀ i, w1.frozen? ⟨q, i, none⟩ = false := fun i => (k2 _).trans (qf i)
        have HW1 : Hid (WRep B2 w1 r b q m iv k) := by rw [hW1]; exact HW.out.drewN _
        have HB1 : Hid (Below B2 w w1) := by rw [hW1]; exact below_drewN (Below.refl _ _) _
        have HSum1 := HSum.out w1 ⟨_, hW1⟩
        have HSm : Hid (∀ n, Calls Try.prog 35 #[.slice (some ⟨Y, 0, none⟩) 4 4, .slice (some ⟨q, 0, none⟩) 4 4] (w1.drewN n) fun e w' => e = .returned (.int .i64 sm) ∧ ∃ j, w' = (w1.drewN n).drewN j) := HSum1
        clear k1 k2 hW1 HSum1 bf qf
        go_wp2_with fail
        go_quiet (first | (go_at_call 35; refine Calls.quiet_of (HSm.out _)))
        go_wp2_with fail
        go_end0
        exact ⟨rfl, iv, by rw [HE.out]; exact (HW1.out.drewN _).set 0 _ rfl rfl (HW1.out.drewN _).inp, (below_drewN HB1.out _).setCell HW1.out.gb _⟩
      · have HE : Hid (stpR m.st k = ⟨k.st, nextR m.st p 1, k.v, k.inp⟩) := HE3.out.trans (if_neg k33)
        have q33 : (u.kind == 33) = false := by simpa using k33
        clear HE3 k33
        go_enter Try.func22, Try.ntmps22
        go_wp2_with fail
        go_quiet (fail)
        obtain ⟨w1, hW1⟩ : ∃ w1, w1 = w.drewN nq := ⟨_, rfl⟩
        rw [← hW1]
        have k1 : ∀ a, w1.cell? a = w.cell? a := fun a => by rw [hW1]; rfl
        have k2 : ∀ a, w1.frozen? a = w.frozen? a := fun a => by rw [hW1]; rfl
        rw [← k1] at r1 gp c0 c1 c2 c3 c4 b0 b1 b2 b3 v0 v1 v2 v3
        have bf1 : ∀ i, w1.frozen? ⟨b, i, none⟩ = false := fun i => (k2 _).trans (bf i)
        have qf1 : ∀ i, w1.frozen? ⟨q, i, none⟩ = false := fun i => (k2 _).trans (qf i)
        have HW1 : Hid (WRep B2 w1 r b q m iv k) := by rw [hW1]; exact HW.out.drewN _
        have HB1 : Hid (Below B2 w w1) := by rw [hW1]; exact below_drewN (Below.refl _ _) _
        have HSum1 := HSum.out w1 ⟨_, hW1⟩
        have HSm : Hid (∀ n, Calls Try.prog 35 #[.slice (some ⟨Y, 0, none⟩) 4 4, .slice (some ⟨q, 0, none⟩) 4 4] (w1.drewN n) fun e w' => e = .returned (.int .i64 sm) ∧ ∃ j, w' = (w1.drewN n).drewN j) := HSum1
        clear k1 k2 hW1 HSum1 bf qf
        go_wp2_with fail
        go_quiet (first | (go_at_call 35; refine Calls.quiet_of (HSm.out _)))
        go_wp2_with fail
        refine (HNx.out _ _ _ _ (HW1.out.drewN _)).mono ?_
        rintro e w2 ⟨rfl, j, rfl⟩
        have HWf : Hid (WRep B2 _ r b q m iv k) := HW1.out.drewN (nq + j)
        obtain ⟨b0', b1', b2', b3', bf'⟩ := HWf.out.cells
        clear b0 b1 b2 b3
        go_wp2_with fail
        go_end0
        refine ⟨rfl, iv, ?_, ?_⟩
        · rw [HE.out]; exact HWf.out.set (k' := ⟨k.st, nextR m.st p 1, k.v, k.inp⟩) 1 _ rfl rfl HWf.out.inp
        · exact (below_drewN HB1.out (nq + j)).setCell (by exact HW1.out.gb) _
  · rw [hst] at c2 HE1
    have HE2 : Hid (_ = _) := HE1.out.trans (if_pos rfl)
    clear HE1 hst
    generalize k.inp.headD 0 = hd at *
    by_cases hz : hd = 0
    · have HE3 : Hid (_ = _) := HE2.out.trans (if_neg (fun e => e hz))
      subst hz
      clear HE2
      by_cases k33 : u.kind = 33
      · have HE : Hid (stpR m.st k = ⟨3, k.pt, k.v, k.inp.tail⟩) := HE3.out.trans (if_pos k33)
        clear HE3
        go_enter Try.func22, Try.ntmps22
        go_wp2_with fail
        go_quiet (fail)
        obtain ⟨w1, hW1⟩ : ∃ w1, w1 = w.drewN nq := ⟨_, rfl⟩
        rw [← hW1]
        have k1 : ∀ a, w1.cell? a = w.cell? a := fun a => by rw [hW1]; rfl
        have k2 : ∀ a, w1.frozen? a = w.frozen? a := fun a => by rw [hW1]; rfl
        rw [← k1] at r1 gp c0 c1 c2 c3 c4 b0 b1 b2 b3 v0 v1 v2 v3
        have bf1 : ∀ i, w1.frozen? ⟨b, i, none⟩ = false := fun i => (k2 _).trans (bf i)
        have qf1 : ∀ i, w1.frozen? ⟨q, i, none⟩ = false := fun i => (k2 _).trans (qf i)
        have HW1 : Hid (WRep B2 w1 r b q m iv k) := by rw [hW1]; exact HW.out.drewN _
        have HB1 : Hid (Below B2 w w1) := by rw [hW1]; exact below_drewN (Below.refl _ _) _
        have HSum1 := HSum.out w1 ⟨_, hW1⟩
        have HSm : Hid (∀ n, Calls Try.prog 35 #[.slice (some ⟨Y, 0, none⟩) 4 4, .slice (some ⟨q, 0, none⟩) 4 4] (w1.drewN n) fun e w' => e = .returned (.int .i64 sm) ∧ ∃ j, w' = (w1.drewN n).drewN j) := HSum1
        clear k1 k2 hW1 HSum1 bf qf
        go_wp2_with fail
        go_quiet (first | (go_at_call 35; refine Calls.quiet_of (HSm.out _)))
        go_wp2_with fail
        refine (HTk.out _ (HW1.out.drewN _)).mono ?_
        rintro e w2 ⟨rfl, iv2, hw2, hb2⟩
        have HW2 : Hid (WRep B2 w2 r b q m iv2 ⟨k.st, k.pt, k.v, k.inp.tail⟩) := hw2
        have HB2 : Hid (Below B2 w w2) := (below_drewN HB1.out nq).trans hb2
        have hs2 := HS'.out.keep HB2.out
        have x0 := hs2.c0
        have x1 := hs2.c1
        have x4 := hs2.c4
        obtain ⟨y0, y1, y2, y3, yf⟩ := hw2.cells
        simp only at y0 y1 y2 y3
        rw [hp] at y1
        have qf2 := hw2.vt.free
        have hvc2 : ∀ i, i < 4 → w2.cell? ⟨q, i, none⟩ = some (.int .i64 (sgAt k.v i)) := fun i hi => by rw [hw2.vt.cell, ic_get _ _ (by have := hw2.len; simp only at this ⊢; omega)]; rfl
        have z0 := hvc2 0 (by omega)
        have z1 := hvc2 1 (by omega)
        have z2 := hvc2 2 (by omega)
        have z3 := hvc2 3 (by omega)
        have hbl2 := hw2.at_.lt
        have hql2 := hw2.vt.lt
        clear hs2 hw2 hb2 hvc2 r1 gp c0 c1 c2 c3 c4 b0 b1 b2 b3 v0 v1 v2 v3
        rw [k33] at x0
        clear k33 q61
        go_wp2_with fail
        go_end0
        exact ⟨rfl, iv2, by rw [HE.out]; exact HW2.out.set 0 _ rfl rfl HW2.out.inp, HB2.out.setCell HW2.out.gb _⟩
      · have HE : Hid (stpR m.st k = ⟨k.st, nextR m.st p 1, k.v, k.inp.tail⟩) := HE3.out.trans (if_neg k33)
        have q33 : (u.kind == 33) = false := by simpa using k33
        clear HE3 k33
        go_enter Try.func22, Try.ntmps22
        go_wp2_with fail
        go_quiet (fail)
        obtain ⟨w1, hW1⟩ : ∃ w1, w1 = w.drewN nq := ⟨_, rfl⟩
        rw [← hW1]
        have k1 : ∀ a, w1.cell? a = w.cell? a := fun a => by rw [hW1]; rfl
        have k2 : ∀ a, w1.frozen? a = w.frozen? a := fun a => by rw [hW1]; rfl
        rw [← k1] at r1 gp c0 c1 c2 c3 c4 b0 b1 b2 b3 v0 v1 v2 v3
        have bf1 : ∀ i, w1.frozen? ⟨b, i, none⟩ = false := fun i => (k2 _).trans (bf i)
        have qf1 : ∀ i, w1.frozen? ⟨q, i, none⟩ = false := fun i => (k2 _).trans (qf i)
        have HW1 : Hid (WRep B2 w1 r b q m iv k) := by rw [hW1]; exact HW.out.drewN _
        have HB1 : Hid (Below B2 w w1) := by rw [hW1]; exact below_drewN (Below.refl _ _) _
        have HSum1 := HSum.out w1 ⟨_, hW1⟩
        have HSm : Hid (∀ n, Calls Try.prog 35 #[.slice (some ⟨Y, 0, none⟩) 4 4, .slice (some ⟨q, 0, none⟩) 4 4] (w1.drewN n) fun e w' => e = .returned (.int .i64 sm) ∧ ∃ j, w' = (w1.drewN n).drewN j) := HSum1
        clear k1 k2 hW1 HSum1 bf qf
        go_wp2_with fail
        go_quiet (first | (go_at_call 35; refine Calls.quiet_of (HSm.out _)))
        go_wp2_with fail
        refine (HTk.out _ (HW1.out.drewN _)).mono ?_
        rintro e w2 ⟨rfl, iv2, hw2, hb2⟩
        have HW2 : Hid (WRep B2 w2 r b q m iv2 ⟨k.st, k.pt, k.v, k.inp.tail⟩) := hw2
        have HB2 : Hid (Below B2 w w2) := (below_drewN HB1.out nq).trans hb2
        have hs2 := HS'.out.keep HB2.out
        have x0 := hs2.c0
        have x1 := hs2.c1
        have x4 := hs2.c4
        obtain ⟨y0, y1, y2, y3, yf⟩ := hw2.cells
        simp only at y0 y1 y2 y3
        rw [hp] at y1
        have qf2 := hw2.vt.free
        have hvc2 : ∀ i, i < 4 → w2.cell? ⟨q, i, none⟩ = some (.int .i64 (sgAt k.v i)) := fun i hi => by rw [hw2.vt.cell, ic_get _ _ (by have := hw2.len; simp only at this ⊢; omega)]; rfl
        have z0 := hvc2 0 (by omega)
        have z1 := hvc2 1 (by omega)
        have z2 := hvc2 2 (by omega)
        have z3 := hvc2 3 (by omega)
        have hbl2 := hw2.at_.lt
        have hql2 := hw2.vt.lt
        clear hs2 hw2 hb2 hvc2 r1 gp c0 c1 c2 c3 c4 b0 b1 b2 b3 v0 v1 v2 v3
        go_wp2_with fail
        refine (HNx.out _ _ _ _ HW2.out).mono ?_
        rintro e w3 ⟨rfl, j, rfl⟩
        have HWf : Hid (WRep B2 _ r b q m iv2 _) := HW2.out.drewN j
        obtain ⟨b0', b1', b2', b3', bf'⟩ := HWf.out.cells
        clear y0 y1 y2 y3
        go_wp2_with fail
        go_end0
        refine ⟨rfl, iv2, ?_, ?_⟩
        · rw [HE.out]; exact HWf.out.set (k' := ⟨k.st, nextR m.st p 1, k.v, k.inp.tail⟩) 1 _ rfl rfl HWf.out.inp
        · exact (below_drewN HB2.out j).setCell (by exact HW2.out.gb) _
    · have HE : Hid (stpR m.st k = ⟨k.st, nextR m.st p 0, k.v, k.inp.tail⟩) := HE2.out.trans (if_pos hz)
      have hzb : (hd != 0) = true := by rw [bne_iff_ne]; exact hz
      clear HE2
      go_enter Try.func22, Try.ntmps22
      go_wp2_with fail
      go_quiet (fail)
      obtain ⟨w1, hW1⟩ : ∃ w1, w1 = w.drewN nq := ⟨_, rfl⟩
      rw [← hW1]
      have k1 : ∀ a, w1.cell? a = w.cell? a := fun a => by rw [hW1]; rfl
      have k2 : ∀ a, w1.frozen? a = w.frozen? a := fun a => by rw [hW1]; rfl
      rw [← k1] at r1 gp c0 c1 c2 c3 c4 b0 b1 b2 b3 v0 v1 v2 v3
      have bf1 : ∀ i, w1.frozen? ⟨b, i, none⟩ = false := fun i => (k2 _).trans (bf i)
      have qf1 : ∀ i, w1.frozen? ⟨q, i, none⟩ = false := fun i => (k2 _).trans (qf i)
      have HW1 : Hid (WRep B2 w1 r b q m iv k) := by rw [hW1]; exact HW.out.drewN _
      have HB1 : Hid (Below B2 w w1) := by rw [hW1]; exact below_drewN (Below.refl _ _) _
      have HSum1 := HSum.out w1 ⟨_, hW1⟩
      have HSm : Hid (∀ n, Calls Try.prog 35 #[.slice (some ⟨Y, 0, none⟩) 4 4, .slice (some ⟨q, 0, none⟩) 4 4] (w1.drewN n) fun e w' => e = .returned (.int .i64 sm) ∧ ∃ j, w' = (w1.drewN n).drewN j) := HSum1
      clear k1 k2 hW1 HSum1 bf qf
      go_wp2_with fail
      go_quiet (first | (go_at_call 35; refine Calls.quiet_of (HSm.out _)))
      go_wp2_with fail
      refine (HTk.out _ (HW1.out.drewN _)).mono ?_
      rintro e w2 ⟨rfl, iv2, hw2, hb2⟩
      have HW2 : Hid (WRep B2 w2 r b q m iv2 ⟨k.st, k.pt, k.v, k.inp.tail⟩) := hw2
      have HB2 : Hid (Below B2 w w2) := (below_drewN HB1.out nq).trans hb2
      have hs2 := HS'.out.keep HB2.out
      have x0 := hs2.c0
      have x1 := hs2.c1
      have x4 := hs2.c4
      obtain ⟨y0, y1, y2, y3, yf⟩ := hw2.cells
      simp only at y0 y1 y2 y3
      rw [hp] at y1
      have qf2 := hw2.vt.free
      have hvc2 : ∀ i, i < 4 → w2.cell? ⟨q, i, none⟩ = some (.int .i64 (sgAt k.v i)) := fun i hi => by rw [hw2.vt.cell, ic_get _ _ (by have := hw2.len; simp only at this ⊢; omega)]; rfl
      have z0 := hvc2 0 (by omega)
      have z1 := hvc2 1 (by omega)
      have z2 := hvc2 2 (by omega)
      have z3 := hvc2 3 (by omega)
      have hbl2 := hw2.at_.lt
      have hql2 := hw2.vt.lt
      clear hs2 hw2 hb2 hvc2 r1 gp c0 c1 c2 c3 c4 b0 b1 b2 b3 v0 v1 v2 v3
      go_wp2_with fail
      refine (HNx.out _ _ _ _ HW2.out).mono ?_
      rintro e w3 ⟨rfl, j, rfl⟩
      have HWf : Hid (WRep B2 _ r b q m iv2 _) := HW2.out.drewN j
      obtain ⟨b0', b1', b2', b3', bf'⟩ := HWf.out.cells
      clear y0 y1 y2 y3
      go_wp2_with fail
      go_end0
      refine ⟨rfl, iv2, ?_, ?_⟩
      · rw [HE.out]; exact HWf.out.set (k' := ⟨k.st, nextR m.st p 0, k.v, k.inp.tail⟩) 1 _ rfl rfl HWf.out.inp
      · exact (below_drewN HB2.out j).setCell (by exact HW2.out.gb) _

end Go.Proofs.Ytjbpfbgemidleaa

/- A run stays within its program. -/
namespace Go.Proofs.Ytjbpfbgemidleaa
variable {F : List Ds} {L : List Int} {s : Ms} {x : Ds}

theorem firstGo_in (p b fr : Int) : ∀ (l : List Ds) (i : Nat), firstGo p b fr l i = -1 ∨ ((i : Int) ≤ firstGo p b fr l i ∧ firstGo p b fr l i < ((i + l.length : Nat) : Int)) := by
  intro l
  induction l with
  | nil => intro i; exact .inl rfl
  | cons y l ih =>
    intro i
    rw [firstGo]
    split
    · right; simp only [List.length_cons]; omega
    · rcases ih (i + 1) with h | h
      · exact .inl h
      · right; simp only [List.length_cons]; omega
theorem firstP_in (p b fr : Int) (h : firstP F p b fr ≠ -1) : 0 ≤ firstP F p b fr ∧ firstP F p b fr < F.length := by
  rcases firstGo_in p b fr F 0 with e | e
  · exact absurd e h
  · unfold firstP; omega
theorem followP_in : ∀ (n : Nat) (pt : Int), 0 ≤ followP F n pt ∧ followP F n pt ≤ F.length := by
  intro n
  induction n with
  | zero => intro pt; unfold followP; omega
  | succ n ih =>
    intro pt
    rw [followP]
    split
    · omega
    split
    · rename_i h
      have := firstP_in _ _ _ h
      omega
    split
    · rename_i h
      unfold isRepP at h
      simp only [Bool.and_eq_true, decide_eq_true_eq] at h
      omega
    · exact ih _
theorem nextP_in (pt way : Int) (h : (nextP F pt way).2 = 0) : 0 ≤ (nextP F pt way).1 ∧ (nextP F pt way).1 ≤ F.length := by
  unfold nextP at h ⊢
  by_cases h1 : pt < 0 ∨ (F.length : Int) ≤ pt
  · rw [if_pos h1] at h; simp at h
  rw [if_neg h1] at h ⊢
  by_cases h2 : way < 0 ∨ waysP (F.getD pt.toNat (newDs 0 0)).kind ≤ way
  · rw [if_pos h2] at h; simp at h
  rw [if_neg h2] at h ⊢
  split
  · exact followP_in _ _
  split
  · rename_i h3
    have := firstP_in _ _ _ h3
    simp only; omega
  split
  · simp only; omega
  · exact followP_in _ _

def InR (F : List Ds) (s : Ms) : Prop := s.st = 0 → 0 ≤ s.pt ∧ s.pt < F.length
theorem InR.ent (p : Int) (h0 : 0 ≤ p) (h1 : p ≤ F.length) : InR F (entP F.length s p) := by
  intro h
  unfold entP at h ⊢
  simp only at h ⊢
  split at h
  · cases h
  · omega
theorem InR.lea (h : InR F s) (way : Int) : InR F (leaP F s way) := by
  unfold leaP
  split
  · rename_i e
    have := nextP_in s.pt way e
    exact InR.ent _ this.1 this.2
  · exact h
theorem InR.stp (h : InR F s) : InR F (stpP F L s) := by
  unfold stpP
  split
  · exact h
  split
  · unfold asgP
    split
    · exact fun e => absurd e (by decide : ¬ (2 : Int) = 0)
    · refine InR.lea ?_ 0; exact h
  split
  · unfold astP
    split
    · refine InR.lea ?_ 0; exact h
    · exact fun e => absurd e (by decide : ¬ (3 : Int) = 0)
  · unfold braP; refine InR.lea ?_ _; exact h

/-- The run, whole. -/
def finP (F : List Ds) (L : List Int) (steps : Int) : Ms := runP F L (min steps.toNat 2000) (entP F.length ⟨0, 0, 0, [0, 0, 0, 0]⟩ 0)

end Go.Proofs.Ytjbpfbgemidleaa

/- The two readers come to the same: the program's steps held against the machine. -/
namespace Go.Proofs.Ytjbpfbgemidleaa
variable {s : ByteArray} {d : Nat × Bool} {m m' : Rd}

/-- The program's reader goes on, and the machine has read as much. -/
structure Sync (s : ByteArray) (d : Nat × Bool) (m : Rd) : Prop where
  ns : d.2 = false
  le : d.1 ≤ s.size
  fd : feed init ((bytesOf s).take d.1) = some m

/-- The program's reader is stuck, and the machine can go no further, or the text ends where no program ends. -/
structure Dead (s : ByteArray) (d : Nat × Bool) : Prop where
  st : d.2 = true
  ex : ∃ m, feed init ((bytesOf s).take d.1) = some m ∧ d.1 ≤ s.size ∧ (d.1 < s.size → byteStep m ((bytesOf s).getD d.1 0) = none) ∧ (d.1 = s.size → isDone m = false)

def Res (s : ByteArray) (d : Nat × Bool) (Q : Rd → Prop) : Prop := Dead s d ∨ ∃ m', Sync s d m' ∧ Q m'

theorem Res.mono {Q R : Rd → Prop} (h : Res s d Q) (k : ∀ m', Sync s d m' → Q m' → R m') : Res s d R := by
  rcases h with h | ⟨m', h, q⟩
  · exact .inl h
  · exact .inr ⟨m', h, k m' h q⟩

theorem Sync.aok (h : Sync s d m) : Ok m := Ok.init.feed h.fd
theorem Sync.apk (h : Sync s d m) : pk s d = (bytesOf s).getD d.1 0 := by unfold pk; rw [h.ns]; rfl
theorem Dead.dpk (h : Dead s d) : pk s d = 0 := by unfold pk; rw [h.st]; rfl
theorem Dead.dstk (h : Dead s d) : stk d = d := by unfold stk; rw [← h.st]

theorem Sync.aadv (h : Sync s d m) (hne : pk s d ≠ 0) (hb : byteStep m (pk s d) = some m') : Sync s (adv d) m' := by
  have hlt := (pk_lt rfl hne).1
  refine ⟨h.ns, by show d.1 + 1 ≤ _; omega, ?_⟩
  show feed init ((bytesOf s).take (d.1 + 1)) = some m'
  rw [h.apk, List.getD_eq_getElem?_getD, bytesOf_get s d.1 hlt] at hb
  rw [bytesOf_take s d.1 hlt, feed_snoc, h.fd]
  exact hb

theorem Sync.adead (h : Sync s d m) (hb : byteStep m (pk s d) = none) (hnd : d.1 = s.size → isDone m = false) : Dead s (stk d) :=
  ⟨rfl, m, h.fd, h.le, fun _ => by rw [h.apk] at hb; exact hb, hnd⟩

theorem Dead.dnd (h : Dead s d) {c : Int} (hc : c ≠ 0) : nd s d c = d := by
  unfold nd; rw [if_neg (by rw [h.dpk]; exact fun e => hc e.symm)]; exact h.dstk
theorem Dead.dSign (h : Dead s d) : rSign s d = (1, d) := by unfold rSign; rw [if_neg (by rw [h.dpk]; decide)]
theorem varOf_zero : varOf 0 = -1 := by decide
theorem Dead.dVar (h : Dead s d) (x : Int) : rVar s d x = (0, d) := by unfold rVar; rw [if_pos (.inl (by rw [h.dpk]; exact varOf_zero)), h.dstk]
theorem Dead.dNum (h : Dead s d) (x : Int) : rNum s d x = (0, d) := by unfold rNum; rw [if_neg (by rw [h.dpk]; simp), if_pos (by rw [h.dpk]; decide), h.dstk]
theorem Dead.dSummand (h : Dead s d) : rSummand s d = (0, d) := by unfold rSummand; rw [if_neg (by rw [h.dpk]; decide), if_neg (by rw [h.dpk]; decide)]
theorem Dead.dValue (h : Dead s d) (x : Ds) : (rValue s d x).2 = d := by
  unfold rValue; rw [if_neg (by rw [h.dpk]; decide), h.dSign, if_pos (by show varOf (pk s d) = -1; rw [h.dpk]; exact varOf_zero)]
  show (rNum s d 1).2 = d
  rw [h.dNum]
theorem Dead.dSecond (h : Dead s d) (x : Ds) (f : Int) : (rSecond s d x f).2 = d := by unfold rSecond; rw [if_neg (by rw [h.dpk]; decide)]
theorem Dead.dCond (h : Dead s d) (x : Ds) : (rCond s d x).2 = d := by
  unfold rCond; rw [if_neg (by rw [h.dpk]; decide), h.dSign]
  simp only
  rw [h.dVar]
  simp only
  rw [h.dSecond, h.dnd (by decide), h.dnd (by decide), h.dSign]
  simp only
  rw [h.dNum]

/-- A byte that must stand here. -/
theorem Sync.aneed (h : Sync s d m) {c : Int} (hc : c ≠ 0) (hy : pk s d = c → byteStep m c = some m') (hn : pk s d ≠ c → byteStep m (pk s d) = none) (hnd : isDone m = false) : Res s (nd s d c) (fun x => x = m') := by
  by_cases e : pk s d = c
  · have : nd s d c = adv d := if_pos e
    rw [this]
    exact .inr ⟨m', h.aadv (by rw [e]; exact hc) (by rw [e]; exact hy e), rfl⟩
  · have : nd s d c = stk d := if_neg e
    rw [this]
    exact .inl (h.adead (hn e) (fun _ => hnd))

theorem notDone (h : m.state ≠ 115) : isDone m = false := by unfold isDone; simp [h]

theorem byte_110 (h : m.state = 110) (c : Int) : byteStep m c = if c = 59 then some (valueEnd m) else digitStep m c false 110 := by
  unfold byteStep valueStep; rw [h, if_neg (by decide), if_neg (by decide), if_pos (by decide), if_neg (by decide), if_neg (by decide), if_neg (by decide), if_neg (by decide)]

/-- Behind a number that can have no digit more: the end of the statement. -/
theorem Sync.valEnd (h : Sync s d m) (hs : m.state = 110) (hno : ¬ (48 ≤ pk s d ∧ pk s d ≤ 57) ∨ m.dig = 2 ∨ (m.dig = 1 ∧ (cur m).num = 0)) : Res s (nd s d 59) (fun x => x = valueEnd m) := by
  refine h.aneed (by decide) (fun _ => by rw [byte_110 hs, if_pos rfl]) (fun e => ?_) (notDone (by rw [hs]; decide))
  rw [byte_110 hs, if_neg e]
  simp only [digitStep]
  rw [if_pos hs, if_pos hs, if_pos]
  omega

theorem digit_new {c x : Int} {pos : Bool} (hs : m.state ≠ x) (hc : 48 ≤ c ∧ c ≤ 57) (hp : ¬ (pos = true ∧ c = 48)) : digitStep m c pos x = some { setCur m { cur m with num := c - 48 } with dig := 1, state := x } := by
  simp only [digitStep]
  rw [if_neg hs, if_neg hs, if_neg (by
    rintro (a | a | a | a | a)
    · omega
    · omega
    · omega
    · omega
    · exact hp a)]
  have : (10 : Int) * 0 + (c - 48) = c - 48 := by omega
  rw [this]; rfl
theorem digit_more {c x u : Int} (hs : m.state = x) (hd : m.dig = 1) (hu : (cur m).num = u) (hu0 : u ≠ 0) (hc : 48 ≤ c ∧ c ≤ 57) : digitStep m c false x = some { setCur m { cur m with num := 10 * u + (c - 48) } with dig := 2, state := x } := by
  simp only [digitStep]
  rw [if_pos hs, if_pos hs, hd, hu, if_neg (by
    rintro (a | a | a | a | a)
    · omega
    · omega
    · omega
    · omega
    · simp at a)]
  rfl
theorem digit_bad {c x : Int} {pos : Bool} (hc : c < 48 ∨ 57 < c ∨ (pos = true ∧ c = 48)) : digitStep m c pos x = none := by
  simp only [digitStep]
  rw [if_pos]
  rcases hc with a | a | a
  · exact .inl a
  · exact .inr (.inl a)
  · exact .inr (.inr (.inr (.inr a)))

theorem setCur_two (m : Rd) (a b : St) : (setCur (setCur m a) b).st = (setCur m b).st := by simp [setCur]

/-- A number of a value, and the end of the statement. -/
theorem Sync.numVal (h : Sync s d m) {m0 : Rd} {pos : Bool} {sg : Int} (hb : byteStep m (pk s d) = digitStep m0 (pk s d) pos 110) (hs : m0.state ≠ 110) (hn : 0 < m0.st.length) (hsg : (sg = 1 ∧ pos = false) ∨ (sg = -1 ∧ pos = true)) (hnd : isDone m = false) :
    Res s (nd s (rNum s d sg).2 59) (fun x => x.state = 115 ∧ x.op = m0.op ∧ x.st = (setCur m0 { cur m0 with num := m0.sign * (sg * (rNum s d sg).1) }).st) := by
  have hsq : ∀ n : Int, sg * (sg * n) = n := by
    intro n
    rcases hsg with ⟨rfl, _⟩ | ⟨rfl, _⟩ <;> omega
  have hcs := cur_setCur' hn
  by_cases hz : pk s d = 48 ∧ 0 < sg
  · have e : rNum s d sg = (0, adv d) := if_pos hz
    rw [e]
    have hp : pos = false := by
      rcases hsg with h | h
      · exact h.2
      · omega
    rw [digit_new hs (by omega) (by rw [hp]; simp)] at hb
    have h1 := h.aadv (by omega) hb
    refine (h1.valEnd rfl (.inr (.inr ⟨rfl, ?_⟩))).mono ?_
    · show (cur (setCur m0 _)).num = 0
      rw [hcs]; show pk s d - 48 = 0; omega
    · rintro m' - rfl
      refine ⟨rfl, rfl, ?_⟩
      show (setCur (setCur m0 _) _).st = _
      rw [setCur_two]
      show (setCur m0 { cur (setCur m0 _) with num := m0.sign * (cur (setCur m0 _)).num }).st = _
      rw [hcs]
      have : pk s d - 48 = 0 := by omega
      simp only [this]
      simp
  by_cases hbad : pk s d < 49 ∨ 57 < pk s d
  · have e : rNum s d sg = (0, stk d) := by unfold rNum; rw [if_neg hz, if_pos hbad]
    rw [e]
    have hd : Dead s (stk d) := by
      refine h.adead ?_ (fun _ => hnd)
      rw [hb]
      refine digit_bad ?_
      by_cases h48 : pk s d = 48
      · refine .inr (.inr ⟨?_, h48⟩)
        rcases hsg with h' | h'
        · exact absurd ⟨h48, by omega⟩ hz
        · exact h'.2
      · omega
    show Res s (nd s (stk d) 59) _
    rw [hd.dnd (by decide)]
    exact .inl hd
  rw [digit_new hs (by omega) (by omega)] at hb
  have h1 := h.aadv (by omega) hb
  have hn1 : (cur { setCur m0 { cur m0 with num := pk s d - 48 } with dig := 1, state := 110 }).num = pk s d - 48 := by
    show (cur (setCur m0 _)).num = _
    rw [hcs]
  by_cases h2 : 48 ≤ pk s (adv d) ∧ pk s (adv d) ≤ 57
  · have e : rNum s d sg = (sg * (10 * (pk s d - 48) + (pk s (adv d) - 48)), adv (adv d)) := by unfold rNum; rw [if_neg hz, if_neg hbad, if_pos h2]
    rw [e]
    have hb2 := byte_110 (m := { setCur m0 { cur m0 with num := pk s d - 48 } with dig := 1, state := 110 }) rfl (pk s (adv d))
    rw [if_neg (by omega), digit_more rfl rfl hn1 (by omega) h2] at hb2
    have h3 := h1.aadv (by omega) hb2
    refine (h3.valEnd rfl (.inr (.inl rfl))).mono ?_
    rintro m' - rfl
    refine ⟨rfl, rfl, ?_⟩
    have hl1 : 0 < (setCur m0 { cur m0 with num := pk s d - 48 }).st.length := by rw [setCur_len]; exact hn
    show (setCur (setCur (setCur m0 _) _) { cur (setCur (setCur m0 _) _) with num := m0.sign * (cur (setCur (setCur m0 _) _)).num }).st = _
    rw [setCur_two, setCur_two, cur_setCur' hl1]
    show (setCur m0 { cur (setCur m0 { cur m0 with num := pk s d - 48 }) with num := m0.sign * (10 * (pk s d - 48) + (pk s (adv d) - 48)) }).st = _
    rw [hcs, hsq]
  · have e : rNum s d sg = (sg * (pk s d - 48), adv d) := by unfold rNum; rw [if_neg hz, if_neg hbad, if_neg h2]
    rw [e]
    refine (h1.valEnd rfl (.inl h2)).mono ?_
    rintro m' - rfl
    refine ⟨rfl, rfl, ?_⟩
    show (setCur (setCur m0 _) { cur (setCur m0 _) with num := m0.sign * (cur (setCur m0 _)).num }).st = _
    rw [setCur_two, hcs, hsq]

end Go.Proofs.Ytjbpfbgemidleaa

namespace Go.Proofs.Ytjbpfbgemidleaa
variable {s : ByteArray} {d : Nat × Bool} {m m' : Rd}

theorem byte_59 (h : m.state = 59) (c : Int) : byteStep m c = if c = 59 then some { m with state := 115 } else none := by
  rw [byte_plain (.inl h)]; unfold plainStep; rw [if_pos h]
theorem byte_118 (h : m.state = 118) (c : Int) : byteStep m c = if c = 42 then some { setCur m { cur m with star := true } with state := 59 } else if c = 45 then some { m with sign := -1, state := 86 } else if 97 ≤ c ∧ c ≤ 100 then some (signTo m (c - 97).toNat 1 120) else digitStep { m with sign := 1 } c false 110 := by
  rw [byte_value (.inl h)]; unfold valueStep; rw [if_pos h]
theorem byte_86 (h : m.state = 86) (c : Int) : byteStep m c = if 97 ≤ c ∧ c ≤ 100 then some (signTo m (c - 97).toNat m.sign 120) else digitStep m c true 110 := by
  rw [byte_value (.inr (.inl h))]; unfold valueStep; rw [h, if_neg (by decide), if_pos rfl]
theorem byte_120 (h : m.state = 120) (c : Int) : byteStep m c = if c = 43 then some { m with sign := 1, state := 121 } else if c = 45 then some { m with sign := -1, state := 121 } else if c = 59 then some (valueEnd m) else none := by
  rw [byte_value (.inr (.inr (.inl h)))]; unfold valueStep; rw [h, if_neg (by decide), if_neg (by decide), if_pos rfl]
theorem byte_121 (h : m.state = 121) (c : Int) : byteStep m c = digitStep m c false 110 := by
  rw [byte_value (.inr (.inr (.inr (.inl h))))]; unfold valueStep; rw [h, if_neg (by decide), if_neg (by decide), if_neg (by decide), if_pos rfl]
theorem byte_61 (h : m.state = 61) (c : Int) : byteStep m c = if c = 61 then some { m with state := 118 } else none := by
  unfold byteStep; rw [h, if_neg (by decide), if_pos rfl]

theorem varOf_pos {c : Int} (h : 97 ≤ c ∧ c ≤ 100) : varOf c = c - 97 := if_pos h
theorem varOf_neg {c : Int} (h : ¬ (97 ≤ c ∧ c ≤ 100)) : varOf c = -1 := if_neg h

theorem setCur_st_eq {a b : Rd} (h : a.st = b.st) (u : St) : (setCur a u).st = (setCur b u).st := by unfold setCur; simp only; rw [h]
theorem cur_eq {a b : Rd} (h : a.st = b.st) : cur a = cur b := by unfold cur; rw [h]

/-- Behind the variable of a value. -/
theorem Sync.summand (h : Sync s d m) (hs : m.state = 120) (hz : (cur m).num = 0) :
    Res s (nd s (rSummand s d).2 59) (fun x => x.state = 115 ∧ x.op = m.op ∧ x.st = (setCur m { cur m with num := (rSummand s d).1 }).st) := by
  have hn : 0 < m.st.length := h.aok.some_ (by rw [hs]; decide)
  have hb := byte_120 hs (pk s d)
  have hnd := notDone (m := m) (by rw [hs]; decide)
  by_cases h43 : pk s d = 43
  · have e : rSummand s d = rNum s (adv d) 1 := if_pos h43
    rw [e]
    rw [if_pos h43] at hb
    have h1 := h.aadv (by omega) hb
    refine (h1.numVal (m0 := { m with sign := 1, state := 121 }) (pos := false) (sg := 1) (byte_121 rfl _) (by decide : (121 : Int) ≠ 110) hn (.inl ⟨rfl, rfl⟩) (notDone (by decide : (121 : Int) ≠ 115))).mono ?_
    rintro x - ⟨a, b, c⟩
    refine ⟨a, b, c.trans ?_⟩
    show (setCur m { cur m with num := 1 * (1 * _) }).st = _
    rw [Int.one_mul, Int.one_mul]
  by_cases h45 : pk s d = 45
  · have e : rSummand s d = (-(rNum s (adv d) 1).1, (rNum s (adv d) 1).2) := by unfold rSummand; rw [if_neg h43, if_pos h45]
    rw [e]
    rw [if_neg h43, if_pos h45] at hb
    have h1 := h.aadv (by omega) hb
    refine (h1.numVal (m0 := { m with sign := -1, state := 121 }) (pos := false) (sg := 1) (byte_121 rfl _) (by decide : (121 : Int) ≠ 110) hn (.inl ⟨rfl, rfl⟩) (notDone (by decide : (121 : Int) ≠ 115))).mono ?_
    rintro x - ⟨a, b, c⟩
    refine ⟨a, b, c.trans ?_⟩
    show (setCur m { cur m with num := -1 * (1 * _) }).st = _
    rw [Int.one_mul, Int.neg_mul, Int.one_mul]
  · have e : rSummand s d = (0, d) := by unfold rSummand; rw [if_neg h43, if_neg h45]
    rw [e]
    rw [if_neg h43, if_neg h45] at hb
    refine (h.aneed (m' := valueEnd m) (by decide) (fun e => by rw [e, if_pos rfl] at hb; exact hb) (fun e => by rw [if_neg e] at hb; exact hb) hnd).mono ?_
    rintro x - rfl
    refine ⟨rfl, rfl, ?_⟩
    show (setCur m { cur m with num := m.sign * (cur m).num }).st = _
    rw [hz, Int.mul_zero]

/-- A value, and the end of the statement. -/
theorem Sync.value (h : Sync s d m) (hs : m.state = 118) (hz : (cur m).num = 0) (x : Ds) (hx : x.any = false ∧ x.sg = (cur m).sg ∧ x.num = 0 ∧ (cur m).star = false) :
    Res s (nd s (rValue s d x).2 59) (fun y => y.state = 115 ∧ y.op = m.op ∧ y.st = (setCur m { cur m with star := (rValue s d x).1.any, sg := (rValue s d x).1.sg, num := (rValue s d x).1.num }).st) := by
  have hn : 0 < m.st.length := h.aok.some_ (by rw [hs]; decide)
  have hb := byte_118 hs (pk s d)
  have hnd := notDone (m := m) (by rw [hs]; decide)
  obtain ⟨hx1, hx2, hx3, hx4⟩ := hx
  have hcs := cur_setCur' hn
  by_cases h42 : pk s d = 42
  · have e : rValue s d x = ({ x with any := true }, adv d) := if_pos h42
    rw [e]
    rw [if_pos h42] at hb
    have h1 := h.aadv (by omega) hb
    refine (h1.aneed (c := 59) (m' := { setCur m { cur m with star := true } with state := 115 }) (by decide) (fun e => by rw [byte_59 rfl, if_pos rfl]) (fun e => by rw [byte_59 rfl, if_neg e]) (notDone (by decide : (59 : Int) ≠ 115))).mono ?_
    rintro y - rfl
    refine ⟨rfl, rfl, ?_⟩
    show (setCur m { cur m with star := true }).st = (setCur m { cur m with star := true, sg := x.sg, num := x.num }).st
    rw [hx2, hx3, ← hz]
  rw [if_neg h42] at hb
  by_cases h45 : pk s d = 45
  · rw [if_pos h45] at hb
    have h1 := h.aadv (by omega) hb
    have eg : rSign s d = (-1, adv d) := if_pos h45
    have hb1 := byte_86 (m := { m with sign := -1, state := 86 }) rfl (pk s (adv d))
    by_cases hv : 97 ≤ pk s (adv d) ∧ pk s (adv d) ≤ 100
    · have ev : rVar s (adv d) (-1) = (pk s (adv d) - 97, adv (adv d)) := by unfold rVar; rw [varOf_pos hv, if_neg (by omega)]
      have e : rValue s d x = ({ x with any := false, sg := x.sg.set (pk s (adv d) - 97).toNat (-1), num := (rSummand s (adv (adv d))).1 }, (rSummand s (adv (adv d))).2) := by
        unfold rValue; rw [if_neg h42, eg, if_neg (by show varOf (pk s (adv d)) ≠ -1; rw [varOf_pos hv]; omega)]; simp only; rw [ev]
      rw [e]
      rw [if_pos hv] at hb1
      have h2 := h1.aadv (by omega) hb1
      refine (h2.summand rfl (by show (cur (setCur m _)).num = 0; rw [hcs]; exact hz)).mono ?_
      rintro y - ⟨a, b, c⟩
      refine ⟨a, b, c.trans ?_⟩
      show (setCur (setCur m _) { cur (setCur m _) with num := _ }).st = _
      rw [setCur_two, hcs]
      show (setCur m { cur m with sg := (cur m).sg.set _ (-1), num := _ }).st = (setCur m { cur m with star := false, sg := x.sg.set _ (-1), num := _ }).st
      rw [hx2, ← hx4]
    · have e : rValue s d x = ({ x with any := false, num := (rNum s (adv d) (-1)).1 }, (rNum s (adv d) (-1)).2) := by
        unfold rValue; rw [if_neg h42, eg, if_pos (varOf_neg hv)]
      rw [e]
      rw [if_neg hv] at hb1
      refine (h1.numVal (m0 := { m with sign := -1, state := 86 }) (pos := true) (sg := -1) hb1 (by decide : (86 : Int) ≠ 110) hn (.inr ⟨rfl, rfl⟩) (notDone (by decide : (86 : Int) ≠ 115))).mono ?_
      rintro y - ⟨a, b, c⟩
      refine ⟨a, b, c.trans ?_⟩
      show (setCur m { cur m with num := -1 * (-1 * _) }).st = (setCur m { cur m with star := false, sg := x.sg, num := _ }).st
      rw [hx2, ← hx4, Int.neg_mul, Int.neg_mul, Int.one_mul, Int.one_mul, Int.neg_neg]
  · rw [if_neg h45] at hb
    have eg : rSign s d = (1, d) := if_neg h45
    by_cases hv : 97 ≤ pk s d ∧ pk s d ≤ 100
    · have ev : rVar s d (-1) = (pk s d - 97, adv d) := by unfold rVar; rw [varOf_pos hv, if_neg (by omega)]
      have e : rValue s d x = ({ x with any := false, sg := x.sg.set (pk s d - 97).toNat 1, num := (rSummand s (adv d)).1 }, (rSummand s (adv d)).2) := by
        unfold rValue; rw [if_neg h42, eg, if_neg (by show varOf (pk s d) ≠ -1; rw [varOf_pos hv]; omega)]; simp only; rw [ev]
      rw [e]
      rw [if_pos hv] at hb
      have h2 := h.aadv (by omega) hb
      refine (h2.summand rfl (by show (cur (setCur m _)).num = 0; rw [hcs]; exact hz)).mono ?_
      rintro y - ⟨a, b, c⟩
      refine ⟨a, b, c.trans ?_⟩
      show (setCur (setCur m _) { cur (setCur m _) with num := _ }).st = _
      rw [setCur_two, hcs]
      show (setCur m { cur m with sg := (cur m).sg.set _ 1, num := _ }).st = (setCur m { cur m with star := false, sg := x.sg.set _ 1, num := _ }).st
      rw [hx2, ← hx4]
    · have e : rValue s d x = ({ x with any := false, num := (rNum s d 1).1 }, (rNum s d 1).2) := by
        unfold rValue; rw [if_neg h42, eg, if_pos (varOf_neg hv)]
      rw [e]
      rw [if_neg hv] at hb
      refine (h.numVal (m0 := { m with sign := 1 }) (pos := false) (sg := 1) hb (by show m.state ≠ 110; rw [hs]; decide) hn (.inl ⟨rfl, rfl⟩) hnd).mono ?_
      rintro y - ⟨a, b, c⟩
      refine ⟨a, b, c.trans ?_⟩
      show (setCur m { cur m with num := 1 * (1 * _) }).st = (setCur m { cur m with star := false, sg := x.sg, num := _ }).st
      rw [hx2, ← hx4, Int.one_mul, Int.one_mul]

end Go.Proofs.Ytjbpfbgemidleaa

