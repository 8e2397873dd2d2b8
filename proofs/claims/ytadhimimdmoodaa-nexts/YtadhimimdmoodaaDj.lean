import Derived.Test.YtadhimimdmoodaaDi
namespace Go.Proofs.Ytadhimimdmoodaa
open Go.RowKit
variable {B : Nat} {w w' : World} {r q : Nat} {s : ByteArray} {vf : Value}

/-- How far the reading of statements can still go, off the reader's memory. -/
def mOf (r : Nat) (w : World) : Nat :=
  match w.cell? ⟨r, 2, none⟩, w.cell? ⟨r, 3, none⟩ with
  | some (.bool b), some (.slice _ n _) => if b then 0 else 21 - n
  | _, _ => 0
theorem mOf_eq {z : Zt} (h : DRep B w r s z vf) : mOf r w = Mz z := by
  obtain ⟨ao, cap, rfl⟩ := h.vlen
  obtain ⟨r0, r1, r2, r3, rf⟩ := h.dat.cells
  unfold mOf Mz
  rw [r2, r3]
theorem DRep.drewN {z : Zt} (h : DRep B w r s z vf) (k : Nat) : DRep B (w.drewN k) r s z vf := ⟨h.dat, h.row, h.geR, h.geW⟩
theorem ZFr.drewN {v v' : Value} (h : ZFr r v v' w w') (k : Nat) : ZFr r v v' w (w'.drewN k) := ⟨h.os, h.tape, h.output, h.size, h.block, h.row⟩

set_option maxRecDepth 100000 in
set_option maxHeartbeats 1600000 in
theorem d_readStatements (hs : s.size ≤ 160) (n : Nat) : SP s n := by
  induction n using Nat.strongRecOn with
  | ind n ih =>
    intro B r vf w z p b dp h hz h0 h1 hm
    have HI : Hid (∀ m, m < n → SP s m) := ih
    have hp := d_peek h.dat hs (by have := hz.at_; omega)
    have HD : Hid (DRep _ _ _ _ _ _) := h
    clear ih h
    go_enter Try.func25, Try.ntmps25
    go_wp2_with fail
    refine hp.mono ?_
    rintro e w1 ⟨rfl, k, rfl⟩
    clear hp
    go_wp2_with fail
    go_loopw [8] (fun c wr => ∃ (z' : Zt) (m : Nat) (v : Value), m ≤ n ∧ Mz z' < m ∧ rStmts s n p b dp z = rStmts s m p b dp z' ∧ c = .int .u8 (pk s z'.1) ∧ Zok s z' ∧ dp ≤ z'.2.length ∧ DRep B wr r s z' v ∧ ZFr r vf v w wr) (fun _ wr => mOf r wr)
    case atStart => exact ⟨z, n, vf, Nat.le_refl _, hm, rfl, rfl, hz, h1, HD.out.drewN k, (ZFr.refl r vf w).drewN k⟩
    case round =>
      obtain ⟨z', m, v, hmn, hmz, he, rfl, hzk, hdp, hd, hzf⟩ := hrel
      have HE : Hid (_ = _) := he
      have HDJ : Hid (DRep _ _ _ _ _ _) := hd
      have hmo := mOf_eq hd
      have HMO : Hid (_ = _) := hmo
      clear he hd hmo
      obtain ⟨m', rfl⟩ : ∃ m', m = m' + 1 := ⟨m - 1, by omega⟩
      obtain ⟨p0, p1⟩ := pk_range s z'.1
      by_cases hc0 : pk s z'.1 = 0
      · have HX : Hid (rStmts s n p b dp z = z') := HE.out.trans (by unfold rStmts; rw [if_pos (.inl hc0)])
        rw [hc0]
        clear hc0
        go_wp2_with fail
        go_end0
        rw [HX.out]
        exact ⟨rfl, v, HDJ.out, hzf⟩
      have b0 : (pk s z'.1 != 0) = true := by rw [bne_iff_ne]; exact hc0
      by_cases hc1 : pk s z'.1 = 125
      · have HX : Hid (rStmts s n p b dp z = z') := HE.out.trans (by unfold rStmts; rw [if_pos (.inr hc1)])
        rw [hc1]
        clear hc0 hc1 b0
        go_wp2_with fail
        go_end0
        rw [HX.out]
        exact ⟨rfl, v, HDJ.out, hzf⟩
      · have b1 : (pk s z'.1 != 125) = true := by rw [bne_iff_ne]; exact hc1
        have HX : Hid (rStmts s n p b dp z = rStmts s m' p b dp (rStmtWith s (rStmts s m') p b dp z')) := HE.out.trans (by rw [rStmts, if_neg (fun e => e.elim hc0 hc1)])
        have hns : z'.1.2 = false := (pk_lt rfl hc0).2
        have hg := (rStmts_goes s m').stmt p b dp hzk
        have hMd := Mz_stmt (rStmts s m') (rStmts_goes s m') p b dp hzk hns
        have hst := d_readStatement (HI.out m' (by omega)) hs HDJ.out hzk hns p b dp h0 hdp (by omega)
        obtain ⟨z2, hZ2⟩ : ∃ z2, z2 = rStmtWith s (rStmts s m') p b dp z' := ⟨_, rfl⟩
        rw [← hZ2] at hst hg hMd HX
        have hz2a := hg.ok.at_
        have hz2l := hg.len
        have HN : Hid (_ = _) := hns
        clear hZ2 hc0 hc1 hns
        generalize pk s z'.1 = c at *
        go_wp2_with fail
        refine hst.mono ?_
        rintro e w2 ⟨rfl, v2, hd2, hz2⟩
        have HD2 : Hid (DRep _ _ _ _ _ _ ∧ ZFr _ _ _ _ _) := ⟨hd2, hz2⟩
        clear hst hd2 hz2
        go_wp2_with fail
        refine (d_peek HD2.out.1.dat hs (by omega)).mono ?_
        rintro e w3 ⟨rfl, k3, rfl⟩
        go_wp2
        go_roundw
        case rel => exact ⟨z2, m', v2, by omega, by omega, HX.out, rfl, hg.ok, by omega, HD2.out.1.drewN k3, (hzf.trans HD2.out.2).drewN k3⟩
        case measure =>
          have e1 := mOf_eq (HD2.out.1.drewN k3)
          rw [e1, HMO.out]
          exact hMd

end Go.Proofs.Ytadhimimdmoodaa
