import Derived.Test.YtadhimimdmoodaaDf
namespace Go.Proofs.Ytadhimimdmoodaa
open Go.RowKit
variable {w : World} {r q : Nat} {s : ByteArray} {d : Nat × Bool} {vf : Value} {x : Ds}

/-- A statement up to its blocks. -/
def rHead (s : ByteArray) (d : Nat × Bool) (x : Ds) (dp : Int) : Ds × (Nat × Bool) :=
  let k := rKind s d x dp
  let v := if k.1.kind = 0 then rValue s (nd s k.2 61) k.1 else rCond s k.2 k.1
  if blocksOf v.1.kind = 0 then (v.1, nd s v.2 59) else v

theorem rKind_le (hd : d.1 ≤ s.size) (dp : Int) : (rKind s d x dp).2.1 ≤ s.size := by
  unfold rKind
  split
  · rename_i h; have := (pk_lt h (by decide)).1; show d.1 + 1 ≤ _; omega
  split
  · rename_i h; have := (pk_lt h (by decide)).1
    show (if 4 ≤ dp then stk d else adv d).1 ≤ _
    split
    · exact hd
    · show d.1 + 1 ≤ _; omega
  split
  · rename_i h; have := (pk_lt h (by decide)).1
    show (if 4 ≤ dp then stk d else adv d).1 ≤ _
    split
    · exact hd
    · show d.1 + 1 ≤ _; omega
  · exact rVar_le hd (-1)
theorem rKind_sg (dp : Int) : (rKind s d x dp).1.sg = x.sg := by
  unfold rKind
  split
  · rfl
  split
  · rfl
  split
  · rfl
  · rfl
theorem rValue_le (hd : d.1 ≤ s.size) : (rValue s d x).2.1 ≤ s.size := by
  unfold rValue
  split
  · rename_i h; have := (pk_lt h (by decide)).1; show d.1 + 1 ≤ _; omega
  split
  · exact rNum_le (rSign_le hd) _
  · exact rSummand_le (rVar_le (rSign_le hd) (-1))
theorem rCond_le (hd : d.1 ≤ s.size) : (rCond s d x).2.1 ≤ s.size := by
  unfold rCond
  split
  · rename_i h; have := (pk_lt h (by decide)).1; show d.1 + 1 ≤ _; omega
  · exact rNum_le (rSign_le (nd_le (nd_le (rSecond_le (rVar_le (rSign_le hd) (-1)) _) (by decide)) (by decide))) _
theorem rValue_sgl (hl : x.sg.length = 4) : (rValue s d x).1.sg.length = 4 := by
  unfold rValue
  split
  · exact hl
  split
  · exact hl
  · show (x.sg.set _ _).length = 4; rw [List.length_set]; exact hl
theorem rCond_sgl (hl : x.sg.length = 4) : (rCond s d x).1.sg.length = 4 := by
  unfold rCond
  split
  · exact hl
  · exact rSecond_sgl (by show (x.sg.set _ _).length = 4; rw [List.length_set]; exact hl) _
theorem rValue_kind : (rValue s d x).1.kind = x.kind := by
  unfold rValue
  split
  · rfl
  split
  · rfl
  · rfl
theorem rSecond_kind (f : Int) : (rSecond s d x f).1.kind = x.kind := by
  unfold rSecond
  split
  · rfl
  · rfl
theorem rCond_kind : (rCond s d x).1.kind = x.kind := by
  unfold rCond
  split
  · rfl
  · exact rSecond_kind _
theorem rHead_le (hd : d.1 ≤ s.size) (dp : Int) : (rHead s d x dp).2.1 ≤ s.size := by
  unfold rHead
  have hk := rKind_le (x := x) hd dp
  have hv : (if (rKind s d x dp).1.kind = 0 then rValue s (nd s (rKind s d x dp).2 61) (rKind s d x dp).1 else rCond s (rKind s d x dp).2 (rKind s d x dp).1).2.1 ≤ s.size := by
    split
    · exact rValue_le (nd_le hk (by decide))
    · exact rCond_le hk
  simp only
  generalize (if (rKind s d x dp).1.kind = 0 then rValue s (nd s (rKind s d x dp).2 61) (rKind s d x dp).1 else rCond s (rKind s d x dp).2 (rKind s d x dp).1) = y at hv ⊢
  split
  · exact nd_le (c := 59) hv (by decide)
  · exact hv
theorem rHead_sgl (hl : x.sg.length = 4) (dp : Int) : (rHead s d x dp).1.sg.length = 4 := by
  unfold rHead
  have hk : (rKind s d x dp).1.sg.length = 4 := by rw [rKind_sg]; exact hl
  have hv : (if (rKind s d x dp).1.kind = 0 then rValue s (nd s (rKind s d x dp).2 61) (rKind s d x dp).1 else rCond s (rKind s d x dp).2 (rKind s d x dp).1).1.sg.length = 4 := by
    split
    · exact rValue_sgl hk
    · exact rCond_sgl hk
  simp only
  generalize (if (rKind s d x dp).1.kind = 0 then rValue s (nd s (rKind s d x dp).2 61) (rKind s d x dp).1 else rCond s (rKind s d x dp).2 (rKind s d x dp).1) = y at hv ⊢
  split
  · exact hv
  · exact hv


set_option maxRecDepth 100000 in
set_option maxHeartbeats 1600000 in
theorem d_readHead (h : Dat w r s d vf) (hq : DsAt w q x) (hl : x.sg.length = 4) (hs : s.size ≤ 160) (hd : d.1 ≤ s.size) (dp : Int) :
    Calls Try.prog 48 #[.pointer (some ⟨r, 0, none⟩), .pointer (some ⟨q, 0, none⟩), .int .i64 dp] w (FPost w r q s vf (rHead s d x dp)) := by
  have hk := d_readKind h hq hs hd dp
  have hn := hq.ne h
  obtain ⟨k, hK⟩ : ∃ k, k = rKind s d x dp := ⟨_, rfl⟩
  obtain ⟨y, hY⟩ : ∃ y, y = if k.1.kind = 0 then rValue s (nd s k.2 61) k.1 else rCond s k.2 k.1 := ⟨_, rfl⟩
  have HT : Hid (rHead s d x dp = if blocksOf y.1.kind = 0 then (y.1, nd s y.2 59) else y) := by show rHead s d x dp = _; unfold rHead; rw [hY, hK]
  have hkl : k.2.1 ≤ s.size := by rw [hK]; exact rKind_le hd dp
  have hks : k.1.sg.length = 4 := by rw [hK, rKind_sg]; exact hl
  have h61 : (nd s k.2 61).1 ≤ s.size := nd_le hkl (by decide)
  rw [← hK] at hk
  clear h hq hK
  by_cases h0 : k.1.kind = 0
  · rw [if_pos h0] at hY
    have hyl : y.2.1 ≤ s.size := by rw [hY]; exact rValue_le h61
    have HY : Hid (_ = _) := hY
    have HK0 : Hid (_ = _) := h0
    clear hY h0
    go_enter Try.func48, Try.ntmps48
    go_wp2_with fail
    refine hk.mono ?_
    rintro e w1 ⟨rfl, hD1, hQ1, hF1⟩
    obtain ⟨c0, c1, c2, c3, c4, c5, c6, c7, c8, c9, cf⟩ := hQ1.cells
    rw [HK0.out] at c0
    have HQ1 : Hid (DsAt _ _ _) := hQ1
    clear hQ1
    go_wp2_with fail
    refine (d_need hD1 hs (by omega) 61).mono ?_
    rintro e w2 ⟨rfl, hD2, hT2⟩
    have k3 := d_readValue hD2 (HQ1.out.keep hT2 hn) hks hs h61
    rw [← HY.out] at k3
    go_wp2_with fail
    refine k3.mono ?_
    rintro e w4 ⟨rfl, hD4, hQ4, hT4⟩
    clear c0 c1 c2 c3 c4 c5 c6 c7 c8 c9 cf
    have hq4 := hQ4
    obtain ⟨c0, c1, c2, c3, c4, c5, c6, c7, c8, c9, cf⟩ := hq4.cells
    have HQ4 : Hid (DsAt _ _ _) := hq4
    clear hq4
    by_cases hb : blocksOf y.1.kind = 0
    · have HT2 : Hid (rHead s d x dp = (y.1, nd s y.2 59)) := HT.out.trans (if_pos hb)
      have kb := fun (t : Int) (an : Bool) (g0 g1 g2 g3 n p b : Int) (w : World) => d_blocks y.1.kind t an g0 g1 g2 g3 n p b w
      rw [hb] at kb
      generalize sgAt y.1.sg 0 = g0 at *
      generalize sgAt y.1.sg 1 = g1 at *
      generalize sgAt y.1.sg 2 = g2 at *
      generalize sgAt y.1.sg 3 = g3 at *
      clear hb
      go_wp2_with fail
      refine (kb _ _ _ _ _ _ _ _ _ _).mono ?_
      rintro e w6 ⟨rfl, o, rfl⟩
      go_wp2_with fail
      refine (d_need (hD4.alloc o) hs (by omega) 59).mono ?_
      rintro e w7 ⟨rfl, hD7, hT7⟩
      go_wp2
      go_end0
      rw [HT2.out]
      exact ⟨rfl, hD7, (HQ4.out.alloc o).keep hT7 hn, (((hF1.trans (hT2.two q).fr).trans hT4.fr).alloc o).trans (hT7.two q).fr⟩
    · have HT2 : Hid (rHead s d x dp = y) := HT.out.trans (if_neg hb)
      have bb : (blocksOf y.1.kind == 0) = false := by simpa using hb
      generalize sgAt y.1.sg 0 = g0 at *
      generalize sgAt y.1.sg 1 = g1 at *
      generalize sgAt y.1.sg 2 = g2 at *
      generalize sgAt y.1.sg 3 = g3 at *
      clear hb
      go_wp2_with fail
      refine (d_blocks _ _ _ _ _ _ _ _ _ _ _).mono ?_
      rintro e w6 ⟨rfl, o, rfl⟩
      go_wp2
      go_end0
      rw [HT2.out]
      exact ⟨rfl, hD4.alloc o, HQ4.out.alloc o, ((hF1.trans (hT2.two q).fr).trans hT4.fr).alloc o⟩
  · rw [if_neg h0] at hY
    have hyl : y.2.1 ≤ s.size := by rw [hY]; exact rCond_le hkl
    have HY : Hid (_ = _) := hY
    have b0 : (k.1.kind == 0) = false := by simpa using h0
    clear hY h0
    go_enter Try.func48, Try.ntmps48
    go_wp2_with fail
    refine hk.mono ?_
    rintro e w1 ⟨rfl, hD1, hQ1, hF1⟩
    obtain ⟨c0, c1, c2, c3, c4, c5, c6, c7, c8, c9, cf⟩ := hQ1.cells
    have k3 := d_readCondition hD1 hQ1 hks hs hkl
    rw [← HY.out] at k3
    have HQ1 : Hid (DsAt _ _ _) := hQ1
    clear hQ1
    go_wp2_with fail
    refine k3.mono ?_
    rintro e w4 ⟨rfl, hD4, hQ4, hT4⟩
    clear c0 c1 c2 c3 c4 c5 c6 c7 c8 c9 cf
    have hq4 := hQ4
    obtain ⟨c0, c1, c2, c3, c4, c5, c6, c7, c8, c9, cf⟩ := hq4.cells
    have HQ4 : Hid (DsAt _ _ _) := hq4
    clear hq4
    by_cases hb : blocksOf y.1.kind = 0
    · have HT2 : Hid (rHead s d x dp = (y.1, nd s y.2 59)) := HT.out.trans (if_pos hb)
      have kb := fun (t : Int) (an : Bool) (g0 g1 g2 g3 n p b : Int) (w : World) => d_blocks y.1.kind t an g0 g1 g2 g3 n p b w
      rw [hb] at kb
      generalize sgAt y.1.sg 0 = g0 at *
      generalize sgAt y.1.sg 1 = g1 at *
      generalize sgAt y.1.sg 2 = g2 at *
      generalize sgAt y.1.sg 3 = g3 at *
      clear hb
      go_wp2_with fail
      refine (kb _ _ _ _ _ _ _ _ _ _).mono ?_
      rintro e w6 ⟨rfl, o, rfl⟩
      go_wp2_with fail
      refine (d_need (hD4.alloc o) hs (by omega) 59).mono ?_
      rintro e w7 ⟨rfl, hD7, hT7⟩
      go_wp2
      go_end0
      rw [HT2.out]
      exact ⟨rfl, hD7, (HQ4.out.alloc o).keep hT7 hn, ((hF1.trans hT4.fr).alloc o).trans (hT7.two q).fr⟩
    · have HT2 : Hid (rHead s d x dp = y) := HT.out.trans (if_neg hb)
      have bb : (blocksOf y.1.kind == 0) = false := by simpa using hb
      generalize sgAt y.1.sg 0 = g0 at *
      generalize sgAt y.1.sg 1 = g1 at *
      generalize sgAt y.1.sg 2 = g2 at *
      generalize sgAt y.1.sg 3 = g3 at *
      clear hb
      go_wp2_with fail
      refine (d_blocks _ _ _ _ _ _ _ _ _ _ _).mono ?_
      rintro e w6 ⟨rfl, o, rfl⟩
      go_wp2
      go_end0
      rw [HT2.out]
      exact ⟨rfl, hD4.alloc o, HQ4.out.alloc o, (hF1.trans hT4.fr).alloc o⟩

end Go.Proofs.Ytadhimimdmoodaa
