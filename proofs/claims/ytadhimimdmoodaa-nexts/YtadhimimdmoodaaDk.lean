import Derived.Test.YtadhimimdmoodaaDj
import Derived.Test.YtadhimimdmoodaaRt
namespace Go.Proofs.Ytadhimimdmoodaa
open Go.RowKit
variable {w w' : World} {s : ByteArray}

/-- What is read of a text. -/
def readZ (s : ByteArray) : Zt := rStmts s 22 (-1) 0 0 ((0, false), [])
def readGood (s : ByteArray) : Bool := !(readZ s).1.2 && decide (s.size ≤ (readZ s).1.1)

def DReadPost (w : World) (s : ByteArray) : Ending → World → Prop := fun e w' => Below w.heap.size w w' ∧
  ((160 < s.size ∧ e = .returned (.tuple #[.agg #[.slice none 0 0], .int .i64 1, .int .i64 0])) ∨
   (s.size ≤ 160 ∧ readGood s = false ∧ e = .returned (.tuple #[.agg #[.slice none 0 0], .int .i64 1, .int .i64 (readZ s).1.1])) ∨
   (s.size ≤ 160 ∧ readGood s = true ∧ ∃ v, e = .returned (.tuple #[.agg #[v], .int .i64 0, .int .i64 0]) ∧ w'.ownsRow w.heap.size tDs 10 v (readZ s).2.length (flat (readZ s).2)))

theorem drep_init (s : ByteArray) (w : World) (o : Obj) : DRep w.heap.size ((w.alloc o).alloc (.cells #[.string s, .int .i64 0, .bool false, .slice none 0 0] tD)) (w.heap.size + 1) s ((0, false), []) (.slice none 0 0) where
  dat := by
    show ((w.heap.push _).push _)[w.heap.size + 1]? = _
    rw [Array.getElem?_push, if_pos (by simp)]; rfl
  row := World.ownsRow_nil _ _ _ _
  geR := by omega
  geW := by simp; omega

theorem readZ_row {z : Zt} {w2 : World} {r B : Nat} {v : Value} {u : Value} (h : DRep B w2 r s z v) (hn : v.ownBlock ≠ some w.heap.size) : (w2.setCell ⟨w.heap.size, 0, none⟩ u).ownsRow B tDs 10 v z.2.length (flat z.2) :=
  ownsRow_setCell_other h.row hn _
theorem prog_cell (w : World) (o o' : Obj) : ((w.alloc o).alloc o').heap[w.heap.size]? = some o := by
  show ((w.heap.push _).push _)[w.heap.size]? = _
  rw [Array.getElem?_push, if_neg (by simp), Array.getElem?_push, if_pos rfl]

set_option maxRecDepth 100000 in
set_option maxHeartbeats 1600000 in
theorem d_read (s : ByteArray) (w : World) (hm : s.size ≤ maxLen) :
    Calls Try.prog 15 #[.string s] w (DReadPost w s) := by
  unfold maxLen at hm
  by_cases h : 160 < s.size
  · go_enter Try.func15, Try.ntmps15
    go_wp2_with fail
    exact bodyPost_ret (v := .tuple #[.agg #[.slice none 0 0], .int .i64 1, .int .i64 0]) (by simp [results, Try.results15, go_sem]) rfl ⟨(Below.refl _ _).alloc (Nat.le_refl _) _, .inl ⟨h, rfl⟩⟩
  · have hsz : s.size ≤ 160 := by omega
    have b160 : decide ((160 : Int) < (s.size : Int)) = false := decide_eq_false (by omega)
    have HI : Hid (DRep _ _ _ _ _ _) := drep_init s w (.cells #[.slice none 0 0] 37)
    have hst := d_readStatements hsz 22 _ _ _ _ _ (-1) 0 0 HI.out ⟨Nat.zero_le _, Nat.zero_le _⟩ (Int.le_refl _) (Int.le_refl _) (by decide)
    have hgo := (rStmts_goes s 22 (-1) 0 0 ((0, false), []) ⟨Nat.zero_le _, Nat.zero_le _⟩).ok.at_
    have HG : Hid (readGood s = (!(readZ s).1.2 && decide (s.size ≤ (readZ s).1.1))) := rfl
    obtain ⟨z, hZ⟩ : ∃ z, z = readZ s := ⟨_, rfl⟩
    rw [show rStmts s 22 (-1) 0 0 ((0, false), []) = z from hZ.symm] at hst hgo
    have HZ : Hid (z = readZ s) := hZ
    clear hZ
    obtain ⟨⟨za, zb⟩, zf⟩ := z
    simp only at hgo
    cases zb
    · by_cases hl : za < s.size
      · have hGood : readGood s = false := by rw [HG.out, ← HZ.out]; simp; omega
        have HGD : Hid (_ = _) := hGood
        have bl : decide ((za : Int) < (s.size : Int)) = true := decide_eq_true (by omega)
        clear hGood
        go_enter Try.func15, Try.ntmps15
        go_wp2_with fail
        refine hst.mono ?_
        rintro e w2 ⟨rfl, v, hd, hzf⟩
        obtain ⟨r0, r1, r2, r3, rf⟩ := hd.dat.cells
        have hb2 : Below w.heap.size w w2 := (((Below.refl _ _).alloc (Nat.le_refl _) _).alloc (by simp) _).trans (hzf.below HI.out)
        have hp0 : w2.heap[w.heap.size]? = some (.cells #[.slice none 0 0] 37) := (hzf.block w.heap.size (by simp; omega) (by omega) (by simp [Value.ownBlock])).trans (prog_cell w _ _)
        have p1 : w2.cell? ⟨w.heap.size, 0, none⟩ = some (.slice none 0 0) := by simp [World.cell?, hp0]
        have p2 : w2.frozen? ⟨w.heap.size, 0, none⟩ = false := by simp [World.frozen?, hp0]
        have HDF : Hid (DRep _ _ _ _ _ _) := hd
        have HB2 : Hid (Below _ _ _) := hb2
        have hnv : Hid (v.ownBlock ≠ some w.heap.size) := ownsRow_not hd.row (show At w2 w.heap.size _ _ from hp0) (by decide)
        obtain ⟨ao, cap, hv⟩ := hd.vlen
        subst hv
        clear hd hzf hp0 hb2
        go_wp2_with fail
        go_region
        all_goals
          go_wp2
          exact bodyPost_ret (v := .tuple #[.agg #[.slice none 0 0], .int .i64 1, .int .i64 za]) (by simp [results, Try.results15, go_sem, p1]) rfl ⟨Below.setCell (Below.drew HB2.out) (Nat.le_refl _) _, .inr (.inl ⟨hsz, HGD.out, by rw [← HZ.out]⟩)⟩
      · have hGood : readGood s = true := by rw [HG.out, ← HZ.out]; simp; omega
        have HGD : Hid (_ = _) := hGood
        have bl : decide ((za : Int) < (s.size : Int)) = false := decide_eq_false (by omega)
        clear hGood
        go_enter Try.func15, Try.ntmps15
        go_wp2_with fail
        refine hst.mono ?_
        rintro e w2 ⟨rfl, v, hd, hzf⟩
        obtain ⟨r0, r1, r2, r3, rf⟩ := hd.dat.cells
        have hb2 : Below w.heap.size w w2 := (((Below.refl _ _).alloc (Nat.le_refl _) _).alloc (by simp) _).trans (hzf.below HI.out)
        have hp0 : w2.heap[w.heap.size]? = some (.cells #[.slice none 0 0] 37) := (hzf.block w.heap.size (by simp; omega) (by omega) (by simp [Value.ownBlock])).trans (prog_cell w _ _)
        have p1 : w2.cell? ⟨w.heap.size, 0, none⟩ = some (.slice none 0 0) := by simp [World.cell?, hp0]
        have p2 : w2.frozen? ⟨w.heap.size, 0, none⟩ = false := by simp [World.frozen?, hp0]
        have HDF : Hid (DRep _ _ _ _ _ _) := hd
        have HB2 : Hid (Below _ _ _) := hb2
        have hnv : Hid (v.ownBlock ≠ some w.heap.size) := ownsRow_not hd.row (show At w2 w.heap.size _ _ from hp0) (by decide)
        obtain ⟨ao, cap, hv⟩ := hd.vlen
        subst hv
        clear hd hzf hp0 hb2
        go_wp2_with fail
        exact bodyPost_ret (v := .tuple #[.agg #[.slice ao zf.length cap], .int .i64 0, .int .i64 0]) (by simp [results, Try.results15, go_sem, p1]) rfl ⟨Below.setCell HB2.out (Nat.le_refl _) _, .inr (.inr ⟨hsz, HGD.out, _, rfl, by rw [← HZ.out]; exact readZ_row HDF.out hnv.out⟩)⟩
    · have hGood : readGood s = false := by rw [HG.out, ← HZ.out]; rfl
      have HGD : Hid (_ = _) := hGood
      clear hGood
      go_enter Try.func15, Try.ntmps15
      go_wp2_with fail
      refine hst.mono ?_
      rintro e w2 ⟨rfl, v, hd, hzf⟩
      obtain ⟨r0, r1, r2, r3, rf⟩ := hd.dat.cells
      have hb2 : Below w.heap.size w w2 := (((Below.refl _ _).alloc (Nat.le_refl _) _).alloc (by simp) _).trans (hzf.below HI.out)
      have hp0 : w2.heap[w.heap.size]? = some (.cells #[.slice none 0 0] 37) := (hzf.block w.heap.size (by simp; omega) (by omega) (by simp [Value.ownBlock])).trans (prog_cell w _ _)
      have p1 : w2.cell? ⟨w.heap.size, 0, none⟩ = some (.slice none 0 0) := by simp [World.cell?, hp0]
      have p2 : w2.frozen? ⟨w.heap.size, 0, none⟩ = false := by simp [World.frozen?, hp0]
      have HDF : Hid (DRep _ _ _ _ _ _) := hd
      have HB2 : Hid (Below _ _ _) := hb2
      have hnv : Hid (v.ownBlock ≠ some w.heap.size) := ownsRow_not hd.row (show At w2 w.heap.size _ _ from hp0) (by decide)
      obtain ⟨ao, cap, hv⟩ := hd.vlen
      subst hv
      clear hd hzf hp0 hb2
      go_wp2_with fail
      go_region
      all_goals
        go_wp2
        exact bodyPost_ret (v := .tuple #[.agg #[.slice none 0 0], .int .i64 1, .int .i64 za]) (by simp [results, Try.results15, go_sem, p1]) rfl ⟨Below.setCell (Below.drew HB2.out) (Nat.le_refl _) _, .inr (.inl ⟨hsz, HGD.out, by rw [← HZ.out]⟩)⟩

end Go.Proofs.Ytadhimimdmoodaa
