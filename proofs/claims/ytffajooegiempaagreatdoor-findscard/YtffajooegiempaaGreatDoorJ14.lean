import Derived.Test.YtffajooegiempaaGreatDoorJ13
import Derived.Laws.Rows
import Derived.Laws.Tables
namespace Go.Proofs.YtffajooegiempaaGreatDoor
open Go.RowKit
variable {B : Nat} {w w' : World} {r q : Nat} {s : ByteArray} {vf : Value}

/-- How far the reading of statements can still go, off the reader's memory. -/
def mOf (r : Nat) (w : World) : Nat :=
  match w.cell? ⟨r, 2, none⟩, w.cell? ⟨r, 3, none⟩ with
  | some (.bool b), some (.slice _ n _) => if b then 0 else 21 - n
  | _, _ => 0
theorem mOf_eq {z : Zt} (h : DRep B w r s z vf) : mOf r w = Mz z := by
  obtain ⟨ao, cap, rfl⟩ := h.vlen
  obtain ⟨r0, r1, r2, r3, rf⟩ := h.dat.cells
  unfold mOf Mz
  rw [r2, r3]
theorem DRep.drewN {z : Zt} (h : DRep B w r s z vf) (k : Nat) : DRep B (w.drewN k) r s z vf := ⟨h.dat, h.row, h.geR, h.geW⟩
theorem ZFr.drewN {v v' : Value} (h : ZFr r v v' w w') (k : Nat) : ZFr r v v' w (w'.drewN k) := ⟨h.os, h.tape, h.output, h.size, h.block, h.row⟩

set_option maxRecDepth 100000 in
set_option maxHeartbeats 1600000 in
theorem d_readStatements (hs : s.size ≤ 160) (n : Nat) : SP s n := by
  induction n using Nat.strongRecOn with
  | ind n ih =>
    intro B r vf w z p b dp h hz h0 h1 hm
    have HI : Hid (∀ m, m < n → SP s m) := ih
    have hp := d_peek h.dat hs (by have := hz.at_; omega)
    have HD : Hid (DRep _ _ _ _ _ _) := h
    clear ih h
    go_enter Tryz.func50, Tryz.ntmps50
    go_wp2_with fail
    refine hp.mono ?_
    rintro e w1 ⟨rfl, k, rfl⟩
    clear hp
    go_wp2_with fail
    go_loopw [8] (fun c wr => ∃ (z' : Zt) (m : Nat) (v : Value), m ≤ n ∧ Mz z' < m ∧ rStmts s n p b dp z = rStmts s m p b dp z' ∧ c = .int .u8 (pk s z'.1) ∧ Zok s z' ∧ dp ≤ z'.2.length ∧ DRep B wr r s z' v ∧ ZFr r vf v w wr) (fun _ wr => mOf r wr)
    case atStart => exact ⟨z, n, vf, Nat.le_refl _, hm, rfl, rfl, hz, h1, HD.out.drewN k, (ZFr.refl r vf w).drewN k⟩
    case round =>
      obtain ⟨z', m, v, hmn, hmz, he, rfl, hzk, hdp, hd, hzf⟩ := hrel
      have HE : Hid (_ = _) := he
      have HDJ : Hid (DRep _ _ _ _ _ _) := hd
      have hmo := mOf_eq hd
      have HMO : Hid (_ = _) := hmo
      clear he hd hmo
      obtain ⟨m', rfl⟩ : ∃ m', m = m' + 1 := ⟨m - 1, by omega⟩
      obtain ⟨p0, p1⟩ := pk_range s z'.1
      by_cases hc0 : pk s z'.1 = 0
      · have HX : Hid (rStmts s n p b dp z = z') := HE.out.trans (by unfold rStmts; rw [if_pos (.inl hc0)])
        rw [hc0]
        clear hc0
        go_wp2_with fail
        go_end0
        rw [HX.out]
        exact ⟨rfl, v, HDJ.out, hzf⟩
      have b0 : (pk s z'.1 != 0) = true := by rw [bne_iff_ne]; exact hc0
      by_cases hc1 : pk s z'.1 = 125
      · have HX : Hid (rStmts s n p b dp z = z') := HE.out.trans (by unfold rStmts; rw [if_pos (.inr hc1)])
        rw [hc1]
        clear hc0 hc1 b0
        go_wp2_with fail
        go_end0
        rw [HX.out]
        exact ⟨rfl, v, HDJ.out, hzf⟩
      · have b1 : (pk s z'.1 != 125) = true := by rw [bne_iff_ne]; exact hc1
        have HX : Hid (rStmts s n p b dp z = rStmts s m' p b dp (rStmtWith s (rStmts s m') p b dp z')) := HE.out.trans (by rw [rStmts, if_neg (fun e => e.elim hc0 hc1)])
        have hns : z'.1.2 = false := (pk_lt rfl hc0).2
        have hg := (rStmts_goes s m').stmt p b dp hzk
        have hMd := Mz_stmt (rStmts s m') (rStmts_goes s m') p b dp hzk hns
        have hst := d_readStatement (HI.out m' (by omega)) hs HDJ.out hzk hns p b dp h0 hdp (by omega)
        obtain ⟨z2, hZ2⟩ : ∃ z2, z2 = rStmtWith s (rStmts s m') p b dp z' := ⟨_, rfl⟩
        rw [← hZ2] at hst hg hMd HX
        have hz2a := hg.ok.at_
        have hz2l := hg.len
        have HN : Hid (_ = _) := hns
        clear hZ2 hc0 hc1 hns
        generalize pk s z'.1 = c at *
        go_wp2_with fail
        refine hst.mono ?_
        rintro e w2 ⟨rfl, v2, hd2, hz2⟩
        have HD2 : Hid (DRep _ _ _ _ _ _ ∧ ZFr _ _ _ _ _) := ⟨hd2, hz2⟩
        clear hst hd2 hz2
        go_wp2_with fail
        refine (d_peek HD2.out.1.dat hs (by omega)).mono ?_
        rintro e w3 ⟨rfl, k3, rfl⟩
        go_wp2
        go_roundw
        case rel => exact ⟨z2, m', v2, by omega, by omega, HX.out, rfl, hg.ok, by omega, HD2.out.1.drewN k3, (hzf.trans HD2.out.2).drewN k3⟩
        case measure =>
          have e1 := mOf_eq (HD2.out.1.drewN k3)
          rw [e1, HMO.out]
          exact hMd

end Go.Proofs.YtffajooegiempaaGreatDoor

namespace Go.Proofs.YtffajooegiempaaGreatDoor
open Go.RowKit
variable {w w' : World} {s : ByteArray}

/-- What is read of a text. -/
def readZ (s : ByteArray) : Zt := rStmts s 22 (-1) 0 0 ((0, false), [])
def readGood (s : ByteArray) : Bool := !(readZ s).1.2 && decide (s.size ≤ (readZ s).1.1)

def DReadPost (w : World) (s : ByteArray) : Ending → World → Prop := fun e w' => Below w.heap.size w w' ∧
  ((160 < s.size ∧ e = .returned (.tuple #[.agg #[.slice none 0 0], .int .i64 1, .int .i64 0])) ∨
   (s.size ≤ 160 ∧ readGood s = false ∧ e = .returned (.tuple #[.agg #[.slice none 0 0], .int .i64 1, .int .i64 (readZ s).1.1])) ∨
   (s.size ≤ 160 ∧ readGood s = true ∧ ∃ v, e = .returned (.tuple #[.agg #[v], .int .i64 0, .int .i64 0]) ∧ w'.ownsRow w.heap.size tDs 10 v (readZ s).2.length (flat (readZ s).2)))

theorem drep_init (s : ByteArray) (w : World) (o : Obj) : DRep w.heap.size ((w.alloc o).alloc (.cells #[.string s, .int .i64 0, .bool false, .slice none 0 0] tD)) (w.heap.size + 1) s ((0, false), []) (.slice none 0 0) where
  dat := by
    show ((w.heap.push _).push _)[w.heap.size + 1]? = _
    rw [Array.getElem?_push, if_pos (by simp)]; rfl
  row := World.ownsRow_nil _ _ _ _
  geR := by omega
  geW := by simp; omega

theorem readZ_row {z : Zt} {w2 : World} {r B : Nat} {v : Value} {u : Value} (h : DRep B w2 r s z v) (hn : v.ownBlock ≠ some w.heap.size) : (w2.setCell ⟨w.heap.size, 0, none⟩ u).ownsRow B tDs 10 v z.2.length (flat z.2) :=
  ownsRow_setCell_other h.row hn _
theorem prog_cell (w : World) (o o' : Obj) : ((w.alloc o).alloc o').heap[w.heap.size]? = some o := by
  show ((w.heap.push _).push _)[w.heap.size]? = _
  rw [Array.getElem?_push, if_neg (by simp), Array.getElem?_push, if_pos rfl]

set_option maxRecDepth 100000 in
set_option maxHeartbeats 1600000 in
theorem d_read (s : ByteArray) (w : World) (hm : s.size ≤ maxLen) :
    Calls Tryz.prog 18 #[.string s] w (DReadPost w s) := by
  unfold maxLen at hm
  by_cases h : 160 < s.size
  · go_enter Tryz.func18, Tryz.ntmps18
    go_wp2_with fail
    exact bodyPost_ret (v := .tuple #[.agg #[.slice none 0 0], .int .i64 1, .int .i64 0]) (by simp [results, Tryz.results18, go_sem]) rfl ⟨(Below.refl _ _).alloc (Nat.le_refl _) _, .inl ⟨h, rfl⟩⟩
  · have hsz : s.size ≤ 160 := by omega
    have b160 : decide ((160 : Int) < (s.size : Int)) = false := decide_eq_false (by omega)
    have HI : Hid (DRep _ _ _ _ _ _) := drep_init s w (.cells #[.slice none 0 0] 43)
    have hst := d_readStatements hsz 22 _ _ _ _ _ (-1) 0 0 HI.out ⟨Nat.zero_le _, Nat.zero_le _⟩ (Int.le_refl _) (Int.le_refl _) (by decide)
    have hgo := (rStmts_goes s 22 (-1) 0 0 ((0, false), []) ⟨Nat.zero_le _, Nat.zero_le _⟩).ok.at_
    have HG : Hid (readGood s = (!(readZ s).1.2 && decide (s.size ≤ (readZ s).1.1))) := rfl
    obtain ⟨z, hZ⟩ : ∃ z, z = readZ s := ⟨_, rfl⟩
    rw [show rStmts s 22 (-1) 0 0 ((0, false), []) = z from hZ.symm] at hst hgo
    have HZ : Hid (z = readZ s) := hZ
    clear hZ
    obtain ⟨⟨za, zb⟩, zf⟩ := z
    simp only at hgo
    cases zb
    · by_cases hl : za < s.size
      · have hGood : readGood s = false := by rw [HG.out, ← HZ.out]; simp; omega
        have HGD : Hid (_ = _) := hGood
        have bl : decide ((za : Int) < (s.size : Int)) = true := decide_eq_true (by omega)
        clear hGood
        go_enter Tryz.func18, Tryz.ntmps18
        go_wp2_with fail
        refine hst.mono ?_
        rintro e w2 ⟨rfl, v, hd, hzf⟩
        obtain ⟨r0, r1, r2, r3, rf⟩ := hd.dat.cells
        have hb2 : Below w.heap.size w w2 := (((Below.refl _ _).alloc (Nat.le_refl _) _).alloc (by simp) _).trans (hzf.below HI.out)
        have hp0 : w2.heap[w.heap.size]? = some (.cells #[.slice none 0 0] 43) := (hzf.block w.heap.size (by simp; omega) (by omega) (by simp [Value.ownBlock])).trans (prog_cell w _ _)
        have p1 : w2.cell? ⟨w.heap.size, 0, none⟩ = some (.slice none 0 0) := by simp [World.cell?, hp0]
        have p2 : w2.frozen? ⟨w.heap.size, 0, none⟩ = false := by simp [World.frozen?, hp0]
        have HDF : Hid (DRep _ _ _ _ _ _) := hd
        have HB2 : Hid (Below _ _ _) := hb2
        have hnv : Hid (v.ownBlock ≠ some w.heap.size) := ownsRow_not hd.row (show At w2 w.heap.size _ _ from hp0) (by decide)
        obtain ⟨ao, cap, hv⟩ := hd.vlen
        subst hv
        clear hd hzf hp0 hb2
        go_wp2_with fail
        go_region
        all_goals
          go_wp2
          exact bodyPost_ret (v := .tuple #[.agg #[.slice none 0 0], .int .i64 1, .int .i64 za]) (by simp [results, Tryz.results18, go_sem, p1]) rfl ⟨Below.setCell (Below.drew HB2.out) (Nat.le_refl _) _, .inr (.inl ⟨hsz, HGD.out, by rw [← HZ.out]⟩)⟩
      · have hGood : readGood s = true := by rw [HG.out, ← HZ.out]; simp; omega
        have HGD : Hid (_ = _) := hGood
        have bl : decide ((za : Int) < (s.size : Int)) = false := decide_eq_false (by omega)
        clear hGood
        go_enter Tryz.func18, Tryz.ntmps18
        go_wp2_with fail
        refine hst.mono ?_
        rintro e w2 ⟨rfl, v, hd, hzf⟩
        obtain ⟨r0, r1, r2, r3, rf⟩ := hd.dat.cells
        have hb2 : Below w.heap.size w w2 := (((Below.refl _ _).alloc (Nat.le_refl _) _).alloc (by simp) _).trans (hzf.below HI.out)
        have hp0 : w2.heap[w.heap.size]? = some (.cells #[.slice none 0 0] 43) := (hzf.block w.heap.size (by simp; omega) (by omega) (by simp [Value.ownBlock])).trans (prog_cell w _ _)
        have p1 : w2.cell? ⟨w.heap.size, 0, none⟩ = some (.slice none 0 0) := by simp [World.cell?, hp0]
        have p2 : w2.frozen? ⟨w.heap.size, 0, none⟩ = false := by simp [World.frozen?, hp0]
        have HDF : Hid (DRep _ _ _ _ _ _) := hd
        have HB2 : Hid (Below _ _ _) := hb2
        have hnv : Hid (v.ownBlock ≠ some w.heap.size) := ownsRow_not hd.row (show At w2 w.heap.size _ _ from hp0) (by decide)
        obtain ⟨ao, cap, hv⟩ := hd.vlen
        subst hv
        clear hd hzf hp0 hb2
        go_wp2_with fail
        exact bodyPost_ret (v := .tuple #[.agg #[.slice ao zf.length cap], .int .i64 0, .int .i64 0]) (by simp [results, Tryz.results18, go_sem, p1]) rfl ⟨Below.setCell HB2.out (Nat.le_refl _) _, .inr (.inr ⟨hsz, HGD.out, _, rfl, by rw [← HZ.out]; exact readZ_row HDF.out hnv.out⟩)⟩
    · have hGood : readGood s = false := by rw [HG.out, ← HZ.out]; rfl
      have HGD : Hid (_ = _) := hGood
      clear hGood
      go_enter Tryz.func18, Tryz.ntmps18
      go_wp2_with fail
      refine hst.mono ?_
      rintro e w2 ⟨rfl, v, hd, hzf⟩
      obtain ⟨r0, r1, r2, r3, rf⟩ := hd.dat.cells
      have hb2 : Below w.heap.size w w2 := (((Below.refl _ _).alloc (Nat.le_refl _) _).alloc (by simp) _).trans (hzf.below HI.out)
      have hp0 : w2.heap[w.heap.size]? = some (.cells #[.slice none 0 0] 43) := (hzf.block w.heap.size (by simp; omega) (by omega) (by simp [Value.ownBlock])).trans (prog_cell w _ _)
      have p1 : w2.cell? ⟨w.heap.size, 0, none⟩ = some (.slice none 0 0) := by simp [World.cell?, hp0]
      have p2 : w2.frozen? ⟨w.heap.size, 0, none⟩ = false := by simp [World.frozen?, hp0]
      have HDF : Hid (DRep _ _ _ _ _ _) := hd
      have HB2 : Hid (Below _ _ _) := hb2
      have hnv : Hid (v.ownBlock ≠ some w.heap.size) := ownsRow_not hd.row (show At w2 w.heap.size _ _ from hp0) (by decide)
      obtain ⟨ao, cap, hv⟩ := hd.vlen
      subst hv
      clear hd hzf hp0 hb2
      go_wp2_with fail
      go_region
      all_goals
        go_wp2
        exact bodyPost_ret (v := .tuple #[.agg #[.slice none 0 0], .int .i64 1, .int .i64 za]) (by simp [results, Tryz.results18, go_sem, p1]) rfl ⟨Below.setCell (Below.drew HB2.out) (Nat.le_refl _) _, .inr (.inl ⟨hsz, HGD.out, by rw [← HZ.out]⟩)⟩

end Go.Proofs.YtffajooegiempaaGreatDoor

namespace Go.Proofs.YtffajooegiempaaGreatDoor

def scanD (s : ByteArray) : Int × Int × Int :=
  if 160 < s.size then (0, 1, 0) else if readGood s = true then (((readZ s).2.length : Int) + 1, 0, 0) else (0, 1, (readZ s).1.1)

end Go.Proofs.YtffajooegiempaaGreatDoor

/- The program's ways, plain. -/
namespace Go.Proofs.YtffajooegiempaaGreatDoor

/-- The first statement of a block from a point on. -/
def firstGo (p b fr : Int) : List Ds → Nat → Int
  | [], _ => -1
  | x :: l, i => if fr ≤ i ∧ x.parent = p ∧ x.block = b then (i : Int) else firstGo p b fr l (i + 1)
def firstP (F : List Ds) (p b fr : Int) : Int := firstGo p b fr F 0
def isRepP (F : List Ds) (p : Int) : Bool := decide (0 ≤ p) && decide (p < F.length) && decide ((F.getD p.toNat (newDs 0 0)).kind = 3)
def followP (F : List Ds) : Nat → Int → Int
  | 0, _ => F.length
  | n + 1, pt => if pt < 0 ∨ (F.length : Int) ≤ pt then F.length else
    if firstP F (F.getD pt.toNat (newDs 0 0)).parent (F.getD pt.toNat (newDs 0 0)).block (pt + 1) ≠ -1 then firstP F (F.getD pt.toNat (newDs 0 0)).parent (F.getD pt.toNat (newDs 0 0)).block (pt + 1)
    else if isRepP F (F.getD pt.toNat (newDs 0 0)).parent = true then (F.getD pt.toNat (newDs 0 0)).parent
    else followP F n (F.getD pt.toNat (newDs 0 0)).parent

def waysP (k : Int) : Int := if k = 2 ∨ k = 3 then 2 else 1
/-- Where a way leads, and the error. -/
def nextP (F : List Ds) (pt way : Int) : Int × Int :=
  if pt < 0 ∨ (F.length : Int) ≤ pt then (0, 2)
  else if way < 0 ∨ waysP (F.getD pt.toNat (newDs 0 0)).kind ≤ way then (0, 2)
  else if blocksOf (F.getD pt.toNat (newDs 0 0)).kind ≤ way then (followP F 21 pt, 0)
  else if firstP F pt way (pt + 1) ≠ -1 then (firstP F pt way (pt + 1), 0)
  else if (F.getD pt.toNat (newDs 0 0)).kind = 3 then (pt, 0)
  else (followP F 21 pt, 0)

theorem firstGo_drop {p b fr : Int} {F : List Ds} {k : Nat} (hk : k < F.length) : firstGo p b fr (F.drop k) k = if fr ≤ k ∧ (F.getD k (newDs 0 0)).parent = p ∧ (F.getD k (newDs 0 0)).block = b then (k : Int) else firstGo p b fr (F.drop (k + 1)) (k + 1) := by
  have e : F.drop k = F.getD k (newDs 0 0) :: F.drop (k + 1) := by
    rw [List.drop_eq_getElem_cons hk, List.getD_eq_getElem?_getD, List.getElem?_eq_getElem hk]; rfl
  rw [e, firstGo]

end Go.Proofs.YtffajooegiempaaGreatDoor

namespace Go.Proofs.YtffajooegiempaaGreatDoor
open Go.RowKit
variable {w w' : World} {g cap b : Nat} {F : List Ds}

/-- A statement as a value. -/
def dsv (x : Ds) : Value := .agg #[.int .i64 x.kind, .int .i64 x.target, .bool x.any, .int .i64 (sgAt x.sg 0), .int .i64 (sgAt x.sg 1), .int .i64 (sgAt x.sg 2), .int .i64 (sgAt x.sg 3), .int .i64 x.num, .int .i64 x.parent, .int .i64 x.block]
theorem ds_loadVar {x : Ds} (h : At w b (dsCells x) tDs) : (loadVar tDs ⟨b, 0, none⟩).run Tryz.prog w = .ok (dsv x) w :=
  run_loadVar_row w b tDs tDs (dsCells x) (0, 0) _ h Tryz.underlying119 rfl (by kernel_rfl)
theorem results_dc {fn : Func} {t u : Tmp} {x : Ds} (h : fn.results = #[.cell t tDs, .tmp u]) (tmps : Array Value) (hp : tmps.getD t undef = .pointer (some ⟨b, 0, none⟩)) (hat : At w b (dsCells x) tDs) :
    (results fn tmps).run Tryz.prog w = .ok (.tuple #[dsv x, tmps.getD u undef]) w := by
  have hp' : tmps[t]?.getD undef = .pointer (some ⟨b, 0, none⟩) := by simpa using hp
  simp [results, h, hp', asAddr, ds_loadVar hat]

/-- The statements of a program, as they lie in memory. -/
def PRow (w : World) (g : Nat) (F : List Ds) : Prop := g < w.heap.size ∧ ∀ j x, F[j]? = some x → w.cell? ⟨g, j * 10, none⟩ = some (.int .i64 x.kind) ∧ w.cell? ⟨g, j * 10 + 1, none⟩ = some (.int .i64 x.target) ∧ w.cell? ⟨g, j * 10 + 2, none⟩ = some (.bool x.any) ∧
  w.cell? ⟨g, j * 10 + 3, none⟩ = some (.int .i64 (sgAt x.sg 0)) ∧ w.cell? ⟨g, j * 10 + 4, none⟩ = some (.int .i64 (sgAt x.sg 1)) ∧ w.cell? ⟨g, j * 10 + 5, none⟩ = some (.int .i64 (sgAt x.sg 2)) ∧ w.cell? ⟨g, j * 10 + 6, none⟩ = some (.int .i64 (sgAt x.sg 3)) ∧
  w.cell? ⟨g, j * 10 + 7, none⟩ = some (.int .i64 x.num) ∧ w.cell? ⟨g, j * 10 + 8, none⟩ = some (.int .i64 x.parent) ∧ w.cell? ⟨g, j * 10 + 9, none⟩ = some (.int .i64 x.block)
theorem PRow.keep (h : PRow w g F) (hb : Below w.heap.size w w') : PRow w' g F := by
  refine ⟨Nat.lt_of_lt_of_le h.1 hb.size, fun j x hx => ?_⟩
  have hc : ∀ o, w'.cell? ⟨g, o, none⟩ = w.cell? ⟨g, o, none⟩ := fun o => hb.cell (p := ⟨g, o, none⟩) h.1
  simp only [hc]
  exact h.2 j x hx
theorem gets' {j : Nat} (hj : j < F.length) : F[j]? = some (F.getD j (newDs 0 0)) := by rw [List.getD_eq_getElem?_getD, List.getElem?_eq_getElem hj]; rfl

set_option maxRecDepth 100000 in
set_option maxHeartbeats 800000 in
theorem d_ways (k t : Int) (an : Bool) (g0 g1 g2 g3 n p b : Int) (w : World) :
    Calls Tryz.prog 111 #[.agg #[.int .i64 k, .int .i64 t, .bool an, .int .i64 g0, .int .i64 g1, .int .i64 g2, .int .i64 g3, .int .i64 n, .int .i64 p, .int .i64 b]] w fun e w' => e = .returned (.int .i64 (waysP k)) ∧ ∃ o, w' = w.alloc o := by
  unfold waysP
  by_cases h2 : k = 2
  · subst h2
    go_enter Tryz.func111, Tryz.ntmps111
    go_wp2
    go_ret
    exact ⟨rfl, _, rfl⟩
  · have b2 : (k == 2) = false := by simpa using h2
    by_cases h3 : k = 3
    · subst h3
      clear h2 b2
      go_enter Tryz.func111, Tryz.ntmps111
      go_wp2
      go_ret
      exact ⟨rfl, _, rfl⟩
    · have b3 : (k == 3) = false := by simpa using h3
      rw [if_neg (fun e => e.elim h2 h3)]
      clear h2 h3
      go_enter Tryz.func111, Tryz.ntmps111
      go_wp2
      go_ret
      exact ⟨rfl, _, rfl⟩

/-- No statement. -/
def zDs : Ds := newDs 0 0
set_option maxRecDepth 100000 in
set_option maxHeartbeats 1600000 in
theorem d_at_in (h : PRow w g F) (k : Nat) (hk : k < F.length) :
    Calls Tryz.prog 81 #[.agg #[.slice (some ⟨g, 0, none⟩) F.length cap], .int .i64 (k : Int)] w fun e w' => e = .returned (.tuple #[dsv (F.getD k (newDs 0 0)), .int .i64 0]) ∧ Below w.heap.size w w' := by
  have hg := h.1
  have hki : (k : Int) < (F.length : Int) := by omega
  have hge : ¬ (F.length : Int) ≤ (k : Int) := by omega
  obtain ⟨c0, c1, c2, c3, c4, c5, c6, c7, c8, c9⟩ := h.2 k _ (gets' hk)
  have HB : Hid (∀ o1 o2, Below w.heap.size w ((w.alloc o1).alloc o2)) := fun o1 o2 => ((Below.refl _ _).alloc (Nat.le_refl _) _).alloc (by simp) _
  generalize F.getD k (newDs 0 0) = x at *
  clear h
  go_enter Tryz.func81, Tryz.ntmps81
  go_wp2_with fail
  try simp only [Exit.inBlock, Exit.then]
  refine bodyPost_ret (results_dc (b := w.heap.size + 1) (x := x) rfl _ rfl ?_) rfl ?_
  · have := At.new (w.alloc (.cells #[.slice (some ⟨g, 0, none⟩) F.length cap] 43)) (dsCells x) tDs
    rw [show (w.alloc (.cells #[.slice (some ⟨g, 0, none⟩) F.length cap] 43)).heap.size = w.heap.size + 1 by simp] at this
    exact this
  · exact ⟨rfl, HB.out _ _⟩
set_option maxRecDepth 100000 in
set_option maxHeartbeats 1600000 in
theorem d_at_out (ao : Option Addr) (n : Nat) (_hn : n ≤ 20) (p : Int) (hp : p < 0 ∨ (n : Int) ≤ p) :
    Calls Tryz.prog 81 #[.agg #[.slice ao n cap], .int .i64 p] w fun e w' => e = .returned (.tuple #[dsv zDs, .int .i64 2]) ∧ Below w.heap.size w w' := by
  have HB : Hid (∀ o1 o2, Below w.heap.size w ((w.alloc o1).alloc o2)) := fun o1 o2 => ((Below.refl _ _).alloc (Nat.le_refl _) _).alloc (by simp) _
  by_cases h0 : p < 0
  · clear hp
    go_enter Tryz.func81, Tryz.ntmps81
    go_wp2_with fail
    try simp only [Exit.inBlock, Exit.then]
    refine bodyPost_ret (results_dc (b := w.heap.size + 1) (x := zDs) rfl _ rfl ?_) rfl ?_
    · have := At.new (w.alloc (.cells #[.slice ao n cap] 43)) (dsCells zDs) tDs
      rw [show (w.alloc (.cells #[.slice ao n cap] 43)).heap.size = w.heap.size + 1 by simp] at this
      exact this
    · exact ⟨rfl, HB.out _ _⟩
  · have h1 : (n : Int) ≤ p := hp.elim (fun e => absurd e h0) id
    clear hp
    go_enter Tryz.func81, Tryz.ntmps81
    go_wp2_with fail
    try simp only [Exit.inBlock, Exit.then]
    refine bodyPost_ret (results_dc (b := w.heap.size + 1) (x := zDs) rfl _ rfl ?_) rfl ?_
    · have := At.new (w.alloc (.cells #[.slice ao n cap] 43)) (dsCells zDs) tDs
      rw [show (w.alloc (.cells #[.slice ao n cap] 43)).heap.size = w.heap.size + 1 by simp] at this
      exact this
    · exact ⟨rfl, HB.out _ _⟩

end Go.Proofs.YtffajooegiempaaGreatDoor

