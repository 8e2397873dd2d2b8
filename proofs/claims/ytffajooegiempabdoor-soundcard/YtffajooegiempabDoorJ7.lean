import Derived.Test.YtffajooegiempabDoorJ6
import Derived.Laws.Rows
import Derived.Laws.Tables
namespace Go.Proofs.YtffajooegiempabDoor
open Go.RowKit
variable {w w' : World} {s : ByteArray}

/-- What is read of a text. -/
def readZ (s : ByteArray) : Zt := rStmts s 22 (-1) 0 0 ((0, false), [])
def readGood (s : ByteArray) : Bool := !(readZ s).1.2 && decide (s.size ≤ (readZ s).1.1)

def DReadPost (w : World) (s : ByteArray) : Ending → World → Prop := fun e w' => Below w.heap.size w w' ∧
  ((160 < s.size ∧ e = .returned (.tuple #[.agg #[.slice none 0 0], .int .i64 1, .int .i64 0])) ∨
   (s.size ≤ 160 ∧ readGood s = false ∧ e = .returned (.tuple #[.agg #[.slice none 0 0], .int .i64 1, .int .i64 (readZ s).1.1])) ∨
   (s.size ≤ 160 ∧ readGood s = true ∧ ∃ v, e = .returned (.tuple #[.agg #[v], .int .i64 0, .int .i64 0]) ∧ w'.ownsRow w.heap.size tDs 10 v (readZ s).2.length (flat (readZ s).2)))

theorem drep_init (s : ByteArray) (w : World) (o : Obj) : DRep w.heap.size ((w.alloc o).alloc (.cells #[.string s, .int .i64 0, .bool false, .slice none 0 0] tD)) (w.heap.size + 1) s ((0, false), []) (.slice none 0 0) where
  dat := by
    show ((w.heap.push _).push _)[w.heap.size + 1]? = _
    rw [Array.getElem?_push, if_pos (by simp)]; rfl
  row := World.ownsRow_nil _ _ _ _
  geR := by omega
  geW := by simp; omega

theorem readZ_row {z : Zt} {w2 : World} {r B : Nat} {v : Value} {u : Value} (h : DRep B w2 r s z v) (hn : v.ownBlock ≠ some w.heap.size) : (w2.setCell ⟨w.heap.size, 0, none⟩ u).ownsRow B tDs 10 v z.2.length (flat z.2) :=
  ownsRow_setCell_other h.row hn _
theorem prog_cell (w : World) (o o' : Obj) : ((w.alloc o).alloc o').heap[w.heap.size]? = some o := by
  show ((w.heap.push _).push _)[w.heap.size]? = _
  rw [Array.getElem?_push, if_neg (by simp), Array.getElem?_push, if_pos rfl]

set_option maxRecDepth 100000 in
set_option maxHeartbeats 1600000 in
theorem d_read (s : ByteArray) (w : World) (hm : s.size ≤ maxLen) :
    Calls Tryd.prog 30 #[.string s] w (DReadPost w s) := by
  unfold maxLen at hm
  by_cases h : 160 < s.size
  · go_enter Tryd.func30, Tryd.ntmps30
    go_wp2_with fail
    exact bodyPost_ret (v := .tuple #[.agg #[.slice none 0 0], .int .i64 1, .int .i64 0]) (by simp [results, Tryd.results30, go_sem]) rfl ⟨(Below.refl _ _).alloc (Nat.le_refl _) _, .inl ⟨h, rfl⟩⟩
  · have hsz : s.size ≤ 160 := by omega
    have b160 : decide ((160 : Int) < (s.size : Int)) = false := decide_eq_false (by omega)
    have HI : Hid (DRep _ _ _ _ _ _) := drep_init s w (.cells #[.slice none 0 0] 66)
    have hst := d_readStatements hsz 22 _ _ _ _ _ (-1) 0 0 HI.out ⟨Nat.zero_le _, Nat.zero_le _⟩ (Int.le_refl _) (Int.le_refl _) (by decide)
    have hgo := (rStmts_goes s 22 (-1) 0 0 ((0, false), []) ⟨Nat.zero_le _, Nat.zero_le _⟩).ok.at_
    have HG : Hid (readGood s = (!(readZ s).1.2 && decide (s.size ≤ (readZ s).1.1))) := rfl
    obtain ⟨z, hZ⟩ : ∃ z, z = readZ s := ⟨_, rfl⟩
    rw [show rStmts s 22 (-1) 0 0 ((0, false), []) = z from hZ.symm] at hst hgo
    have HZ : Hid (z = readZ s) := hZ
    clear hZ
    obtain ⟨⟨za, zb⟩, zf⟩ := z
    simp only at hgo
    cases zb
    · by_cases hl : za < s.size
      · have hGood : readGood s = false := by rw [HG.out, ← HZ.out]; simp; omega
        have HGD : Hid (_ = _) := hGood
        have bl : decide ((za : Int) < (s.size : Int)) = true := decide_eq_true (by omega)
        clear hGood
        go_enter Tryd.func30, Tryd.ntmps30
        go_wp2_with fail
        refine hst.mono ?_
        rintro e w2 ⟨rfl, v, hd, hzf⟩
        obtain ⟨r0, r1, r2, r3, rf⟩ := hd.dat.cells
        have hb2 : Below w.heap.size w w2 := (((Below.refl _ _).alloc (Nat.le_refl _) _).alloc (by simp) _).trans (hzf.below HI.out)
        have hp0 : w2.heap[w.heap.size]? = some (.cells #[.slice none 0 0] 66) := (hzf.block w.heap.size (by simp; omega) (by omega) (by simp [Value.ownBlock])).trans (prog_cell w _ _)
        have p1 : w2.cell? ⟨w.heap.size, 0, none⟩ = some (.slice none 0 0) := by simp [World.cell?, hp0]
        have p2 : w2.frozen? ⟨w.heap.size, 0, none⟩ = false := by simp [World.frozen?, hp0]
        have HDF : Hid (DRep _ _ _ _ _ _) := hd
        have HB2 : Hid (Below _ _ _) := hb2
        have hnv : Hid (v.ownBlock ≠ some w.heap.size) := ownsRow_not hd.row (show At w2 w.heap.size _ _ from hp0) (by decide)
        obtain ⟨ao, cap, hv⟩ := hd.vlen
        subst hv
        clear hd hzf hp0 hb2
        go_wp2_with fail
        go_region
        all_goals
          go_wp2
          exact bodyPost_ret (v := .tuple #[.agg #[.slice none 0 0], .int .i64 1, .int .i64 za]) (by simp [results, Tryd.results30, go_sem, p1]) rfl ⟨Below.setCell (Below.drew HB2.out) (Nat.le_refl _) _, .inr (.inl ⟨hsz, HGD.out, by rw [← HZ.out]⟩)⟩
      · have hGood : readGood s = true := by rw [HG.out, ← HZ.out]; simp; omega
        have HGD : Hid (_ = _) := hGood
        have bl : decide ((za : Int) < (s.size : Int)) = false := decide_eq_false (by omega)
        clear hGood
        go_enter Tryd.func30, Tryd.ntmps30
        go_wp2_with fail
        refine hst.mono ?_
        rintro e w2 ⟨rfl, v, hd, hzf⟩
        obtain ⟨r0, r1, r2, r3, rf⟩ := hd.dat.cells
        have hb2 : Below w.heap.size w w2 := (((Below.refl _ _).alloc (Nat.le_refl _) _).alloc (by simp) _).trans (hzf.below HI.out)
        have hp0 : w2.heap[w.heap.size]? = some (.cells #[.slice none 0 0] 66) := (hzf.block w.heap.size (by simp; omega) (by omega) (by simp [Value.ownBlock])).trans (prog_cell w _ _)
        have p1 : w2.cell? ⟨w.heap.size, 0, none⟩ = some (.slice none 0 0) := by simp [World.cell?, hp0]
        have p2 : w2.frozen? ⟨w.heap.size, 0, none⟩ = false := by simp [World.frozen?, hp0]
        have HDF : Hid (DRep _ _ _ _ _ _) := hd
        have HB2 : Hid (Below _ _ _) := hb2
        have hnv : Hid (v.ownBlock ≠ some w.heap.size) := ownsRow_not hd.row (show At w2 w.heap.size _ _ from hp0) (by decide)
        obtain ⟨ao, cap, hv⟩ := hd.vlen
        subst hv
        clear hd hzf hp0 hb2
        go_wp2_with fail
        exact bodyPost_ret (v := .tuple #[.agg #[.slice ao zf.length cap], .int .i64 0, .int .i64 0]) (by simp [results, Tryd.results30, go_sem, p1]) rfl ⟨Below.setCell HB2.out (Nat.le_refl _) _, .inr (.inr ⟨hsz, HGD.out, _, rfl, by rw [← HZ.out]; exact readZ_row HDF.out hnv.out⟩)⟩
    · have hGood : readGood s = false := by rw [HG.out, ← HZ.out]; rfl
      have HGD : Hid (_ = _) := hGood
      clear hGood
      go_enter Tryd.func30, Tryd.ntmps30
      go_wp2_with fail
      refine hst.mono ?_
      rintro e w2 ⟨rfl, v, hd, hzf⟩
      obtain ⟨r0, r1, r2, r3, rf⟩ := hd.dat.cells
      have hb2 : Below w.heap.size w w2 := (((Below.refl _ _).alloc (Nat.le_refl _) _).alloc (by simp) _).trans (hzf.below HI.out)
      have hp0 : w2.heap[w.heap.size]? = some (.cells #[.slice none 0 0] 66) := (hzf.block w.heap.size (by simp; omega) (by omega) (by simp [Value.ownBlock])).trans (prog_cell w _ _)
      have p1 : w2.cell? ⟨w.heap.size, 0, none⟩ = some (.slice none 0 0) := by simp [World.cell?, hp0]
      have p2 : w2.frozen? ⟨w.heap.size, 0, none⟩ = false := by simp [World.frozen?, hp0]
      have HDF : Hid (DRep _ _ _ _ _ _) := hd
      have HB2 : Hid (Below _ _ _) := hb2
      have hnv : Hid (v.ownBlock ≠ some w.heap.size) := ownsRow_not hd.row (show At w2 w.heap.size _ _ from hp0) (by decide)
      obtain ⟨ao, cap, hv⟩ := hd.vlen
      subst hv
      clear hd hzf hp0 hb2
      go_wp2_with fail
      go_region
      all_goals
        go_wp2
        exact bodyPost_ret (v := .tuple #[.agg #[.slice none 0 0], .int .i64 1, .int .i64 za]) (by simp [results, Tryd.results30, go_sem, p1]) rfl ⟨Below.setCell (Below.drew HB2.out) (Nat.le_refl _) _, .inr (.inl ⟨hsz, HGD.out, by rw [← HZ.out]⟩)⟩

end Go.Proofs.YtffajooegiempabDoor

namespace Go.Proofs.YtffajooegiempabDoor

def scanD (s : ByteArray) : Int × Int × Int :=
  if 160 < s.size then (0, 1, 0) else if readGood s = true then (((readZ s).2.length : Int) + 1, 0, 0) else (0, 1, (readZ s).1.1)

end Go.Proofs.YtffajooegiempabDoor

/- The program's ways, plain. -/
namespace Go.Proofs.YtffajooegiempabDoor

/-- The first statement of a block from a point on. -/
def firstGo (p b fr : Int) : List Ds → Nat → Int
  | [], _ => -1
  | x :: l, i => if fr ≤ i ∧ x.parent = p ∧ x.block = b then (i : Int) else firstGo p b fr l (i + 1)
def firstP (F : List Ds) (p b fr : Int) : Int := firstGo p b fr F 0
def isRepP (F : List Ds) (p : Int) : Bool := decide (0 ≤ p) && decide (p < F.length) && decide ((F.getD p.toNat (newDs 0 0)).kind = 3)
def followP (F : List Ds) : Nat → Int → Int
  | 0, _ => F.length
  | n + 1, pt => if pt < 0 ∨ (F.length : Int) ≤ pt then F.length else
    if firstP F (F.getD pt.toNat (newDs 0 0)).parent (F.getD pt.toNat (newDs 0 0)).block (pt + 1) ≠ -1 then firstP F (F.getD pt.toNat (newDs 0 0)).parent (F.getD pt.toNat (newDs 0 0)).block (pt + 1)
    else if isRepP F (F.getD pt.toNat (newDs 0 0)).parent = true then (F.getD pt.toNat (newDs 0 0)).parent
    else followP F n (F.getD pt.toNat (newDs 0 0)).parent

def waysP (k : Int) : Int := if k = 2 ∨ k = 3 then 2 else 1
/-- Where a way leads, and the error. -/
def nextP (F : List Ds) (pt way : Int) : Int × Int :=
  if pt < 0 ∨ (F.length : Int) ≤ pt then (0, 2)
  else if way < 0 ∨ waysP (F.getD pt.toNat (newDs 0 0)).kind ≤ way then (0, 2)
  else if blocksOf (F.getD pt.toNat (newDs 0 0)).kind ≤ way then (followP F 21 pt, 0)
  else if firstP F pt way (pt + 1) ≠ -1 then (firstP F pt way (pt + 1), 0)
  else if (F.getD pt.toNat (newDs 0 0)).kind = 3 then (pt, 0)
  else (followP F 21 pt, 0)

theorem firstGo_drop {p b fr : Int} {F : List Ds} {k : Nat} (hk : k < F.length) : firstGo p b fr (F.drop k) k = if fr ≤ k ∧ (F.getD k (newDs 0 0)).parent = p ∧ (F.getD k (newDs 0 0)).block = b then (k : Int) else firstGo p b fr (F.drop (k + 1)) (k + 1) := by
  have e : F.drop k = F.getD k (newDs 0 0) :: F.drop (k + 1) := by
    rw [List.drop_eq_getElem_cons hk, List.getD_eq_getElem?_getD, List.getElem?_eq_getElem hk]; rfl
  rw [e, firstGo]

end Go.Proofs.YtffajooegiempabDoor

namespace Go.Proofs.YtffajooegiempabDoor
open Go.RowKit
variable {w w' : World} {g cap b : Nat} {F : List Ds}

/-- A statement as a value. -/
def dsv (x : Ds) : Value := .agg #[.int .i64 x.kind, .int .i64 x.target, .bool x.any, .int .i64 (sgAt x.sg 0), .int .i64 (sgAt x.sg 1), .int .i64 (sgAt x.sg 2), .int .i64 (sgAt x.sg 3), .int .i64 x.num, .int .i64 x.parent, .int .i64 x.block]
theorem ds_loadVar {x : Ds} (h : At w b (dsCells x) tDs) : (loadVar tDs ⟨b, 0, none⟩).run Tryd.prog w = .ok (dsv x) w :=
  run_loadVar_row w b tDs tDs (dsCells x) (0, 0) _ h Tryd.underlying73 rfl (by kernel_rfl)
theorem results_dc {fn : Func} {t u : Tmp} {x : Ds} (h : fn.results = #[.cell t tDs, .tmp u]) (tmps : Array Value) (hp : tmps.getD t undef = .pointer (some ⟨b, 0, none⟩)) (hat : At w b (dsCells x) tDs) :
    (results fn tmps).run Tryd.prog w = .ok (.tuple #[dsv x, tmps.getD u undef]) w := by
  have hp' : tmps[t]?.getD undef = .pointer (some ⟨b, 0, none⟩) := by simpa using hp
  simp [results, h, hp', asAddr, ds_loadVar hat]

/-- The statements of a program, as they lie in memory. -/
def PRow (w : World) (g : Nat) (F : List Ds) : Prop := g < w.heap.size ∧ ∀ j x, F[j]? = some x → w.cell? ⟨g, j * 10, none⟩ = some (.int .i64 x.kind) ∧ w.cell? ⟨g, j * 10 + 1, none⟩ = some (.int .i64 x.target) ∧ w.cell? ⟨g, j * 10 + 2, none⟩ = some (.bool x.any) ∧
  w.cell? ⟨g, j * 10 + 3, none⟩ = some (.int .i64 (sgAt x.sg 0)) ∧ w.cell? ⟨g, j * 10 + 4, none⟩ = some (.int .i64 (sgAt x.sg 1)) ∧ w.cell? ⟨g, j * 10 + 5, none⟩ = some (.int .i64 (sgAt x.sg 2)) ∧ w.cell? ⟨g, j * 10 + 6, none⟩ = some (.int .i64 (sgAt x.sg 3)) ∧
  w.cell? ⟨g, j * 10 + 7, none⟩ = some (.int .i64 x.num) ∧ w.cell? ⟨g, j * 10 + 8, none⟩ = some (.int .i64 x.parent) ∧ w.cell? ⟨g, j * 10 + 9, none⟩ = some (.int .i64 x.block)
theorem PRow.keep (h : PRow w g F) (hb : Below w.heap.size w w') : PRow w' g F := by
  refine ⟨Nat.lt_of_lt_of_le h.1 hb.size, fun j x hx => ?_⟩
  have hc : ∀ o, w'.cell? ⟨g, o, none⟩ = w.cell? ⟨g, o, none⟩ := fun o => hb.cell (p := ⟨g, o, none⟩) h.1
  simp only [hc]
  exact h.2 j x hx
theorem gets' {j : Nat} (hj : j < F.length) : F[j]? = some (F.getD j (newDs 0 0)) := by rw [List.getD_eq_getElem?_getD, List.getElem?_eq_getElem hj]; rfl

set_option maxRecDepth 100000 in
set_option maxHeartbeats 800000 in
theorem d_ways (k t : Int) (an : Bool) (g0 g1 g2 g3 n p b : Int) (w : World) :
    Calls Tryd.prog 51 #[.agg #[.int .i64 k, .int .i64 t, .bool an, .int .i64 g0, .int .i64 g1, .int .i64 g2, .int .i64 g3, .int .i64 n, .int .i64 p, .int .i64 b]] w fun e w' => e = .returned (.int .i64 (waysP k)) ∧ ∃ o, w' = w.alloc o := by
  unfold waysP
  by_cases h2 : k = 2
  · subst h2
    go_enter Tryd.func51, Tryd.ntmps51
    go_wp2
    go_ret
    exact ⟨rfl, _, rfl⟩
  · have b2 : (k == 2) = false := by simpa using h2
    by_cases h3 : k = 3
    · subst h3
      clear h2 b2
      go_enter Tryd.func51, Tryd.ntmps51
      go_wp2
      go_ret
      exact ⟨rfl, _, rfl⟩
    · have b3 : (k == 3) = false := by simpa using h3
      rw [if_neg (fun e => e.elim h2 h3)]
      clear h2 h3
      go_enter Tryd.func51, Tryd.ntmps51
      go_wp2
      go_ret
      exact ⟨rfl, _, rfl⟩

/-- No statement. -/
def zDs : Ds := newDs 0 0
set_option maxRecDepth 100000 in
set_option maxHeartbeats 1600000 in
theorem d_at_in (h : PRow w g F) (k : Nat) (hk : k < F.length) :
    Calls Tryd.prog 32 #[.agg #[.slice (some ⟨g, 0, none⟩) F.length cap], .int .i64 (k : Int)] w fun e w' => e = .returned (.tuple #[dsv (F.getD k (newDs 0 0)), .int .i64 0]) ∧ Below w.heap.size w w' := by
  have hg := h.1
  have hki : (k : Int) < (F.length : Int) := by omega
  have hge : ¬ (F.length : Int) ≤ (k : Int) := by omega
  obtain ⟨c0, c1, c2, c3, c4, c5, c6, c7, c8, c9⟩ := h.2 k _ (gets' hk)
  have HB : Hid (∀ o1 o2, Below w.heap.size w ((w.alloc o1).alloc o2)) := fun o1 o2 => ((Below.refl _ _).alloc (Nat.le_refl _) _).alloc (by simp) _
  generalize F.getD k (newDs 0 0) = x at *
  clear h
  go_enter Tryd.func32, Tryd.ntmps32
  go_wp2_with fail
  try simp only [Exit.inBlock, Exit.then]
  refine bodyPost_ret (results_dc (b := w.heap.size + 1) (x := x) rfl _ rfl ?_) rfl ?_
  · have := At.new (w.alloc (.cells #[.slice (some ⟨g, 0, none⟩) F.length cap] 66)) (dsCells x) tDs
    rw [show (w.alloc (.cells #[.slice (some ⟨g, 0, none⟩) F.length cap] 66)).heap.size = w.heap.size + 1 by simp] at this
    exact this
  · exact ⟨rfl, HB.out _ _⟩
set_option maxRecDepth 100000 in
set_option maxHeartbeats 1600000 in
theorem d_at_out (ao : Option Addr) (n : Nat) (_hn : n ≤ 20) (p : Int) (hp : p < 0 ∨ (n : Int) ≤ p) :
    Calls Tryd.prog 32 #[.agg #[.slice ao n cap], .int .i64 p] w fun e w' => e = .returned (.tuple #[dsv zDs, .int .i64 2]) ∧ Below w.heap.size w w' := by
  have HB : Hid (∀ o1 o2, Below w.heap.size w ((w.alloc o1).alloc o2)) := fun o1 o2 => ((Below.refl _ _).alloc (Nat.le_refl _) _).alloc (by simp) _
  by_cases h0 : p < 0
  · clear hp
    go_enter Tryd.func32, Tryd.ntmps32
    go_wp2_with fail
    try simp only [Exit.inBlock, Exit.then]
    refine bodyPost_ret (results_dc (b := w.heap.size + 1) (x := zDs) rfl _ rfl ?_) rfl ?_
    · have := At.new (w.alloc (.cells #[.slice ao n cap] 66)) (dsCells zDs) tDs
      rw [show (w.alloc (.cells #[.slice ao n cap] 66)).heap.size = w.heap.size + 1 by simp] at this
      exact this
    · exact ⟨rfl, HB.out _ _⟩
  · have h1 : (n : Int) ≤ p := hp.elim (fun e => absurd e h0) id
    clear hp
    go_enter Tryd.func32, Tryd.ntmps32
    go_wp2_with fail
    try simp only [Exit.inBlock, Exit.then]
    refine bodyPost_ret (results_dc (b := w.heap.size + 1) (x := zDs) rfl _ rfl ?_) rfl ?_
    · have := At.new (w.alloc (.cells #[.slice ao n cap] 66)) (dsCells zDs) tDs
      rw [show (w.alloc (.cells #[.slice ao n cap] 66)).heap.size = w.heap.size + 1 by simp] at this
      exact this
    · exact ⟨rfl, HB.out _ _⟩

end Go.Proofs.YtffajooegiempabDoor

