import Derived.Test.YtffajooegiempabDoorJ5
import Derived.Deep.RegionLaw
import Derived.Laws.AppendOwn
import Derived.Laws.OwnMore
import Derived.ArgAppend
namespace Go.Proofs.YtffajooegiempabDoor
open Go.RowKit
variable {w : World} {r q : Nat} {s : ByteArray} {d : Nat × Bool} {vf : Value} {x : Ds}

def blocksOf (k : Int) : Int := if k = 2 then 2 else if k = 3 then 1 else 0

set_option maxRecDepth 100000 in
set_option maxHeartbeats 800000 in
theorem d_blocks (k t : Int) (an : Bool) (g0 g1 g2 g3 n p b : Int) (w : World) :
    Calls Tryd.prog 48 #[.agg #[.int .i64 k, .int .i64 t, .bool an, .int .i64 g0, .int .i64 g1, .int .i64 g2, .int .i64 g3, .int .i64 n, .int .i64 p, .int .i64 b]] w fun e w' => e = .returned (.int .i64 (blocksOf k)) ∧ ∃ o, w' = w.alloc o := by
  unfold blocksOf
  by_cases h2 : k = 2
  · subst h2
    go_enter Tryd.func48, Tryd.ntmps48
    go_wp2
    go_ret
    exact ⟨rfl, _, rfl⟩
  · have b2 : (k == 2) = false := by simpa using h2
    by_cases h3 : k = 3
    · subst h3
      clear h2 b2
      go_enter Tryd.func48, Tryd.ntmps48
      go_wp2
      go_ret
      exact ⟨rfl, _, rfl⟩
    · have b3 : (k == 3) = false := by simpa using h3
      rw [if_neg h2, if_neg h3]
      clear h2 h3
      go_enter Tryd.func48, Tryd.ntmps48
      go_wp2
      go_ret
      exact ⟨rfl, _, rfl⟩

/-- Of what was there nothing but blocks r and q has turned. -/
structure Fr2 (r q : Nat) (w w' : World) : Prop where
  os : w'.os = w.os
  tape : w'.tape = w.tape
  output : w'.output = w.output
  size : w.heap.size ≤ w'.heap.size
  block : ∀ k, k < w.heap.size → k ≠ r → k ≠ q → w'.heap[k]? = w.heap[k]?
theorem Fr2.trans {a b c : World} (h : Fr2 r q a b) (k : Fr2 r q b c) : Fr2 r q a c := ⟨k.os.trans h.os, k.tape.trans h.tape, k.output.trans h.output, Nat.le_trans h.size k.size, fun i h0 h1 h2 => (k.block i (Nat.lt_of_lt_of_le h0 h.size) h1 h2).trans (h.block i h0 h1 h2)⟩
theorem Tch2.fr {a b : World} (h : Tch2 r q a b) : Fr2 r q a b := ⟨h.os, h.tape, h.output, by have := h.size; omega, fun i _ h1 h2 => h.block i h1 h2⟩
theorem Fr2.alloc {a w : World} (h : Fr2 r q a w) (o : Obj) : Fr2 r q a (w.alloc o) :=
  h.trans ⟨rfl, rfl, rfl, by simp, fun k hk _ _ => Below.heap_alloc _ _ _ hk⟩
theorem At.alloc {b : Nat} {c : Array Value} {t : TypeId} (h : At w b c t) (o : Obj) : At (w.alloc o) b c t := h.same (Below.heap_alloc _ _ _ h.lt)
theorem Dat.alloc (h : Dat w r s d vf) (o : Obj) : Dat (w.alloc o) r s d vf := At.alloc h o
theorem DsAt.alloc (h : DsAt w q x) (o : Obj) : DsAt (w.alloc o) q x := At.alloc h o

def FPost (w : World) (r q : Nat) (s : ByteArray) (vf : Value) (y : Ds × (Nat × Bool)) : Ending → World → Prop := fun e w' => e = .returned (.tuple #[]) ∧ Dat w' r s y.2 vf ∧ DsAt w' q y.1 ∧ Fr2 r q w w'

def rKind (s : ByteArray) (d : Nat × Bool) (x : Ds) (dp : Int) : Ds × (Nat × Bool) :=
  if pk s d = 33 then ({ x with kind := 1 }, adv d)
  else if pk s d = 63 then ({ x with kind := 2 }, if 4 ≤ dp then stk d else adv d)
  else if pk s d = 64 then ({ x with kind := 3 }, if 4 ≤ dp then stk d else adv d)
  else ({ x with kind := 0, target := (rVar s d (-1)).1 }, (rVar s d (-1)).2)


set_option maxRecDepth 100000 in
set_option maxHeartbeats 1600000 in
theorem d_readKind (h : Dat w r s d vf) (hq : DsAt w q x) (hs : s.size ≤ 160) (hd : d.1 ≤ s.size) (dp : Int) :
    Calls Tryd.prog 95 #[.pointer (some ⟨r, 0, none⟩), .pointer (some ⟨q, 0, none⟩), .int .i64 dp] w (FPost w r q s vf (rKind s d x dp)) := by
  have hp := d_peek h hs (by omega)
  obtain ⟨p0, p1⟩ := pk_range s d
  have hn := hq.ne h
  have hlr : r < w.heap.size := At.lt h
  have hlq : q < w.heap.size := At.lt hq
  have nrq : r ≠ q := fun e => hn e.symm
  obtain ⟨c0, c1, c2, c3, c4, c5, c6, c7, c8, c9, cf⟩ := hq.cells
  obtain ⟨r0, r1, r2, r3, rf⟩ := h.cells
  have HD : Hid (Dat _ _ _ _ _) := h
  have HQ : Hid (DsAt _ _ _) := hq
  clear h hq
  generalize sgAt x.sg 0 = g0 at *
  generalize sgAt x.sg 1 = g1 at *
  generalize sgAt x.sg 2 = g2 at *
  generalize sgAt x.sg 3 = g3 at *
  by_cases h33 : pk s d = 33
  · have HT : Hid (rKind s d x dp = ({ x with kind := 1 }, adv d)) := if_pos h33
    have HN : Hid (nd s d 33 = adv d) := if_pos h33
    rw [h33] at hp
    clear h33
    go_enter Tryd.func95, Tryd.ntmps95
    go_wp2_with fail
    refine hp.mono ?_
    rintro e w1 ⟨rfl, k, rfl⟩
    go_wp2_with fail
    refine (d_blocks _ _ _ _ _ _ _ _ _ _ _).mono ?_
    rintro e w2 ⟨rfl, o, rfl⟩
    have hne := d_need (((HD.out.drewN k).keepq (u := .int .i64 1) 0 hn).alloc o) hs (by omega) 33
    rw [HN.out] at hne
    go_wp2_with fail
    refine hne.mono ?_
    rintro e w3 ⟨rfl, hD3, hT3⟩
    go_wp2
    go_end0
    rw [HT.out]
    exact ⟨rfl, hD3, (((HQ.out.drewN k).setKind 1).alloc o).keep hT3 hn, ((((Tch2.refl r q _).drewN k).setCell _ _).fr.alloc o).trans (hT3.two q).fr⟩
  have b33 : (pk s d == 33) = false := by simpa using h33
  by_cases h63 : pk s d = 63
  · have HN : Hid (nd s d 63 = adv d) := if_pos h63
    by_cases h4 : 4 ≤ dp
    · have HT : Hid (rKind s d x dp = ({ x with kind := 2 }, stk d)) := by show rKind s d x dp = _; unfold rKind; rw [if_neg h33, if_pos h63, if_pos h4]
      rw [h63] at hp
      clear h33 b33 h63
      go_enter Tryd.func95, Tryd.ntmps95
      go_wp2_with fail
      refine hp.mono ?_
      rintro e w1 ⟨rfl, k, rfl⟩
      go_wp2_with fail
      refine (d_blocks _ _ _ _ _ _ _ _ _ _ _).mono ?_
      rintro e w2 ⟨rfl, o, rfl⟩
      go_wp2
      go_end0
      rw [HT.out]
      exact ⟨rfl, (((HD.out.drewN k).keepq 0 hn).stick).alloc o, (((HQ.out.drewN k).setKind 2).keep ((Tch.refl r _).setCell _ _) hn).alloc o, ((((Tch2.refl r q _).drewN k).setCell _ _).trans (((Tch.refl r _).setCell _ _).two q)).fr.alloc o⟩
    · have HT : Hid (rKind s d x dp = ({ x with kind := 2 }, adv d)) := by show rKind s d x dp = _; unfold rKind; rw [if_neg h33, if_pos h63, if_neg h4]
      rw [h63] at hp
      clear h33 b33 h63
      go_enter Tryd.func95, Tryd.ntmps95
      go_wp2_with fail
      refine hp.mono ?_
      rintro e w1 ⟨rfl, k, rfl⟩
      go_wp2_with fail
      refine (d_blocks _ _ _ _ _ _ _ _ _ _ _).mono ?_
      rintro e w2 ⟨rfl, o, rfl⟩
      have hne := d_need (((HD.out.drewN k).keepq (u := .int .i64 2) 0 hn).alloc o) hs (by omega) 63
      rw [HN.out] at hne
      go_wp2_with fail
      refine hne.mono ?_
      rintro e w3 ⟨rfl, hD3, hT3⟩
      go_wp2
      go_end0
      rw [HT.out]
      exact ⟨rfl, hD3, (((HQ.out.drewN k).setKind 2).alloc o).keep hT3 hn, ((((Tch2.refl r q _).drewN k).setCell _ _).fr.alloc o).trans (hT3.two q).fr⟩
  have b63 : (pk s d == 63) = false := by simpa using h63
  by_cases h64 : pk s d = 64
  · have HN : Hid (nd s d 64 = adv d) := if_pos h64
    by_cases h4 : 4 ≤ dp
    · have HT : Hid (rKind s d x dp = ({ x with kind := 3 }, stk d)) := by show rKind s d x dp = _; unfold rKind; rw [if_neg h33, if_neg h63, if_pos h64, if_pos h4]
      rw [h64] at hp
      clear h33 b33 h63 b63 h64
      go_enter Tryd.func95, Tryd.ntmps95
      go_wp2_with fail
      refine hp.mono ?_
      rintro e w1 ⟨rfl, k, rfl⟩
      go_wp2_with fail
      refine (d_blocks _ _ _ _ _ _ _ _ _ _ _).mono ?_
      rintro e w2 ⟨rfl, o, rfl⟩
      go_wp2
      go_end0
      rw [HT.out]
      exact ⟨rfl, (((HD.out.drewN k).keepq 0 hn).stick).alloc o, (((HQ.out.drewN k).setKind 3).keep ((Tch.refl r _).setCell _ _) hn).alloc o, ((((Tch2.refl r q _).drewN k).setCell _ _).trans (((Tch.refl r _).setCell _ _).two q)).fr.alloc o⟩
    · have HT : Hid (rKind s d x dp = ({ x with kind := 3 }, adv d)) := by show rKind s d x dp = _; unfold rKind; rw [if_neg h33, if_neg h63, if_pos h64, if_neg h4]
      rw [h64] at hp
      clear h33 b33 h63 b63 h64
      go_enter Tryd.func95, Tryd.ntmps95
      go_wp2_with fail
      refine hp.mono ?_
      rintro e w1 ⟨rfl, k, rfl⟩
      go_wp2_with fail
      refine (d_blocks _ _ _ _ _ _ _ _ _ _ _).mono ?_
      rintro e w2 ⟨rfl, o, rfl⟩
      have hne := d_need (((HD.out.drewN k).keepq (u := .int .i64 3) 0 hn).alloc o) hs (by omega) 64
      rw [HN.out] at hne
      go_wp2_with fail
      refine hne.mono ?_
      rintro e w3 ⟨rfl, hD3, hT3⟩
      go_wp2
      go_end0
      rw [HT.out]
      exact ⟨rfl, hD3, (((HQ.out.drewN k).setKind 3).alloc o).keep hT3 hn, ((((Tch2.refl r q _).drewN k).setCell _ _).fr.alloc o).trans (hT3.two q).fr⟩
  have b64 : (pk s d == 64) = false := by simpa using h64
  have HT : Hid (rKind s d x dp = ({ x with kind := 0, target := (rVar s d (-1)).1 }, (rVar s d (-1)).2)) := by show rKind s d x dp = _; unfold rKind; rw [if_neg h33, if_neg h63, if_neg h64]
  clear h33 h63 h64
  generalize pk s d = c at *
  go_enter Tryd.func95, Tryd.ntmps95
  go_wp2_with fail
  refine hp.mono ?_
  rintro e w1 ⟨rfl, k, rfl⟩
  go_wp2_with fail
  refine (d_readVariable ((HD.out.drewN k).keepq (u := .int .i64 0) 0 hn) hs hd (-1)).mono ?_
  rintro e w3 ⟨rfl, hD3, hT3⟩
  have hq3 := ((HQ.out.drewN k).setKind 0).keep hT3 hn
  obtain ⟨c0, c1, c2, c3, c4, c5, c6, c7, c8, c9, cf⟩ := hq3.cells
  have HQ3 : Hid (DsAt _ _ _) := hq3
  clear hq3
  go_wp2
  go_end0
  rw [HT.out]
  exact ⟨rfl, hD3.keepq 1 hn, HQ3.out.setTarget _, ((((Tch2.refl r q _).drewN k).setCell _ _).trans (hT3.two q)).setCell _ _ |>.fr⟩

end Go.Proofs.YtffajooegiempabDoor

namespace Go.Proofs.YtffajooegiempabDoor
open Go.RowKit
variable {w : World} {r q : Nat} {s : ByteArray} {d : Nat × Bool} {vf : Value} {x : Ds}

/-- A statement up to its blocks. -/
def rHead (s : ByteArray) (d : Nat × Bool) (x : Ds) (dp : Int) : Ds × (Nat × Bool) :=
  let k := rKind s d x dp
  let v := if k.1.kind = 0 then rValue s (nd s k.2 61) k.1 else rCond s k.2 k.1
  if blocksOf v.1.kind = 0 then (v.1, nd s v.2 59) else v

theorem rKind_le (hd : d.1 ≤ s.size) (dp : Int) : (rKind s d x dp).2.1 ≤ s.size := by
  unfold rKind
  split
  · rename_i h; have := (pk_lt h (by decide)).1; show d.1 + 1 ≤ _; omega
  split
  · rename_i h; have := (pk_lt h (by decide)).1
    show (if 4 ≤ dp then stk d else adv d).1 ≤ _
    split
    · exact hd
    · show d.1 + 1 ≤ _; omega
  split
  · rename_i h; have := (pk_lt h (by decide)).1
    show (if 4 ≤ dp then stk d else adv d).1 ≤ _
    split
    · exact hd
    · show d.1 + 1 ≤ _; omega
  · exact rVar_le hd (-1)
theorem rKind_sg (dp : Int) : (rKind s d x dp).1.sg = x.sg := by
  unfold rKind
  split
  · rfl
  split
  · rfl
  split
  · rfl
  · rfl
theorem rValue_le (hd : d.1 ≤ s.size) : (rValue s d x).2.1 ≤ s.size := by
  unfold rValue
  split
  · rename_i h; have := (pk_lt h (by decide)).1; show d.1 + 1 ≤ _; omega
  split
  · exact rNum_le (rSign_le hd) _
  · exact rSummand_le (rVar_le (rSign_le hd) (-1))
theorem rCond_le (hd : d.1 ≤ s.size) : (rCond s d x).2.1 ≤ s.size := by
  unfold rCond
  split
  · rename_i h; have := (pk_lt h (by decide)).1; show d.1 + 1 ≤ _; omega
  · exact rNum_le (rSign_le (nd_le (nd_le (rSecond_le (rVar_le (rSign_le hd) (-1)) _) (by decide)) (by decide))) _
theorem rValue_sgl (hl : x.sg.length = 4) : (rValue s d x).1.sg.length = 4 := by
  unfold rValue
  split
  · exact hl
  split
  · exact hl
  · show (x.sg.set _ _).length = 4; rw [List.length_set]; exact hl
theorem rCond_sgl (hl : x.sg.length = 4) : (rCond s d x).1.sg.length = 4 := by
  unfold rCond
  split
  · exact hl
  · exact rSecond_sgl (by show (x.sg.set _ _).length = 4; rw [List.length_set]; exact hl) _
theorem rHead_le (hd : d.1 ≤ s.size) (dp : Int) : (rHead s d x dp).2.1 ≤ s.size := by
  unfold rHead
  have hk := rKind_le (x := x) hd dp
  have hv : (if (rKind s d x dp).1.kind = 0 then rValue s (nd s (rKind s d x dp).2 61) (rKind s d x dp).1 else rCond s (rKind s d x dp).2 (rKind s d x dp).1).2.1 ≤ s.size := by
    split
    · exact rValue_le (nd_le hk (by decide))
    · exact rCond_le hk
  simp only
  generalize (if (rKind s d x dp).1.kind = 0 then rValue s (nd s (rKind s d x dp).2 61) (rKind s d x dp).1 else rCond s (rKind s d x dp).2 (rKind s d x dp).1) = y at hv ⊢
  split
  · exact nd_le (c := 59) hv (by decide)
  · exact hv
theorem rHead_sgl (hl : x.sg.length = 4) (dp : Int) : (rHead s d x dp).1.sg.length = 4 := by
  unfold rHead
  have hk : (rKind s d x dp).1.sg.length = 4 := by rw [rKind_sg]; exact hl
  have hv : (if (rKind s d x dp).1.kind = 0 then rValue s (nd s (rKind s d x dp).2 61) (rKind s d x dp).1 else rCond s (rKind s d x dp).2 (rKind s d x dp).1).1.sg.length = 4 := by
    split
    · exact rValue_sgl hk
    · exact rCond_sgl hk
  simp only
  generalize (if (rKind s d x dp).1.kind = 0 then rValue s (nd s (rKind s d x dp).2 61) (rKind s d x dp).1 else rCond s (rKind s d x dp).2 (rKind s d x dp).1) = y at hv ⊢
  split
  · exact hv
  · exact hv


set_option maxRecDepth 100000 in
set_option maxHeartbeats 1600000 in
theorem d_readHead (h : Dat w r s d vf) (hq : DsAt w q x) (hl : x.sg.length = 4) (hs : s.size ≤ 160) (hd : d.1 ≤ s.size) (dp : Int) :
    Calls Tryd.prog 87 #[.pointer (some ⟨r, 0, none⟩), .pointer (some ⟨q, 0, none⟩), .int .i64 dp] w (FPost w r q s vf (rHead s d x dp)) := by
  have hk := d_readKind h hq hs hd dp
  have hn := hq.ne h
  obtain ⟨k, hK⟩ : ∃ k, k = rKind s d x dp := ⟨_, rfl⟩
  obtain ⟨y, hY⟩ : ∃ y, y = if k.1.kind = 0 then rValue s (nd s k.2 61) k.1 else rCond s k.2 k.1 := ⟨_, rfl⟩
  have HT : Hid (rHead s d x dp = if blocksOf y.1.kind = 0 then (y.1, nd s y.2 59) else y) := by show rHead s d x dp = _; unfold rHead; rw [hY, hK]
  have hkl : k.2.1 ≤ s.size := by rw [hK]; exact rKind_le hd dp
  have hks : k.1.sg.length = 4 := by rw [hK, rKind_sg]; exact hl
  have h61 : (nd s k.2 61).1 ≤ s.size := nd_le hkl (by decide)
  rw [← hK] at hk
  clear h hq hK
  by_cases h0 : k.1.kind = 0
  · rw [if_pos h0] at hY
    have hyl : y.2.1 ≤ s.size := by rw [hY]; exact rValue_le h61
    have HY : Hid (_ = _) := hY
    have HK0 : Hid (_ = _) := h0
    clear hY h0
    go_enter Tryd.func87, Tryd.ntmps87
    go_wp2_with fail
    refine hk.mono ?_
    rintro e w1 ⟨rfl, hD1, hQ1, hF1⟩
    obtain ⟨c0, c1, c2, c3, c4, c5, c6, c7, c8, c9, cf⟩ := hQ1.cells
    rw [HK0.out] at c0
    have HQ1 : Hid (DsAt _ _ _) := hQ1
    clear hQ1
    go_wp2_with fail
    refine (d_need hD1 hs (by omega) 61).mono ?_
    rintro e w2 ⟨rfl, hD2, hT2⟩
    have k3 := d_readValue hD2 (HQ1.out.keep hT2 hn) hks hs h61
    rw [← HY.out] at k3
    go_wp2_with fail
    refine k3.mono ?_
    rintro e w4 ⟨rfl, hD4, hQ4, hT4⟩
    clear c0 c1 c2 c3 c4 c5 c6 c7 c8 c9 cf
    have hq4 := hQ4
    obtain ⟨c0, c1, c2, c3, c4, c5, c6, c7, c8, c9, cf⟩ := hq4.cells
    have HQ4 : Hid (DsAt _ _ _) := hq4
    clear hq4
    by_cases hb : blocksOf y.1.kind = 0
    · have HT2 : Hid (rHead s d x dp = (y.1, nd s y.2 59)) := HT.out.trans (if_pos hb)
      have kb := fun (t : Int) (an : Bool) (g0 g1 g2 g3 n p b : Int) (w : World) => d_blocks y.1.kind t an g0 g1 g2 g3 n p b w
      rw [hb] at kb
      generalize sgAt y.1.sg 0 = g0 at *
      generalize sgAt y.1.sg 1 = g1 at *
      generalize sgAt y.1.sg 2 = g2 at *
      generalize sgAt y.1.sg 3 = g3 at *
      clear hb
      go_wp2_with fail
      refine (kb _ _ _ _ _ _ _ _ _ _).mono ?_
      rintro e w6 ⟨rfl, o, rfl⟩
      go_wp2_with fail
      refine (d_need (hD4.alloc o) hs (by omega) 59).mono ?_
      rintro e w7 ⟨rfl, hD7, hT7⟩
      go_wp2
      go_end0
      rw [HT2.out]
      exact ⟨rfl, hD7, (HQ4.out.alloc o).keep hT7 hn, (((hF1.trans (hT2.two q).fr).trans hT4.fr).alloc o).trans (hT7.two q).fr⟩
    · have HT2 : Hid (rHead s d x dp = y) := HT.out.trans (if_neg hb)
      have bb : (blocksOf y.1.kind == 0) = false := by simpa using hb
      generalize sgAt y.1.sg 0 = g0 at *
      generalize sgAt y.1.sg 1 = g1 at *
      generalize sgAt y.1.sg 2 = g2 at *
      generalize sgAt y.1.sg 3 = g3 at *
      clear hb
      go_wp2_with fail
      refine (d_blocks _ _ _ _ _ _ _ _ _ _ _).mono ?_
      rintro e w6 ⟨rfl, o, rfl⟩
      go_wp2
      go_end0
      rw [HT2.out]
      exact ⟨rfl, hD4.alloc o, HQ4.out.alloc o, ((hF1.trans (hT2.two q).fr).trans hT4.fr).alloc o⟩
  · rw [if_neg h0] at hY
    have hyl : y.2.1 ≤ s.size := by rw [hY]; exact rCond_le hkl
    have HY : Hid (_ = _) := hY
    have b0 : (k.1.kind == 0) = false := by simpa using h0
    clear hY h0
    go_enter Tryd.func87, Tryd.ntmps87
    go_wp2_with fail
    refine hk.mono ?_
    rintro e w1 ⟨rfl, hD1, hQ1, hF1⟩
    obtain ⟨c0, c1, c2, c3, c4, c5, c6, c7, c8, c9, cf⟩ := hQ1.cells
    have k3 := d_readCondition hD1 hQ1 hks hs hkl
    rw [← HY.out] at k3
    have HQ1 : Hid (DsAt _ _ _) := hQ1
    clear hQ1
    go_wp2_with fail
    refine k3.mono ?_
    rintro e w4 ⟨rfl, hD4, hQ4, hT4⟩
    clear c0 c1 c2 c3 c4 c5 c6 c7 c8 c9 cf
    have hq4 := hQ4
    obtain ⟨c0, c1, c2, c3, c4, c5, c6, c7, c8, c9, cf⟩ := hq4.cells
    have HQ4 : Hid (DsAt _ _ _) := hq4
    clear hq4
    by_cases hb : blocksOf y.1.kind = 0
    · have HT2 : Hid (rHead s d x dp = (y.1, nd s y.2 59)) := HT.out.trans (if_pos hb)
      have kb := fun (t : Int) (an : Bool) (g0 g1 g2 g3 n p b : Int) (w : World) => d_blocks y.1.kind t an g0 g1 g2 g3 n p b w
      rw [hb] at kb
      generalize sgAt y.1.sg 0 = g0 at *
      generalize sgAt y.1.sg 1 = g1 at *
      generalize sgAt y.1.sg 2 = g2 at *
      generalize sgAt y.1.sg 3 = g3 at *
      clear hb
      go_wp2_with fail
      refine (kb _ _ _ _ _ _ _ _ _ _).mono ?_
      rintro e w6 ⟨rfl, o, rfl⟩
      go_wp2_with fail
      refine (d_need (hD4.alloc o) hs (by omega) 59).mono ?_
      rintro e w7 ⟨rfl, hD7, hT7⟩
      go_wp2
      go_end0
      rw [HT2.out]
      exact ⟨rfl, hD7, (HQ4.out.alloc o).keep hT7 hn, ((hF1.trans hT4.fr).alloc o).trans (hT7.two q).fr⟩
    · have HT2 : Hid (rHead s d x dp = y) := HT.out.trans (if_neg hb)
      have bb : (blocksOf y.1.kind == 0) = false := by simpa using hb
      generalize sgAt y.1.sg 0 = g0 at *
      generalize sgAt y.1.sg 1 = g1 at *
      generalize sgAt y.1.sg 2 = g2 at *
      generalize sgAt y.1.sg 3 = g3 at *
      clear hb
      go_wp2_with fail
      refine (d_blocks _ _ _ _ _ _ _ _ _ _ _).mono ?_
      rintro e w6 ⟨rfl, o, rfl⟩
      go_wp2
      go_end0
      rw [HT2.out]
      exact ⟨rfl, hD4.alloc o, HQ4.out.alloc o, (hF1.trans hT4.fr).alloc o⟩

end Go.Proofs.YtffajooegiempabDoor

namespace Go.Proofs.YtffajooegiempabDoor
open Go.RowKit
variable {B : Nat} {w w' : World} {r q : Nat} {s : ByteArray} {vf : Value}

abbrev Zt : Type := (Nat × Bool) × List Ds

def rBlockWith (s : ByteArray) (f : Int → Int → Int → Zt → Zt) (p b dp : Int) (z : Zt) : Zt :=
  (nd s (f p b dp (nd s z.1 123, z.2)).1 125, (f p b dp (nd s z.1 123, z.2)).2)
def aft (s : ByteArray) (f : Int → Int → Int → Zt → Zt) (p dp : Int) (z : Zt) : Nat → Zt
  | 0 => z
  | b + 1 => rBlockWith s f p b dp (aft s f p dp z b)
def newDs (p b : Int) : Ds := ⟨0, 0, false, [0, 0, 0, 0], 0, p, b⟩
def rStmtWith (s : ByteArray) (f : Int → Int → Int → Zt → Zt) (p b dp : Int) (z : Zt) : Zt :=
  if 20 ≤ z.2.length then (stk z.1, z.2)
  else if (rHead s z.1 (newDs p b) dp).2.2 = true then ((rHead s z.1 (newDs p b) dp).2, z.2)
  else aft s f z.2.length (dp + 1) ((rHead s z.1 (newDs p b) dp).2, z.2 ++ [(rHead s z.1 (newDs p b) dp).1]) (blocksOf (rHead s z.1 (newDs p b) dp).1.kind).toNat
def rStmts (s : ByteArray) : Nat → Int → Int → Int → Zt → Zt
  | 0, _, _, _, z => z
  | n + 1, p, b, dp, z => if pk s z.1 = 0 ∨ pk s z.1 = 125 then z else rStmts s n p b dp (rStmtWith s (rStmts s n) p b dp z)

/-- The place is in the text, and not too much was found. -/
structure Zok (s : ByteArray) (z : Zt) : Prop where
  at_ : z.1.1 ≤ s.size
  len : z.2.length ≤ 20
/-- z' comes behind z: what was found is still there. -/
structure Zle (s : ByteArray) (z z' : Zt) : Prop where
  ok : Zok s z'
  len : z.2.length ≤ z'.2.length

theorem Zle.refl {z : Zt} (h : Zok s z) : Zle s z z := ⟨h, Nat.le_refl _⟩
theorem Zle.trans {a b c : Zt} (h : Zle s a b) (k : Zle s b c) : Zle s a c := ⟨k.ok, Nat.le_trans h.len k.len⟩
def Goes (s : ByteArray) (f : Int → Int → Int → Zt → Zt) : Prop := ∀ p b dp z, Zok s z → Zle s z (f p b dp z)

theorem Goes.block {f : Int → Int → Int → Zt → Zt} (h : Goes s f) (p b dp : Int) {z : Zt} (hz : Zok s z) : Zle s z (rBlockWith s f p b dp z) := by
  have h1 := h p b dp (nd s z.1 123, z.2) ⟨nd_le hz.at_ (by decide), hz.len⟩
  exact ⟨⟨nd_le h1.ok.at_ (by decide), h1.ok.len⟩, h1.len⟩
theorem Goes.aft {f : Int → Int → Int → Zt → Zt} (h : Goes s f) (p dp : Int) {z : Zt} (hz : Zok s z) (n : Nat) : Zle s z (Go.Proofs.YtffajooegiempabDoor.aft s f p dp z n) := by
  induction n with
  | zero => exact Zle.refl hz
  | succ n ih => exact ih.trans (h.block p n dp ih.ok)
theorem Goes.stmt {f : Int → Int → Int → Zt → Zt} (h : Goes s f) (p b dp : Int) {z : Zt} (hz : Zok s z) : Zle s z (rStmtWith s f p b dp z) := by
  unfold rStmtWith
  split
  · exact ⟨⟨hz.at_, hz.len⟩, Nat.le_refl _⟩
  split
  · exact ⟨⟨rHead_le hz.at_ dp, hz.len⟩, Nat.le_refl _⟩
  · have h1 := h.aft z.2.length (dp + 1) (z := ((rHead s z.1 (newDs p b) dp).2, z.2 ++ [(rHead s z.1 (newDs p b) dp).1])) ⟨rHead_le hz.at_ dp, by simp; omega⟩ (blocksOf (rHead s z.1 (newDs p b) dp).1.kind).toNat
    exact ⟨h1.ok, by have := h1.len; simp at this; omega⟩
theorem rStmts_goes (s : ByteArray) (n : Nat) : Goes s (rStmts s n) := by
  induction n with
  | zero => intro p b dp z hz; exact Zle.refl hz
  | succ n ih =>
    intro p b dp z hz
    unfold rStmts
    split
    · exact Zle.refl hz
    · have h1 := ih.stmt p b dp hz
      exact h1.trans (ih p b dp _ h1.ok)

def Mz (z : Zt) : Nat := if z.1.2 then 0 else 21 - z.2.length
theorem Mz_stmt (f : Int → Int → Int → Zt → Zt) (h : Goes s f) (p b dp : Int) {z : Zt} (hz : Zok s z) (hs : z.1.2 = false) : Mz (rStmtWith s f p b dp z) < Mz z := by
  have hl := hz.len
  have h1 : Mz z = 21 - z.2.length := by unfold Mz; rw [hs]; rfl
  rw [h1]
  unfold rStmtWith
  split
  · show (if true then 0 else _) < _; simp; omega
  split
  · rename_i h2
    show (if (rHead s z.1 (newDs p b) dp).2.2 then 0 else _) < _
    rw [h2]; simp; omega
  · have h3 := h.aft z.2.length (dp + 1) (z := ((rHead s z.1 (newDs p b) dp).2, z.2 ++ [(rHead s z.1 (newDs p b) dp).1])) ⟨rHead_le hz.at_ dp, by simp; omega⟩ (blocksOf (rHead s z.1 (newDs p b) dp).1.kind).toNat
    have h4 := h3.len
    have h5 := h3.ok.len
    generalize Go.Proofs.YtffajooegiempabDoor.aft s f z.2.length (dp + 1) ((rHead s z.1 (newDs p b) dp).2, z.2 ++ [(rHead s z.1 (newDs p b) dp).1]) (blocksOf (rHead s z.1 (newDs p b) dp).1.kind).toNat = y at *
    simp at h4
    unfold Mz
    split <;> omega

def flat (F : List Ds) : List Value := F.flatMap fun x => (dsCells x).toList
theorem flat_snoc (F : List Ds) (x : Ds) : flat (F ++ [x]) = flat F ++ (dsCells x).toList := by simp [flat]

/-- The reader's memory. -/
structure DRep (B : Nat) (w : World) (r : Nat) (s : ByteArray) (z : Zt) (vf : Value) : Prop where
  dat : Dat w r s z.1 vf
  row : w.ownsRow B tDs 10 vf z.2.length (flat z.2)
  geR : B ≤ r
  geW : B ≤ w.heap.size

/-- Of what was there nothing but the reader's block and its row has turned; the row is the same, or new. -/
structure ZFr (r : Nat) (vf vf' : Value) (w w' : World) : Prop where
  os : w'.os = w.os
  tape : w'.tape = w.tape
  output : w'.output = w.output
  size : w.heap.size ≤ w'.heap.size
  block : ∀ k, k < w.heap.size → k ≠ r → vf.ownBlock ≠ some k → w'.heap[k]? = w.heap[k]?
  row : vf'.ownBlock = vf.ownBlock ∨ ∀ g, vf'.ownBlock = some g → w.heap.size ≤ g
theorem ZFr.refl (r : Nat) (vf : Value) (w : World) : ZFr r vf vf w w := ⟨rfl, rfl, rfl, Nat.le_refl _, fun _ _ _ _ => rfl, .inl rfl⟩
theorem ZFr.trans {v1 v2 v3 : Value} {a b c : World} (h : ZFr r v1 v2 a b) (k : ZFr r v2 v3 b c) : ZFr r v1 v3 a c where
  os := k.os.trans h.os
  tape := k.tape.trans h.tape
  output := k.output.trans h.output
  size := Nat.le_trans h.size k.size
  block := fun i h0 h1 h2 => (k.block i (Nat.lt_of_lt_of_le h0 h.size) h1 (by
    rcases h.row with e | e
    · rw [e]; exact h2
    · intro e2; have := e i e2; omega)).trans (h.block i h0 h1 h2)
  row := by
    rcases k.row with e | e
    · rw [e]; exact h.row
    · exact .inr fun g hg => Nat.le_trans h.size (e g hg)
theorem Tch.zfr {a b : World} (h : Tch r a b) (vf : Value) : ZFr r vf vf a b := ⟨h.os, h.tape, h.output, by have := h.size; omega, fun k _ h1 _ => h.block k h1, .inl rfl⟩
theorem ZFr.below {vf' : Value} {z : Zt} (h : ZFr r vf vf' w w') (hd : DRep B w r s z vf) : Below B w w' := ⟨h.os, h.tape, h.output, h.size, fun k hk => h.block k (by have := hd.geW; omega) (by have := hd.geR; omega) (fun e => by have := (hd.row.lt k e).1; omega)⟩

def ZPost (B : Nat) (w : World) (r : Nat) (s : ByteArray) (vf : Value) (z : Zt) : Ending → World → Prop := fun e w' => e = .returned (.tuple #[]) ∧ ∃ vf', DRep B w' r s z vf' ∧ ZFr r vf vf' w w'

/-- What is said of readStatements. -/
def SP (s : ByteArray) (n : Nat) : Prop := ∀ (B r : Nat) (vf : Value) (w : World) (z : Zt) (p b dp : Int), DRep B w r s z vf → Zok s z → 0 ≤ dp → dp ≤ z.2.length → Mz z < n →
  Calls Tryd.prog 43 #[.pointer (some ⟨r, 0, none⟩), .int .i64 p, .int .i64 b, .int .i64 dp] w (ZPost B w r s vf (rStmts s n p b dp z))

theorem ownsRow_keep {e : TypeId} {size : Nat} {v : Value} {n : Nat} {xs : List Value} (h : w.ownsRow B e size v n xs) (k : ∀ g, v.ownBlock = some g → w'.heap[g]? = w.heap[g]?) : w'.ownsRow B e size v n xs := by
  obtain ⟨h1, h2⟩ := h
  refine ⟨h1, ?_⟩
  rcases h2 with h2 | ⟨g, cap, c, hv, hg, hh, r⟩
  · exact .inl h2
  · subst hv; exact .inr ⟨g, cap, c, rfl, hg, by rw [k g rfl]; exact hh, r⟩
theorem ownsRow_not {e : TypeId} {size : Nat} {v : Value} {n : Nat} {xs : List Value} (h : w.ownsRow B e size v n xs) {b : Nat} {c : Array Value} {t : TypeId} (k : At w b c t) (hn : e ≠ t) : v.ownBlock ≠ some b := by
  obtain ⟨h1, h2⟩ := h
  rcases h2 with ⟨rfl, _⟩ | ⟨g, cap, c', rfl, hg, hh, r⟩
  · simp [Value.ownBlock]
  · intro e'
    simp [Value.ownBlock] at e'
    exact (At.ne (show At w g c' e from hh) k hn) e'

/-- Behind a step that writes the reader's block alone. -/
theorem DRep.tch {z : Zt} (h : DRep B w r s z vf) (t : Tch r w w') {d' : Nat × Bool} (hd : Dat w' r s d' vf) : DRep B w' r s (d', z.2) vf where
  dat := hd
  row := ownsRow_keep h.row fun g hg => t.block g (fun e => ownsRow_not h.row h.dat (by decide) (by rw [hg, e]))
  geR := h.geR
  geW := by rw [t.size]; exact h.geW

set_option maxRecDepth 100000 in
set_option maxHeartbeats 800000 in
theorem d_readBlock {n : Nat} (H : SP s n) (hs : s.size ≤ 160) {z : Zt} (h : DRep B w r s z vf) (hz : Zok s z) (p b dp : Int) (h0 : 0 ≤ dp) (h1 : dp ≤ z.2.length) (hm : Mz z < n) :
    Calls Tryd.prog 88 #[.pointer (some ⟨r, 0, none⟩), .int .i64 p, .int .i64 b, .int .i64 dp] w (ZPost B w r s vf (rBlockWith s (rStmts s n) p b dp z)) := by
  have hat := hz.at_
  have hm2 : Mz (nd s z.1 123, z.2) < n := by
    have : Mz (nd s z.1 123, z.2) ≤ Mz z := by
      unfold Mz nd
      split <;> split <;> simp_all
    omega
  have hz2 : Zok s (nd s z.1 123, z.2) := ⟨nd_le hat (by decide), hz.len⟩
  have hz3 := rStmts_goes s n p b dp _ hz2
  obtain ⟨y, hY⟩ : ∃ y, y = rStmts s n p b dp (nd s z.1 123, z.2) := ⟨_, rfl⟩
  have HT : Hid (rBlockWith s (rStmts s n) p b dp z = (nd s y.1 125, y.2)) := by show rBlockWith _ _ _ _ _ _ = _; rw [hY]; rfl
  rw [← hY] at hz3
  have hyat := hz3.ok.at_
  have HY : Hid (_ = _) := hY
  have HD : Hid (DRep _ _ _ _ _ _) := h
  clear hY h
  go_enter Tryd.func88, Tryd.ntmps88
  go_wp2_with fail
  refine (d_need HD.out.dat hs (by omega) 123).mono ?_
  rintro e w1 ⟨rfl, hD1, hT1⟩
  have k2 := H B r vf w1 (nd s z.1 123, z.2) p b dp (HD.out.tch hT1 hD1) hz2 h0 h1 hm2
  rw [← HY.out] at k2
  go_wp2_with fail
  refine k2.mono ?_
  rintro e w2 ⟨rfl, vf2, hD2, hZ2⟩
  have HD2 : Hid (DRep _ _ _ _ _ _) := hD2
  clear hD2
  go_wp2_with fail
  refine (d_need HD2.out.dat hs (by omega) 125).mono ?_
  rintro e w3 ⟨rfl, hD3, hT3⟩
  go_wp2
  go_end0
  rw [HT.out]
  exact ⟨rfl, vf2, HD2.out.tch hT3 hD3, ((hT1.zfr vf).trans hZ2).trans (hT3.zfr vf2)⟩

end Go.Proofs.YtffajooegiempabDoor

namespace Go.Proofs.YtffajooegiempabDoor
open Go.RowKit

theorem ownsRow_base {w : World} {B B' : Nat} {e : TypeId} {size : Nat} {v : Value} {n : Nat} {xs : List Value} (h : w.ownsRow B e size v n xs) (hB : B' ≤ B) : w.ownsRow B' e size v n xs := by
  obtain ⟨h1, h2⟩ := h
  refine ⟨h1, ?_⟩
  rcases h2 with h2 | ⟨g, cap, c, hv, hg, rest⟩
  · exact .inl h2
  · exact .inr ⟨g, cap, c, hv, by omega, rest⟩

/-- append to a row of the call's own: the row is the same, or a new one. -/
theorem run_append_own2 {P : Program} (w : World) (base : Nat) (t ty e : TypeId) (i : TypeInfo) (z : Value) (size bytes : Nat) (ht : P.underlying t = some (.slice e)) (hi : P.info? e = some i) (hz : i.zero = some z)
    (hsize : i.size = size) (hby : i.bytes = bytes) (hzs : z.cells.size = size) (hsz : 0 < size)
    (v : Value) (n : Nat) (xs : List Value) (hown : w.ownsRow base e size v n xs)
    (a : Addr) (m c : Nat) (news : List Value) (hl : news.length = m * size) (hnews : ∀ j u, news[j]? = some u → w.cell? (a.add j) = some u) (h1 : ∀ u ∈ news, u.oneCell' = true)
    (h63 : n + m ≤ maxLen) (hbytes : (n + m) * bytes ≤ 140737488355328) (hbase : base ≤ w.heap.size) :
    ∃ v' w', (Builtin.append_ #[t, t] ty #[v, .slice (some a) m c]).run P w = .ok v' w' ∧ w'.ownsRow base e size v' (n + m) (xs ++ news) ∧ w.grownBy w' v.ownBlock ∧
      (v'.ownBlock = v.ownBlock ∨ ∀ g, v'.ownBlock = some g → w.heap.size ≤ g) := by
  rcases hown.2 with ⟨rfl, rfl⟩ | ⟨g, cap, cur, rfl, hbg, hg, hnc, hcm, hcs, htake⟩
  · have hx : xs = [] := List.eq_nil_of_length_eq_zero (by simpa using hown.1)
    subst hx
    obtain ⟨v', w', h2, h3, h4, _⟩ := run_append_own (P := P) w w.heap.size t ty e i z size bytes ht hi hz hsize hby hzs hsz (.slice none 0 0) 0 [] (World.ownsRow_nil w _ e size) a m c news hl hnews h1 h63 hbytes (Nat.le_refl _)
    exact ⟨v', w', h2, ownsRow_base h3 hbase, h4, .inr fun g hg => (h3.lt g hg).1⟩
  · by_cases hroom : n + m ≤ cap
    · obtain ⟨w', h2, h3, h4⟩ := run_append_fits (P := P) w base t ty e i size ht hi hsize g n cap xs hown a m c news hl hnews h1 hroom
      exact ⟨_, w', h2, h3, h4, .inl rfl⟩
    · obtain ⟨v', w', h2, h3, h4⟩ := run_append_arg_grows (P := P) w t ty e i z size bytes ht hi hz hsize hby hzs hsz ⟨g, 0, none⟩ n cap xs hown.1 (hown.cells (g := g) rfl) a m c news hl hnews (by omega) h63 hbytes
      exact ⟨v', w', h2, ownsRow_base h3 hbase, ⟨h4.os, h4.tape, h4.output, h4.size, fun k hk _ => h4.block k hk (by simp)⟩, .inr fun g hg => (h3.lt g hg).1⟩

end Go.Proofs.YtffajooegiempabDoor

