import Derived.Test.YtadhimimdmoodaaDe
namespace Go.Proofs.Ytadhimimdmoodaa
open Go.RowKit
variable {w : World} {r q : Nat} {s : ByteArray} {d : Nat × Bool} {vf : Value} {x : Ds}

def blocksOf (k : Int) : Int := if k = 2 then 2 else if k = 3 then 1 else 0

set_option maxRecDepth 100000 in
set_option maxHeartbeats 800000 in
theorem d_blocks (k t : Int) (an : Bool) (g0 g1 g2 g3 n p b : Int) (w : World) :
    Calls Try.prog 28 #[.agg #[.int .i64 k, .int .i64 t, .bool an, .int .i64 g0, .int .i64 g1, .int .i64 g2, .int .i64 g3, .int .i64 n, .int .i64 p, .int .i64 b]] w fun e w' => e = .returned (.int .i64 (blocksOf k)) ∧ ∃ o, w' = w.alloc o := by
  unfold blocksOf
  by_cases h2 : k = 2
  · subst h2
    go_enter Try.func28, Try.ntmps28
    go_wp2
    go_ret
    exact ⟨rfl, _, rfl⟩
  · have b2 : (k == 2) = false := by simpa using h2
    by_cases h3 : k = 3
    · subst h3
      clear h2 b2
      go_enter Try.func28, Try.ntmps28
      go_wp2
      go_ret
      exact ⟨rfl, _, rfl⟩
    · have b3 : (k == 3) = false := by simpa using h3
      rw [if_neg h2, if_neg h3]
      clear h2 h3
      go_enter Try.func28, Try.ntmps28
      go_wp2
      go_ret
      exact ⟨rfl, _, rfl⟩

/-- Of what was there nothing but blocks r and q has turned. -/
structure Fr2 (r q : Nat) (w w' : World) : Prop where
  os : w'.os = w.os
  tape : w'.tape = w.tape
  output : w'.output = w.output
  size : w.heap.size ≤ w'.heap.size
  block : ∀ k, k < w.heap.size → k ≠ r → k ≠ q → w'.heap[k]? = w.heap[k]?
theorem Fr2.refl (r q : Nat) (w : World) : Fr2 r q w w := ⟨rfl, rfl, rfl, Nat.le_refl _, fun _ _ _ _ => rfl⟩
theorem Fr2.trans {a b c : World} (h : Fr2 r q a b) (k : Fr2 r q b c) : Fr2 r q a c := ⟨k.os.trans h.os, k.tape.trans h.tape, k.output.trans h.output, Nat.le_trans h.size k.size, fun i h0 h1 h2 => (k.block i (Nat.lt_of_lt_of_le h0 h.size) h1 h2).trans (h.block i h0 h1 h2)⟩
theorem Tch2.fr {a b : World} (h : Tch2 r q a b) : Fr2 r q a b := ⟨h.os, h.tape, h.output, by have := h.size; omega, fun i _ h1 h2 => h.block i h1 h2⟩
theorem Fr2.alloc {a w : World} (h : Fr2 r q a w) (o : Obj) : Fr2 r q a (w.alloc o) :=
  h.trans ⟨rfl, rfl, rfl, by simp, fun k hk _ _ => Below.heap_alloc _ _ _ hk⟩
theorem Fr2.below {B : Nat} {w w' : World} (h : Fr2 r q w w') (hB : B ≤ r) (hq : B ≤ q) (hw : B ≤ w.heap.size) : Below B w w' := ⟨h.os, h.tape, h.output, h.size, fun k hk => h.block k (by omega) (by omega) (by omega)⟩
theorem At.alloc {b : Nat} {c : Array Value} {t : TypeId} (h : At w b c t) (o : Obj) : At (w.alloc o) b c t := h.same (Below.heap_alloc _ _ _ h.lt)
theorem Dat.alloc (h : Dat w r s d vf) (o : Obj) : Dat (w.alloc o) r s d vf := At.alloc h o
theorem DsAt.alloc (h : DsAt w q x) (o : Obj) : DsAt (w.alloc o) q x := At.alloc h o

def FPost (w : World) (r q : Nat) (s : ByteArray) (vf : Value) (y : Ds × (Nat × Bool)) : Ending → World → Prop := fun e w' => e = .returned (.tuple #[]) ∧ Dat w' r s y.2 vf ∧ DsAt w' q y.1 ∧ Fr2 r q w w'

def rKind (s : ByteArray) (d : Nat × Bool) (x : Ds) (dp : Int) : Ds × (Nat × Bool) :=
  if pk s d = 33 then ({ x with kind := 1 }, adv d)
  else if pk s d = 63 then ({ x with kind := 2 }, if 4 ≤ dp then stk d else adv d)
  else if pk s d = 64 then ({ x with kind := 3 }, if 4 ≤ dp then stk d else adv d)
  else ({ x with kind := 0, target := (rVar s d (-1)).1 }, (rVar s d (-1)).2)


set_option maxRecDepth 100000 in
set_option maxHeartbeats 1600000 in
theorem d_readKind (h : Dat w r s d vf) (hq : DsAt w q x) (hs : s.size ≤ 160) (hd : d.1 ≤ s.size) (dp : Int) :
    Calls Try.prog 59 #[.pointer (some ⟨r, 0, none⟩), .pointer (some ⟨q, 0, none⟩), .int .i64 dp] w (FPost w r q s vf (rKind s d x dp)) := by
  have hp := d_peek h hs (by omega)
  obtain ⟨p0, p1⟩ := pk_range s d
  have hn := hq.ne h
  have hlr : r < w.heap.size := At.lt h
  have hlq : q < w.heap.size := At.lt hq
  have nrq : r ≠ q := fun e => hn e.symm
  obtain ⟨c0, c1, c2, c3, c4, c5, c6, c7, c8, c9, cf⟩ := hq.cells
  obtain ⟨r0, r1, r2, r3, rf⟩ := h.cells
  have HD : Hid (Dat _ _ _ _ _) := h
  have HQ : Hid (DsAt _ _ _) := hq
  clear h hq
  generalize sgAt x.sg 0 = g0 at *
  generalize sgAt x.sg 1 = g1 at *
  generalize sgAt x.sg 2 = g2 at *
  generalize sgAt x.sg 3 = g3 at *
  by_cases h33 : pk s d = 33
  · have HT : Hid (rKind s d x dp = ({ x with kind := 1 }, adv d)) := if_pos h33
    have HN : Hid (nd s d 33 = adv d) := if_pos h33
    rw [h33] at hp
    clear h33
    go_enter Try.func59, Try.ntmps59
    go_wp2_with fail
    refine hp.mono ?_
    rintro e w1 ⟨rfl, k, rfl⟩
    go_wp2_with fail
    refine (d_blocks _ _ _ _ _ _ _ _ _ _ _).mono ?_
    rintro e w2 ⟨rfl, o, rfl⟩
    have hne := d_need (((HD.out.drewN k).keepq (u := .int .i64 1) 0 hn).alloc o) hs (by omega) 33
    rw [HN.out] at hne
    go_wp2_with fail
    refine hne.mono ?_
    rintro e w3 ⟨rfl, hD3, hT3⟩
    go_wp2
    go_end0
    rw [HT.out]
    exact ⟨rfl, hD3, (((HQ.out.drewN k).setKind 1).alloc o).keep hT3 hn, ((((Tch2.refl r q _).drewN k).setCell _ _).fr.alloc o).trans (hT3.two q).fr⟩
  have b33 : (pk s d == 33) = false := by simpa using h33
  by_cases h63 : pk s d = 63
  · have HN : Hid (nd s d 63 = adv d) := if_pos h63
    by_cases h4 : 4 ≤ dp
    · have HT : Hid (rKind s d x dp = ({ x with kind := 2 }, stk d)) := by show rKind s d x dp = _; unfold rKind; rw [if_neg h33, if_pos h63, if_pos h4]
      rw [h63] at hp
      clear h33 b33 h63
      go_enter Try.func59, Try.ntmps59
      go_wp2_with fail
      refine hp.mono ?_
      rintro e w1 ⟨rfl, k, rfl⟩
      go_wp2_with fail
      refine (d_blocks _ _ _ _ _ _ _ _ _ _ _).mono ?_
      rintro e w2 ⟨rfl, o, rfl⟩
      go_wp2
      go_end0
      rw [HT.out]
      exact ⟨rfl, (((HD.out.drewN k).keepq 0 hn).stick).alloc o, (((HQ.out.drewN k).setKind 2).keep ((Tch.refl r _).setCell _ _) hn).alloc o, ((((Tch2.refl r q _).drewN k).setCell _ _).trans (((Tch.refl r _).setCell _ _).two q)).fr.alloc o⟩
    · have HT : Hid (rKind s d x dp = ({ x with kind := 2 }, adv d)) := by show rKind s d x dp = _; unfold rKind; rw [if_neg h33, if_pos h63, if_neg h4]
      rw [h63] at hp
      clear h33 b33 h63
      go_enter Try.func59, Try.ntmps59
      go_wp2_with fail
      refine hp.mono ?_
      rintro e w1 ⟨rfl, k, rfl⟩
      go_wp2_with fail
      refine (d_blocks _ _ _ _ _ _ _ _ _ _ _).mono ?_
      rintro e w2 ⟨rfl, o, rfl⟩
      have hne := d_need (((HD.out.drewN k).keepq (u := .int .i64 2) 0 hn).alloc o) hs (by omega) 63
      rw [HN.out] at hne
      go_wp2_with fail
      refine hne.mono ?_
      rintro e w3 ⟨rfl, hD3, hT3⟩
      go_wp2
      go_end0
      rw [HT.out]
      exact ⟨rfl, hD3, (((HQ.out.drewN k).setKind 2).alloc o).keep hT3 hn, ((((Tch2.refl r q _).drewN k).setCell _ _).fr.alloc o).trans (hT3.two q).fr⟩
  have b63 : (pk s d == 63) = false := by simpa using h63
  by_cases h64 : pk s d = 64
  · have HN : Hid (nd s d 64 = adv d) := if_pos h64
    by_cases h4 : 4 ≤ dp
    · have HT : Hid (rKind s d x dp = ({ x with kind := 3 }, stk d)) := by show rKind s d x dp = _; unfold rKind; rw [if_neg h33, if_neg h63, if_pos h64, if_pos h4]
      rw [h64] at hp
      clear h33 b33 h63 b63 h64
      go_enter Try.func59, Try.ntmps59
      go_wp2_with fail
      refine hp.mono ?_
      rintro e w1 ⟨rfl, k, rfl⟩
      go_wp2_with fail
      refine (d_blocks _ _ _ _ _ _ _ _ _ _ _).mono ?_
      rintro e w2 ⟨rfl, o, rfl⟩
      go_wp2
      go_end0
      rw [HT.out]
      exact ⟨rfl, (((HD.out.drewN k).keepq 0 hn).stick).alloc o, (((HQ.out.drewN k).setKind 3).keep ((Tch.refl r _).setCell _ _) hn).alloc o, ((((Tch2.refl r q _).drewN k).setCell _ _).trans (((Tch.refl r _).setCell _ _).two q)).fr.alloc o⟩
    · have HT : Hid (rKind s d x dp = ({ x with kind := 3 }, adv d)) := by show rKind s d x dp = _; unfold rKind; rw [if_neg h33, if_neg h63, if_pos h64, if_neg h4]
      rw [h64] at hp
      clear h33 b33 h63 b63 h64
      go_enter Try.func59, Try.ntmps59
      go_wp2_with fail
      refine hp.mono ?_
      rintro e w1 ⟨rfl, k, rfl⟩
      go_wp2_with fail
      refine (d_blocks _ _ _ _ _ _ _ _ _ _ _).mono ?_
      rintro e w2 ⟨rfl, o, rfl⟩
      have hne := d_need (((HD.out.drewN k).keepq (u := .int .i64 3) 0 hn).alloc o) hs (by omega) 64
      rw [HN.out] at hne
      go_wp2_with fail
      refine hne.mono ?_
      rintro e w3 ⟨rfl, hD3, hT3⟩
      go_wp2
      go_end0
      rw [HT.out]
      exact ⟨rfl, hD3, (((HQ.out.drewN k).setKind 3).alloc o).keep hT3 hn, ((((Tch2.refl r q _).drewN k).setCell _ _).fr.alloc o).trans (hT3.two q).fr⟩
  have b64 : (pk s d == 64) = false := by simpa using h64
  have HT : Hid (rKind s d x dp = ({ x with kind := 0, target := (rVar s d (-1)).1 }, (rVar s d (-1)).2)) := by show rKind s d x dp = _; unfold rKind; rw [if_neg h33, if_neg h63, if_neg h64]
  clear h33 h63 h64
  generalize pk s d = c at *
  go_enter Try.func59, Try.ntmps59
  go_wp2_with fail
  refine hp.mono ?_
  rintro e w1 ⟨rfl, k, rfl⟩
  go_wp2_with fail
  refine (d_readVariable ((HD.out.drewN k).keepq (u := .int .i64 0) 0 hn) hs hd (-1)).mono ?_
  rintro e w3 ⟨rfl, hD3, hT3⟩
  have hq3 := ((HQ.out.drewN k).setKind 0).keep hT3 hn
  obtain ⟨c0, c1, c2, c3, c4, c5, c6, c7, c8, c9, cf⟩ := hq3.cells
  have HQ3 : Hid (DsAt _ _ _) := hq3
  clear hq3
  go_wp2
  go_end0
  rw [HT.out]
  exact ⟨rfl, hD3.keepq 1 hn, HQ3.out.setTarget _, ((((Tch2.refl r q _).drewN k).setCell _ _).trans (hT3.two q)).setCell _ _ |>.fr⟩

end Go.Proofs.Ytadhimimdmoodaa
