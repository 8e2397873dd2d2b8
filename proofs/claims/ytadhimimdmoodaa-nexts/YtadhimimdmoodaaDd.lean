import Derived.Test.YtadhimimdmoodaaDc
namespace Go.Proofs.Ytadhimimdmoodaa
open Go.RowKit
variable {w : World} {r q : Nat} {s : ByteArray} {d : Nat × Bool} {vf : Value}

/-- A statement of the program's. -/
structure Ds where
  kind : Int
  target : Int
  any : Bool
  sg : List Int
  num : Int
  parent : Int
  block : Int

/-- The sign of a variable. -/
def sgAt (l : List Int) (i : Nat) : Int := l.getD i 0
def dsCells (x : Ds) : Array Value := #[.int .i64 x.kind, .int .i64 x.target, .bool x.any, .int .i64 (sgAt x.sg 0), .int .i64 (sgAt x.sg 1), .int .i64 (sgAt x.sg 2), .int .i64 (sgAt x.sg 3), .int .i64 x.num, .int .i64 x.parent, .int .i64 x.block]
def DsAt (w : World) (q : Nat) (x : Ds) : Prop := At w q (dsCells x) tDs

structure Tch2 (r q : Nat) (w w' : World) : Prop where
  os : w'.os = w.os
  tape : w'.tape = w.tape
  output : w'.output = w.output
  size : w'.heap.size = w.heap.size
  block : ∀ k, k ≠ r → k ≠ q → w'.heap[k]? = w.heap[k]?
theorem Tch2.refl (r q : Nat) (w : World) : Tch2 r q w w := ⟨rfl, rfl, rfl, rfl, fun _ _ _ => rfl⟩
theorem Tch2.trans {a b c : World} (h : Tch2 r q a b) (k : Tch2 r q b c) : Tch2 r q a c := ⟨k.os.trans h.os, k.tape.trans h.tape, k.output.trans h.output, k.size.trans h.size, fun i h1 h2 => (k.block i h1 h2).trans (h.block i h1 h2)⟩
theorem Tch.two {a b : World} (h : Tch r a b) (q : Nat) : Tch2 r q a b := ⟨h.os, h.tape, h.output, h.size, fun i h1 _ => h.block i h1⟩
theorem Tch2.setCell {a w : World} (h : Tch2 r q a w) (o : Nat) (u : Value) : Tch2 r q a (w.setCell ⟨q, o, none⟩ u) :=
  h.trans ⟨rfl, rfl, rfl, by simp [World.setCell], fun k _ hk => Below.heap_setCell _ _ _ _ hk⟩
theorem Tch2.below {B : Nat} {w w' : World} (h : Tch2 r q w w') (hB : B ≤ r) (hq : B ≤ q) : Below B w w' := ⟨h.os, h.tape, h.output, by have := h.size; omega, fun k hk => h.block k (by omega) (by omega)⟩
theorem Tch2.drewN {a w : World} (h : Tch2 r q a w) (n : Nat) : Tch2 r q a (w.drewN n) := ⟨h.os, h.tape, h.output, h.size, h.block⟩

theorem DsAt.cells {x : Ds} (h : DsAt w q x) : w.cell? ⟨q, 0, none⟩ = some (.int .i64 x.kind) ∧ w.cell? ⟨q, 1, none⟩ = some (.int .i64 x.target) ∧ w.cell? ⟨q, 2, none⟩ = some (.bool x.any) ∧ w.cell? ⟨q, 3, none⟩ = some (.int .i64 (sgAt x.sg 0)) ∧ w.cell? ⟨q, 4, none⟩ = some (.int .i64 (sgAt x.sg 1)) ∧ w.cell? ⟨q, 5, none⟩ = some (.int .i64 (sgAt x.sg 2)) ∧ w.cell? ⟨q, 6, none⟩ = some (.int .i64 (sgAt x.sg 3)) ∧ w.cell? ⟨q, 7, none⟩ = some (.int .i64 x.num) ∧ w.cell? ⟨q, 8, none⟩ = some (.int .i64 x.parent) ∧ w.cell? ⟨q, 9, none⟩ = some (.int .i64 x.block) ∧ ∀ i, w.frozen? ⟨q, i, none⟩ = false :=
  ⟨h.cell 0, h.cell 1, h.cell 2, h.cell 3, h.cell 4, h.cell 5, h.cell 6, h.cell 7, h.cell 8, h.cell 9, h.free⟩
theorem DsAt.drewN {x : Ds} (h : DsAt w q x) (k : Nat) : DsAt (w.drewN k) q x := h
theorem DsAt.setAny {x : Ds} (h : DsAt w q x) (b : Bool) : DsAt (w.setCell ⟨q, 2, none⟩ (.bool b)) q { x with any := b } := At.put h 2 (.bool b)
theorem DsAt.setNum {x : Ds} (h : DsAt w q x) (n : Int) : DsAt (w.setCell ⟨q, 7, none⟩ (.int .i64 n)) q { x with num := n } := At.put h 7 (.int .i64 n)
theorem DsAt.setKind {x : Ds} (h : DsAt w q x) (n : Int) : DsAt (w.setCell ⟨q, 0, none⟩ (.int .i64 n)) q { x with kind := n } := At.put h 0 (.int .i64 n)
theorem DsAt.setTarget {x : Ds} (h : DsAt w q x) (n : Int) : DsAt (w.setCell ⟨q, 1, none⟩ (.int .i64 n)) q { x with target := n } := At.put h 1 (.int .i64 n)
theorem DsAt.setSg {x : Ds} (h : DsAt w q x) (hl : x.sg.length = 4) (v : Nat) (hv : v < 4) (n : Int) : DsAt (w.setCell ⟨q, 3 + v, none⟩ (.int .i64 n)) q { x with sg := x.sg.set v n } := by
  have := At.put h (3 + v) (.int .i64 n)
  unfold DsAt
  have e : dsCells { x with sg := x.sg.set v n } = (dsCells x).setIfInBounds (3 + v) (.int .i64 n) := by
    obtain ⟨kd, tg, an, sg, nm, pa, bl⟩ := x
    match sg, hl with
    | [a, b, c, e], _ =>
      match v, hv with
      | 0, _ => rfl
      | 1, _ => rfl
      | 2, _ => rfl
      | 3, _ => rfl
  rw [e]; exact this
theorem DsAt.ne {x : Ds} (h : DsAt w q x) (k : Dat w r s d vf) : q ≠ r := At.ne h k (by decide)
theorem DsAt.keep {x : Ds} {w' : World} (h : DsAt w q x) (t : Tch r w w') (hn : q ≠ r) : DsAt w' q x := t.at_ h hn
theorem Dat.keepq {u : Value} (h : Dat w r s d vf) (o : Nat) (hn : q ≠ r) : Dat (w.setCell ⟨q, o, none⟩ u) r s d vf := At.other h o u (fun e => hn e.symm)

set_option maxRecDepth 100000 in
set_option maxHeartbeats 800000 in
theorem d_setSign {x : Ds} (h : DsAt w q x) (_hl : x.sg.length = 4) (v : Int) (hv0 : 0 ≤ v) (hv3 : v ≤ 3) (n : Int) :
    Calls Try.prog 71 #[.pointer (some ⟨q, 0, none⟩), .int .i64 v, .int .i64 n] w fun e w' => e = .returned (.tuple #[]) ∧ w' = w.setCell ⟨q, 3 + v.toNat, none⟩ (.int .i64 n) := by
  obtain ⟨c0, c1, c2, c3, c4, c5, c6, c7, c8, c9, cf⟩ := h.cells
  clear h
  rcases (show v = 0 ∨ v = 1 ∨ v = 2 ∨ v = 3 by omega) with rfl | rfl | rfl | rfl
  all_goals
    go_enter Try.func71, Try.ntmps71
    go_wp2
    go_end0
    exact ⟨rfl, rfl⟩

set_option maxRecDepth 100000 in
set_option maxHeartbeats 800000 in
theorem d_readSummand (h : Dat w r s d vf) (hs : s.size ≤ 160) (hd : d.1 ≤ s.size) :
    Calls Try.prog 72 #[.pointer (some ⟨r, 0, none⟩)] w (DPost w r s vf (rSummand s d).2 (.int .i64 (rSummand s d).1)) := by
  have hp := d_take h hs (by omega) 43
  have HD : Hid (Dat _ _ _ _ _) := h
  clear h
  by_cases hc : pk s d = 43
  · have HT : Hid (rSummand s d = rNum s (adv d) 1) := if_pos hc
    have hk : tk s d 43 = (true, adv d) := if_pos hc
    have hlt := (pk_lt hc (by decide)).1
    rw [hk] at hp
    clear hc hk
    go_enter Try.func72, Try.ntmps72
    go_wp2_with (go_at_call 67; refine hp.mono ?_; rintro e w' ⟨rfl, hD, hT⟩)
    refine (d_readNumber hD hs (by show d.1 + 1 ≤ s.size; omega) 1 (.inl rfl)).mono ?_
    rintro e w2 ⟨rfl, hD2, hT2⟩
    go_wp2
    go_ret
    rw [HT.out]
    exact ⟨rfl, hD2, hT.trans hT2⟩
  · have hk : tk s d 43 = (false, d) := if_neg hc
    rw [hk] at hp
    clear hk
    by_cases hm : pk s d = 45
    · have HT : Hid (rSummand s d = (-(rNum s (adv d) 1).1, (rNum s (adv d) 1).2)) := by show rSummand s d = _; unfold rSummand; rw [if_neg hc, if_pos hm]
      have hk2 : tk s d 45 = (true, adv d) := if_pos hm
      have hlt := (pk_lt hm (by decide)).1
      obtain ⟨g0, g1⟩ := rNum_range (s := s) (d := adv d) 1 (.inl rfl)
      have HK : Hid (_ = _) := hk2
      clear hc hm hk2
      go_enter Try.func72, Try.ntmps72
      go_wp2_with fail
      refine hp.mono ?_
      rintro e w' ⟨rfl, hD, hT⟩
      go_wp2_with fail
      have hq := d_take hD hs (by omega) 45
      rw [HK.out] at hq
      refine hq.mono ?_
      rintro e w2 ⟨rfl, hD2, hT2⟩
      go_wp2_with fail
      refine (d_readNumber hD2 hs (by show d.1 + 1 ≤ s.size; omega) 1 (.inl rfl)).mono ?_
      rintro e w3 ⟨rfl, hD3, hT3⟩
      go_wp2
      go_ret
      rw [HT.out]
      exact ⟨rfl, hD3, (hT.trans hT2).trans hT3⟩
    · have HT : Hid (rSummand s d = (0, d)) := by show rSummand s d = _; unfold rSummand; rw [if_neg hc, if_neg hm]
      have hk2 : tk s d 45 = (false, d) := if_neg hm
      have HK : Hid (_ = _) := hk2
      clear hc hm hk2
      go_enter Try.func72, Try.ntmps72
      go_wp2_with fail
      refine hp.mono ?_
      rintro e w' ⟨rfl, hD, hT⟩
      go_wp2_with fail
      have hq := d_take hD hs (by omega) 45
      rw [HK.out] at hq
      refine hq.mono ?_
      rintro e w2 ⟨rfl, hD2, hT2⟩
      go_wp2
      go_ret
      rw [HT.out]
      exact ⟨rfl, hD2, hT.trans hT2⟩

end Go.Proofs.Ytadhimimdmoodaa
