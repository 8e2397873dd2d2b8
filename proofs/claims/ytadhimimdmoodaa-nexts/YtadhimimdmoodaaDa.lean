import Derived.Test.YtadhimimdmoodaaRs
namespace Go.Proofs.Ytadhimimdmoodaa
open Go.RowKit

abbrev tD : TypeId := 60
abbrev tDs : TypeId := 65

/-- The program's reader: the text, the place, is it stuck, what was found. -/
def Dat (w : World) (r : Nat) (s : ByteArray) (d : Nat × Bool) (vf : Value) : Prop := At w r #[.string s, .int .i64 d.1, .bool d.2, vf] tD

/-- Nothing but block r has turned, and no block has come. -/
structure Tch (r : Nat) (w w' : World) : Prop where
  os : w'.os = w.os
  tape : w'.tape = w.tape
  output : w'.output = w.output
  size : w'.heap.size = w.heap.size
  block : ∀ k, k ≠ r → w'.heap[k]? = w.heap[k]?

theorem Tch.refl (r : Nat) (w : World) : Tch r w w := ⟨rfl, rfl, rfl, rfl, fun _ _ => rfl⟩
theorem Tch.trans {r : Nat} {a b c : World} (h : Tch r a b) (k : Tch r b c) : Tch r a c := ⟨k.os.trans h.os, k.tape.trans h.tape, k.output.trans h.output, k.size.trans h.size, fun i hi => (k.block i hi).trans (h.block i hi)⟩
theorem Tch.drewN {r : Nat} {a w : World} (h : Tch r a w) (n : Nat) : Tch r a (w.drewN n) := ⟨h.os, h.tape, h.output, h.size, h.block⟩
theorem Tch.setCell {r : Nat} {a w : World} (h : Tch r a w) (o : Nat) (u : Value) : Tch r a (w.setCell ⟨r, o, none⟩ u) :=
  h.trans ⟨rfl, rfl, rfl, by simp [World.setCell], fun k hk => Below.heap_setCell _ _ _ _ hk⟩
theorem Tch.below {r B : Nat} {w w' : World} (h : Tch r w w') (hB : B ≤ r) : Below B w w' := ⟨h.os, h.tape, h.output, by have := h.size; omega, fun k hk => h.block k (by omega)⟩
theorem Tch.at_ {r q : Nat} {w w' : World} {c : Array Value} {t : TypeId} (h : Tch r w w') (ha : At w q c t) (hn : q ≠ r) : At w' q c t := ha.same (h.block q hn)

theorem Dat.cells {w : World} {r : Nat} {s : ByteArray} {d : Nat × Bool} {vf : Value} (h : Dat w r s d vf) : w.cell? ⟨r, 0, none⟩ = some (.string s) ∧ w.cell? ⟨r, 1, none⟩ = some (.int .i64 d.1) ∧ w.cell? ⟨r, 2, none⟩ = some (.bool d.2) ∧ w.cell? ⟨r, 3, none⟩ = some vf ∧ ∀ i, w.frozen? ⟨r, i, none⟩ = false :=
  ⟨h.cell 0, h.cell 1, h.cell 2, h.cell 3, h.free⟩
theorem Dat.drewN {w : World} {r : Nat} {s : ByteArray} {d : Nat × Bool} {vf : Value} (h : Dat w r s d vf) (k : Nat) : Dat (w.drewN k) r s d vf := h
theorem Dat.step {w : World} {r : Nat} {s : ByteArray} {d : Nat × Bool} {vf : Value} (h : Dat w r s d vf) : Dat (w.setCell ⟨r, 1, none⟩ (.int .i64 ((d.1 : Int) + 1))) r s (d.1 + 1, d.2) vf := by
  have := At.put h 1 (.int .i64 ((d.1 : Int) + 1))
  exact this
theorem Dat.stick {w : World} {r : Nat} {s : ByteArray} {d : Nat × Bool} {vf : Value} (h : Dat w r s d vf) : Dat (w.setCell ⟨r, 2, none⟩ (.bool true)) r s (d.1, true) vf := by
  have := At.put h 2 (.bool true)
  exact this

/-- The next byte; 0 where there is none. -/
def pk (s : ByteArray) (d : Nat × Bool) : Int := if d.2 then 0 else (bytesOf s).getD d.1 0
theorem pk_range (s : ByteArray) (d : Nat × Bool) : 0 ≤ pk s d ∧ pk s d ≤ 255 := by
  unfold pk
  split
  · omega
  · by_cases h : d.1 < s.size
    · rw [List.getD_eq_getElem?_getD, bytesOf_get s d.1 h]
      have := (s[d.1]).toNat_lt
      simp only [Option.getD_some]
      omega
    · rw [List.getD_eq_getElem?_getD, List.getElem?_eq_none (by rw [bytesOf_len]; omega)]
      simp

variable {w : World} {r : Nat} {s : ByteArray} {d : Nat × Bool} {vf : Value}

set_option maxRecDepth 100000 in
set_option maxHeartbeats 800000 in
theorem d_peek (h : Dat w r s d vf) (_hs : s.size ≤ 160) (hd : d.1 ≤ 160) :
    Calls Try.prog 39 #[.pointer (some ⟨r, 0, none⟩)] w fun e w' => e = .returned (.int .u8 (pk s d)) ∧ ∃ k, w' = w.drewN k := by
  obtain ⟨c0, c1, c2, c3, cf⟩ := h.cells
  obtain ⟨a, b⟩ := d
  simp only at c0 c1 c2 c3 hd
  have a0 : decide (((a : Nat) : Int) < 0) = false := decide_eq_false (by omega)
  cases b
  · by_cases hl : a < s.size
    · have HP : Hid (pk s (a, false) = ((s[a]).toNat : Int)) := by show pk s (a, false) = _; unfold pk; simp only [Bool.false_eq_true, if_false]; rw [List.getD_eq_getElem?_getD, bytesOf_get s a hl]; rfl
      have a1 : decide (((s.size : Nat) : Int) ≤ (a : Int)) = false := decide_eq_false (by omega)
      have i1 : ((a : Nat) : Int) < ((s.size : Nat) : Int) := by omega
      clear h
      go_enter Try.func39, Try.ntmps39
      go_wp2
      go_quiet (fail)
      go_wp2
      go_quiet (fail)
      go_wp2
      go_ret
      exact ⟨by rw [HP.out]; rfl, _, World.drewN_drewN _ _ _⟩
    · have HP : Hid (pk s (a, false) = 0) := by show pk s (a, false) = _; unfold pk; simp only [Bool.false_eq_true, if_false]; rw [List.getD_eq_getElem?_getD, List.getElem?_eq_none (by rw [bytesOf_len]; omega)]; rfl
      have a1 : decide (((s.size : Nat) : Int) ≤ (a : Int)) = true := decide_eq_true (by omega)
      clear h
      go_enter Try.func39, Try.ntmps39
      go_wp2
      go_quiet (fail)
      go_wp2
      go_ret
      exact ⟨by rw [HP.out]; rfl, _, rfl⟩
  · clear h
    go_enter Try.func39, Try.ntmps39
    go_wp2
    go_quiet (fail)
    go_wp2
    go_ret
    exact ⟨rfl, _, rfl⟩

/-- What a small step leaves. -/
def DPost (w : World) (r : Nat) (s : ByteArray) (vf : Value) (d' : Nat × Bool) (v : Value) : Ending → World → Prop := fun e w' => e = .returned v ∧ Dat w' r s d' vf ∧ Tch r w w'

def tk (s : ByteArray) (d : Nat × Bool) (c : Int) : Bool × (Nat × Bool) := if pk s d = c then (true, (d.1 + 1, d.2)) else (false, d)
def nd (s : ByteArray) (d : Nat × Bool) (c : Int) : Nat × Bool := if pk s d = c then (d.1 + 1, d.2) else (d.1, true)

set_option maxRecDepth 100000 in
set_option maxHeartbeats 800000 in
theorem d_take (h : Dat w r s d vf) (hs : s.size ≤ 160) (hd : d.1 ≤ 160) (c : Int) :
    Calls Try.prog 67 #[.pointer (some ⟨r, 0, none⟩), .int .u8 c] w (DPost w r s vf (tk s d c).2 (.bool (tk s d c).1)) := by
  have hp := d_peek h hs hd
  obtain ⟨c0, c1, c2, c3, cf⟩ := h.cells
  have HD : Hid (Dat _ _ _ _ _) := h
  clear h
  by_cases hc : pk s d = c
  · have HT : Hid (tk s d c = (true, (d.1 + 1, d.2))) := if_pos hc
    subst hc
    go_enter Try.func67, Try.ntmps67
    go_wp2_with (go_at_call 39; refine hp.mono ?_; rintro e w' ⟨rfl, k, rfl⟩)
    go_ret
    rw [HT.out]
    exact ⟨rfl, (HD.out.drewN k).step, ((Tch.refl _ _).drewN _).setCell _ _⟩
  · have HT : Hid (tk s d c = (false, d)) := if_neg hc
    have bc : (pk s d != c) = true := by simpa using hc
    clear hc
    go_enter Try.func67, Try.ntmps67
    go_wp2_with (go_at_call 39; refine hp.mono ?_; rintro e w' ⟨rfl, k, rfl⟩)
    go_ret
    rw [HT.out]
    exact ⟨rfl, HD.out.drewN k, (Tch.refl _ _).drewN _⟩

set_option maxRecDepth 100000 in
set_option maxHeartbeats 800000 in
theorem d_need (h : Dat w r s d vf) (hs : s.size ≤ 160) (hd : d.1 ≤ 160) (c : Int) :
    Calls Try.prog 60 #[.pointer (some ⟨r, 0, none⟩), .int .u8 c] w (DPost w r s vf (nd s d c) (.tuple #[])) := by
  have hp := d_take h hs hd c
  clear h
  by_cases hc : pk s d = c
  · have HT : Hid (nd s d c = (d.1 + 1, d.2)) := if_pos hc
    have hk : tk s d c = (true, (d.1 + 1, d.2)) := if_pos hc
    rw [hk] at hp
    clear hc hk
    go_enter Try.func60, Try.ntmps60
    go_wp2_with (go_at_call 67; refine hp.mono ?_; rintro e w' ⟨rfl, hD, hT⟩)
    go_end0
    rw [HT.out]
    exact ⟨rfl, hD, hT⟩
  · have HT : Hid (nd s d c = (d.1, true)) := if_neg hc
    have hk : tk s d c = (false, d) := if_neg hc
    rw [hk] at hp
    clear hc hk
    go_enter Try.func60, Try.ntmps60
    go_wp2_with (go_at_call 67; refine hp.mono ?_; rintro e w' ⟨rfl, hD, hT⟩; obtain ⟨c0, c1, c2, c3, cf⟩ := hD.cells; have HD : Hid (Dat _ _ _ _ _) := hD; clear hD)
    go_end0
    rw [HT.out]
    exact ⟨rfl, HD.out.stick, hT.setCell _ _⟩

end Go.Proofs.Ytadhimimdmoodaa
