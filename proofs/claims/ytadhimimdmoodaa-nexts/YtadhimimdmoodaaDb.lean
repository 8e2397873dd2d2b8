import Derived.Test.YtadhimimdmoodaaDa
namespace Go.Proofs.Ytadhimimdmoodaa
open Go.RowKit
variable {w : World} {r : Nat} {s : ByteArray} {d : Nat × Bool} {vf : Value}

theorem pk_lt {c : Int} (h : pk s d = c) (hc : c ≠ 0) : d.1 < s.size ∧ d.2 = false := by
  unfold pk at h
  split at h
  · exact absurd h.symm hc
  · rename_i hb
    refine ⟨?_, by simpa using hb⟩
    rcases Nat.lt_or_ge d.1 s.size with h' | h'
    · exact h'
    · rw [List.getD_eq_getElem?_getD, List.getElem?_eq_none (by rw [bytesOf_len]; omega)] at h
      exact absurd h.symm hc

def adv (d : Nat × Bool) : Nat × Bool := (d.1 + 1, d.2)
def stk (d : Nat × Bool) : Nat × Bool := (d.1, true)

def rSign (s : ByteArray) (d : Nat × Bool) : Int × (Nat × Bool) := if pk s d = 45 then (-1, adv d) else (1, d)
def rVar (s : ByteArray) (d : Nat × Bool) (not : Int) : Int × (Nat × Bool) := if varOf (pk s d) = -1 ∨ varOf (pk s d) = not then (0, stk d) else (varOf (pk s d), adv d)
def rNum (s : ByteArray) (d : Nat × Bool) (sg : Int) : Int × (Nat × Bool) :=
  if pk s d = 48 ∧ 0 < sg then (0, adv d)
  else if pk s d < 49 ∨ 57 < pk s d then (0, stk d)
  else if 48 ≤ pk s (adv d) ∧ pk s (adv d) ≤ 57 then (sg * (10 * (pk s d - 48) + (pk s (adv d) - 48)), adv (adv d))
  else (sg * (pk s d - 48), adv d)
def rSummand (s : ByteArray) (d : Nat × Bool) : Int × (Nat × Bool) :=
  if pk s d = 43 then rNum s (adv d) 1
  else if pk s d = 45 then (-(rNum s (adv d) 1).1, (rNum s (adv d) 1).2)
  else (0, d)

theorem rSign_le (hd : d.1 ≤ s.size) : (rSign s d).2.1 ≤ s.size := by
  unfold rSign
  split
  · rename_i h; have := (pk_lt h (by decide)).1; show d.1 + 1 ≤ _; omega
  · exact hd
theorem varOf_ne {c : Int} (h : varOf c ≠ -1) : 97 ≤ c ∧ c ≤ 100 := by
  unfold varOf at h
  split at h
  · assumption
  · exact absurd rfl h
theorem rVar_le (hd : d.1 ≤ s.size) (x : Int) : (rVar s d x).2.1 ≤ s.size := by
  unfold rVar
  split
  · exact hd
  · rename_i h
    have h1 := varOf_ne (fun e => h (.inl e))
    have := (pk_lt (s := s) (d := d) rfl (by omega)).1
    show d.1 + 1 ≤ _; omega
theorem rVar_range (x : Int) : 0 ≤ (rVar s d x).1 ∧ (rVar s d x).1 ≤ 3 := by
  unfold rVar
  split
  · exact ⟨by simp, by simp⟩
  · rename_i h
    have h1 := varOf_ne (fun e => h (.inl e))
    show 0 ≤ varOf _ ∧ varOf _ ≤ 3
    unfold varOf
    rw [if_pos h1]; omega
theorem rNum_le (hd : d.1 ≤ s.size) (x : Int) : (rNum s d x).2.1 ≤ s.size := by
  unfold rNum
  split
  · rename_i h; have := (pk_lt h.1 (by decide)).1; show d.1 + 1 ≤ _; omega
  split
  · exact hd
  rename_i h1
  have h2 := (pk_lt (s := s) (d := d) rfl (by omega)).1
  split
  · rename_i h3
    have := (pk_lt (s := s) (d := adv d) rfl (by omega)).1
    show (adv d).1 + 1 ≤ _; omega
  · show d.1 + 1 ≤ _; omega
theorem rNum_range (x : Int) (hx : x = 1 ∨ x = -1) : -99 ≤ (rNum s d x).1 ∧ (rNum s d x).1 ≤ 99 := by
  have p1 := pk_range s d
  have p2 := pk_range s (adv d)
  unfold rNum
  split
  · exact ⟨by simp, by simp⟩
  split
  · exact ⟨by simp, by simp⟩
  split
  · show -99 ≤ x * _ ∧ x * _ ≤ 99
    rcases hx with rfl | rfl <;> omega
  · show -99 ≤ x * _ ∧ x * _ ≤ 99
    rcases hx with rfl | rfl <;> omega

set_option maxRecDepth 100000 in
set_option maxHeartbeats 800000 in
theorem d_readSign (h : Dat w r s d vf) (hs : s.size ≤ 160) (hd : d.1 ≤ s.size) :
    Calls Try.prog 68 #[.pointer (some ⟨r, 0, none⟩)] w (DPost w r s vf (rSign s d).2 (.int .i64 (rSign s d).1)) := by
  have hp := d_take h hs (by omega) 45
  clear h
  by_cases hc : pk s d = 45
  · have HT : Hid (rSign s d = (-1, adv d)) := if_pos hc
    have hk : tk s d 45 = (true, adv d) := if_pos hc
    rw [hk] at hp
    clear hc hk
    go_enter Try.func68, Try.ntmps68
    go_wp2_with (go_at_call 67; refine hp.mono ?_; rintro e w' ⟨rfl, hD, hT⟩)
    go_ret
    rw [HT.out]
    exact ⟨rfl, hD, hT⟩
  · have HT : Hid (rSign s d = (1, d)) := if_neg hc
    have hk : tk s d 45 = (false, d) := if_neg hc
    rw [hk] at hp
    clear hc hk
    go_enter Try.func68, Try.ntmps68
    go_wp2_with (go_at_call 67; refine hp.mono ?_; rintro e w' ⟨rfl, hD, hT⟩)
    go_ret
    rw [HT.out]
    exact ⟨rfl, hD, hT⟩

set_option maxHeartbeats 400000 in
theorem d_variableOf (c : Int) (w : World) (h0 : 0 ≤ c) (h1 : c ≤ 255) :
    Calls Try.prog 69 #[.int .u8 c] w fun e w' => e = .returned (.int .i64 (varOf c)) ∧ w' = w := by
  unfold varOf
  by_cases ha : 97 ≤ c
  · by_cases hb : c ≤ 100
    · go_enter Try.func69, Try.ntmps69
      go_wp2
      go_ret
      exact ⟨rfl, rfl⟩
    · go_enter Try.func69, Try.ntmps69
      go_wp2
      go_ret
      exact ⟨rfl, rfl⟩
  · go_enter Try.func69, Try.ntmps69
    go_wp2
    go_ret
    exact ⟨rfl, rfl⟩

set_option maxRecDepth 100000 in
set_option maxHeartbeats 800000 in
theorem d_readVariable (h : Dat w r s d vf) (hs : s.size ≤ 160) (hd : d.1 ≤ s.size) (x : Int) :
    Calls Try.prog 66 #[.pointer (some ⟨r, 0, none⟩), .int .i64 x] w (DPost w r s vf (rVar s d x).2 (.int .i64 (rVar s d x).1)) := by
  have hp := d_peek h hs (by omega)
  obtain ⟨p0, p1⟩ := pk_range s d
  obtain ⟨c0, c1, c2, c3, cf⟩ := h.cells
  have HD : Hid (Dat _ _ _ _ _) := h
  clear h
  by_cases hv : varOf (pk s d) = -1
  · have HT : Hid (rVar s d x = (0, stk d)) := if_pos (.inl hv)
    have hvo := fun w => d_variableOf (pk s d) w p0 p1
    rw [hv] at hvo
    clear hv
    go_enter Try.func66, Try.ntmps66
    go_wp2_with (first | (go_at_call 39; refine hp.mono ?_; rintro e w' ⟨rfl, k, rfl⟩) | (go_at_call 69; refine (hvo _).mono ?_; rintro e w' ⟨rfl, rfl⟩))
    go_ret
    rw [HT.out]
    exact ⟨rfl, (HD.out.drewN k).stick, ((Tch.refl _ _).drewN _).setCell _ _⟩
  · have bv : (varOf (pk s d) == -1) = false := by simpa using hv
    have hvo := fun w => d_variableOf (pk s d) w p0 p1
    by_cases hx : varOf (pk s d) = x
    · have HT : Hid (rVar s d x = (0, stk d)) := if_pos (.inr hx)
      have bx : (varOf (pk s d) == x) = true := by simpa using hx
      clear hv hx
      generalize varOf (pk s d) = v at *
      go_enter Try.func66, Try.ntmps66
      go_wp2_with (first | (go_at_call 39; refine hp.mono ?_; rintro e w' ⟨rfl, k, rfl⟩) | (go_at_call 69; refine (hvo _).mono ?_; rintro e w' ⟨rfl, rfl⟩))
      go_ret
      rw [HT.out]
      exact ⟨rfl, (HD.out.drewN k).stick, ((Tch.refl _ _).drewN _).setCell _ _⟩
    · have HT : Hid (rVar s d x = (varOf (pk s d), adv d)) := if_neg (fun e => e.elim hv hx)
      have bx : (varOf (pk s d) == x) = false := by simpa using hx
      clear hv hx
      generalize varOf (pk s d) = v at *
      go_enter Try.func66, Try.ntmps66
      go_wp2_with (first | (go_at_call 39; refine hp.mono ?_; rintro e w' ⟨rfl, k, rfl⟩) | (go_at_call 69; refine (hvo _).mono ?_; rintro e w' ⟨rfl, rfl⟩))
      go_ret
      rw [HT.out]
      exact ⟨rfl, (HD.out.drewN k).step, ((Tch.refl _ _).drewN _).setCell _ _⟩

end Go.Proofs.Ytadhimimdmoodaa
