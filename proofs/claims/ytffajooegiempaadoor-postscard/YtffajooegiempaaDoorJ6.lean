import Derived.Test.YtffajooegiempaaDoorJ5
namespace Go.Proofs.YtffajooegiempaaDoor
open Go.RowKit
variable {w : World}

def cO (v : List Int) : Nat → Nat
  | 0 => 0
  | i + 1 => cO v i + (if gAt v i = 1 ∨ gAt v i = -1 then 1 else 0)
def cT (v : List Int) : Nat → Nat
  | 0 => 0
  | i + 1 => cT v i + (if gAt v i = 2 ∨ gAt v i = -2 then 1 else 0)
theorem four_of {l : List Int} (h : l.length = 4) : ∃ a b c d, l = [a, b, c, d] := by
  match l, h with
  | [a, b, c, d], _ => exact ⟨a, b, c, d, rfl⟩
theorem bool_or_if (x y z : Int) : (if (x == y || x == z) = true then 1 else 0 : Nat) = if x = y ∨ x = z then 1 else 0 := by
  simp only [Bool.or_eq_true, beq_iff_eq]
theorem onesV_c {l : List Int} (h : l.length = 4) : onesV l = cO l 4 := by
  obtain ⟨a, b, c, d, rfl⟩ := four_of h
  simp only [onesV, List.countP_cons, List.countP_nil, cO, gAt, List.getD_cons_zero, List.getD_cons_succ, bool_or_if]
  omega
theorem twosV_c {l : List Int} (h : l.length = 4) : twosV l = cT l 4 := by
  obtain ⟨a, b, c, d, rfl⟩ := four_of h
  simp only [twosV, List.countP_cons, List.countP_nil, cT, gAt, List.getD_cons_zero, List.getD_cons_succ, bool_or_if]
  omega
def preH (l : List Int) : Nat → List Int
  | 0 => [0, 0, 0, 0]
  | j + 1 => (preH l j).set j ((gAt l j).tdiv 2)
theorem preH_4 {l : List Int} (h : l.length = 4) : preH l 4 = halfV l := by
  obtain ⟨a, b, c, d, rfl⟩ := four_of h
  rfl
theorem floor2 (c : Int) : (c.tmod 2 < 0 → c / 2 = c.tdiv 2 - 1) ∧ (¬ c.tmod 2 < 0 → c / 2 = c.tdiv 2) := by
  have h := Int.tmod_def c 2
  have t := tdiv2 c
  rcases Int.lt_or_le c 0 with e | e
  · have := t.2 e; constructor <;> intro _ <;> omega
  · have := t.1 e; constructor <;> intro _ <;> omega
theorem ret2_eq {a b c d : Int} (h : a = c) (k : b = d) : Ending.returned (.tuple #[.int .i64 a, .int .i64 b]) = .returned (.tuple #[.int .i64 c, .int .i64 d]) := by rw [h, k]

set_option maxRecDepth 100000 in
set_option maxHeartbeats 3200000 in
theorem r_follow (u : Value) (l : List Int) (hl : l.length = 4) (hu : Reads w u l) (hv : ∀ i, i < 4 → -2 ≤ gAt l i ∧ gAt l i ≤ 2) (c : Int) (hc : -4000000000000000000 ≤ c ∧ c ≤ 4000000000000000000) :
    Calls Tryd.prog 83 #[u, .int .i64 c] w fun e w' => e = .returned (.tuple #[.int .i64 (folV l c).1, .int .i64 (folV l c).2]) ∧ Below w.heap.size w w' := by
  have hmk : ∀ w, (Instr.makeSlice 22 (.int .i64 4) (.int .i64 4)).run Tryd.prog w = .ok (.slice (some ⟨w.heap.size, 0, none⟩) 4 4) (w.alloc (.cells #[.int .i64 0, .int .i64 0, .int .i64 0, .int .i64 0] tNk)) := fun _ => by kernel_rfl
  have HN1 : Hid (∀ w1, Below w.heap.size w w1 → Calls Tryd.prog 89 #[u] w1 fun e w' => e = .returned (.int .i64 (numV l)) ∧ Below w1.heap.size w1 w') := fun w1 hb => r_number u l hl (hu.keep hb) (fun i hi => by have := hv i hi; omega)
  have HN2 : Hid (∀ w1, At w1 w.heap.size (ic (preH l 4)) tNk → Calls Tryd.prog 89 #[.slice (some ⟨w.heap.size, 0, none⟩) 4 4] w1 fun e w' => e = .returned (.int .i64 (numV (halfV l))) ∧ Below w1.heap.size w1 w') := by
    intro w1 h1
    rw [preH_4 hl] at h1
    have hh : (halfV l).length = 4 := by unfold halfV; rw [List.length_map]; exact hl
    refine r_number _ (halfV l) hh (Reads.at_ h1 hh (Nat.le_refl _) (fun i hi => ic_get _ _ (by omega))) (fun i hi => ?_)
    have : gAt (halfV l) i = (gAt l i).tdiv 2 := by
      obtain ⟨a, b, c, d, rfl⟩ := four_of hl
      rcases (show i = 0 ∨ i = 1 ∨ i = 2 ∨ i = 3 by omega) with rfl | rfl | rfl | rfl <;> rfl
    rw [this]
    have := tdiv2_le (gAt l i)
    have := hv i hi
    omega
  have HK : Hid (onesV l = cO l 4 ∧ twosV l = cT l 4) := ⟨onesV_c hl, twosV_c hl⟩
  have hfl := floor2 c
  have HFl : Hid (_ ∧ _) := hfl
  clear hfl
  obtain ⟨c0, c1⟩ := hc
  have tc := tdiv2_le c
  obtain ⟨au, cu, rfl, hcu, h0⟩ := hu
  obtain ⟨p, off, rfl, hp, hcell⟩ := h0 (by omega)
  have HC : Hid (∀ i, i < 4 → w.cell? ⟨p, off + i, none⟩ = some (.int .i64 (gAt l i))) := fun i hi => hcell i (by omega)
  have HL : Hid (l.length = 4) := hl
  rw [hl] at HN1 ⊢
  have HA : Hid (At (w.alloc (.cells #[.int .i64 0, .int .i64 0, .int .i64 0, .int .i64 0] tNk)) w.heap.size (ic [0, 0, 0, 0]) tNk) := At.new _ _ _
  have HB : Hid (∀ o, Below w.heap.size w (w.alloc o)) := fun o => (Below.refl _ _).alloc (Nat.le_refl _) _
  clear h0 hcell hcu hl
  go_enter Tryd.func83, Tryd.ntmps83
  go_wp2_with fail
  go_loopw [6, 7, 8] (fun ov tv i wr => ∃ (j : Nat) (o t : Int), j ≤ 4 ∧ ov = .int .i64 o ∧ tv = .int .i64 t ∧ i = .int .i64 j ∧ wr = w ∧ Hid (o = ((cO l j : Nat) : Int) ∧ t = ((cT l j : Nat) : Int)) ∧ 0 ≤ o ∧ o ≤ (j : Int) ∧ 0 ≤ t ∧ t ≤ (j : Int)) (fun _ _ i _ => 4 - (intOf i).toNat)
  case atStart => exact ⟨0, 0, 0, by omega, rfl, rfl, rfl, rfl, ⟨rfl, rfl⟩, by omega, by omega, by omega, by omega⟩
  case round =>
    obtain ⟨j, o, t, hj, rfl, rfl, rfl, hw, HR, o0, o1, t0, t1⟩ := hrel
    replace hw := hw.symm
    subst hw
    by_cases hlt : j < 4
    · have hji : (j : Int) < 4 := by omega
      have cx := HC.out j hlt
      have hx := hv j hlt
      obtain ⟨a, ha⟩ : ∃ a, a = gAt l j := ⟨_, rfl⟩
      have HG : Hid (gAt l j = a) := ha.symm
      rw [← ha] at cx hx
      clear ha
      rcases (show a = -2 ∨ a = -1 ∨ a = 0 ∨ a = 1 ∨ a = 2 by omega) with e | e | e | e | e
      · subst e
        have HS : Hid (cO l (j + 1) = cO l j + 0 ∧ cT l (j + 1) = cT l j + 1) := by
          refine ⟨?_, ?_⟩
          · show cO l j + _ = _
            rw [HG.out]; rfl
          · show cT l j + _ = _
            rw [HG.out]; rfl
        go_wp2_with fail
        go_roundw
        case rel => exact ⟨j + 1, o + 0, t + 1, by omega, by first | rfl | (congr 1; omega), by first | rfl | (congr 1; omega), by go_num, by simp, ⟨by rw [HS.out.1, HR.out.1]; simp, by rw [HS.out.2, HR.out.2]; simp⟩, by omega, by omega, by omega, by omega⟩
        case measure => simp [intOf]; omega
      · subst e
        have HS : Hid (cO l (j + 1) = cO l j + 1 ∧ cT l (j + 1) = cT l j + 0) := by
          refine ⟨?_, ?_⟩
          · show cO l j + _ = _
            rw [HG.out]; rfl
          · show cT l j + _ = _
            rw [HG.out]; rfl
        go_wp2_with fail
        go_roundw
        case rel => exact ⟨j + 1, o + 1, t + 0, by omega, by first | rfl | (congr 1; omega), by first | rfl | (congr 1; omega), by go_num, by simp, ⟨by rw [HS.out.1, HR.out.1]; simp, by rw [HS.out.2, HR.out.2]; simp⟩, by omega, by omega, by omega, by omega⟩
        case measure => simp [intOf]; omega
      · subst e
        have HS : Hid (cO l (j + 1) = cO l j + 0 ∧ cT l (j + 1) = cT l j + 0) := by
          refine ⟨?_, ?_⟩
          · show cO l j + _ = _
            rw [HG.out]; rfl
          · show cT l j + _ = _
            rw [HG.out]; rfl
        go_wp2_with fail
        go_roundw
        case rel => exact ⟨j + 1, o + 0, t + 0, by omega, by first | rfl | (congr 1; omega), by first | rfl | (congr 1; omega), by go_num, by simp, ⟨by rw [HS.out.1, HR.out.1]; simp, by rw [HS.out.2, HR.out.2]; simp⟩, by omega, by omega, by omega, by omega⟩
        case measure => simp [intOf]; omega
      · subst e
        have HS : Hid (cO l (j + 1) = cO l j + 1 ∧ cT l (j + 1) = cT l j + 0) := by
          refine ⟨?_, ?_⟩
          · show cO l j + _ = _
            rw [HG.out]; rfl
          · show cT l j + _ = _
            rw [HG.out]; rfl
        go_wp2_with fail
        go_roundw
        case rel => exact ⟨j + 1, o + 1, t + 0, by omega, by first | rfl | (congr 1; omega), by first | rfl | (congr 1; omega), by go_num, by simp, ⟨by rw [HS.out.1, HR.out.1]; simp, by rw [HS.out.2, HR.out.2]; simp⟩, by omega, by omega, by omega, by omega⟩
        case measure => simp [intOf]; omega
      · subst e
        have HS : Hid (cO l (j + 1) = cO l j + 0 ∧ cT l (j + 1) = cT l j + 1) := by
          refine ⟨?_, ?_⟩
          · show cO l j + _ = _
            rw [HG.out]; rfl
          · show cT l j + _ = _
            rw [HG.out]; rfl
        go_wp2_with fail
        go_roundw
        case rel => exact ⟨j + 1, o + 0, t + 1, by omega, by first | rfl | (congr 1; omega), by first | rfl | (congr 1; omega), by go_num, by simp, ⟨by rw [HS.out.1, HR.out.1]; simp, by rw [HS.out.2, HR.out.2]; simp⟩, by omega, by omega, by omega, by omega⟩
        case measure => simp [intOf]; omega
    · have hj4 : j = 4 := by omega
      subst hj4
      have HO : Hid (o = ((onesV l : Nat) : Int) ∧ t = ((twosV l : Nat) : Int)) := ⟨by rw [HK.out.1]; exact HR.out.1, by rw [HK.out.2]; exact HR.out.2⟩
      have HKd : Hid (kd l = if onesV l = 0 ∧ twosV l = 0 then 1 else if onesV l = 0 ∧ twosV l = 1 then 2 else if twosV l = 0 ∧ 0 < onesV l ∧ onesV l < 3 then 3 else 0) := rfl
      have HFo : Hid (folV l c = if kd l = 1 ∧ c < 0 then (-2, 0) else if kd l = 2 then (numV (halfV l), c / 2) else if kd l = 3 then (numV l, c) else (-1, 0)) := rfl
      clear HR HK
      by_cases eo : o = 0
      · by_cases et : t = 0
        · have hk : kd l = 1 := by rw [HKd.out, if_pos (by have := HO.out; omega)]
          by_cases ec : c < 0
          · have HF : Hid (folV l c = (-2, 0)) := by show folV l c = _; rw [HFo.out, if_pos ⟨hk, ec⟩]
            subst eo et
            clear hk HKd HFo HO
            go_wp2_with fail
            go_ret2
            exact ⟨by rw [HF.out]; rfl, Below.refl _ _⟩
          · have HF : Hid (folV l c = (-1, 0)) := by show folV l c = _; rw [HFo.out, if_neg (fun z => ec z.2), hk, if_neg (by decide), if_neg (by decide)]
            subst eo et
            clear hk HKd HFo HO
            go_wp2_with fail
            go_ret2
            exact ⟨by rw [HF.out]; rfl, Below.refl _ _⟩
        · by_cases et1 : t = 1
          · have hk : kd l = 2 := by rw [HKd.out, if_neg (by have := HO.out; omega), if_pos (by have := HO.out; omega)]
            have HF : Hid (folV l c = (numV (halfV l), c / 2)) := by show folV l c = _; rw [HFo.out, hk, if_neg (fun z => absurd z.1 (by decide)), if_pos rfl]
            subst eo et1
            clear hk HKd HFo HO et
            go_wp2_with fail
            go_loopw [10] (fun i wr => ∃ (j : Nat), j ≤ 4 ∧ i = .int .i64 j ∧ Hid (At wr w.heap.size (ic (preH l j)) tNk ∧ Below w.heap.size w wr)) (fun i _ => 4 - (intOf i).toNat)
            case atStart => exact ⟨0, by omega, rfl, HA.out, HB.out _⟩
            case round =>
              obtain ⟨k, hk, rfl, HQ⟩ := hrel
              have hlen : (preH l k).length = 4 := by
                rcases (show k = 0 ∨ k = 1 ∨ k = 2 ∨ k = 3 ∨ k = 4 by omega) with rfl | rfl | rfl | rfl | rfl <;> rfl
              rcases (show k = 0 ∨ k = 1 ∨ k = 2 ∨ k = 3 ∨ k = 4 by omega) with rfl | rfl | rfl | rfl | rfl
              · have c0 := HQ.out.1.cell 0
                rw [ic_get _ _ (by rw [hlen]; omega)] at c0
                have cf := HQ.out.1.free
                have hbl := HQ.out.1.lt
                have a0 := (HQ.out.2.cell (B := w.heap.size) (p := ⟨p, off + 0, none⟩) hp).trans (HC.out 0 (by omega))
                have hx := hv 0 (by omega)
                have ta := tdiv2_le (gAt l 0)
                have HP : Hid (preH l (0 + 1) = (preH l 0).set 0 ((gAt l 0).tdiv 2)) := rfl
                try rw [Nat.add_zero] at a0
                generalize gAt l 0 = x at *
                generalize preH l 0 = y at *
                go_wp2_with fail
                go_roundw
                case rel =>
                  refine ⟨0 + 1, by omega, rfl, ?_, HQ.out.2.setCell (by show w.heap.size ≤ w.heap.size; omega) _⟩
                  rw [HP.out, ← ic_set]
                  exact HQ.out.1.put 0 _
                case measure => simp [intOf]
              · have c1 := HQ.out.1.cell 1
                rw [ic_get _ _ (by rw [hlen]; omega)] at c1
                have cf := HQ.out.1.free
                have hbl := HQ.out.1.lt
                have a1 := (HQ.out.2.cell (B := w.heap.size) (p := ⟨p, off + 1, none⟩) hp).trans (HC.out 1 (by omega))
                have hx := hv 1 (by omega)
                have ta := tdiv2_le (gAt l 1)
                have HP : Hid (preH l (1 + 1) = (preH l 1).set 1 ((gAt l 1).tdiv 2)) := rfl
                try rw [Nat.add_zero] at a1
                generalize gAt l 1 = x at *
                generalize preH l 1 = y at *
                go_wp2_with fail
                go_roundw
                case rel =>
                  refine ⟨1 + 1, by omega, rfl, ?_, HQ.out.2.setCell (by show w.heap.size ≤ w.heap.size; omega) _⟩
                  rw [HP.out, ← ic_set]
                  exact HQ.out.1.put 1 _
                case measure => simp [intOf]
              · have c2 := HQ.out.1.cell 2
                rw [ic_get _ _ (by rw [hlen]; omega)] at c2
                have cf := HQ.out.1.free
                have hbl := HQ.out.1.lt
                have a2 := (HQ.out.2.cell (B := w.heap.size) (p := ⟨p, off + 2, none⟩) hp).trans (HC.out 2 (by omega))
                have hx := hv 2 (by omega)
                have ta := tdiv2_le (gAt l 2)
                have HP : Hid (preH l (2 + 1) = (preH l 2).set 2 ((gAt l 2).tdiv 2)) := rfl
                try rw [Nat.add_zero] at a2
                generalize gAt l 2 = x at *
                generalize preH l 2 = y at *
                go_wp2_with fail
                go_roundw
                case rel =>
                  refine ⟨2 + 1, by omega, rfl, ?_, HQ.out.2.setCell (by show w.heap.size ≤ w.heap.size; omega) _⟩
                  rw [HP.out, ← ic_set]
                  exact HQ.out.1.put 2 _
                case measure => simp [intOf]
              · have c3 := HQ.out.1.cell 3
                rw [ic_get _ _ (by rw [hlen]; omega)] at c3
                have cf := HQ.out.1.free
                have hbl := HQ.out.1.lt
                have a3 := (HQ.out.2.cell (B := w.heap.size) (p := ⟨p, off + 3, none⟩) hp).trans (HC.out 3 (by omega))
                have hx := hv 3 (by omega)
                have ta := tdiv2_le (gAt l 3)
                have HP : Hid (preH l (3 + 1) = (preH l 3).set 3 ((gAt l 3).tdiv 2)) := rfl
                try rw [Nat.add_zero] at a3
                generalize gAt l 3 = x at *
                generalize preH l 3 = y at *
                go_wp2_with fail
                go_roundw
                case rel =>
                  refine ⟨3 + 1, by omega, rfl, ?_, HQ.out.2.setCell (by show w.heap.size ≤ w.heap.size; omega) _⟩
                  rw [HP.out, ← ic_set]
                  exact HQ.out.1.put 3 _
                case measure => simp [intOf]
              · clear hlen
                go_wp2_with fail
                refine (HN2.out _ HQ.out.1).mono ?_
                rintro e w3 ⟨rfl, hb3⟩
                have H3 : Hid (Below w.heap.size w w3) := HQ.out.2.trans (hb3.mono HQ.out.2.size)
                clear hb3
                by_cases er : c.tmod 2 < 0
                · have HG : Hid (c / 2 = c.tdiv 2 - 1) := HFl.out.1 er
                  go_wp2_with fail
                  go_ret2
                  exact ⟨by rw [HF.out]; exact ret2_eq rfl (by show _ = c / 2; rw [HG.out]), H3.out⟩
                · have HG : Hid (c / 2 = c.tdiv 2) := HFl.out.2 (by omega)
                  go_wp2_with fail
                  go_ret2
                  exact ⟨by rw [HF.out]; exact ret2_eq rfl (by show _ = c / 2; rw [HG.out]), H3.out⟩
          · have hk : kd l = 0 := by rw [HKd.out, if_neg (by have := HO.out; omega), if_neg (by have := HO.out; omega), if_neg (by have := HO.out; omega)]
            have HF : Hid (folV l c = (-1, 0)) := by show folV l c = _; rw [HFo.out, hk, if_neg (fun z => absurd z.1 (by decide)), if_neg (by decide), if_neg (by decide)]
            have b1 : (t == 0) = false := by simpa using et
            have b2 : (t == 1) = false := by simpa using et1
            subst eo
            clear hk HKd HFo HO et et1
            go_wp2_with fail
            go_ret2
            exact ⟨by rw [HF.out]; rfl, Below.refl _ _⟩
      · have b0 : (o == 0) = false := by simpa using eo
        by_cases et : t = 0
        · by_cases e3 : o < 3
          · have hk : kd l = 3 := by rw [HKd.out, if_neg (by have := HO.out; omega), if_neg (by have := HO.out; omega), if_pos (by have := HO.out; omega)]
            have HF : Hid (folV l c = (numV l, c)) := by show folV l c = _; rw [HFo.out, hk, if_neg (fun z => absurd z.1 (by decide)), if_neg (by decide), if_pos rfl]
            have hpos : 0 < o := by omega
            subst et
            clear hk HKd HFo HO eo
            go_wp2_with fail
            refine (HN1.out _ (Below.refl _ _)).mono ?_
            rintro e w3 ⟨rfl, hb3⟩
            go_wp2_with fail
            go_ret2
            exact ⟨by rw [HF.out]; exact ret2_eq rfl rfl, hb3⟩
          · have hk : kd l = 0 := by rw [HKd.out, if_neg (by have := HO.out; omega), if_neg (by have := HO.out; omega), if_neg (by have := HO.out; omega)]
            have HF : Hid (folV l c = (-1, 0)) := by show folV l c = _; rw [HFo.out, hk, if_neg (fun z => absurd z.1 (by decide)), if_neg (by decide), if_neg (by decide)]
            have hpos : 0 < o := by omega
            subst et
            clear hk HKd HFo HO eo
            go_wp2_with fail
            go_ret2
            exact ⟨by rw [HF.out]; rfl, Below.refl _ _⟩
        · have hk : kd l = 0 := by rw [HKd.out, if_neg (by have := HO.out; omega), if_neg (by have := HO.out; omega), if_neg (by have := HO.out; omega)]
          have HF : Hid (folV l c = (-1, 0)) := by show folV l c = _; rw [HFo.out, hk, if_neg (fun z => absurd z.1 (by decide)), if_neg (by decide), if_neg (by decide)]
          have b1 : (t == 0) = false := by simpa using et
          clear hk HKd HFo HO eo et
          go_wp2_with fail
          go_ret2
          exact ⟨by rw [HF.out]; rfl, Below.refl _ _⟩

end Go.Proofs.YtffajooegiempaaDoor

/- Where four rounds go well there is a state: one variable after the other is picked. No Go in here. -/
namespace Go.Proofs.YtffajooegiempaaDoor

theorem nf_symm : ∀ i : Nat, i < 8 → ∀ j, j < 8 → nf i j = nf j i := by decide +kernel
/-- The greatest of some numbers, the least of some. -/
theorem most_of (L : Nat → Option Int) : ∀ n : Nat, (∀ i, i < n → L i = none) ∨ ∃ m, (∃ i, i < n ∧ L i = some m) ∧ ∀ i, i < n → ∀ l, L i = some l → l ≤ m := by
  intro n
  induction n with
  | zero => exact .inl fun i hi => absurd hi (by omega)
  | succ n ih =>
    cases e : L n with
    | none =>
      rcases ih with h | ⟨m, ⟨i, hi, q⟩, h⟩
      · refine .inl fun i hi => ?_
        rcases Nat.lt_or_eq_of_le (Nat.lt_succ_iff.1 hi) with a | a
        · exact h i a
        · rw [a]; exact e
      · refine .inr ⟨m, ⟨i, by omega, q⟩, fun j hj l hl => ?_⟩
        rcases Nat.lt_or_eq_of_le (Nat.lt_succ_iff.1 hj) with a | a
        · exact h j a l hl
        · rw [a, e] at hl; cases hl
    | some x =>
      rcases ih with h | ⟨m, ⟨i, hi, q⟩, h⟩
      · refine .inr ⟨x, ⟨n, by omega, e⟩, fun j hj l hl => ?_⟩
        rcases Nat.lt_or_eq_of_le (Nat.lt_succ_iff.1 hj) with a | a
        · rw [h j a] at hl; cases hl
        · rw [a, e] at hl; cases hl; exact Int.le_refl _
      · by_cases c : m ≤ x
        · refine .inr ⟨x, ⟨n, by omega, e⟩, fun j hj l hl => ?_⟩
          rcases Nat.lt_or_eq_of_le (Nat.lt_succ_iff.1 hj) with a | a
          · exact Int.le_trans (h j a l hl) c
          · rw [a, e] at hl; cases hl; exact Int.le_refl _
        · refine .inr ⟨m, ⟨i, by omega, q⟩, fun j hj l hl => ?_⟩
          rcases Nat.lt_or_eq_of_le (Nat.lt_succ_iff.1 hj) with a | a
          · exact h j a l hl
          · rw [a, e] at hl; cases hl; omega
theorem between (L U : Nat → Option Int) (n : Nat) (h : ∀ i j, i < n → j < n → ∀ l u, L i = some l → U j = some u → l ≤ u) : ∃ t : Int, (∀ i, i < n → ∀ l, L i = some l → l ≤ t) ∧ (∀ j, j < n → ∀ u, U j = some u → t ≤ u) := by
  rcases most_of L n with a | ⟨m, ⟨i, hi, q⟩, a⟩
  · rcases most_of (fun j => (U j).map fun x => -x) n with b | ⟨m, ⟨j, hj, q⟩, b⟩
    · refine ⟨0, fun i hi l hl => (by rw [a i hi] at hl; cases hl), fun j hj u hu => ?_⟩
      have := b j hj
      rw [hu] at this
      cases this
    · refine ⟨-m, fun i hi l hl => (by rw [a i hi] at hl; cases hl), fun k hk u hu => ?_⟩
      have := b k hk (-u) (by rw [hu]; rfl)
      omega
  · exact ⟨m, a, fun j hj u hu => h i j hi hj m u q hu⟩

/-- The first variables keep to the bounds of their forms. -/
structure SK (P v : Nat → Int) (k : Nat) : Prop where
  one : ∀ i, i < 2 * k → P i = NB ∨ sd v i ≤ P i
  two : ∀ i j, i < 2 * k → j < 2 * k → i ≠ j → j ≠ opp i → P (nf i j) = NB ∨ sd v i + sd v j ≤ P (nf i j)
def setV (v : Nat → Int) (k : Nat) (t : Int) : Nat → Int := fun i => if i = k then t else v i
theorem opp_even (k : Nat) : opp (2 * k) = 2 * k + 1 := by unfold opp; rw [if_pos (by omega)]
theorem opp_odd (k : Nat) : opp (2 * k + 1) = 2 * k := by unfold opp; rw [if_neg (by omega)]; omega
theorem opp_lt2 {i k : Nat} (h : i < 2 * k) : opp i < 2 * k := by unfold opp; split <;> omega
theorem sd_setV_lt (v : Nat → Int) (t : Int) {i k : Nat} (h : i < 2 * k) : sd (setV v k t) i = sd v i := by
  unfold sd setV
  rw [if_neg (show ¬ i / 2 = k by omega)]
theorem sd_setV_e (v : Nat → Int) (t : Int) (k : Nat) : sd (setV v k t) (2 * k) = t := by
  unfold sd setV
  rw [if_pos (by omega), if_pos (by omega)]
theorem sd_setV_o (v : Nat → Int) (t : Int) (k : Nat) : sd (setV v k t) (2 * k + 1) = -t := by
  unfold sd setV
  rw [if_neg (by omega), if_pos (by omega)]
/-- One more variable. -/
theorem elim {P P' v : Nat → Int} {U : Int} {k : Nat} (hk : k < 4) (hU : 2 * U < NB) (hU0 : 0 ≤ U) (hP : ∀ f, f < 32 → P f = NB ∨ P f ≤ U) (hr : RdO P P') (hv : SK P' v k) : ∃ t, SK P (setV v k t) (k + 1) := by
  have hs : 2 * k < 8 := by omega
  have ho : 2 * k + 1 < 8 := by omega
  have oe := opp_even k
  have oo := opp_odd k
  have fin : ∀ f, f < 32 → P f ≠ NB → P f ≤ U := fun f hf q => (hP f hf).resolve_left q
  have v1 : ∀ i, i < 2 * k → ∀ c, c < NB → P' i ≤ c → sd v i ≤ c := by
    intro i hi c hc hl
    have := (hv.one i hi).resolve_left (by omega)
    omega
  have v2 : ∀ i j, i < 2 * k → j < 2 * k → i ≠ j → j ≠ opp i → ∀ c, c < NB → P' (nf i j) ≤ c → sd v i + sd v j ≤ c := by
    intro i j hi hj e1 e2 c hc hl
    have := (hv.two i j hi hj e1 e2).resolve_left (by omega)
    omega
  have key : ∀ i j, i < 2 * k + 1 → j < 2 * k + 1 → P (if i = 2 * k then 2 * k else nf (2 * k) i) ≠ NB → P (if j = 2 * k then 2 * k + 1 else nf (2 * k + 1) j) ≠ NB →
      (if i = 2 * k then 0 else sd v i) + (if j = 2 * k then 0 else sd v j) ≤ P (if i = 2 * k then 2 * k else nf (2 * k) i) + P (if j = 2 * k then 2 * k + 1 else nf (2 * k + 1) j) := by
    intro i j hi hj q1 q2
    by_cases ei : i = 2 * k
    · rw [if_pos ei] at q1 ⊢
      rw [if_pos ei]
      by_cases ej : j = 2 * k
      · rw [if_pos ej] at q2 ⊢
        rw [if_pos ej]
        have z := hr.zer (2 * k) (2 * k + 1) (by omega) (by omega) ((tab3 (2 * k) hs (2 * k + 1) ho).1 oe.symm) q1 q2
        omega
      · rw [if_neg ej] at q2 ⊢
        rw [if_neg ej]
        have t := tab2 (2 * k + 1) ho j (by omega) ⟨by omega, by rw [oo]; omega⟩
        rw [oo] at t
        have n := (nf_ok (2 * k + 1) ho j (by omega) (by rw [oo]; omega)).1
        have x := hr.sum (2 * k) (nf (2 * k + 1) j) (by omega) n t.1 q1 q2
        rw [t.2.1] at x
        have a := fin _ (by omega) q1
        have b := fin _ n q2
        have := v1 j (by omega) _ (by omega) x
        omega
    · rw [if_neg ei] at q1 ⊢
      rw [if_neg ei]
      have n1 := (nf_ok (2 * k) hs i (by omega) (by rw [oe]; omega)).1
      have a := fin _ n1 q1
      by_cases ej : j = 2 * k
      · rw [if_pos ej] at q2 ⊢
        rw [if_pos ej]
        have t := tab2 (2 * k) hs i (by omega) ⟨by omega, by rw [oe]; omega⟩
        rw [oe] at t
        have x := hr.sum (2 * k + 1) (nf (2 * k) i) (by omega) n1 t.1 q2 q1
        rw [t.2.1] at x
        have b := fin _ (by omega) q2
        have := v1 i (by omega) _ (by omega) x
        omega
      · rw [if_neg ej] at q2 ⊢
        rw [if_neg ej]
        have n2 := (nf_ok (2 * k + 1) ho j (by omega) (by rw [oo]; omega)).1
        have b := fin _ n2 q2
        have t := tab1 i (by omega) (2 * k + 1) ho j (by omega) ⟨by omega, by rw [oo]; omega, by omega, by rw [oo]; omega⟩
        rw [oo, nf_symm i (by omega) (2 * k) hs] at t
        by_cases e : j = opp i
        · have z := hr.zer _ _ n1 n2 (t.1 e) q1 q2
          rw [e, sd_opp]
          rw [e] at z
          omega
        · by_cases e' : j = i
          · have x := hr.dou _ _ n1 n2 (t.2.1 e').1 q1 q2
            rw [(t.2.1 e').2] at x
            have := v1 i (by omega) _ (by omega) x
            rw [e'] at this ⊢
            omega
          · have x := hr.sum _ _ n1 n2 (t.2.2 ⟨e', e⟩).1 q1 q2
            rw [(t.2.2 ⟨e', e⟩).2] at x
            exact v2 i j (by omega) (by omega) (fun z => e' z.symm) e _ (by omega) x
  obtain ⟨t, hL, hH⟩ := between (fun j => if P (if j = 2 * k then 2 * k + 1 else nf (2 * k + 1) j) = NB then none else some ((if j = 2 * k then 0 else sd v j) - P (if j = 2 * k then 2 * k + 1 else nf (2 * k + 1) j)))
    (fun i => if P (if i = 2 * k then 2 * k else nf (2 * k) i) = NB then none else some (P (if i = 2 * k then 2 * k else nf (2 * k) i) - (if i = 2 * k then 0 else sd v i))) (2 * k + 1) (by
      intro j i hj hi l u hl hu
      by_cases q2 : P (if j = 2 * k then 2 * k + 1 else nf (2 * k + 1) j) = NB
      · rw [if_pos q2] at hl; cases hl
      · by_cases q1 : P (if i = 2 * k then 2 * k else nf (2 * k) i) = NB
        · rw [if_pos q1] at hu; cases hu
        · rw [if_neg q2] at hl
          rw [if_neg q1] at hu
          have := key i j hi hj q1 q2
          have := Option.some.inj hl
          have := Option.some.inj hu
          omega)
  have lo : ∀ j, j < 2 * k → P (nf (2 * k + 1) j) = NB ∨ -t + sd v j ≤ P (nf (2 * k + 1) j) := by
    intro j hj
    by_cases q : P (nf (2 * k + 1) j) = NB
    · exact .inl q
    · have ne : ¬ j = 2 * k := by omega
      have := hL j (by omega) (sd v j - P (nf (2 * k + 1) j)) (by simp only [if_neg ne, if_neg q])
      exact .inr (by omega)
  have hi : ∀ j, j < 2 * k → P (nf (2 * k) j) = NB ∨ t + sd v j ≤ P (nf (2 * k) j) := by
    intro j hj
    by_cases q : P (nf (2 * k) j) = NB
    · exact .inl q
    · have ne : ¬ j = 2 * k := by omega
      have := hH j (by omega) (P (nf (2 * k) j) - sd v j) (by simp only [if_neg ne, if_neg q])
      exact .inr (by omega)
  refine ⟨t, ⟨fun i hi' => ?_, fun i j hi' hj' e1 e2 => ?_⟩⟩
  · by_cases c : i < 2 * k
    · rw [sd_setV_lt v t c]
      by_cases q : P i = NB
      · exact .inl q
      · have := fin i (by omega) q
        exact .inr (v1 i c _ (by omega) (hr.le i (by omega)))
    · by_cases c2 : i = 2 * k
      · rw [c2, sd_setV_e]
        by_cases q : P (2 * k) = NB
        · exact .inl q
        · have := hH (2 * k) (by omega) (P (2 * k) - 0) (by simp only [if_true, if_neg q])
          exact .inr (by omega)
      · rw [show i = 2 * k + 1 by omega, sd_setV_o]
        by_cases q : P (2 * k + 1) = NB
        · exact .inl q
        · have := hL (2 * k) (by omega) (0 - P (2 * k + 1)) (by simp only [if_true, if_neg q])
          exact .inr (by omega)
  · by_cases c : i < 2 * k
    · rw [sd_setV_lt v t c]
      by_cases d : j < 2 * k
      · rw [sd_setV_lt v t d]
        by_cases q : P (nf i j) = NB
        · exact .inl q
        · have n := (nf_ok i (by omega) j (by omega) e2).1
          have := fin _ n q
          exact .inr (v2 i j c d e1 e2 _ (by omega) (hr.le _ n))
      · rw [nf_symm i (by omega) j (by omega), Int.add_comm]
        by_cases d2 : j = 2 * k
        · rw [d2, sd_setV_e]; exact hi i c
        · rw [show j = 2 * k + 1 by omega, sd_setV_o]; exact lo i c
    · have d : j < 2 * k := by
        rcases Nat.lt_or_ge j (2 * k) with d | d
        · exact d
        · exfalso
          by_cases c2 : i = 2 * k
          · rw [c2, oe] at e2; omega
          · rw [show i = 2 * k + 1 by omega, oo] at e2; omega
      rw [sd_setV_lt v t d]
      by_cases c2 : i = 2 * k
      · rw [c2, sd_setV_e]; exact hi j d
      · rw [show i = 2 * k + 1 by omega, sd_setV_o]; exact lo j d

/-- A round that reads the old bounds alone. -/
def qqs (P Q : Nat → Int) (f g : Nat) : Nat → Int :=
  if P f = NB ∨ P g = NB then Q
  else if kdT f g = 2 then (if (P f + P g) / 2 < Q (nmT f g) then upd Q (nmT f g) ((P f + P g) / 2) else Q)
  else if kdT f g = 3 then (if P f + P g < Q (nmT f g) then upd Q (nmT f g) (P f + P g) else Q)
  else Q
def qqF (P : Nat → Int) : Nat → Nat → Int
  | 0 => P
  | m + 1 => qqs P (qqF P m) (m / 32) (m % 32)
theorem low_le {Q : Nat → Int} {n : Nat} {c : Int} (x : Nat) : (if c < Q n then upd Q n c else Q) x ≤ Q x := by
  split
  · unfold upd
    split
    · rename_i h e; subst e; omega
    · exact Int.le_refl _
  · exact Int.le_refl _
theorem low_at {Q : Nat → Int} {n : Nat} {c : Int} : (if c < Q n then upd Q n c else Q) n ≤ c := by
  split
  · rw [upd_same]; exact Int.le_refl _
  · omega
theorem low_cas {Q : Nat → Int} {n : Nat} {c : Int} (x : Nat) : (if c < Q n then upd Q n c else Q) x = Q x ∨ (x = n ∧ (if c < Q n then upd Q n c else Q) x = c) := by
  split
  · unfold upd
    split
    · rename_i e; exact .inr ⟨e, rfl⟩
    · exact .inl rfl
  · exact .inl rfl
theorem qqs_le (P Q : Nat → Int) (f g x : Nat) : qqs P Q f g x ≤ Q x := by
  unfold qqs
  split
  · exact Int.le_refl _
  · split
    · exact low_le x
    · split
      · exact low_le x
      · exact Int.le_refl _
theorem qqs_do (P Q : Nat → Int) {f g : Nat} (q1 : P f ≠ NB) (q2 : P g ≠ NB) : (kdT f g = 2 → qqs P Q f g (nmT f g) ≤ (P f + P g) / 2) ∧ (kdT f g = 3 → qqs P Q f g (nmT f g) ≤ P f + P g) := by
  unfold qqs
  rw [if_neg (show ¬ (P f = NB ∨ P g = NB) from fun z => z.elim q1 q2)]
  refine ⟨fun k => ?_, fun k => ?_⟩
  · rw [if_pos k]; exact low_at
  · rw [if_neg (show ¬ kdT f g = 2 by omega), if_pos k]; exact low_at
theorem qqs_cas (P Q : Nat → Int) (f g x : Nat) : qqs P Q f g x = Q x ∨ (P f ≠ NB ∧ P g ≠ NB ∧ x = nmT f g ∧ ((kdT f g = 2 ∧ qqs P Q f g x = (P f + P g) / 2) ∨ (kdT f g = 3 ∧ qqs P Q f g x = P f + P g))) := by
  unfold qqs
  by_cases q : P f = NB ∨ P g = NB
  · rw [if_pos q]; exact .inl rfl
  · rw [if_neg q]
    have q1 : P f ≠ NB := fun z => q (.inl z)
    have q2 : P g ≠ NB := fun z => q (.inr z)
    by_cases k2 : kdT f g = 2
    · rw [if_pos k2]
      rcases low_cas (Q := Q) (n := nmT f g) (c := (P f + P g) / 2) x with h | ⟨h1, h2⟩
      · exact .inl h
      · exact .inr ⟨q1, q2, h1, .inl ⟨k2, h2⟩⟩
    · rw [if_neg k2]
      by_cases k3 : kdT f g = 3
      · rw [if_pos k3]
        rcases low_cas (Q := Q) (n := nmT f g) (c := P f + P g) x with h | ⟨h1, h2⟩
        · exact .inl h
        · exact .inr ⟨q1, q2, h1, .inr ⟨k3, h2⟩⟩
      · rw [if_neg k3]; exact .inl rfl
theorem qqF_le (P : Nat → Int) : ∀ m x, qqF P m x ≤ P x
  | 0, _ => Int.le_refl _
  | m + 1, x => Int.le_trans (qqs_le P _ _ _ x) (qqF_le P m x)
theorem qqF_do (P : Nat → Int) : ∀ k m, m < k → P (m / 32) ≠ NB → P (m % 32) ≠ NB → (kdT (m / 32) (m % 32) = 2 → qqF P k (nmT (m / 32) (m % 32)) ≤ (P (m / 32) + P (m % 32)) / 2) ∧ (kdT (m / 32) (m % 32) = 3 → qqF P k (nmT (m / 32) (m % 32)) ≤ P (m / 32) + P (m % 32)) := by
  intro k
  induction k with
  | zero => intro m hm; omega
  | succ k ih =>
    intro m hm q1 q2
    rcases Nat.lt_or_eq_of_le (Nat.lt_succ_iff.1 hm) with e | e
    · obtain ⟨a, b⟩ := ih m e q1 q2
      exact ⟨fun z => Int.le_trans (qqs_le P _ _ _ _) (a z), fun z => Int.le_trans (qqs_le P _ _ _ _) (b z)⟩
    · subst e
      exact qqs_do P (qqF P m) q1 q2
/-- The document's bounds lie below. -/
theorem qqF_ab {P R R' : Nat → Int} (hr : RdO R R') {U : Int} (hU : U < NB) (hP : ∀ f, f < 32 → P f = NB ∨ P f ≤ U) (hl : ∀ f, f < 32 → R f ≤ P f) : ∀ k, k ≤ 1024 → ∀ f, f < 32 → R' f ≤ qqF P k f := by
  intro k
  induction k with
  | zero => intro _ f hf; exact Int.le_trans (hr.le f hf) (hl f hf)
  | succ k ih =>
    intro hk f hf
    have hx : k / 32 < 32 := by omega
    have hy : k % 32 < 32 := by omega
    rw [qqF]
    rcases qqs_cas P (qqF P k) (k / 32) (k % 32) f with h | ⟨q1, q2, e, h⟩
    · rw [h]; exact ih (by omega) f hf
    · have a1 := (hP _ hx).resolve_left q1
      have a2 := (hP _ hy).resolve_left q2
      have b1 := hl _ hx
      have b2 := hl _ hy
      rcases h with ⟨k2, h⟩ | ⟨k3, h⟩
      · rw [h, e]
        have := hr.dou _ _ hx hy k2 (by omega) (by omega)
        omega
      · rw [h, e]
        have := hr.sum _ _ hx hy k3 (by omega) (by omega)
        omega
theorem qqF_hi {P : Nat → Int} {U : Int} (hU0 : 0 ≤ U) (hP : ∀ f, f < 32 → P f = NB ∨ P f ≤ U) : ∀ k, k ≤ 1024 → ∀ f, f < 32 → qqF P k f = NB ∨ qqF P k f ≤ 2 * U := by
  intro k
  induction k with
  | zero =>
    intro _ f hf
    rcases hP f hf with h | h
    · exact .inl h
    · exact .inr (by show P f ≤ _; omega)
  | succ k ih =>
    intro hk f hf
    rw [qqF]
    rcases qqs_cas P (qqF P k) (k / 32) (k % 32) f with h | ⟨q1, q2, e, h⟩
    · rw [h]; exact ih (by omega) f hf
    · have a1 := (hP _ (show k / 32 < 32 by omega)).resolve_left q1
      have a2 := (hP _ (show k % 32 < 32 by omega)).resolve_left q2
      rcases h with ⟨k2, h⟩ | ⟨k3, h⟩
      · rw [h]; exact .inr (by omega)
      · rw [h]; exact .inr (by omega)
/-- One round further, by old bounds. -/
theorem qqF_rd {P R R' : Nat → Int} (hr : RdO R R') {U : Int} (hU : U < NB) (hP : ∀ f, f < 32 → P f = NB ∨ P f ≤ U) (hl : ∀ f, f < 32 → R f ≤ P f) : RdO P (qqF P 1024) := by
  refine ⟨fun f _ => qqF_le P 1024 f, fun f g hf hg k q1 q2 => ?_, fun f g hf hg k q1 q2 => ?_, fun f g hf hg k q1 q2 => ?_⟩
  · have a1 := (hP f hf).resolve_left q1
    have a2 := (hP g hg).resolve_left q2
    have b1 := hl f hf
    have b2 := hl g hg
    have := hr.zer f g hf hg k (by omega) (by omega)
    omega
  · have := qqF_do P 1024 (f * 32 + g) (by omega)
    rw [show (f * 32 + g) / 32 = f by omega, show (f * 32 + g) % 32 = g by omega] at this
    exact (this q1 q2).1 k
  · have := qqF_do P 1024 (f * 32 + g) (by omega)
    rw [show (f * 32 + g) / 32 = f by omega, show (f * 32 + g) % 32 = g by omega] at this
    exact (this q1 q2).2 k

/-- Four rounds that go well: there is a state. -/
theorem four {R0 R1 R2 R3 R4 : Nat → Int} (h0 : RdO R0 R1) (h1 : RdO R1 R2) (h2 : RdO R2 R3) (h3 : RdO R3 R4) (hR : ∀ f, f < 32 → R0 f = NB ∨ R0 f ≤ 4000) : ∃ v, SK R0 v 4 := by
  have n0 : (4000 : Int) < NB := by decide
  have n1 : (2 * 4000 : Int) < NB := by decide
  have n2 : (2 * (2 * 4000) : Int) < NB := by decide
  have n3 : (2 * (2 * (2 * 4000)) : Int) < NB := by decide
  have n4 : (2 * (2 * (2 * (2 * 4000))) : Int) < NB := by decide
  have r0 := qqF_rd h0 n0 hR (fun _ _ => Int.le_refl _)
  have b1 := qqF_hi (by decide) hR 1024 (Nat.le_refl _)
  have a1 := qqF_ab h0 n0 hR (fun _ _ => Int.le_refl _) 1024 (Nat.le_refl _)
  generalize qqF R0 1024 = P1 at r0 a1 b1
  have r1 := qqF_rd h1 n1 b1 a1
  have b2 := qqF_hi (by decide) b1 1024 (Nat.le_refl _)
  have a2 := qqF_ab h1 n1 b1 a1 1024 (Nat.le_refl _)
  generalize qqF P1 1024 = P2 at r1 a2 b2
  have r2 := qqF_rd h2 n2 b2 a2
  have b3 := qqF_hi (by decide) b2 1024 (Nat.le_refl _)
  have a3 := qqF_ab h2 n2 b2 a2 1024 (Nat.le_refl _)
  generalize qqF P2 1024 = P3 at r2 a3 b3
  have r3 := qqF_rd h3 n3 b3 a3
  obtain ⟨ta, ka⟩ := elim (k := 0) (v := fun _ => 0) (by decide) n4 (by decide) b3 r3 ⟨fun i hi => absurd hi (by omega), fun i j hi => absurd hi (by omega)⟩
  obtain ⟨tb, kb⟩ := elim (by decide) n3 (by decide) b2 r2 ka
  obtain ⟨tc, kc⟩ := elim (by decide) n2 (by decide) b1 r1 kb
  obtain ⟨td, kd'⟩ := elim (by decide) n1 (by decide) hR r0 kc
  exact ⟨_, kd'⟩
theorem sk_lay {l : List Int} {v : Nat → Int} (h : SK (fun f => l.getD f 0) v 4) : Sat v (lay l 32) := by
  intro i j hi hj
  by_cases e : j = opp i
  · rw [e, lay_opp l i hi, sd_opp]; exact .inr (by omega)
  · rw [lay_nf l hi hj e]
    by_cases e' : i = j
    · subst e'
      rw [nf_self]
      rcases h.one i (by omega) with q | q
      · exact .inl ((bv_lo l hi).1 q)
      · by_cases z : l.getD i 0 = NB
        · exact .inl ((bv_lo l hi).1 z)
        · rw [(bv_lo l hi).2 z]
          have q' : sd v i ≤ l.getD i 0 := q
          exact .inr (by omega)
    · rw [bv_hi l hi hj e' e]
      exact h.two i j (by omega) (by omega) e' e
/-- Where there is no state four rounds are enough. -/
theorem doc_empty4 {l : List Int} (hl : okL l) (he : ovE l = true) : itF (fun f => l.getD f 0) 4 = none := by
  cases e4 : itF (fun f => l.getD f 0) 4 with
  | none => rfl
  | some R4 =>
    obtain ⟨R3, b3, e3, _⟩ := itF_succ e4
    obtain ⟨R2, b2, e2, _⟩ := itF_succ e3
    obtain ⟨R1, b1, e1, _⟩ := itF_succ e2
    have e0 : itF (fun f => l.getD f 0) 0 = some (fun f => l.getD f 0) := rfl
    have hR := hi_lay hl
    obtain ⟨v, hv⟩ := four (itF_rd hR e0 e1) (itF_rd hR e1 e2) (itF_rd hR e2 e3) (itF_rd hR e3 e4) (fun f hf => by
      rcases isB_or (hl.2 f hf) with q | q
      · exact .inl q
      · exact .inr q.2)
    have := (sk_lay hv).sharp.some
    rw [show conF (sharp (lay l 32)) 8 = ovE l from rfl, he] at this
    cases this

end Go.Proofs.YtffajooegiempaaDoor

