import Derived.Test.YtffajooegiempaaDoorJ4
namespace Go.Proofs.YtffajooegiempaaDoor
open Go.RowKit
variable {w : World}

theorem nst_no {l : List Int} {j : Nat} (h : nst l j = none) : ∀ d, nst l (j + d) = none
  | 0 => h
  | d + 1 => by
    show (match nst l (j + d) with | none => none | some (x, y) => _) = none
    rw [nst_no h d]
theorem nst_4 {l : List Int} {j : Nat} (hj : j < 4) (h : nst l (j + 1) = none) : numV l = -1 := by
  have := nst_no h (3 - j)
  rw [show j + 1 + (3 - j) = 4 by omega] at this
  unfold numV
  rw [this]
theorem nst_step {l : List Int} {j : Nat} {x y : Int} (h : nst l j = some (x, y)) : nst l (j + 1) = if gAt l j < -1 ∨ gAt l j > 1 ∨ (gAt l j ≠ 0 ∧ 0 ≤ y) then none else some (if gAt l j ≠ 0 ∧ x < 0 then (j : Int) else x, if gAt l j ≠ 0 ∧ 0 ≤ x then (j : Int) else y) := by
  rw [nst, h]
theorem numV_of {l : List Int} {x y : Int} (h : nst l 4 = some (x, y)) : numV l = if x < 0 then -1 else if y < 0 then 2 * x + (1 - gAt l x.toNat).tdiv 2 else 8 + 4 * ((x * (8 - x - 1)).tdiv 2 + y - x - 1) + (1 - gAt l x.toNat).tdiv 2 * 2 + (1 - gAt l y.toNat).tdiv 2 := by
  unfold numV
  rw [h]

theorem ret_eq {a b : Int} (h : a = b) : Ending.returned (.int .i64 a) = .returned (.int .i64 b) := by rw [h]

set_option maxRecDepth 100000 in
set_option maxHeartbeats 1600000 in
theorem r_number (u : Value) (l : List Int) (hl : l.length = 4) (hu : Reads w u l) (hv : ∀ i, i < 4 → -5000 ≤ gAt l i ∧ gAt l i ≤ 5000) :
    Calls Tryd.prog 89 #[u] w fun e w' => e = .returned (.int .i64 (numV l)) ∧ Below w.heap.size w w' := by
  obtain ⟨au, cu, rfl, hcu, h0⟩ := hu
  obtain ⟨p, off, rfl, hp, hcell⟩ := h0 (by omega)
  have HC : Hid (∀ i, i < 4 → w.cell? ⟨p, off + i, none⟩ = some (.int .i64 (gAt l i))) := fun i hi => hcell i (by omega)
  rw [hl]
  clear h0 hcell hcu
  go_enter Tryd.func89, Tryd.ntmps89
  go_wp2_with fail
  go_loopw [3, 4, 5] (fun xv yv i wr => ∃ (j : Nat) (x y : Int), j ≤ 4 ∧ xv = .int .i64 x ∧ yv = .int .i64 y ∧ i = .int .i64 j ∧ wr = w ∧ Hid (nst l j = some (x, y)) ∧ -1 ≤ x ∧ x < 4 ∧ -1 ≤ y ∧ y < 4) (fun _ _ i _ => 4 - (intOf i).toNat)
  case atStart => exact ⟨0, -1, -1, by omega, rfl, rfl, rfl, rfl, rfl, by omega, by omega, by omega, by omega⟩
  case round =>
    obtain ⟨j, x, y, hj, rfl, rfl, rfl, rfl, HR, x1, x2, y1, y2⟩ := hrel
    by_cases hlt : j < 4
    · have hji : (j : Int) < 4 := by omega
      have cx := HC.out j hlt
      have hb := hv j hlt
      have HStep : Hid (nst l (j + 1) = _) := nst_step HR.out
      generalize gAt l j = a at *
      by_cases e1 : a < -1
      · have HF : Hid (numV l = -1) := nst_4 hlt ((HStep.out).trans (if_pos (by exact .inl e1)))
        go_wp2_with fail
        go_ret
        exact ⟨by rw [HF.out]; rfl, Below.refl _ _⟩
      · by_cases e2 : 1 < a
        · have HF : Hid (numV l = -1) := nst_4 hlt ((HStep.out).trans (if_pos (by exact .inr (.inl e2))))
          go_wp2_with fail
          go_ret
          exact ⟨by rw [HF.out]; rfl, Below.refl _ _⟩
        · by_cases e3 : a = 0
          · have e3' : (a != 0) = false := by rw [e3]; rfl
            have HX : Hid (nst l (j + 1) = some (x, y)) := by
              show nst l (j + 1) = _
              rw [HStep.out, if_neg (by omega), if_neg (fun q => q.1 e3), if_neg (fun q => q.1 e3)]
            go_wp2_with fail
            go_roundw
            case rel => exact ⟨j + 1, _, _, by omega, rfl, rfl, by go_num, by simp, (HX.out), by omega, by omega, by omega, by omega⟩
            case measure => simp [intOf]; omega
          · have e3' : (a != 0) = true := by rw [bne_iff_ne]; exact e3
            by_cases e4 : 0 ≤ y
            · have HF : Hid (numV l = -1) := nst_4 hlt ((HStep.out).trans (if_pos (by exact .inr (.inr ⟨e3, e4⟩))))
              go_wp2_with fail
              go_ret
              exact ⟨by rw [HF.out]; rfl, Below.refl _ _⟩
            · by_cases e5 : 0 ≤ x
              · have HX : Hid (nst l (j + 1) = some (x, (j : Int))) := by
                  show nst l (j + 1) = _
                  rw [HStep.out, if_neg (by omega), if_neg (fun q => by omega), if_pos ⟨e3, e5⟩]
                go_wp2_with fail
                go_roundw
                case rel => exact ⟨j + 1, _, _, by omega, rfl, rfl, by go_num, by simp, (HX.out), by omega, by omega, by omega, by omega⟩
                case measure => simp [intOf]; omega
              · have HX : Hid (nst l (j + 1) = some ((j : Int), y)) := by
                  show nst l (j + 1) = _
                  rw [HStep.out, if_neg (by omega), if_pos ⟨e3, by omega⟩, if_neg (fun q => by omega)]
                go_wp2_with fail
                go_roundw
                case rel => exact ⟨j + 1, _, _, by omega, rfl, rfl, by go_num, by simp, (HX.out), by omega, by omega, by omega, by omega⟩
                case measure => simp [intOf]; omega
    · have hj4 : j = 4 := by omega
      subst hj4
      have HN : Hid (numV l = _) := numV_of HR.out
      by_cases e1 : x < 0
      · have HF : Hid (numV l = -1) := HN.out.trans (if_pos e1)
        go_wp2_with fail
        go_ret
        exact ⟨by rw [HF.out]; rfl, Below.refl _ _⟩
      · by_cases e2 : y < 0
        · rcases (show x = 0 ∨ x = 1 ∨ x = 2 ∨ x = 3 by omega) with rfl | rfl | rfl | rfl
          · have cx := HC.out 0 (by omega)
            have hb := hv 0 (by omega)
            have HF : Hid (numV l = 2 * 0 + (1 - gAt l 0).tdiv 2) := HN.out.trans ((if_neg (by omega)).trans (if_pos e2))
            try rw [Nat.add_zero] at cx
            generalize gAt l 0 = a at *
            have ta := tdiv2_le (1 - a)
            go_wp2_with fail
            go_ret
            exact ⟨by rw [HF.out]; exact ret_eq (by omega), Below.refl _ _⟩
          · have cx := HC.out 1 (by omega)
            have hb := hv 1 (by omega)
            have HF : Hid (numV l = 2 * 1 + (1 - gAt l 1).tdiv 2) := HN.out.trans ((if_neg (by omega)).trans (if_pos e2))
            try rw [Nat.add_zero] at cx
            generalize gAt l 1 = a at *
            have ta := tdiv2_le (1 - a)
            go_wp2_with fail
            go_ret
            exact ⟨by rw [HF.out]; exact ret_eq (by omega), Below.refl _ _⟩
          · have cx := HC.out 2 (by omega)
            have hb := hv 2 (by omega)
            have HF : Hid (numV l = 2 * 2 + (1 - gAt l 2).tdiv 2) := HN.out.trans ((if_neg (by omega)).trans (if_pos e2))
            try rw [Nat.add_zero] at cx
            generalize gAt l 2 = a at *
            have ta := tdiv2_le (1 - a)
            go_wp2_with fail
            go_ret
            exact ⟨by rw [HF.out]; exact ret_eq (by omega), Below.refl _ _⟩
          · have cx := HC.out 3 (by omega)
            have hb := hv 3 (by omega)
            have HF : Hid (numV l = 2 * 3 + (1 - gAt l 3).tdiv 2) := HN.out.trans ((if_neg (by omega)).trans (if_pos e2))
            try rw [Nat.add_zero] at cx
            generalize gAt l 3 = a at *
            have ta := tdiv2_le (1 - a)
            go_wp2_with fail
            go_ret
            exact ⟨by rw [HF.out]; exact ret_eq (by omega), Below.refl _ _⟩
        · rcases (show x = 0 ∨ x = 1 ∨ x = 2 ∨ x = 3 by omega) with rfl | rfl | rfl | rfl
          · rcases (show y = 0 ∨ y = 1 ∨ y = 2 ∨ y = 3 by omega) with rfl | rfl | rfl | rfl
            · have cx := HC.out 0 (by omega)
              have hb := hv 0 (by omega)
              have cy := HC.out 0 (by omega)
              have hc := hv 0 (by omega)
              have HF : Hid (numV l = 8 + 4 * (-1) + (1 - gAt l 0).tdiv 2 * 2 + (1 - gAt l 0).tdiv 2) := HN.out.trans ((if_neg (by omega)).trans (if_neg (by omega)))
              try rw [Nat.add_zero] at cx
              try rw [Nat.add_zero] at cy
              generalize gAt l 0 = a at *
              generalize gAt l 0 = c at *
              have ta := tdiv2_le (1 - a)
              have tc := tdiv2_le (1 - c)
              go_wp2_with fail
              go_quiet (fail)
              go_wp2_with fail
              go_ret
              exact ⟨by rw [HF.out]; exact ret_eq (by omega), below_drewN (Below.refl _ _) _⟩
            · have cx := HC.out 0 (by omega)
              have hb := hv 0 (by omega)
              have cy := HC.out 1 (by omega)
              have hc := hv 1 (by omega)
              have HF : Hid (numV l = 8 + 4 * (0) + (1 - gAt l 0).tdiv 2 * 2 + (1 - gAt l 1).tdiv 2) := HN.out.trans ((if_neg (by omega)).trans (if_neg (by omega)))
              try rw [Nat.add_zero] at cx
              try rw [Nat.add_zero] at cy
              generalize gAt l 0 = a at *
              generalize gAt l 1 = c at *
              have ta := tdiv2_le (1 - a)
              have tc := tdiv2_le (1 - c)
              go_wp2_with fail
              go_quiet (fail)
              go_wp2_with fail
              go_ret
              exact ⟨by rw [HF.out]; exact ret_eq (by omega), below_drewN (Below.refl _ _) _⟩
            · have cx := HC.out 0 (by omega)
              have hb := hv 0 (by omega)
              have cy := HC.out 2 (by omega)
              have hc := hv 2 (by omega)
              have HF : Hid (numV l = 8 + 4 * (1) + (1 - gAt l 0).tdiv 2 * 2 + (1 - gAt l 2).tdiv 2) := HN.out.trans ((if_neg (by omega)).trans (if_neg (by omega)))
              try rw [Nat.add_zero] at cx
              try rw [Nat.add_zero] at cy
              generalize gAt l 0 = a at *
              generalize gAt l 2 = c at *
              have ta := tdiv2_le (1 - a)
              have tc := tdiv2_le (1 - c)
              go_wp2_with fail
              go_quiet (fail)
              go_wp2_with fail
              go_ret
              exact ⟨by rw [HF.out]; exact ret_eq (by omega), below_drewN (Below.refl _ _) _⟩
            · have cx := HC.out 0 (by omega)
              have hb := hv 0 (by omega)
              have cy := HC.out 3 (by omega)
              have hc := hv 3 (by omega)
              have HF : Hid (numV l = 8 + 4 * (2) + (1 - gAt l 0).tdiv 2 * 2 + (1 - gAt l 3).tdiv 2) := HN.out.trans ((if_neg (by omega)).trans (if_neg (by omega)))
              try rw [Nat.add_zero] at cx
              try rw [Nat.add_zero] at cy
              generalize gAt l 0 = a at *
              generalize gAt l 3 = c at *
              have ta := tdiv2_le (1 - a)
              have tc := tdiv2_le (1 - c)
              go_wp2_with fail
              go_quiet (fail)
              go_wp2_with fail
              go_ret
              exact ⟨by rw [HF.out]; exact ret_eq (by omega), below_drewN (Below.refl _ _) _⟩
          · rcases (show y = 0 ∨ y = 1 ∨ y = 2 ∨ y = 3 by omega) with rfl | rfl | rfl | rfl
            · have cx := HC.out 1 (by omega)
              have hb := hv 1 (by omega)
              have cy := HC.out 0 (by omega)
              have hc := hv 0 (by omega)
              have HF : Hid (numV l = 8 + 4 * (1) + (1 - gAt l 1).tdiv 2 * 2 + (1 - gAt l 0).tdiv 2) := HN.out.trans ((if_neg (by omega)).trans (if_neg (by omega)))
              try rw [Nat.add_zero] at cx
              try rw [Nat.add_zero] at cy
              generalize gAt l 1 = a at *
              generalize gAt l 0 = c at *
              have ta := tdiv2_le (1 - a)
              have tc := tdiv2_le (1 - c)
              go_wp2_with fail
              go_quiet (fail)
              go_wp2_with fail
              go_ret
              exact ⟨by rw [HF.out]; exact ret_eq (by omega), below_drewN (Below.refl _ _) _⟩
            · have cx := HC.out 1 (by omega)
              have hb := hv 1 (by omega)
              have cy := HC.out 1 (by omega)
              have hc := hv 1 (by omega)
              have HF : Hid (numV l = 8 + 4 * (2) + (1 - gAt l 1).tdiv 2 * 2 + (1 - gAt l 1).tdiv 2) := HN.out.trans ((if_neg (by omega)).trans (if_neg (by omega)))
              try rw [Nat.add_zero] at cx
              try rw [Nat.add_zero] at cy
              generalize gAt l 1 = a at *
              generalize gAt l 1 = c at *
              have ta := tdiv2_le (1 - a)
              have tc := tdiv2_le (1 - c)
              go_wp2_with fail
              go_quiet (fail)
              go_wp2_with fail
              go_ret
              exact ⟨by rw [HF.out]; exact ret_eq (by omega), below_drewN (Below.refl _ _) _⟩
            · have cx := HC.out 1 (by omega)
              have hb := hv 1 (by omega)
              have cy := HC.out 2 (by omega)
              have hc := hv 2 (by omega)
              have HF : Hid (numV l = 8 + 4 * (3) + (1 - gAt l 1).tdiv 2 * 2 + (1 - gAt l 2).tdiv 2) := HN.out.trans ((if_neg (by omega)).trans (if_neg (by omega)))
              try rw [Nat.add_zero] at cx
              try rw [Nat.add_zero] at cy
              generalize gAt l 1 = a at *
              generalize gAt l 2 = c at *
              have ta := tdiv2_le (1 - a)
              have tc := tdiv2_le (1 - c)
              go_wp2_with fail
              go_quiet (fail)
              go_wp2_with fail
              go_ret
              exact ⟨by rw [HF.out]; exact ret_eq (by omega), below_drewN (Below.refl _ _) _⟩
            · have cx := HC.out 1 (by omega)
              have hb := hv 1 (by omega)
              have cy := HC.out 3 (by omega)
              have hc := hv 3 (by omega)
              have HF : Hid (numV l = 8 + 4 * (4) + (1 - gAt l 1).tdiv 2 * 2 + (1 - gAt l 3).tdiv 2) := HN.out.trans ((if_neg (by omega)).trans (if_neg (by omega)))
              try rw [Nat.add_zero] at cx
              try rw [Nat.add_zero] at cy
              generalize gAt l 1 = a at *
              generalize gAt l 3 = c at *
              have ta := tdiv2_le (1 - a)
              have tc := tdiv2_le (1 - c)
              go_wp2_with fail
              go_quiet (fail)
              go_wp2_with fail
              go_ret
              exact ⟨by rw [HF.out]; exact ret_eq (by omega), below_drewN (Below.refl _ _) _⟩
          · rcases (show y = 0 ∨ y = 1 ∨ y = 2 ∨ y = 3 by omega) with rfl | rfl | rfl | rfl
            · have cx := HC.out 2 (by omega)
              have hb := hv 2 (by omega)
              have cy := HC.out 0 (by omega)
              have hc := hv 0 (by omega)
              have HF : Hid (numV l = 8 + 4 * (2) + (1 - gAt l 2).tdiv 2 * 2 + (1 - gAt l 0).tdiv 2) := HN.out.trans ((if_neg (by omega)).trans (if_neg (by omega)))
              try rw [Nat.add_zero] at cx
              try rw [Nat.add_zero] at cy
              generalize gAt l 2 = a at *
              generalize gAt l 0 = c at *
              have ta := tdiv2_le (1 - a)
              have tc := tdiv2_le (1 - c)
              go_wp2_with fail
              go_quiet (fail)
              go_wp2_with fail
              go_ret
              exact ⟨by rw [HF.out]; exact ret_eq (by omega), below_drewN (Below.refl _ _) _⟩
            · have cx := HC.out 2 (by omega)
              have hb := hv 2 (by omega)
              have cy := HC.out 1 (by omega)
              have hc := hv 1 (by omega)
              have HF : Hid (numV l = 8 + 4 * (3) + (1 - gAt l 2).tdiv 2 * 2 + (1 - gAt l 1).tdiv 2) := HN.out.trans ((if_neg (by omega)).trans (if_neg (by omega)))
              try rw [Nat.add_zero] at cx
              try rw [Nat.add_zero] at cy
              generalize gAt l 2 = a at *
              generalize gAt l 1 = c at *
              have ta := tdiv2_le (1 - a)
              have tc := tdiv2_le (1 - c)
              go_wp2_with fail
              go_quiet (fail)
              go_wp2_with fail
              go_ret
              exact ⟨by rw [HF.out]; exact ret_eq (by omega), below_drewN (Below.refl _ _) _⟩
            · have cx := HC.out 2 (by omega)
              have hb := hv 2 (by omega)
              have cy := HC.out 2 (by omega)
              have hc := hv 2 (by omega)
              have HF : Hid (numV l = 8 + 4 * (4) + (1 - gAt l 2).tdiv 2 * 2 + (1 - gAt l 2).tdiv 2) := HN.out.trans ((if_neg (by omega)).trans (if_neg (by omega)))
              try rw [Nat.add_zero] at cx
              try rw [Nat.add_zero] at cy
              generalize gAt l 2 = a at *
              generalize gAt l 2 = c at *
              have ta := tdiv2_le (1 - a)
              have tc := tdiv2_le (1 - c)
              go_wp2_with fail
              go_quiet (fail)
              go_wp2_with fail
              go_ret
              exact ⟨by rw [HF.out]; exact ret_eq (by omega), below_drewN (Below.refl _ _) _⟩
            · have cx := HC.out 2 (by omega)
              have hb := hv 2 (by omega)
              have cy := HC.out 3 (by omega)
              have hc := hv 3 (by omega)
              have HF : Hid (numV l = 8 + 4 * (5) + (1 - gAt l 2).tdiv 2 * 2 + (1 - gAt l 3).tdiv 2) := HN.out.trans ((if_neg (by omega)).trans (if_neg (by omega)))
              try rw [Nat.add_zero] at cx
              try rw [Nat.add_zero] at cy
              generalize gAt l 2 = a at *
              generalize gAt l 3 = c at *
              have ta := tdiv2_le (1 - a)
              have tc := tdiv2_le (1 - c)
              go_wp2_with fail
              go_quiet (fail)
              go_wp2_with fail
              go_ret
              exact ⟨by rw [HF.out]; exact ret_eq (by omega), below_drewN (Below.refl _ _) _⟩
          · rcases (show y = 0 ∨ y = 1 ∨ y = 2 ∨ y = 3 by omega) with rfl | rfl | rfl | rfl
            · have cx := HC.out 3 (by omega)
              have hb := hv 3 (by omega)
              have cy := HC.out 0 (by omega)
              have hc := hv 0 (by omega)
              have HF : Hid (numV l = 8 + 4 * (2) + (1 - gAt l 3).tdiv 2 * 2 + (1 - gAt l 0).tdiv 2) := HN.out.trans ((if_neg (by omega)).trans (if_neg (by omega)))
              try rw [Nat.add_zero] at cx
              try rw [Nat.add_zero] at cy
              generalize gAt l 3 = a at *
              generalize gAt l 0 = c at *
              have ta := tdiv2_le (1 - a)
              have tc := tdiv2_le (1 - c)
              go_wp2_with fail
              go_quiet (fail)
              go_wp2_with fail
              go_ret
              exact ⟨by rw [HF.out]; exact ret_eq (by omega), below_drewN (Below.refl _ _) _⟩
            · have cx := HC.out 3 (by omega)
              have hb := hv 3 (by omega)
              have cy := HC.out 1 (by omega)
              have hc := hv 1 (by omega)
              have HF : Hid (numV l = 8 + 4 * (3) + (1 - gAt l 3).tdiv 2 * 2 + (1 - gAt l 1).tdiv 2) := HN.out.trans ((if_neg (by omega)).trans (if_neg (by omega)))
              try rw [Nat.add_zero] at cx
              try rw [Nat.add_zero] at cy
              generalize gAt l 3 = a at *
              generalize gAt l 1 = c at *
              have ta := tdiv2_le (1 - a)
              have tc := tdiv2_le (1 - c)
              go_wp2_with fail
              go_quiet (fail)
              go_wp2_with fail
              go_ret
              exact ⟨by rw [HF.out]; exact ret_eq (by omega), below_drewN (Below.refl _ _) _⟩
            · have cx := HC.out 3 (by omega)
              have hb := hv 3 (by omega)
              have cy := HC.out 2 (by omega)
              have hc := hv 2 (by omega)
              have HF : Hid (numV l = 8 + 4 * (4) + (1 - gAt l 3).tdiv 2 * 2 + (1 - gAt l 2).tdiv 2) := HN.out.trans ((if_neg (by omega)).trans (if_neg (by omega)))
              try rw [Nat.add_zero] at cx
              try rw [Nat.add_zero] at cy
              generalize gAt l 3 = a at *
              generalize gAt l 2 = c at *
              have ta := tdiv2_le (1 - a)
              have tc := tdiv2_le (1 - c)
              go_wp2_with fail
              go_quiet (fail)
              go_wp2_with fail
              go_ret
              exact ⟨by rw [HF.out]; exact ret_eq (by omega), below_drewN (Below.refl _ _) _⟩
            · have cx := HC.out 3 (by omega)
              have hb := hv 3 (by omega)
              have cy := HC.out 3 (by omega)
              have hc := hv 3 (by omega)
              have HF : Hid (numV l = 8 + 4 * (5) + (1 - gAt l 3).tdiv 2 * 2 + (1 - gAt l 3).tdiv 2) := HN.out.trans ((if_neg (by omega)).trans (if_neg (by omega)))
              try rw [Nat.add_zero] at cx
              try rw [Nat.add_zero] at cy
              generalize gAt l 3 = a at *
              generalize gAt l 3 = c at *
              have ta := tdiv2_le (1 - a)
              have tc := tdiv2_le (1 - c)
              go_wp2_with fail
              go_quiet (fail)
              go_wp2_with fail
              go_ret
              exact ⟨by rw [HF.out]; exact ret_eq (by omega), below_drewN (Below.refl _ _) _⟩

end Go.Proofs.YtffajooegiempaaDoor

namespace Go.Proofs.YtffajooegiempaaDoor
open Go.RowKit
variable {w : World}

abbrev tNk : TypeId := 3
/-- The two variables of a pair. -/
def px (k : Nat) : Nat := [0, 0, 0, 1, 1, 2].getD k 0
def py (k : Nat) : Nat := [1, 2, 3, 2, 3, 3].getD k 0
def fst (k : Nat) (sx sy : Int) (t : Nat) : List Int := if k < t then ([0, 0, 0, 0].set (px k) sx).set (py k) sy else [0, 0, 0, 0]

set_option maxRecDepth 100000 in
set_option maxHeartbeats 1600000 in
theorem k_form_lo (f : Nat) (hf : f < 8) : Calls Tryd.prog 82 #[.int .i64 (f : Int)] w fun e w' => e = .returned (.slice (some ⟨w.heap.size, 0, none⟩) 4 4) ∧ At w' w.heap.size (ic (frm f)) tNk ∧ Below w.heap.size w w' := by
  have hmk : ∀ w, (Instr.makeSlice 22 (.int .i64 4) (.int .i64 4)).run Tryd.prog w = .ok (.slice (some ⟨w.heap.size, 0, none⟩) 4 4) (w.alloc (.cells #[.int .i64 0, .int .i64 0, .int .i64 0, .int .i64 0] tNk)) := fun _ => by kernel_rfl
  have HB : Hid (∀ o, Below w.heap.size w (w.alloc o)) := fun o => (Below.refl _ _).alloc (Nat.le_refl _) _
  rcases (show f = 0 ∨ f = 1 ∨ f = 2 ∨ f = 3 ∨ f = 4 ∨ f = 5 ∨ f = 6 ∨ f = 7 by omega) with rfl | rfl | rfl | rfl | rfl | rfl | rfl | rfl
  all_goals
    go_enter Tryd.func82, Tryd.ntmps82
    go_wp2_with fail
    go_ret
    refine ⟨rfl, ?_, ?_⟩
    · exact At.new _ _ _
    · exact HB.out _

theorem form_parts : ∀ f : Nat, f < 32 → 8 ≤ f → ((f : Int) - 8).tdiv 4 = (((f - 8) / 4 : Nat) : Int) ∧ (((f : Int) - 8).tmod 4).tdiv 2 = (((f - 8) % 4 / 2 : Nat) : Int) ∧ ((f : Int) - 8).tmod 2 = (((f - 8) % 2 : Nat) : Int) ∧ (f - 8) / 4 < 6 ∧ (f - 8) % 4 / 2 < 2 ∧ (f - 8) % 2 < 2 ∧
    frm f = fst ((f - 8) / 4) (1 - (((f - 8) % 4 / 2 : Nat) : Int) * 2) (1 - (((f - 8) % 2 : Nat) : Int) * 2) 6 := by decide

/-- How many pairs come ahead of x. -/
def tx (x : Nat) : Nat := [0, 3, 5, 6, 6].getD x 6
set_option maxRecDepth 100000 in
set_option maxHeartbeats 3200000 in
theorem k_form_hi (f : Nat) (hf : f < 32) (hf8 : 8 ≤ f) : Calls Tryd.prog 82 #[.int .i64 (f : Int)] w fun e w' => e = .returned (.slice (some ⟨w.heap.size, 0, none⟩) 4 4) ∧ At w' w.heap.size (ic (frm f)) tNk ∧ Below w.heap.size w w' := by
  have hmk : ∀ w, (Instr.makeSlice 22 (.int .i64 4) (.int .i64 4)).run Tryd.prog w = .ok (.slice (some ⟨w.heap.size, 0, none⟩) 4 4) (w.alloc (.cells #[.int .i64 0, .int .i64 0, .int .i64 0, .int .i64 0] tNk)) := fun _ => by kernel_rfl
  have HA : Hid (At (w.alloc (.cells #[.int .i64 0, .int .i64 0, .int .i64 0, .int .i64 0] tNk)) w.heap.size (ic [0, 0, 0, 0]) tNk) := At.new _ _ _
  have HB : Hid (∀ o, Below w.heap.size w (w.alloc o)) := fun o => (Below.refl _ _).alloc (Nat.le_refl _) _
  obtain ⟨p1, p2, p3, p4, p5, p6, p7⟩ := form_parts f hf hf8
  have HF : Hid (_ = _) := p7
  have hfi : ¬ (f : Int) < 8 := by omega
  have hfu : (f : Int) < 32 := by omega
  generalize (f - 8) / 4 = k at *
  obtain ⟨a, ha⟩ : ∃ a : Int, a = (((f - 8) % 4 / 2 : Nat) : Int) := ⟨_, rfl⟩
  obtain ⟨c, hc⟩ : ∃ c : Int, c = (((f - 8) % 2 : Nat) : Int) := ⟨_, rfl⟩
  have HA2 : Hid (((f : Int) - 8) % 4 / 2 = a) := by show _ = a; omega
  rw [← ha] at p2 HF
  rw [← hc] at p3 HF
  have a0 : 0 ≤ a := by omega
  have a1 : a ≤ 1 := by omega
  have c0' : 0 ≤ c := by omega
  have c1' : c ≤ 1 := by omega
  have HS : Hid (fst k (1 - a * 2) (1 - c * 2) 0 = [0, 0, 0, 0]) := by show fst _ _ _ _ = _; unfold fst; rw [if_neg (by omega)]
  clear ha hc p5 p6 p7 hf
  go_enter Tryd.func82, Tryd.ntmps82
  go_wp2_with fail
  go_loopw [4, 5] (fun kv xv wr => ∃ (x : Nat), x ≤ 4 ∧ xv = .int .i64 x ∧ kv = .int .i64 ((k : Int) - ((tx x : Nat) : Int)) ∧ Hid (At wr w.heap.size (ic (fst k (1 - a * 2) (1 - c * 2) (tx x))) tNk ∧ Below w.heap.size w wr)) (fun _ xv _ => 4 - (intOf xv).toNat)
  case atStart => exact ⟨0, by omega, rfl, by show Value.int .i64 (k : Int) = .int .i64 ((k : Int) - ((0 : Nat) : Int)); rw [show ((0 : Nat) : Int) = 0 from rfl, Int.sub_zero], by show At _ _ (ic (fst k (1 - a * 2) (1 - c * 2) 0)) _; rw [HS.out]; exact HA.out, HB.out _⟩
  case round =>
    obtain ⟨x, hx, rfl, rfl, HR⟩ := hrel
    rcases (show x = 0 ∨ x = 1 ∨ x = 2 ∨ x = 3 ∨ x = 4 by omega) with rfl | rfl | rfl | rfl | rfl
    · have hx4 : (0 : Nat) < 4 := by omega
      obtain ⟨w4, rfl⟩ : ∃ w4, w4 = wr := ⟨_, rfl⟩
      go_wp2_with fail
      go_loopw [4, 6] (fun kv yv wr => ∃ (y : Nat), 0 + 1 ≤ y ∧ y ≤ 4 ∧ yv = .int .i64 y ∧ kv = .int .i64 ((k : Int) - ((0 + (y - 0 - 1) : Nat) : Int)) ∧ Hid (At wr w.heap.size (ic (fst k (1 - a * 2) (1 - c * 2) (0 + (y - 0 - 1)))) tNk ∧ Below w.heap.size w wr)) (fun _ yv _ => 4 - (intOf yv).toNat)
      case atStart => exact ⟨1, by omega, by omega, rfl, rfl, HR.out⟩
      case round =>
        obtain ⟨y, hy1, hy2, rfl, rfl, HQ⟩ := hrel
        by_cases hlt : y < 4
        · rcases (show y = 1 ∨ y = 2 ∨ y = 3 by omega) with rfl | rfl | rfl
          · by_cases hk : k = 0
            · subst hk
              have c0 := HQ.out.1.cell 0
              have c1 := HQ.out.1.cell 1
              have c2 := HQ.out.1.cell 2
              have c3 := HQ.out.1.cell 3
              have cf := HQ.out.1.free
              have hbl := HQ.out.1.lt
              have e00 : fst 0 (1 - a * 2) (1 - c * 2) 0 = [0, 0, 0, 0] := rfl
              rw [e00] at c0 c1 c2 c3
              simp [ic] at c0 c1 c2 c3
              go_wp2_with fail
              go_roundw
              case rel =>
                refine ⟨1 + 1, by omega, by omega, rfl, rfl, ?_, ?_⟩
                · try rw [HA2.out]
                  exact (HQ.out.1.put (px 0) (.int .i64 (1 - a * 2))).put (py 0) (.int .i64 (1 - c * 2))
                · exact (HQ.out.2.setCell (by show w.heap.size ≤ w.heap.size; omega) _).setCell (by show w.heap.size ≤ w.heap.size; omega) _
              case measure => simp [intOf]
            · have hkb : ((k : Int) - 0 == 0) = false := by rw [beq_eq_false_iff_ne]; omega
              have HE : Hid (fst k (1 - a * 2) (1 - c * 2) (0 + 1) = fst k (1 - a * 2) (1 - c * 2) 0) := by
                show fst _ _ _ _ = _
                unfold fst
                by_cases q : k < 0
                · rw [if_pos q, if_pos (by omega)]
                · rw [if_neg q, if_neg (by omega)]
              go_wp2_with fail
              go_roundw
              case rel =>
                refine ⟨1 + 1, by omega, by omega, rfl, ?_, ?_, HQ.out.2⟩
                · first | rfl | (congr 1; omega) | (congr 1; simp; omega)
                · show At _ _ (ic (fst k (1 - a * 2) (1 - c * 2) (0 + 1))) _
                  rw [HE.out]; exact HQ.out.1
              case measure => simp [intOf]
          · by_cases hk : k = 1
            · subst hk
              have c0 := HQ.out.1.cell 0
              have c1 := HQ.out.1.cell 1
              have c2 := HQ.out.1.cell 2
              have c3 := HQ.out.1.cell 3
              have cf := HQ.out.1.free
              have hbl := HQ.out.1.lt
              have e00 : fst 1 (1 - a * 2) (1 - c * 2) 1 = [0, 0, 0, 0] := rfl
              rw [e00] at c0 c1 c2 c3
              simp [ic] at c0 c1 c2 c3
              go_wp2_with fail
              go_roundw
              case rel =>
                refine ⟨2 + 1, by omega, by omega, rfl, rfl, ?_, ?_⟩
                · try rw [HA2.out]
                  exact (HQ.out.1.put (px 1) (.int .i64 (1 - a * 2))).put (py 1) (.int .i64 (1 - c * 2))
                · exact (HQ.out.2.setCell (by show w.heap.size ≤ w.heap.size; omega) _).setCell (by show w.heap.size ≤ w.heap.size; omega) _
              case measure => simp [intOf]
            · have hkb : ((k : Int) - 1 == 0) = false := by rw [beq_eq_false_iff_ne]; omega
              have HE : Hid (fst k (1 - a * 2) (1 - c * 2) (1 + 1) = fst k (1 - a * 2) (1 - c * 2) 1) := by
                show fst _ _ _ _ = _
                unfold fst
                by_cases q : k < 1
                · rw [if_pos q, if_pos (by omega)]
                · rw [if_neg q, if_neg (by omega)]
              go_wp2_with fail
              go_roundw
              case rel =>
                refine ⟨2 + 1, by omega, by omega, rfl, ?_, ?_, HQ.out.2⟩
                · first | rfl | (congr 1; omega) | (congr 1; simp; omega)
                · show At _ _ (ic (fst k (1 - a * 2) (1 - c * 2) (1 + 1))) _
                  rw [HE.out]; exact HQ.out.1
              case measure => simp [intOf]
          · by_cases hk : k = 2
            · subst hk
              have c0 := HQ.out.1.cell 0
              have c1 := HQ.out.1.cell 1
              have c2 := HQ.out.1.cell 2
              have c3 := HQ.out.1.cell 3
              have cf := HQ.out.1.free
              have hbl := HQ.out.1.lt
              have e00 : fst 2 (1 - a * 2) (1 - c * 2) 2 = [0, 0, 0, 0] := rfl
              rw [e00] at c0 c1 c2 c3
              simp [ic] at c0 c1 c2 c3
              go_wp2_with fail
              go_roundw
              case rel =>
                refine ⟨3 + 1, by omega, by omega, rfl, rfl, ?_, ?_⟩
                · try rw [HA2.out]
                  exact (HQ.out.1.put (px 2) (.int .i64 (1 - a * 2))).put (py 2) (.int .i64 (1 - c * 2))
                · exact (HQ.out.2.setCell (by show w.heap.size ≤ w.heap.size; omega) _).setCell (by show w.heap.size ≤ w.heap.size; omega) _
              case measure => simp [intOf]
            · have hkb : ((k : Int) - 2 == 0) = false := by rw [beq_eq_false_iff_ne]; omega
              have HE : Hid (fst k (1 - a * 2) (1 - c * 2) (2 + 1) = fst k (1 - a * 2) (1 - c * 2) 2) := by
                show fst _ _ _ _ = _
                unfold fst
                by_cases q : k < 2
                · rw [if_pos q, if_pos (by omega)]
                · rw [if_neg q, if_neg (by omega)]
              go_wp2_with fail
              go_roundw
              case rel =>
                refine ⟨3 + 1, by omega, by omega, rfl, ?_, ?_, HQ.out.2⟩
                · first | rfl | (congr 1; omega) | (congr 1; simp; omega)
                · show At _ _ (ic (fst k (1 - a * 2) (1 - c * 2) (2 + 1))) _
                  rw [HE.out]; exact HQ.out.1
              case measure => simp [intOf]
        · have hy4 : y = 4 := by omega
          subst hy4
          go_wp2_with fail
          go_roundw
          case rel => exact ⟨0 + 1, by omega, rfl, rfl, HQ.out⟩
          case measure => simp [intOf]
    · have hx4 : (1 : Nat) < 4 := by omega
      obtain ⟨w4, rfl⟩ : ∃ w4, w4 = wr := ⟨_, rfl⟩
      go_wp2_with fail
      go_loopw [4, 6] (fun kv yv wr => ∃ (y : Nat), 1 + 1 ≤ y ∧ y ≤ 4 ∧ yv = .int .i64 y ∧ kv = .int .i64 ((k : Int) - ((3 + (y - 1 - 1) : Nat) : Int)) ∧ Hid (At wr w.heap.size (ic (fst k (1 - a * 2) (1 - c * 2) (3 + (y - 1 - 1)))) tNk ∧ Below w.heap.size w wr)) (fun _ yv _ => 4 - (intOf yv).toNat)
      case atStart => exact ⟨2, by omega, by omega, rfl, rfl, HR.out⟩
      case round =>
        obtain ⟨y, hy1, hy2, rfl, rfl, HQ⟩ := hrel
        by_cases hlt : y < 4
        · rcases (show y = 2 ∨ y = 3 by omega) with rfl | rfl
          · by_cases hk : k = 3
            · subst hk
              have c0 := HQ.out.1.cell 0
              have c1 := HQ.out.1.cell 1
              have c2 := HQ.out.1.cell 2
              have c3 := HQ.out.1.cell 3
              have cf := HQ.out.1.free
              have hbl := HQ.out.1.lt
              have e00 : fst 3 (1 - a * 2) (1 - c * 2) 3 = [0, 0, 0, 0] := rfl
              rw [e00] at c0 c1 c2 c3
              simp [ic] at c0 c1 c2 c3
              go_wp2_with fail
              go_roundw
              case rel =>
                refine ⟨2 + 1, by omega, by omega, rfl, rfl, ?_, ?_⟩
                · try rw [HA2.out]
                  exact (HQ.out.1.put (px 3) (.int .i64 (1 - a * 2))).put (py 3) (.int .i64 (1 - c * 2))
                · exact (HQ.out.2.setCell (by show w.heap.size ≤ w.heap.size; omega) _).setCell (by show w.heap.size ≤ w.heap.size; omega) _
              case measure => simp [intOf]
            · have hkb : ((k : Int) - 3 == 0) = false := by rw [beq_eq_false_iff_ne]; omega
              have HE : Hid (fst k (1 - a * 2) (1 - c * 2) (3 + 1) = fst k (1 - a * 2) (1 - c * 2) 3) := by
                show fst _ _ _ _ = _
                unfold fst
                by_cases q : k < 3
                · rw [if_pos q, if_pos (by omega)]
                · rw [if_neg q, if_neg (by omega)]
              go_wp2_with fail
              go_roundw
              case rel =>
                refine ⟨2 + 1, by omega, by omega, rfl, ?_, ?_, HQ.out.2⟩
                · first | rfl | (congr 1; omega) | (congr 1; simp; omega)
                · show At _ _ (ic (fst k (1 - a * 2) (1 - c * 2) (3 + 1))) _
                  rw [HE.out]; exact HQ.out.1
              case measure => simp [intOf]
          · by_cases hk : k = 4
            · subst hk
              have c0 := HQ.out.1.cell 0
              have c1 := HQ.out.1.cell 1
              have c2 := HQ.out.1.cell 2
              have c3 := HQ.out.1.cell 3
              have cf := HQ.out.1.free
              have hbl := HQ.out.1.lt
              have e00 : fst 4 (1 - a * 2) (1 - c * 2) 4 = [0, 0, 0, 0] := rfl
              rw [e00] at c0 c1 c2 c3
              simp [ic] at c0 c1 c2 c3
              go_wp2_with fail
              go_roundw
              case rel =>
                refine ⟨3 + 1, by omega, by omega, rfl, rfl, ?_, ?_⟩
                · try rw [HA2.out]
                  exact (HQ.out.1.put (px 4) (.int .i64 (1 - a * 2))).put (py 4) (.int .i64 (1 - c * 2))
                · exact (HQ.out.2.setCell (by show w.heap.size ≤ w.heap.size; omega) _).setCell (by show w.heap.size ≤ w.heap.size; omega) _
              case measure => simp [intOf]
            · have hkb : ((k : Int) - 4 == 0) = false := by rw [beq_eq_false_iff_ne]; omega
              have HE : Hid (fst k (1 - a * 2) (1 - c * 2) (4 + 1) = fst k (1 - a * 2) (1 - c * 2) 4) := by
                show fst _ _ _ _ = _
                unfold fst
                by_cases q : k < 4
                · rw [if_pos q, if_pos (by omega)]
                · rw [if_neg q, if_neg (by omega)]
              go_wp2_with fail
              go_roundw
              case rel =>
                refine ⟨3 + 1, by omega, by omega, rfl, ?_, ?_, HQ.out.2⟩
                · first | rfl | (congr 1; omega) | (congr 1; simp; omega)
                · show At _ _ (ic (fst k (1 - a * 2) (1 - c * 2) (4 + 1))) _
                  rw [HE.out]; exact HQ.out.1
              case measure => simp [intOf]
        · have hy4 : y = 4 := by omega
          subst hy4
          go_wp2_with fail
          go_roundw
          case rel => exact ⟨1 + 1, by omega, rfl, rfl, HQ.out⟩
          case measure => simp [intOf]
    · have hx4 : (2 : Nat) < 4 := by omega
      obtain ⟨w4, rfl⟩ : ∃ w4, w4 = wr := ⟨_, rfl⟩
      go_wp2_with fail
      go_loopw [4, 6] (fun kv yv wr => ∃ (y : Nat), 2 + 1 ≤ y ∧ y ≤ 4 ∧ yv = .int .i64 y ∧ kv = .int .i64 ((k : Int) - ((5 + (y - 2 - 1) : Nat) : Int)) ∧ Hid (At wr w.heap.size (ic (fst k (1 - a * 2) (1 - c * 2) (5 + (y - 2 - 1)))) tNk ∧ Below w.heap.size w wr)) (fun _ yv _ => 4 - (intOf yv).toNat)
      case atStart => exact ⟨3, by omega, by omega, rfl, rfl, HR.out⟩
      case round =>
        obtain ⟨y, hy1, hy2, rfl, rfl, HQ⟩ := hrel
        by_cases hlt : y < 4
        · obtain rfl : y = 3 := by omega
          by_cases hk : k = 5
          · subst hk
            have c0 := HQ.out.1.cell 0
            have c1 := HQ.out.1.cell 1
            have c2 := HQ.out.1.cell 2
            have c3 := HQ.out.1.cell 3
            have cf := HQ.out.1.free
            have hbl := HQ.out.1.lt
            have e00 : fst 5 (1 - a * 2) (1 - c * 2) 5 = [0, 0, 0, 0] := rfl
            rw [e00] at c0 c1 c2 c3
            simp [ic] at c0 c1 c2 c3
            go_wp2_with fail
            go_roundw
            case rel =>
              refine ⟨3 + 1, by omega, by omega, rfl, rfl, ?_, ?_⟩
              · try rw [HA2.out]
                exact (HQ.out.1.put (px 5) (.int .i64 (1 - a * 2))).put (py 5) (.int .i64 (1 - c * 2))
              · exact (HQ.out.2.setCell (by show w.heap.size ≤ w.heap.size; omega) _).setCell (by show w.heap.size ≤ w.heap.size; omega) _
            case measure => simp [intOf]
          · have hkb : ((k : Int) - 5 == 0) = false := by rw [beq_eq_false_iff_ne]; omega
            have HE : Hid (fst k (1 - a * 2) (1 - c * 2) (5 + 1) = fst k (1 - a * 2) (1 - c * 2) 5) := by
              show fst _ _ _ _ = _
              unfold fst
              by_cases q : k < 5
              · rw [if_pos q, if_pos (by omega)]
              · rw [if_neg q, if_neg (by omega)]
            go_wp2_with fail
            go_roundw
            case rel =>
              refine ⟨3 + 1, by omega, by omega, rfl, ?_, ?_, HQ.out.2⟩
              · first | rfl | (congr 1; omega) | (congr 1; simp; omega)
              · show At _ _ (ic (fst k (1 - a * 2) (1 - c * 2) (5 + 1))) _
                rw [HE.out]; exact HQ.out.1
            case measure => simp [intOf]
        · have hy4 : y = 4 := by omega
          subst hy4
          go_wp2_with fail
          go_roundw
          case rel => exact ⟨2 + 1, by omega, rfl, rfl, HQ.out⟩
          case measure => simp [intOf]
    · have hx4 : (3 : Nat) < 4 := by omega
      obtain ⟨w4, rfl⟩ : ∃ w4, w4 = wr := ⟨_, rfl⟩
      go_wp2_with fail
      go_loopw [4, 6] (fun kv yv wr => ∃ (y : Nat), 3 + 1 ≤ y ∧ y ≤ 4 ∧ yv = .int .i64 y ∧ kv = .int .i64 ((k : Int) - ((6 + (y - 3 - 1) : Nat) : Int)) ∧ Hid (At wr w.heap.size (ic (fst k (1 - a * 2) (1 - c * 2) (6 + (y - 3 - 1)))) tNk ∧ Below w.heap.size w wr)) (fun _ yv _ => 4 - (intOf yv).toNat)
      case atStart => exact ⟨4, by omega, by omega, rfl, rfl, HR.out⟩
      case round =>
        obtain ⟨y, hy1, hy2, rfl, rfl, HQ⟩ := hrel
        have hy4 : y = 4 := by omega
        subst hy4
        go_wp2_with fail
        go_roundw
        case rel => exact ⟨3 + 1, by omega, rfl, rfl, HQ.out⟩
        case measure => simp [intOf]
    · go_wp2_with fail
      go_ret
      exact ⟨rfl, by rw [HF.out]; exact HR.out.1, HR.out.2⟩

end Go.Proofs.YtffajooegiempaaDoor

