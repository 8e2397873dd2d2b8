import Derived.Test.YtkggelfkpieonaaDoorJ6
import Derived.Deep.RegionWith
import Derived.Laws.CopyOwn
import Derived.Laws.MakeOwn
namespace Go.Proofs.YtkggelfkpieonaaDoor
open Go.RowKit
variable {w : World}

/-- Thirty-two numbers as a list. -/
def rl (R : Nat → Int) : List Int := (List.range 32).map R
theorem rl_len (R : Nat → Int) : (rl R).length = 32 := by simp [rl]
theorem rl_get (R : Nat → Int) {i : Nat} (h : i < 32) : (rl R).getD i 0 = R i := by simp [rl, List.getD, h]
theorem rl_set (R : Nat → Int) {n : Nat} (c : Int) : (rl R).set n c = rl (upd R n c) := by
  refine List.ext_getElem (by simp [rl]) fun i h1 h2 => ?_
  rw [List.getElem_set]
  simp only [rl, List.getElem_map, List.getElem_range]
  unfold upd
  by_cases e : n = i
  · rw [if_pos e, if_pos e.symm]
  · rw [if_neg e, if_neg (fun z => e z.symm)]
theorem rl_cell {p : Nat} {R : Nat → Int} {t : TypeId} (h : At w p (ic (rl R)) t) {i : Nat} (hi : i < 32) : w.cell? ⟨p, i, none⟩ = some (.int .i64 (R i)) := by
  rw [h.cell, ic_get _ _ (by rw [rl_len]; exact hi), rl_get R hi]
theorem rF_none {R : Nat → Int} {n : Nat} (h : rF R n = none) : ∀ k, rF R (n + k) = none
  | 0 => h
  | k + 1 => by
    show (match rF R (n + k) with | none => none | some (R', b) => rs1 R' b ((n + k) / 32) ((n + k) % 32)) = none
    rw [rF_none h k]
theorem rF_succ {R R' : Nat → Int} {b : Bool} {f g : Nat} (hg : g < 32) (h : rF R (f * 32 + g) = some (R', b)) : rF R (f * 32 + g + 1) = rs1 R' b f g := by
  rw [rF, h]
  show rs1 R' b ((f * 32 + g) / 32) ((f * 32 + g) % 32) = _
  rw [show (f * 32 + g) / 32 = f by omega, show (f * 32 + g) % 32 = g by omega]
theorem fol_rng {f g : Nat} (hf : f < 32) (hg : g < 32) (c : Int) : (folV (vadd f g) c).1 = -2 ∨ (folV (vadd f g) c).1 = -1 ∨ ∃ m : Nat, m < 32 ∧ (folV (vadd f g) c).1 = (m : Int) := by
  by_cases k1 : kdT f g = 1
  · by_cases e : c < 0
    · rw [(fol1 k1).1 e]; exact .inl rfl
    · rw [(fol1 k1).2 e]; exact .inr (.inl rfl)
  · by_cases k2 : kdT f g = 2
    · rw [fol2 hf hg k2]; exact .inr (.inr ⟨_, nm_lt hf hg (.inl k2), rfl⟩)
    · by_cases k3 : kdT f g = 3
      · rw [fol3 hf hg k3]; exact .inr (.inr ⟨_, nm_lt hf hg (.inr k3), rfl⟩)
      · rw [fol0 k1 k2 k3]; exact .inr (.inl rfl)
def preA (a b : List Int) : Nat → List Int
  | 0 => a
  | j + 1 => (preA a b j).set j (gAt a j + gAt b j)
theorem frm_len : ∀ f : Nat, f < 32 → (frm f).length = 4 := by decide
theorem frm_sgn : ∀ f : Nat, f < 32 → ∀ i, i < 4 → -1 ≤ gAt (frm f) i ∧ gAt (frm f) i ≤ 1 := by decide
theorem preA_4 {f g : Nat} (hf : f < 32) : preA (frm f) (frm g) 4 = vadd f g := by
  obtain ⟨a, b, c, d, e⟩ := four_of (frm_len f hf)
  unfold vadd
  rw [e]
  rfl
theorem preA_at {a b : List Int} (h : a.length = 4) {j : Nat} (hj : j < 4) : (preA a b j).length = 4 ∧ (preA a b j).getD j 0 = gAt a j := by
  obtain ⟨x, y, z, t, rfl⟩ := four_of h
  rcases (show j = 0 ∨ j = 1 ∨ j = 2 ∨ j = 3 by omega) with rfl | rfl | rfl | rfl <;> exact ⟨rfl, rfl⟩
theorem r_form (f : Nat) (hf : f < 32) : Calls Tryd.prog 66 #[.int .i64 (f : Int)] w fun e w' => e = .returned (.slice (some ⟨w.heap.size, 0, none⟩) 4 4) ∧ Hid (At w' w.heap.size (ic (frm f)) tNk ∧ Below w.heap.size w w') := by
  by_cases h8 : f < 8
  · exact k_form_lo f h8
  · exact k_form_hi f hf (by omega)
theorem vadd_ok : ∀ f : Nat, f < 32 → ∀ g, g < 32 → ∀ i, i < 4 → -2 ≤ gAt (vadd f g) i ∧ gAt (vadd f g) i ≤ 2 := by decide +kernel

/-- What a round leaves. -/
def RPost (p : Nat) (w : World) (R : Nat → Int) (e : Ending) (w' : World) : Prop :=
  Onl p w w' ∧ match rnd R with
    | none => e = .returned (.tuple #[.bool false, .bool false])
    | some (R', b) => e = .returned (.tuple #[.bool true, .bool b]) ∧ At w' p (ic (rl R')) tNk
theorem RPost.no {p : Nat} {w w' : World} {R : Nat → Int} {e : Ending} {k : Nat} (hk : k ≤ 1024) (h : rF R k = none) (ho : Onl p w w') (he : e = .returned (.tuple #[.bool false, .bool false])) : RPost p w R e w' := by
  have : rnd R = none := by
    have := rF_none h (1024 - k)
    rw [show k + (1024 - k) = 1024 by omega] at this
    exact this
  unfold RPost
  rw [this]
  exact ⟨ho, he⟩
theorem RPost.yes {p : Nat} {w w' : World} {R R' : Nat → Int} {b : Bool} {e : Ending} (h : rF R 1024 = some (R', b)) (ho : Onl p w w') (he : e = .returned (.tuple #[.bool true, .bool b])) (ha : At w' p (ic (rl R')) tNk) : RPost p w R e w' := by
  unfold RPost
  rw [show rnd R = some (R', b) from h]
  exact ⟨ho, he, ha⟩

set_option maxRecDepth 100000 in
set_option maxHeartbeats 3200000 in
theorem r_round (p : Nat) (R : Nat → Int) (h : At w p (ic (rl R)) tNk) (hN : Nov R) :
    Calls Tryd.prog 43 #[.slice (some ⟨p, 0, none⟩) 32 32] w (RPost p w R) := by
  have HA0 : Hid (At w p (ic (rl R)) tNk) := h
  have HN : Hid (Nov R) := hN
  clear h hN
  go_enter Tryd.func43, Tryd.ntmps43
  go_wp2_with fail
  go_loopw [4, 5] (fun mv fv wr => ∃ (f : Nat) (b : Bool) (R' : Nat → Int), f ≤ 32 ∧ fv = .int .i64 f ∧ mv = .bool b ∧ Hid (rF R (f * 32) = some (R', b) ∧ At wr p (ic (rl R')) tNk ∧ Onl p w wr)) (fun _ fv _ => 32 - (intOf fv).toNat)
  case atStart => exact ⟨0, false, R, by omega, rfl, rfl, rfl, HA0.out, Onl.refl _ _⟩
  case round =>
    obtain ⟨f, b0, R0, hf, rfl, rfl, HR⟩ := hrel
    by_cases hlt : f < 32
    · have hfi : (f : Int) < 32 := by omega
      obtain ⟨w4, rfl⟩ : ∃ w4, w4 = wr := ⟨_, rfl⟩
      go_wp2_with fail
      go_loopw [4, 6] (fun mv gv wr => ∃ (g : Nat) (b : Bool) (R' : Nat → Int), g ≤ 32 ∧ gv = .int .i64 g ∧ mv = .bool b ∧ Hid (rF R (f * 32 + g) = some (R', b) ∧ At wr p (ic (rl R')) tNk ∧ Onl p w wr)) (fun _ gv _ => 32 - (intOf gv).toNat)
      case atStart => exact ⟨0, b0, R0, by omega, rfl, rfl, HR.out⟩
      case round =>
        obtain ⟨g, b, R', hg, rfl, rfl, HQ⟩ := hrel
        clear HR
        by_cases hlg : g < 32
        · have hgi : (g : Int) < 32 := by omega
          obtain ⟨w5, rfl⟩ : ∃ w5, w5 = wr := ⟨_, rfl⟩
          have cx := rl_cell HQ.out.2.1 hlt
          have cy := rl_cell HQ.out.2.1 hlg
          have hxb := HN.out (f * 32 + g) (by omega) R' b HQ.out.1 f hlt
          have hyb := HN.out (f * 32 + g) (by omega) R' b HQ.out.1 g hlg
          have HS : Hid (rF R (f * 32 + g + 1) = rs1 R' b f g) := rF_succ hlg HQ.out.1
          have HS1 : Hid (rs1 R' b f g = if R' f = NB ∨ R' g = NB then some (R', b) else if (folV (vadd f g) (R' f + R' g)).1 = -2 then none else if 0 ≤ (folV (vadd f g) (R' f + R' g)).1 ∧ (folV (vadd f g) (R' f + R' g)).2 < R' (folV (vadd f g) (R' f + R' g)).1.toNat then some (upd R' (folV (vadd f g) (R' f + R' g)).1.toNat (folV (vadd f g) (R' f + R' g)).2, true) else some (R', b)) := rfl
          have HFw : Hid (∀ (w1 : World) (B : Nat), At w1 B (ic (vadd f g)) tNk → Calls Tryd.prog 67 #[.slice (some ⟨B, 0, none⟩) 4 4, .int .i64 (R' f + R' g)] w1 fun e w' => e = .returned (.tuple #[.int .i64 (folV (vadd f g) (R' f + R' g)).1, .int .i64 (folV (vadd f g) (R' f + R' g)).2]) ∧ Below w1.heap.size w1 w') := fun w1 B h1 => r_follow _ _ rfl (Reads.at_ h1 rfl (Nat.le_refl _) (fun i hi => ic_get _ _ hi)) (vadd_ok f hlt g hlg) _ ⟨by omega, by omega⟩
          have HRg : Hid (_ ∨ _) := fol_rng hlt hlg (R' f + R' g)
          obtain ⟨x, hx⟩ : ∃ x, x = R' f := ⟨_, rfl⟩
          obtain ⟨y, hy⟩ : ∃ y, y = R' g := ⟨_, rfl⟩
          have HXY : Hid (x = R' f ∧ y = R' g) := ⟨hx, hy⟩
          rw [← hx] at cx hxb HS1 HFw HRg
          rw [← hy] at cy hyb HS1 HFw HRg
          clear hx hy
          by_cases ex : x = NB
          · have b1 : (x == 1000000) = true := by rw [ex]; rfl
            have HE : Hid (rs1 R' b f g = some (R', b)) := HS1.out.trans (if_pos (.inl ex))
            clear HS1 ex
            go_wp2_with fail
            go_roundw
            case rel => exact ⟨g + 1, b, R', by omega, by go_num, rfl, by rw [← Nat.add_assoc]; exact HS.out.trans HE.out, HQ.out.2.1, HQ.out.2.2⟩
            case measure => simp [intOf]; omega
          · have b1 : (x == 1000000) = false := by rw [beq_eq_false_iff_ne]; exact ex
            by_cases ey : y = NB
            · have b2 : (y == 1000000) = true := by rw [ey]; rfl
              have HE : Hid (rs1 R' b f g = some (R', b)) := HS1.out.trans (if_pos (.inr ey))
              clear HS1 ex ey
              go_wp2_with fail
              go_roundw
              case rel => exact ⟨g + 1, b, R', by omega, by go_num, rfl, by rw [← Nat.add_assoc]; exact HS.out.trans HE.out, HQ.out.2.1, HQ.out.2.2⟩
              case measure => simp [intOf]; omega
            · have b2 : (y == 1000000) = false := by rw [beq_eq_false_iff_ne]; exact ey
              have HE : Hid (rs1 R' b f g = _) := HS1.out.trans (if_neg (fun z => z.elim ex ey))
              have hfo := r_form (w := w5) f hlt
              clear HS1 ex ey
              go_wp2_with fail
              refine hfo.mono ?_
              rintro e w6 ⟨rfl, H6⟩
              have hgo := r_form (w := w6) g hlg
              go_wp2_with fail
              refine hgo.mono ?_
              rintro e w7 ⟨rfl, H7⟩
              have hp5 : p < w5.heap.size := HQ.out.2.1.lt
              have hw5 : w.heap.size ≤ w5.heap.size := HQ.out.2.2.size
              have hs6 : w5.heap.size < w6.heap.size := H6.out.1.lt
              have hs7 : w6.heap.size < w7.heap.size := H7.out.1.lt
              have HA7 : Hid (At w7 w5.heap.size (ic (preA (frm f) (frm g) 0)) tNk ∧ At w7 w6.heap.size (ic (frm g)) tNk ∧ At w7 p (ic (rl R')) tNk ∧ Onl p w w7 ∧ w6.heap.size < w7.heap.size) := ⟨H6.out.1.keep H7.out.2 hs6, H7.out.1, (HQ.out.2.1.keep H6.out.2 hp5).keep H7.out.2 (by omega), (HQ.out.2.2.trans (Onl.of H6.out.2 p)).trans (Onl.of H7.out.2 p), hs7⟩
              have HPa : Hid (preA (frm f) (frm g) 4 = vadd f g ∧ (frm f).length = 4 ∧ (frm g).length = 4) := ⟨preA_4 hlt, frm_len f hlt, frm_len g hlg⟩
              have HFb : Hid (∀ i, i < 4 → (-1 ≤ gAt (frm f) i ∧ gAt (frm f) i ≤ 1) ∧ (-1 ≤ gAt (frm g) i ∧ gAt (frm g) i ≤ 1)) := fun i hi => ⟨frm_sgn f hlt i hi, frm_sgn g hlg i hi⟩
              generalize frm f = vf at *
              generalize frm g = vg at *
              generalize w5.heap.size = B1 at *
              generalize w6.heap.size = B2 at *
              clear hfo hgo H6 H7
              go_wp2_with fail
              go_loopw [9] (fun i wx => ∃ (j : Nat), j ≤ 4 ∧ i = .int .i64 j ∧ Hid (At wx B1 (ic (preA vf vg j)) tNk ∧ At wx B2 (ic vg) tNk ∧ At wx p (ic (rl R')) tNk ∧ Onl p w wx ∧ B2 < wx.heap.size)) (fun i _ => 4 - (intOf i).toNat)
              case atStart => exact ⟨0, by omega, rfl, HA7.out⟩
              case round =>
                obtain ⟨j, hj, rfl, HT⟩ := hrel
                by_cases hlj : j < 4
                · have hji : (j : Int) < 4 := by omega
                  obtain ⟨w8, rfl⟩ : ∃ w8, w8 = wr := ⟨_, rfl⟩
                  have ca : w8.cell? ⟨B1, j, none⟩ = some (.int .i64 (gAt vf j)) := by
                    have q := preA_at (b := vg) HPa.out.2.1 hlj
                    rw [HT.out.1.cell, ic_get _ _ (by omega), q.2]
                  have cb : w8.cell? ⟨B2, j, none⟩ = some (.int .i64 (gAt vg j)) := by
                    rw [HT.out.2.1.cell, ic_get _ _ (by rw [HPa.out.2.2]; exact hlj)]; rfl
                  have cf := HT.out.1.free
                  have hl1 := HT.out.1.lt
                  have hl2 := HT.out.2.1.lt
                  have hr := HFb.out j hlj
                  have HP : Hid (preA vf vg (j + 1) = (preA vf vg j).set j (gAt vf j + gAt vg j)) := rfl
                  have hB1p : B1 ≠ p := by omega
                  have hB1q : B1 ≠ B2 := by omega
                  generalize gAt vf j = a at *
                  generalize gAt vg j = c at *
                  go_wp2_with fail
                  go_region
                  all_goals
                    go_wp2_with fail
                    go_roundw
                    case rel =>
                      refine ⟨j + 1, by omega, by go_num, ?_, ?_, ?_, ?_, ?_⟩
                      · rw [HP.out, ← ic_set]
                        exact At.drewN (HT.out.1.put j _) 1
                      · exact At.drewN (HT.out.2.1.other _ _ (fun z => hB1q z.symm)) 1
                      · exact At.drewN (HT.out.2.2.1.other _ _ (fun z => hB1p z.symm)) 1
                      · exact (HT.out.2.2.2.1.own (.inr (by omega)) _ _).drewN 1
                      · have := HT.out.2.2.2.2
                        simpa [World.setCell] using this
                    case measure => simp [intOf]; omega
                · have hj4 : j = 4 := by omega
                  subst hj4
                  obtain ⟨w8, rfl⟩ : ∃ w8, w8 = wr := ⟨_, rfl⟩
                  have cx8 := rl_cell HT.out.2.2.1 hlt
                  have cy8 := rl_cell HT.out.2.2.1 hlg
                  rw [← HXY.out.1] at cx8
                  rw [← HXY.out.2] at cy8
                  have HA8 : Hid (At w8 B1 (ic (vadd f g)) tNk) := by
                    show At w8 B1 (ic (vadd f g)) tNk
                    rw [← HPa.out.1]; exact HT.out.1
                  have hw8 : p < w8.heap.size := HT.out.2.2.1.lt
                  have HO8 : Hid (Onl p w w8 ∧ At w8 p (ic (rl R')) tNk) := ⟨HT.out.2.2.2.1, HT.out.2.2.1⟩
                  generalize folV (vadd f g) (x + y) = fv at *
                  obtain ⟨n, c⟩ := fv
                  simp only at HE HFw HRg
                  have HFd := HFw.out w8.drew B1 HA8.out
                  have hsum : IntKind.i64.wrap (x + y) = x + y := by rw [IntKind.wrap_i64]; omega
                  clear HFw HA8 HT HPa HFb HA7 HQ HXY hs6 hs7 hp5 hw5 cx cy
                  rcases HRg.out with e | e | ⟨m, hm, e⟩
                  · subst e
                    have HE2 : Hid (rs1 R' b f g = none) := HE.out.trans (if_pos rfl)
                    clear HE
                    go_wp2_with fail
                    go_region_with (go_at_call 67; refine HFd.mono ?_; rintro e w9 ⟨rfl, hb9⟩)
                    all_goals
                      have HA9 : Hid (At w9 p (ic (rl R')) tNk) := At.keep (w := w8.drewN 1) HO8.out.2 hb9 hw8
                      have HO9 : Hid (Onl p w w9) := (HO8.out.1.drewN 1).trans (Onl.of hb9 p)
                      clear hb9
                      go_wp2_with fail
                      go_ret2
                      exact RPost.no (k := f * 32 + g + 1) (by omega) (HS.out.trans HE2.out) HO9.out rfl
                  · subst e
                    have HE2 : Hid (rs1 R' b f g = some (R', b)) := HE.out.trans ((if_neg (by decide)).trans (if_neg (fun z => absurd z.1 (by decide))))
                    clear HE
                    go_wp2_with fail
                    go_region_with (go_at_call 67; refine HFd.mono ?_; rintro e w9 ⟨rfl, hb9⟩)
                    all_goals
                      have HA9 : Hid (At w9 p (ic (rl R')) tNk) := At.keep (w := w8.drewN 1) HO8.out.2 hb9 hw8
                      have HO9 : Hid (Onl p w w9) := (HO8.out.1.drewN 1).trans (Onl.of hb9 p)
                      clear hb9
                      go_wp2_with fail
                      go_roundw
                      case rel => exact ⟨g + 1, b, R', by omega, by go_num, rfl, by rw [← Nat.add_assoc]; exact HS.out.trans HE2.out, HA9.out, HO9.out⟩
                      case measure => simp [intOf]; omega
                  · subst e
                    have hm0 : ((m : Int) == -2) = false := by rw [beq_eq_false_iff_ne]; omega
                    have hmi : (m : Int) < 32 := by omega
                    by_cases hc : c < R' m
                    · have HE2 : Hid (rs1 R' b f g = some (upd R' m c, true)) := HE.out.trans ((if_neg (by omega)).trans ((if_pos ⟨by omega, by rw [Int.toNat_natCast]; exact hc⟩).trans (by rw [Int.toNat_natCast])))
                      clear HE
                      go_wp2_with fail
                      go_region_with (go_at_call 67; refine HFd.mono ?_; rintro e w9 ⟨rfl, hb9⟩)
                      all_goals
                        have HA9 : Hid (At w9 p (ic (rl R')) tNk) := At.keep (w := w8.drewN 1) HO8.out.2 hb9 hw8
                        have HO9 : Hid (Onl p w w9) := (HO8.out.1.drewN 1).trans (Onl.of hb9 p)
                        clear hb9
                        have cm := rl_cell HA9.out hm
                        have cf9 := HA9.out.free
                        have hl9 := HA9.out.lt
                        go_wp2_with fail
                        go_roundw
                        case rel =>
                          refine ⟨g + 1, true, upd R' m c, by omega, by go_num, rfl, by rw [← Nat.add_assoc]; exact HS.out.trans HE2.out, ?_, HO9.out.setCell _ _⟩
                          rw [← rl_set, ← ic_set]
                          exact HA9.out.put m _
                        case measure => simp [intOf]; omega
                    · have HE2 : Hid (rs1 R' b f g = some (R', b)) := HE.out.trans ((if_neg (by omega)).trans (if_neg (fun z => by rw [Int.toNat_natCast] at z; exact hc z.2)))
                      clear HE
                      go_wp2_with fail
                      go_region_with (go_at_call 67; refine HFd.mono ?_; rintro e w9 ⟨rfl, hb9⟩)
                      all_goals
                        have HA9 : Hid (At w9 p (ic (rl R')) tNk) := At.keep (w := w8.drewN 1) HO8.out.2 hb9 hw8
                        have HO9 : Hid (Onl p w w9) := (HO8.out.1.drewN 1).trans (Onl.of hb9 p)
                        clear hb9
                        have cm := rl_cell HA9.out hm
                        go_wp2_with fail
                        go_roundw
                        case rel => exact ⟨g + 1, b, R', by omega, by go_num, rfl, by rw [← Nat.add_assoc]; exact HS.out.trans HE2.out, HA9.out, HO9.out⟩
                        case measure => simp [intOf]; omega
        · have hg32 : g = 32 := by omega
          subst hg32
          go_wp2_with fail
          go_roundw
          case rel => exact ⟨f + 1, b, R', by omega, by go_num, rfl, by rw [show (f + 1) * 32 = f * 32 + 32 by omega]; exact HQ.out.1, HQ.out.2⟩
          case measure => simp [intOf]; omega
    · have hf32 : f = 32 := by omega
      subst hf32
      go_wp2_with fail
      go_ret2
      exact RPost.yes HR.out.1 HR.out.2.2 rfl HR.out.2.1

end Go.Proofs.YtkggelfkpieonaaDoor

namespace Go.Proofs.YtkggelfkpieonaaDoor
open Go.RowKit

set_option maxRecDepth 100000 in
set_option maxHeartbeats 800000 in
theorem l_same (w : World) (a b : Value) (l : List Int) (hm : l.length ≤ 1073741824) (ha : Reads w a l) (hb : Reads w b l) :
    Calls Tryd.prog 24 #[a, b] w fun e w' => e = .returned (.bool true) ∧ ∃ k, w' = w.drewN k := by
  obtain ⟨ao, ca, rfl, hca, ha⟩ := ha
  obtain ⟨bo, cb, rfl, hcb, hb⟩ := hb
  by_cases h0 : l.length = 0
  · rw [h0]
    clear ha hb hca hcb h0
    go_enter Tryd.func24, Tryd.ntmps24
    go_wp2_with fail
    go_loop [5] (fun i => i = .int .i64 0) (fun _ => 0)
    case atStart => rfl
    case round =>
      subst hrel
      go_wp2_with fail
      go_ret
      exact ⟨rfl, 0, rfl⟩
  · obtain ⟨p, o, rfl, hp, cp⟩ := ha h0
    obtain ⟨q, o', rfl, hq, cq⟩ := hb h0
    generalize hL : l.length = n at *
    have HA : Hid (∀ i, i < n → w.cell? ⟨p, o + i, none⟩ = some (.int .i64 (l.getD i 0))) := cp
    have HB : Hid (∀ i, i < n → w.cell? ⟨q, o' + i, none⟩ = some (.int .i64 (l.getD i 0))) := cq
    clear ha hb cp cq hL h0
    go_enter Tryd.func24, Tryd.ntmps24
    go_wp2_with fail
    go_loopw [5] (fun i wr => ∃ j k : Nat, j ≤ n ∧ i = .int .i64 j ∧ wr = w.drewN k) (fun i _ => n - (intOf i).toNat)
    case atStart => exact ⟨0, 0, Nat.zero_le _, rfl, rfl⟩
    case round =>
      obtain ⟨j, k, hj, rfl, hwr⟩ := hrel
      have HW : Hid (∃ k, wr = w.drewN k) := ⟨k, hwr⟩
      have k1 : ∀ a, wr.cell? a = w.cell? a := fun a => by rw [hwr]; rfl
      by_cases hlt : j < n
      · have c1 : wr.cell? ⟨p, o + j, none⟩ = some (.int .i64 (l.getD j 0)) := (k1 _).trans (HA.out j hlt)
        have c2 : wr.cell? ⟨q, o' + j, none⟩ = some (.int .i64 (l.getD j 0)) := (k1 _).trans (HB.out j hlt)
        clear hwr k1
        have hji : (j : Int) < (n : Int) := by omega
        generalize l.getD j 0 = x at *
        go_wp2_with fail
        go_quiet (fail)
        go_wp2_with fail
        go_roundw
        case rel => obtain ⟨k', e⟩ := HW.out; exact ⟨j + 1, _, by omega, by go_num, by rw [e]; exact drewN_two _ _ _⟩
        case measure => simp [intOf]; omega
      · have hji : ¬ (j : Int) < (n : Int) := by omega
        clear hwr k1
        go_wp2_with fail
        go_ret
        exact ⟨rfl, HW.out⟩

end Go.Proofs.YtkggelfkpieonaaDoor

namespace Go.Proofs.YtkggelfkpieonaaDoor
open Go.RowKit
variable {w : World}

/-- May it be handed in? -/
def gdF (l : List Int) : Nat → Bool
  | 0 => true
  | f + 1 => gdF l f && isB (l.getD f 0)
def gdB (l : List Int) : Bool := decide (l.length = 32) && gdF l 32
theorem gdF_all {l : List Int} : ∀ {n : Nat}, gdF l n = true ↔ ∀ f, f < n → isB (l.getD f 0) = true := by
  intro n
  induction n with
  | zero => exact ⟨fun _ f hf => absurd hf (by omega), fun _ => rfl⟩
  | succ n ih =>
    show (gdF l n && isB (l.getD n 0)) = true ↔ _
    rw [Bool.and_eq_true, ih]
    constructor
    · rintro ⟨h1, h2⟩ f hf
      rcases Nat.lt_or_eq_of_le (Nat.lt_succ_iff.1 hf) with q | q
      · exact h1 f q
      · rw [q]; exact h2
    · intro h
      exact ⟨fun f hf => h f (by omega), h n (by omega)⟩
theorem gdB_ok {l : List Int} : gdB l = true ↔ okL l := by
  unfold gdB okL
  rw [Bool.and_eq_true, decide_eq_true_eq, gdF_all]
theorem gdF_no {l : List Int} {f : Nat} (hf : f < 32) (h : isB (l.getD f 0) = false) : gdF l 32 = false := by
  cases e : gdF l 32 with
  | false => rfl
  | true => rw [gdF_all.1 e f hf] at h; cases h

set_option maxRecDepth 100000 in
set_option maxHeartbeats 1600000 in
theorem r_good (u : Value) (l : List Int) (_hm : l.length ≤ 1073741824) (hu : Reads w u l) :
    Calls Tryd.prog 22 #[u] w fun e w' => e = .returned (.bool (gdB l)) ∧ w' = w := by
  obtain ⟨au, cu, rfl, hcu, h0⟩ := hu
  by_cases h32 : l.length = 32
  · have HE : Hid (gdB l = gdF l 32) := by show gdB l = _; unfold gdB; rw [decide_eq_true h32]; rfl
    obtain ⟨p, off, rfl, hp, hcell⟩ := h0 (by omega)
    have HC : Hid (∀ i, i < 32 → w.cell? ⟨p, off + i, none⟩ = some (.int .i64 (l.getD i 0))) := fun i hi => hcell i (by omega)
    rw [h32]
    clear h0 hcell hcu h32 _hm
    go_enter Tryd.func22, Tryd.ntmps22
    go_wp2_with fail
    go_loopw [3] (fun i wr => ∃ (f : Nat), f ≤ 32 ∧ i = .int .i64 f ∧ wr = w ∧ Hid (gdF l f = true)) (fun i _ => 32 - (intOf i).toNat)
    case atStart => exact ⟨0, by omega, rfl, rfl, rfl⟩
    case round =>
      obtain ⟨f, hf, rfl, rfl, HR⟩ := hrel
      by_cases hlt : f < 32
      · have hfi : (f : Int) < 32 := by omega
        have HEq : Hid (gdF l (f + 1) = (gdF l f && isB (l.getD f 0))) := rfl
        have cx := HC.out f hlt
        have HNo : Hid (¬ (l.getD f 0 = 1000000 ∨ (-4000 ≤ l.getD f 0 ∧ l.getD f 0 ≤ 4000)) → gdF l 32 = false) := fun h => gdF_no hlt (decide_eq_false h)
        generalize l.getD f 0 = x at *
        by_cases e1 : x = 1000000
        · have HY : Hid (isB x = true) := decide_eq_true (.inl e1)
          have e1' : (x != 1000000) = false := by rw [e1]; rfl
          go_wp2_with fail
          go_roundw
          case rel => exact ⟨f + 1, by omega, by go_num, by simp, by show gdF l (f + 1) = true; rw [HEq.out, HR.out, HY.out]; rfl⟩
          case measure => simp [intOf]; omega
        · have e1' : (x != 1000000) = true := by rw [bne_iff_ne]; exact e1
          by_cases e2 : x < -4000
          · have HF : Hid (gdF l 32 = false) := HNo.out (by omega)
            go_wp2_with fail
            go_ret
            exact ⟨by rw [HE.out, HF.out]; rfl, rfl⟩
          · by_cases e3 : 4000 < x
            · have HF : Hid (gdF l 32 = false) := HNo.out (by omega)
              go_wp2_with fail
              go_ret
              exact ⟨by rw [HE.out, HF.out]; rfl, rfl⟩
            · have HY : Hid (isB x = true) := decide_eq_true (by exact .inr ⟨by omega, by omega⟩)
              go_wp2_with fail
              go_roundw
              case rel => exact ⟨f + 1, by omega, by go_num, by simp, by show gdF l (f + 1) = true; rw [HEq.out, HR.out, HY.out]; rfl⟩
              case measure => simp [intOf]; omega
      · have hf32 : f = 32 := by omega
        subst hf32
        go_wp2_with fail
        go_ret
        exact ⟨by rw [HE.out, HR.out]; rfl, rfl⟩
  · have HE : Hid (gdB l = false) := by show gdB l = _; unfold gdB; rw [decide_eq_false h32]; rfl
    have hb : ((l.length : Int) != 32) = true := by rw [bne_iff_ne]; omega
    clear h0 h32
    go_enter Tryd.func22, Tryd.ntmps22
    go_wp2_with fail
    go_ret
    exact ⟨by rw [HE.out]; rfl, rfl⟩

end Go.Proofs.YtkggelfkpieonaaDoor

namespace Go.Proofs.YtkggelfkpieonaaDoor
open Go.RowKit

abbrev tN : TypeId := 3

set_option maxRecDepth 100000 in
set_option maxHeartbeats 800000 in
theorem l_mark (w : World) (g n cap : Nat) (c : Array Value) (v : Int) (h : At w g c tN) (hs : c.size = cap) (_hn : n ≤ cap) (hm : cap ≤ 1073741824) (hv0 : 0 ≤ v) (hv1 : v ≤ 4398046511104) :
    Calls Tryd.prog 44 #[.slice (some ⟨g, 0, none⟩) n cap, .int .i64 v] w fun e w' => e = .returned (.tuple #[]) ∧ Below g w w' ∧ ∃ c', At w' g c' tN ∧ c'.size = cap ∧ ∀ i, i < cap → c'[i]? = some (.int .i64 (v + i)) := by
  have HA : Hid (At w g c tN) := h
  have HS : Hid (c.size = cap) := hs
  have hg := h.lt
  clear h hs
  go_enter Tryd.func44, Tryd.ntmps44
  go_wp2_with fail
  go_loopw [5] (fun i wr => ∃ (j : Nat) (c' : Array Value), j ≤ cap ∧ i = .int .i64 j ∧ At wr g c' tN ∧ c'.size = cap ∧ (∀ i, i < j → c'[i]? = some (.int .i64 (v + i))) ∧ Below g w wr) (fun i _ => cap - (intOf i).toNat)
  case atStart => exact ⟨0, c, Nat.zero_le _, rfl, HA.out, HS.out, fun i hi => absurd hi (by omega), Below.refl _ _⟩
  case round =>
    obtain ⟨j, c', hj, rfl, hat, hsz, hall, hbel⟩ := hrel
    have HA' : Hid (At wr g c' tN) := hat
    have HS' : Hid (c'.size = cap) := hsz
    have HL : Hid (∀ i, i < j → c'[i]? = some (.int .i64 (v + i))) := hall
    have HB : Hid (Below g w wr) := hbel
    by_cases hlt : j < cap
    · have hji : (j : Int) < (cap : Int) := by omega
      obtain ⟨x, c1⟩ : ∃ x, wr.cell? ⟨g, j, none⟩ = some x := ⟨c'[j]'(by omega), by rw [hat.cell]; simp [hsz, hlt]⟩
      have f1 : wr.frozen? ⟨g, j, none⟩ = false := hat.free j
      clear hat hsz hall hbel
      go_wp2_with fail
      go_roundw
      case rel =>
        refine ⟨j + 1, _, by omega, by go_num, HA'.out.put j (.int .i64 (v + j)), by simp [HS'.out], fun i hi => ?_, HB.out.setCell (Nat.le_refl _) _⟩
        have := HS'.out
        by_cases e : i = j
        · subst e; simp [this, hlt]
        · simp [Ne.symm e]; exact HL.out i (by omega)
      case measure => simp [intOf]; omega
    · have hji : ¬ (j : Int) < (cap : Int) := by omega
      have hje : j = cap := by omega
      clear hat hsz hall hbel
      go_wp2_with fail
      go_end0
      exact ⟨rfl, HB.out, c', HA'.out, HS'.out, by rw [← hje]; exact HL.out⟩

set_option maxRecDepth 100000 in
set_option maxHeartbeats 800000 in
theorem l_marked (w : World) (g n cap : Nat) (v : Int) (_hg : g < w.heap.size) (_hn : n ≤ cap) (hm : cap ≤ 1073741824) (hv0 : 0 ≤ v) (hv1 : v ≤ 4398046511104) (h : ∀ i : Nat, i < cap → w.cell? ⟨g, i, none⟩ = some (.int .i64 (v + i))) :
    Calls Tryd.prog 45 #[.slice (some ⟨g, 0, none⟩) n cap, .int .i64 v] w fun e w' => e = .returned (.bool true) ∧ w' = w := by
  have HA : Hid (∀ i : Nat, i < cap → w.cell? ⟨g, i, none⟩ = some (.int .i64 (v + i))) := h
  clear h
  go_enter Tryd.func45, Tryd.ntmps45
  go_wp2_with fail
  go_loop [6] (fun i => ∃ (j : Nat), j ≤ cap ∧ i = .int .i64 j) (fun i => cap - (intOf i).toNat)
  case atStart => exact ⟨0, Nat.zero_le _, rfl⟩
  case round =>
    obtain ⟨j, hj, rfl⟩ := hrel
    by_cases hlt : j < cap
    · have hji : (j : Int) < (cap : Int) := by omega
      have c1 := HA.out j hlt
      go_wp2_with fail
      go_round
      case rel => exact ⟨j + 1, by omega, by go_num⟩
      case measure => simp [intOf]; omega
    · have hji : ¬ (j : Int) < (cap : Int) := by omega
      go_wp2_with fail
      go_ret
      exact ⟨rfl, rfl⟩

set_option maxRecDepth 100000 in
set_option maxHeartbeats 800000 in
theorem l_mine (w : World) (g n cap : Nat) (c : Array Value) (h : At w g c tN) (hs : c.size = cap) (hn : n ≤ cap) (hm : cap ≤ 1073741824) :
    Calls Tryd.prog 25 #[.slice (some ⟨g, 0, none⟩) n cap] w fun e w' => e = .returned (.bool true) ∧ Below g w w' := by
  have h1 := l_mark w g n cap c 1099511627776 h hs hn hm (by omega) (by omega)
  clear h hs
  go_enter Tryd.func25, Tryd.ntmps25
  go_wp2_with fail
  refine h1.mono ?_
  rintro e w1 ⟨rfl, hb, c', hat, hsz, hall⟩
  have h2 := l_marked w1 g n cap 1099511627776 hat.lt hn hm (by omega) (by omega) (fun i hi => by rw [hat.cell]; exact hall i hi)
  clear hat hsz hall h1
  go_wp2_with fail
  refine h2.mono ?_
  rintro e w2 ⟨rfl, rfl⟩
  go_wp2_with fail
  go_ret
  exact ⟨rfl, hb⟩

set_option maxRecDepth 100000 in
set_option maxHeartbeats 800000 in
theorem l_mine_nil (w : World) : Calls Tryd.prog 25 #[.slice none 0 0] w fun e w' => e = .returned (.bool true) ∧ w' = w := by
  have h1 : ∀ w, Calls Tryd.prog 44 #[.slice none 0 0, .int .i64 1099511627776] w fun e w' => e = .returned (.tuple #[]) ∧ w' = w := by
    intro w
    go_enter Tryd.func44, Tryd.ntmps44
    go_wp2_with fail
    go_loop [5] (fun i => i = .int .i64 0) (fun _ => 0)
    case atStart => rfl
    case round =>
      subst hrel
      go_wp2_with fail
      go_end0
      exact ⟨rfl, rfl⟩
  have h2 : ∀ w, Calls Tryd.prog 45 #[.slice none 0 0, .int .i64 1099511627776] w fun e w' => e = .returned (.bool true) ∧ w' = w := by
    intro w
    go_enter Tryd.func45, Tryd.ntmps45
    go_wp2_with fail
    go_loop [6] (fun i => i = .int .i64 0) (fun _ => 0)
    case atStart => rfl
    case round =>
      subst hrel
      go_wp2_with fail
      go_ret
      exact ⟨rfl, rfl⟩
  go_enter Tryd.func25, Tryd.ntmps25
  go_wp2_with fail
  refine (h1 _).mono ?_
  rintro e w1 ⟨rfl, rfl⟩
  go_wp2_with fail
  refine (h2 _).mono ?_
  rintro e w1 ⟨rfl, rfl⟩
  go_wp2_with fail
  go_ret
  exact ⟨rfl, rfl⟩

end Go.Proofs.YtkggelfkpieonaaDoor

namespace Go.Proofs.YtkggelfkpieonaaDoor
open Go.RowKit


set_option maxRecDepth 100000 in
set_option maxHeartbeats 800000 in
/-- A list that came out: the numbers that it is to have, and the caller's. -/
theorem l_result (w : World) (g cap : Nat) (b : Value) (l : List Int) (c : Array Value) (h : At w g c tN) (hs : c.size = cap) (hn : l.length ≤ cap) (hm : cap ≤ 1073741824)
    (hc : ∀ i, i < l.length → c[i]? = some (.int .i64 (l.getD i 0))) (hb : Reads w b l) (hb0 : ∀ n k, b ≠ .slice none n k) :
    Calls Tryd.prog 10 #[.slice (some ⟨g, 0, none⟩) l.length cap, b] w fun e w' => e = .returned (.bool true) ∧ Below g w w' := by
  have h1 := l_same w _ b l (by omega) (Reads.at_ h rfl hn hc) hb
  have h2 := fun k => l_mine (w.drewN k) g l.length cap c (h.drewN k) hs hn hm
  obtain ⟨bo, cb, rfl, -, -⟩ := hb
  obtain ⟨ba, rfl⟩ : ∃ a, bo = some a := by
    cases bo with
    | none => exact absurd rfl (hb0 _ _)
    | some a => exact ⟨a, rfl⟩
  have H2 : Hid (∀ k, Calls Tryd.prog 25 #[.slice (some ⟨g, 0, none⟩) l.length cap] (w.drewN k) fun e w' => e = .returned (.bool true) ∧ Below g (w.drewN k) w') := h2
  have hq1 : ∀ (w : World) (a : Option Addr) (n c : Nat), (binOp .eql 22 (.slice a n c) (.slice none 0 0)).run Tryd.prog w = .ok (.bool a.isNone) w := fun w a n c => Lib.run_eql_slice_nil w 22 tN a n c 0 0 Tryd.underlying22
  clear h hs hc hb0 h2
  go_enter Tryd.func10, Tryd.ntmps10
  go_wp2_with fail
  refine h1.mono ?_
  rintro e w1 ⟨rfl, k, hk⟩
  have h3 := H2.out k
  rw [← hk] at h3
  have HB : Hid (Below g w w1) := by rw [hk]; exact below_drewN (Below.refl _ _) k
  clear hk h1 H2
  go_wp2_with fail
  refine h3.mono ?_
  rintro e w2 ⟨rfl, hb2⟩
  go_wp2_with fail
  go_ret
  exact ⟨rfl, HB.out.trans hb2⟩

set_option maxRecDepth 100000 in
set_option maxHeartbeats 800000 in
theorem l_result_nil (w : World) : Calls Tryd.prog 10 #[.slice none 0 0, .slice none 0 0] w fun e w' => e = .returned (.bool true) ∧ ∃ k, w' = w.drewN k := by
  have h1 := l_same w (.slice none 0 0) (.slice none 0 0) [] (by simp) ⟨none, 0, rfl, Nat.le_refl _, fun h => absurd rfl h⟩ ⟨none, 0, rfl, Nat.le_refl _, fun h => absurd rfl h⟩
  have hq1 : ∀ (w : World) (a : Option Addr) (n c : Nat), (binOp .eql 22 (.slice a n c) (.slice none 0 0)).run Tryd.prog w = .ok (.bool a.isNone) w := fun w a n c => Lib.run_eql_slice_nil w 22 tN a n c 0 0 Tryd.underlying22
  have h2 := l_mine_nil
  go_enter Tryd.func10, Tryd.ntmps10
  go_wp2_with fail
  refine h1.mono ?_
  rintro e w1 ⟨rfl, k, hk⟩
  have HK : Hid (∃ k, w1 = w.drewN k) := ⟨k, hk⟩
  clear hk h1
  go_wp2_with fail
  refine (h2 _).mono ?_
  rintro e w2 ⟨rfl, rfl⟩
  go_wp2_with fail
  go_ret
  exact ⟨rfl, HK.out⟩

/-- What stands in a list that was handed over. -/
def lentCells (l : List Int) : Array Value := ic (l ++ [77, 77])

theorem splice_lent (l : List Int) : ((splice (List.replicate (l.length + 2) (Value.int .i64 0)) 0 (l.map (Value.int .i64))).toArray.setIfInBounds l.length (.int .i64 77)).setIfInBounds (l.length + 1) (.int .i64 77) = lentCells l := by
  unfold lentCells ic splice
  have e : (List.replicate (l.length + 2) (Value.int .i64 0)).drop (0 + (l.map (Value.int .i64)).length) = [.int .i64 0, .int .i64 0] := by
    rw [List.length_map, Nat.zero_add, List.drop_replicate, Nat.add_sub_cancel_left]; rfl
  rw [e]
  simp

set_option maxRecDepth 100000 in
set_option maxHeartbeats 1600000 in
theorem l_lent (w : World) (v : Value) (l : List Int) (hm : l.length ≤ 1073741824) (h : Reads w v l) :
    Calls Tryd.prog 7 #[v] w fun e w' => e = .returned (.slice (some ⟨w.heap.size, 0, none⟩) l.length (l.length + 2)) ∧ Below w.heap.size w w' ∧ At w' w.heap.size (lentCells l) tN ∧ w.heap.size < w'.heap.size := by
  have hmk : ∀ w, (Instr.makeSlice 22 (.int .i64 ((l.length : Int) + 2)) (.int .i64 ((l.length : Int) + 2))).run Tryd.prog w = .ok (.slice (some ⟨w.heap.size, 0, none⟩) (l.length + 2) (l.length + 2)) (w.alloc (.cells (List.replicate (l.length + 2) (Value.int .i64 0)).toArray tN)) := by
    intro w
    obtain ⟨i0, hi, hz0, hz1, hz2⟩ := info_parts (P := Tryd.prog) (e := tN) (z := .int .i64 0) (size := 1) (bytes := 8) (by kernel_rfl)
    have := run_make (P := Tryd.prog) w 22 tN i0 (.int .i64 0) Tryd.underlying22 hi hz0 .i64 .i64 ((l.length : Int) + 2) ((l.length : Int) + 2) (by omega) (Int.le_refl _) (by rw [hz2]; omega) (by omega)
    rw [this]
    have e1 : ((l.length : Int) + 2).toNat = l.length + 2 := by omega
    rw [e1, hz1]
    congr 2
    congr 1
    apply Array.ext
    · simp [size_madeCells]
    · intro i h1 h2
      simp [madeCells, Value.cells, Nat.mod_one]
  obtain ⟨ao, cap, rfl, hcap, h0⟩ := h
  have HMk : Hid (∀ w, (Instr.makeSlice 22 (.int .i64 ((l.length : Int) + 2)) (.int .i64 ((l.length : Int) + 2))).run Tryd.prog w = .ok (.slice (some ⟨w.heap.size, 0, none⟩) (l.length + 2) (l.length + 2)) (w.alloc (.cells (List.replicate (l.length + 2) (Value.int .i64 0)).toArray tN))) := hmk
  have H0 : Hid (l.length ≠ 0 → ∃ b off, ao = some ⟨b, off, none⟩ ∧ b < w.heap.size ∧ ∀ i, i < l.length → w.cell? ⟨b, off + i, none⟩ = some (.int .i64 (l.getD i 0))) := h0
  have HSp := (show Hid (_ = _) from splice_lent l)
  have HAl : Hid (At (w.alloc (.cells (List.replicate (l.length + 2) (Value.int .i64 0)).toArray tN)) w.heap.size (List.replicate (l.length + 2) (Value.int .i64 0)).toArray tN) := by
    show (w.heap.push _)[w.heap.size]? = _
    simp
  have HBe : Hid (Below w.heap.size w (w.alloc (.cells (List.replicate (l.length + 2) (Value.int .i64 0)).toArray tN))) := (Below.refl _ _).alloc (Nat.le_refl _) _
  obtain ⟨cs, hcs⟩ : ∃ cs, cs = l.map (Value.int .i64) := ⟨_, rfl⟩
  obtain ⟨cur, hcur⟩ : ∃ cur, cur = List.replicate (l.length + 2) (Value.int .i64 0) := ⟨_, rfl⟩
  rw [← hcur] at HAl HBe HMk
  rw [← hcs, ← hcur] at HSp
  have hmk' := HMk.out
  have HL1 : Hid (cs.length = l.length) := by show cs.length = _; rw [hcs]; simp
  have HL2 : Hid (cur.length = l.length + 2) := by show cur.length = _; rw [hcur]; simp
  have HCS : Hid (cs = l.map (Value.int .i64)) := hcs
  clear hmk h0 hcs hcur HMk
  generalize hn : l.length = n at *
  obtain ⟨w1, hcp, hat, hb1⟩ : ∃ w1, (Builtin.copy_ #[22, 22] tN #[.slice (some ⟨w.heap.size, 0, none⟩) (n + 2) (n + 2), .slice ao n cap]).run Tryd.prog (w.alloc (.cells cur.toArray tN)) = .ok (.int .i64 n) w1 ∧ At w1 w.heap.size (splice cur 0 cs).toArray tN ∧ Below w.heap.size w w1 := by
    by_cases hz : n = 0
    · have e0 : cs = [] := List.eq_nil_of_length_eq_zero (by rw [HL1.out]; exact hz)
      refine ⟨_, by rw [hz]; exact run_copy_none (P := Tryd.prog) _ 22 22 tN tN _ _ _ _ _ _ Tryd.underlying22 (by kernel_rfl) (by simp), ?_, HBe.out⟩
      have := HAl.out
      simpa [splice, e0] using this
    · obtain ⟨b, off, rfl, hlt, hc⟩ := H0.out hz
      have := run_copy_row (P := Tryd.prog) (w.alloc (.cells cur.toArray tN)) 22 22 tN tN w.heap.size 0 (n + 2) (n + 2) ⟨b, off, none⟩ n cap cur.toArray tN cs Tryd.underlying22 (by kernel_rfl) HAl.out (by rw [HL1.out]; simp) (by
        intro j v hj
        rw [HCS.out] at hj
        have hjl : j < n := by
          rcases Nat.lt_or_ge j n with h' | h'
          · exact h'
          · rw [List.getElem?_eq_none (by simp; omega)] at hj; cases hj
        have e1 : (⟨b, off, none⟩ : Addr).add j = ⟨b, off + j, none⟩ := by unfold Addr.add; split <;> simp_all
        rw [e1, HBe.out.cell (by exact hlt)]
        have := hc j hjl
        simp [List.getElem?_map, List.getElem?_eq_getElem (show j < l.length by omega)] at hj
        rw [← hj]
        simpa [List.getD, show j < l.length by omega] using this) (by
        have h1 := HL1.out
        have h2 := HL2.out
        simp only [List.size_toArray]; omega) (by
        intro u hu
        rw [HCS.out] at hu
        obtain ⟨x, _, rfl⟩ := List.mem_map.1 hu
        rfl)
      have e2 : goInt cs.length = .int .i64 n := by rw [HL1.out]; rfl
      rw [e2] at this
      refine ⟨_, this, ?_, below_setRow HBe.out (Nat.le_refl _) _⟩
      have h2 := setRow_heap (w.alloc (.cells cur.toArray tN)) w.heap.size cur.toArray (cur.toArray.toList.take 0 ++ cs ++ cur.toArray.toList.drop (0 + cs.length)).toArray tN (0, 0) HAl.out
      rw [show splice cur 0 cs = cur.toArray.toList.take 0 ++ cs ++ cur.toArray.toList.drop (0 + cs.length) by simp [splice]]
      exact h2
  have hsz : (splice cur 0 cs).toArray.size = n + 2 := by
    have := length_splice cur 0 cs (by rw [HL1.out, HL2.out]; omega)
    simp only [List.size_toArray]; rw [this]; exact HL2.out
  have hlt1 := hat.lt
  obtain ⟨x1, c1⟩ : ∃ x, w1.cell? ⟨w.heap.size, n, none⟩ = some x := ⟨(splice cur 0 cs).toArray[n]'(by omega), by rw [hat.cell]; exact Array.getElem?_eq_getElem _⟩
  obtain ⟨x2, c2⟩ : ∃ x, w1.cell? ⟨w.heap.size, n + 1, none⟩ = some x := ⟨(splice cur 0 cs).toArray[n + 1]'(by omega), by rw [hat.cell]; exact Array.getElem?_eq_getElem _⟩
  have f1 := hat.free n
  have f2 := hat.free (n + 1)
  have HAt : Hid (At w1 w.heap.size (splice cur 0 cs).toArray tN) := hat
  have HB1 : Hid (Below w.heap.size w w1) := hb1
  clear hat hsz hb1
  go_enter Tryd.func7, Tryd.ntmps7
  go_wp2_with fail
  go_ret
  refine ⟨rfl, (HB1.out.setCell (Nat.le_refl _) _).setCell (Nat.le_refl _) _, ?_, by simpa using hlt1⟩
  rw [← HSp.out]
  exact (HAt.out.put n _).put (n + 1) _

set_option maxRecDepth 100000 in
set_option maxHeartbeats 800000 in
theorem l_whole (w : World) (g : Nat) (v : Value) (l : List Int) (hm : l.length ≤ 1073741824) (h : At w g (lentCells l) tN) (hv : Reads w v l) :
    Calls Tryd.prog 11 #[.slice (some ⟨g, 0, none⟩) l.length (l.length + 2), v] w fun e w' => e = .returned (.bool true) ∧ ∃ k, w' = w.drewN k := by
  have hc : ∀ i, i < l.length → (lentCells l)[i]? = some (.int .i64 (l.getD i 0)) := by
    intro i hi
    unfold lentCells
    rw [ic_get _ _ (by simp; omega)]
    simp [List.getD, List.getElem?_append_left hi]
  have h1 := l_same w (.slice (some ⟨g, 0, none⟩) l.length (l.length + 2)) v l hm (Reads.at_ h rfl (by omega) hc) hv
  have c1 : w.cell? ⟨g, l.length, none⟩ = some (.int .i64 77) := by rw [h.cell]; unfold lentCells; rw [ic_get _ _ (by simp)]; simp [List.getD]
  have c2 : w.cell? ⟨g, l.length + 1, none⟩ = some (.int .i64 77) := by rw [h.cell]; unfold lentCells; rw [ic_get _ _ (by simp)]; simp [List.getD]
  obtain ⟨ao, cap, rfl, -, -⟩ := hv
  have hg := h.lt
  clear h hc
  generalize l.length = n at *
  go_enter Tryd.func11, Tryd.ntmps11
  go_wp2_with fail
  refine h1.mono ?_
  rintro e w1 ⟨rfl, k, hk⟩
  have c1' : w1.cell? ⟨g, n, none⟩ = some (.int .i64 77) := by rw [hk]; exact c1
  have c2' : w1.cell? ⟨g, n + 1, none⟩ = some (.int .i64 77) := by rw [hk]; exact c2
  have HK : Hid (∃ k, w1 = w.drewN k) := ⟨k, hk⟩
  clear hk h1 c1 c2
  go_wp2_with fail
  go_ret
  exact ⟨rfl, HK.out⟩

end Go.Proofs.YtkggelfkpieonaaDoor

