import Derived.Test.YtadhimimdmoodaaDn
namespace Go.Proofs.Ytadhimimdmoodaa
open Go.RowKit
variable {w w' : World} {g cap : Nat} {F : List Ds}

theorem firstP_lo (F : List Ds) (p b fr : Int) : -1 ≤ firstP F p b fr := by
  have : ∀ (l : List Ds) (i : Nat), -1 ≤ firstGo p b fr l i := by
    intro l
    induction l with
    | nil => intro i; exact Int.le_refl _
    | cons x l ih =>
      intro i
      rw [firstGo]
      split
      · omega
      · exact ih (i + 1)
  exact this F 0

def boxOf (g n cap : Nat) : Obj := .cells #[.slice (some ⟨g, 0, none⟩) n cap] 37

set_option maxRecDepth 100000 in
set_option maxHeartbeats 1600000 in
theorem d_following (h : PRow w g F) (hl : F.length ≤ 20) (hpar : ∀ (k : Nat) (x : Ds), F[k]? = some x → -1 ≤ x.parent ∧ x.parent < (k : Int)) (pt : Int) (hp0 : -1 ≤ pt) (hp1 : pt < 21) :
    Calls Try.prog 29 #[.agg #[.slice (some ⟨g, 0, none⟩) F.length cap], .int .i64 pt] w fun e w' => e = .returned (.int .i64 (followP F 21 pt)) ∧ Below w.heap.size w w' := by
  have hg := h.1
  have HP : Hid (PRow w g F) := h
  have HPar : Hid (∀ (k : Nat) (x : Ds), F[k]? = some x → -1 ≤ x.parent ∧ x.parent < (k : Int)) := hpar
  have HBox : Hid (Below w.heap.size w (w.alloc (boxOf g F.length cap))) := (Below.refl _ _).alloc (Nat.le_refl _) _
  clear h hpar
  go_enter Try.func29, Try.ntmps29
  go_wp2_with fail
  go_loopw [1] (fun q wr => ∃ (z : Int) (n : Nat), q = .int .i64 z ∧ -1 ≤ z ∧ z < n ∧ n ≤ 21 ∧ followP F 21 pt = followP F n z ∧ Below (w.heap.size + 1) (w.alloc (boxOf g F.length cap)) wr) (fun q _ => (intOf q + 1).toNat)
  case atStart => exact ⟨pt, 21, rfl, hp0, by omega, Nat.le_refl _, rfl, Below.refl _ _⟩
  case round =>
    obtain ⟨z, n, rfl, hz0, hzn, hn21, hfo, hbel⟩ := hrel
    have HF : Hid (_ = _) := hfo
    have hsz := hbel.size
    have hwsz : (w.alloc (boxOf g F.length cap)).heap.size = w.heap.size + 1 := by simp
    rw [hwsz] at hsz
    have hlt0 : w.heap.size < wr.heap.size := by omega
    have hbx : wr.cell? ⟨w.heap.size, 0, none⟩ = some (.slice (some ⟨g, 0, none⟩) F.length cap) := by
      rw [hbel.cell (p := ⟨w.heap.size, 0, none⟩) (by show w.heap.size < _; omega)]
      exact World.cell?_alloc_at (w := w) _ _ _ _ rfl
    have hbw : Below w.heap.size w wr := HBox.out.trans (hbel.mono (by omega))
    have HPr : Hid (PRow wr g F) := HP.out.keep hbw
    have HB : Hid (Below _ _ _) := hbel
    have HBW : Hid (Below _ _ _) := hbw
    clear hfo hbel hwsz hbw
    by_cases hneg : z < 0
    · have HE : Hid (followP F 21 pt = F.length) := HF.out.trans (by
        cases n with
        | zero => rfl
        | succ n => rw [followP, if_pos (.inl hneg)])
      go_wp2_with fail
      refine (d_end _ F.length cap _ hl).mono ?_
      rintro e w2 ⟨rfl, o, rfl⟩
      go_wp2_with fail
      go_ret
      exact ⟨by rw [HE.out]; rfl, HBW.out.alloc (by omega) _⟩
    obtain ⟨k, rfl⟩ : ∃ k : Nat, z = k := ⟨z.toNat, by omega⟩
    obtain ⟨n', rfl⟩ : ∃ n', n = n' + 1 := ⟨n - 1, by omega⟩
    by_cases hge : (F.length : Int) ≤ (k : Int)
    · have HE : Hid (followP F 21 pt = F.length) := HF.out.trans (by rw [followP, if_pos (.inr hge)])
      have hnk : ¬ (k : Int) < (F.length : Int) := by omega
      go_wp2_with fail
      refine (d_end _ F.length cap _ hl).mono ?_
      rintro e w2 ⟨rfl, o, rfl⟩
      go_wp2_with fail
      go_ret
      exact ⟨by rw [HE.out]; rfl, HBW.out.alloc (by omega) _⟩
    have hk : k < F.length := by omega
    have hki : (k : Int) < (F.length : Int) := by omega
    have HN : Hid (followP F 21 pt = if firstP F (F.getD k (newDs 0 0)).parent (F.getD k (newDs 0 0)).block ((k : Int) + 1) ≠ -1 then firstP F (F.getD k (newDs 0 0)).parent (F.getD k (newDs 0 0)).block ((k : Int) + 1) else if isRepP F (F.getD k (newDs 0 0)).parent = true then (F.getD k (newDs 0 0)).parent else followP F n' (F.getD k (newDs 0 0)).parent) := HF.out.trans (by
      rw [followP, if_neg (fun e => e.elim hneg hge), Int.toNat_natCast])
    obtain ⟨c0, c1, c2, c3, c4, c5, c6, c7, c8, c9⟩ := HPr.out.2 k _ (gets' hk)
    obtain ⟨q0, q1⟩ := HPar.out k _ (gets' hk)
    have hgr : g < wr.heap.size := by omega
    clear HF hneg hge
    generalize F.getD k (newDs 0 0) = x at *
    have hfi := fun (w2 : World) (hP : PRow w2 g F) => d_firstIn (cap := cap) hP hl x.parent x.block ((k : Int) + 1)
    have HFI : Hid (∀ (w2 : World) (hP : PRow w2 g F), Calls Try.prog 30 #[.agg #[.slice (some ⟨g, 0, none⟩) F.length cap], .int .i64 x.parent, .int .i64 x.block, .int .i64 ((k : Int) + 1)] w2 fun e w' => e = .returned (.int .i64 (firstP F x.parent x.block ((k : Int) + 1))) ∧ Below w2.heap.size w2 w') := hfi
    clear hfi
    generalize firstP F x.parent x.block ((k : Int) + 1) = fi at *
    go_wp2_with fail
    refine (HFI.out _ (HPr.out.keep ((Below.refl _ _).alloc (Nat.le_refl _) _))).mono ?_
    rintro e w2 ⟨rfl, hb2⟩
    have hsz2 := hb2.size
    simp at hsz2
    have hlt2 : w.heap.size < w2.heap.size := by omega
    have s8 : w2.cell? ⟨wr.heap.size, 8, none⟩ = some (.int .i64 x.parent) := by
      rw [hb2.cell (p := ⟨wr.heap.size, 8, none⟩) (by simp)]
      exact World.cell?_alloc_at (w := wr) _ _ _ _ rfl
    have hbx2 : w2.cell? ⟨w.heap.size, 0, none⟩ = some (.slice (some ⟨g, 0, none⟩) F.length cap) := by
      rw [hb2.cell (p := ⟨w.heap.size, 0, none⟩) (by simp; omega)]
      exact (World.cell?_alloc_past (w := wr) _ _ _ (by omega)).trans hbx
    have hch : Below wr.heap.size wr w2 := ((Below.refl _ _).alloc (Nat.le_refl _) _).trans (hb2.mono (by simp))
    have HCH : Hid (Below _ _ _) := hch
    clear hb2 hch c0 c1 c2 c3 c4 c5 c6 c7 c8 c9
    by_cases hf1 : fi = -1
    · subst hf1
      have HN2 : Hid (_ = _) := HN.out.trans (if_neg (by decide))
      have hre := d_isRepeat (cap := cap) (HPr.out.keep HCH.out) hl x.parent
      clear HN
      cases hrep : isRepP F x.parent
      · have HE : Hid (_ = _) := HN2.out.trans (if_neg (by rw [hrep]; decide))
        rw [hrep] at hre
        clear hrep HN2
        go_wp2_with fail
        refine hre.mono ?_
        rintro e w3 ⟨rfl, hb3⟩
        have s83 : w3.cell? ⟨wr.heap.size, 8, none⟩ = some (.int .i64 x.parent) := by
          rw [hb3.cell (p := ⟨wr.heap.size, 8, none⟩) (by show wr.heap.size < _; omega)]; exact s8
        have HB3 : Hid (Below _ _ _) := hb3
        clear hb3 hre
        go_wp2_with fail
        go_roundw
        case rel => exact ⟨x.parent, n', rfl, q0, by omega, by omega, HE.out, (HB.out.trans (HCH.out.mono hsz)).trans (HB3.out.mono (by omega))⟩
        case measure => simp [intOf]; omega
      · have HE : Hid (_ = _) := HN2.out.trans (if_pos hrep)
        rw [hrep] at hre
        clear hrep HN2
        go_wp2_with fail
        refine hre.mono ?_
        rintro e w3 ⟨rfl, hb3⟩
        have s83 : w3.cell? ⟨wr.heap.size, 8, none⟩ = some (.int .i64 x.parent) := by
          rw [hb3.cell (p := ⟨wr.heap.size, 8, none⟩) (by show wr.heap.size < _; omega)]; exact s8
        have HB3 : Hid (Below _ _ _) := hb3
        clear hb3 hre
        go_wp2_with fail
        go_ret
        exact ⟨by rw [HE.out]; rfl, (HBW.out.trans (HCH.out.mono (by omega))).trans (HB3.out.mono (by omega))⟩
    · have bf : (fi != -1) = true := by rw [bne_iff_ne]; exact hf1
      have HE : Hid (_ = _) := HN.out.trans (if_pos hf1)
      clear HN hf1
      go_wp2_with fail
      go_ret
      exact ⟨by rw [HE.out]; rfl, HBW.out.trans (HCH.out.mono (by omega))⟩

end Go.Proofs.Ytadhimimdmoodaa
