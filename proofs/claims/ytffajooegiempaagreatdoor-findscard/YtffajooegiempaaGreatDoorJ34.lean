import Derived.Test.YtffajooegiempaaGreatDoorJ33
namespace Go.Proofs.YtffajooegiempaaGreatDoor
open Go.RowKit
variable {w w' : World} {g cap : Nat} {F : List Ds}
def boxOf (g n cap : Nat) : Obj := .cells #[.slice (some ⟨g, 0, none⟩) n cap] 43

set_option maxRecDepth 100000 in
set_option maxHeartbeats 1600000 in
theorem d_following (h : PRow w g F) (hl : F.length ≤ 20) (hpar : ∀ (k : Nat) (x : Ds), F[k]? = some x → -1 ≤ x.parent ∧ x.parent < (k : Int)) (pt : Int) (hp0 : -1 ≤ pt) (hp1 : pt < 21) :
    Calls Tryz.prog 102 #[.agg #[.slice (some ⟨g, 0, none⟩) F.length cap], .int .i64 pt] w fun e w' => e = .returned (.int .i64 (followP F 21 pt)) ∧ Below w.heap.size w w' := by
  have hg := h.1
  have HP : Hid (PRow w g F) := h
  have HPar : Hid (∀ (k : Nat) (x : Ds), F[k]? = some x → -1 ≤ x.parent ∧ x.parent < (k : Int)) := hpar
  have HBox : Hid (Below w.heap.size w (w.alloc (boxOf g F.length cap))) := (Below.refl _ _).alloc (Nat.le_refl _) _
  clear h hpar
  go_enter Tryz.func102, Tryz.ntmps102
  go_wp2_with fail
  go_loopw [1] (fun q wr => ∃ (z : Int) (n : Nat), q = .int .i64 z ∧ -1 ≤ z ∧ z < n ∧ n ≤ 21 ∧ followP F 21 pt = followP F n z ∧ Below (w.heap.size + 1) (w.alloc (boxOf g F.length cap)) wr) (fun q _ => (intOf q + 1).toNat)
  case atStart => exact ⟨pt, 21, rfl, hp0, by omega, Nat.le_refl _, rfl, Below.refl _ _⟩
  case round =>
    obtain ⟨z, n, rfl, hz0, hzn, hn21, hfo, hbel⟩ := hrel
    have HF : Hid (_ = _) := hfo
    have hsz := hbel.size
    have hwsz : (w.alloc (boxOf g F.length cap)).heap.size = w.heap.size + 1 := by simp
    rw [hwsz] at hsz
    have hlt0 : w.heap.size < wr.heap.size := by omega
    have hbx : wr.cell? ⟨w.heap.size, 0, none⟩ = some (.slice (some ⟨g, 0, none⟩) F.length cap) := by
      rw [hbel.cell (p := ⟨w.heap.size, 0, none⟩) (by show w.heap.size < _; omega)]
      exact World.cell?_alloc_at (w := w) _ _ _ _ rfl
    have hbw : Below w.heap.size w wr := HBox.out.trans (hbel.mono (by omega))
    have HPr : Hid (PRow wr g F) := HP.out.keep hbw
    have HB : Hid (Below _ _ _) := hbel
    have HBW : Hid (Below _ _ _) := hbw
    clear hfo hbel hwsz hbw
    by_cases hneg : z < 0
    · have HE : Hid (followP F 21 pt = F.length) := HF.out.trans (by
        cases n with
        | zero => rfl
        | succ n => rw [followP, if_pos (.inl hneg)])
      go_wp2_with fail
      refine (d_end _ F.length cap _ hl).mono ?_
      rintro e w2 ⟨rfl, o, rfl⟩
      go_wp2_with fail
      go_ret
      exact ⟨by rw [HE.out]; rfl, HBW.out.alloc (by omega) _⟩
    obtain ⟨k, rfl⟩ : ∃ k : Nat, z = k := ⟨z.toNat, by omega⟩
    obtain ⟨n', rfl⟩ : ∃ n', n = n' + 1 := ⟨n - 1, by omega⟩
    by_cases hge : (F.length : Int) ≤ (k : Int)
    · have HE : Hid (followP F 21 pt = F.length) := HF.out.trans (by rw [followP, if_pos (.inr hge)])
      have hnk : ¬ (k : Int) < (F.length : Int) := by omega
      go_wp2_with fail
      refine (d_end _ F.length cap _ hl).mono ?_
      rintro e w2 ⟨rfl, o, rfl⟩
      go_wp2_with fail
      go_ret
      exact ⟨by rw [HE.out]; rfl, HBW.out.alloc (by omega) _⟩
    have hk : k < F.length := by omega
    have hki : (k : Int) < (F.length : Int) := by omega
    have HN : Hid (followP F 21 pt = if firstP F (F.getD k (newDs 0 0)).parent (F.getD k (newDs 0 0)).block ((k : Int) + 1) ≠ -1 then firstP F (F.getD k (newDs 0 0)).parent (F.getD k (newDs 0 0)).block ((k : Int) + 1) else if isRepP F (F.getD k (newDs 0 0)).parent = true then (F.getD k (newDs 0 0)).parent else followP F n' (F.getD k (newDs 0 0)).parent) := HF.out.trans (by
      rw [followP, if_neg (fun e => e.elim hneg hge), Int.toNat_natCast])
    obtain ⟨c0, c1, c2, c3, c4, c5, c6, c7, c8, c9⟩ := HPr.out.2 k _ (gets' hk)
    obtain ⟨q0, q1⟩ := HPar.out k _ (gets' hk)
    have hgr : g < wr.heap.size := by omega
    clear HF hneg hge
    generalize F.getD k (newDs 0 0) = x at *
    have hfi := fun (w2 : World) (hP : PRow w2 g F) => d_firstIn (cap := cap) hP hl x.parent x.block ((k : Int) + 1)
    have HFI : Hid (∀ (w2 : World) (hP : PRow w2 g F), Calls Tryz.prog 103 #[.agg #[.slice (some ⟨g, 0, none⟩) F.length cap], .int .i64 x.parent, .int .i64 x.block, .int .i64 ((k : Int) + 1)] w2 fun e w' => e = .returned (.int .i64 (firstP F x.parent x.block ((k : Int) + 1))) ∧ Below w2.heap.size w2 w') := hfi
    clear hfi
    generalize firstP F x.parent x.block ((k : Int) + 1) = fi at *
    go_wp2_with fail
    refine (HFI.out _ (HPr.out.keep ((Below.refl _ _).alloc (Nat.le_refl _) _))).mono ?_
    rintro e w2 ⟨rfl, hb2⟩
    have hsz2 := hb2.size
    simp at hsz2
    have hlt2 : w.heap.size < w2.heap.size := by omega
    have s8 : w2.cell? ⟨wr.heap.size, 8, none⟩ = some (.int .i64 x.parent) := by
      rw [hb2.cell (p := ⟨wr.heap.size, 8, none⟩) (by simp)]
      exact World.cell?_alloc_at (w := wr) _ _ _ _ rfl
    have hbx2 : w2.cell? ⟨w.heap.size, 0, none⟩ = some (.slice (some ⟨g, 0, none⟩) F.length cap) := by
      rw [hb2.cell (p := ⟨w.heap.size, 0, none⟩) (by simp; omega)]
      exact (World.cell?_alloc_past (w := wr) _ _ _ (by omega)).trans hbx
    have hch : Below wr.heap.size wr w2 := ((Below.refl _ _).alloc (Nat.le_refl _) _).trans (hb2.mono (by simp))
    have HCH : Hid (Below _ _ _) := hch
    clear hb2 hch c0 c1 c2 c3 c4 c5 c6 c7 c8 c9
    by_cases hf1 : fi = -1
    · subst hf1
      have HN2 : Hid (_ = _) := HN.out.trans (if_neg (by decide))
      have hre := d_isRepeat (cap := cap) (HPr.out.keep HCH.out) hl x.parent
      clear HN
      cases hrep : isRepP F x.parent
      · have HE : Hid (_ = _) := HN2.out.trans (if_neg (by rw [hrep]; decide))
        rw [hrep] at hre
        clear hrep HN2
        go_wp2_with fail
        refine hre.mono ?_
        rintro e w3 ⟨rfl, hb3⟩
        have s83 : w3.cell? ⟨wr.heap.size, 8, none⟩ = some (.int .i64 x.parent) := by
          rw [hb3.cell (p := ⟨wr.heap.size, 8, none⟩) (by show wr.heap.size < _; omega)]; exact s8
        have HB3 : Hid (Below _ _ _) := hb3
        clear hb3 hre
        go_wp2_with fail
        go_roundw
        case rel => exact ⟨x.parent, n', rfl, q0, by omega, by omega, HE.out, (HB.out.trans (HCH.out.mono hsz)).trans (HB3.out.mono (by omega))⟩
        case measure => simp [intOf]; omega
      · have HE : Hid (_ = _) := HN2.out.trans (if_pos hrep)
        rw [hrep] at hre
        clear hrep HN2
        go_wp2_with fail
        refine hre.mono ?_
        rintro e w3 ⟨rfl, hb3⟩
        have s83 : w3.cell? ⟨wr.heap.size, 8, none⟩ = some (.int .i64 x.parent) := by
          rw [hb3.cell (p := ⟨wr.heap.size, 8, none⟩) (by show wr.heap.size < _; omega)]; exact s8
        have HB3 : Hid (Below _ _ _) := hb3
        clear hb3 hre
        go_wp2_with fail
        go_ret
        exact ⟨by rw [HE.out]; rfl, (HBW.out.trans (HCH.out.mono (by omega))).trans (HB3.out.mono (by omega))⟩
    · have bf : (fi != -1) = true := by rw [bne_iff_ne]; exact hf1
      have HE : Hid (_ = _) := HN.out.trans (if_pos hf1)
      clear HN hf1
      go_wp2_with fail
      go_ret
      exact ⟨by rw [HE.out]; rfl, HBW.out.trans (HCH.out.mono (by omega))⟩

end Go.Proofs.YtffajooegiempaaGreatDoor

namespace Go.Proofs.YtffajooegiempaaGreatDoor
open Go.RowKit
variable {w w' : World} {g cap : Nat} {F : List Ds}

/-- Two numbers that come out. -/
def twoD (x : Int × Int) : Ending := .returned (.tuple #[.int .i64 x.1, .int .i64 x.2])

set_option maxRecDepth 100000 in
set_option maxHeartbeats 1600000 in
theorem d_next_out (ao : Option Addr) (n : Nat) (hn : n ≤ 20) (pt way : Int) (hp : pt < 0 ∨ (n : Int) ≤ pt) (w : World) :
    Calls Tryz.prog 68 #[.agg #[.slice ao n cap], .int .i64 pt, .int .i64 way] w fun e w' => e = twoD (0, 2) ∧ Below w.heap.size w w' := by
  have HB : Hid (∀ o1, Below w.heap.size w (w.alloc o1)) := fun o1 => (Below.refl _ _).alloc (Nat.le_refl _) _
  have HAt : Hid (∀ w1, Calls Tryz.prog 79 #[.agg #[.slice ao n cap], .int .i64 pt, .int .i64 way] w1 fun e w' => e = .returned (.tuple #[dsv zDs, .int .i64 2]) ∧ Below w1.heap.size w1 w') := fun w1 => d_with_out ao n hn pt way hp
  unfold dsv zDs newDs at HAt
  clear hp
  go_enter Tryz.func68, Tryz.ntmps68
  go_wp2_with fail
  refine (HAt.out _).mono ?_
  rintro e w1 ⟨rfl, hb1⟩
  have H1 : Hid (Below w.heap.size w w1) := (HB.out _).trans (hb1.mono (by simp))
  have hs1 := H1.out.size
  clear hb1
  go_wp2_with fail
  go_ret2
  exact ⟨rfl, H1.out.alloc hs1 _⟩

set_option maxRecDepth 100000 in
set_option maxHeartbeats 1600000 in
theorem d_next_in (h : PRow w g F) (hl : F.length ≤ 20) (hpar : ∀ (k : Nat) (x : Ds), F[k]? = some x → -1 ≤ x.parent ∧ x.parent < (k : Int)) (k : Nat) (hk : k < F.length) (way : Int) :
    Calls Tryz.prog 68 #[.agg #[.slice (some ⟨g, 0, none⟩) F.length cap], .int .i64 (k : Int), .int .i64 way] w fun e w' => e = twoD (nextP F k way) ∧ Below w.heap.size w w' := by
  have hg := h.1
  have hki : (k : Int) < (F.length : Int) := by omega
  have HP : Hid (PRow w g F) := h
  have HPar : Hid (∀ (k : Nat) (x : Ds), F[k]? = some x → -1 ≤ x.parent ∧ x.parent < (k : Int)) := hpar
  have HB : Hid (∀ o1, Below w.heap.size w (w.alloc o1)) := fun o1 => (Below.refl _ _).alloc (Nat.le_refl _) _
  have HN : Hid (nextP F k way = if way < 0 ∨ waysP (F.getD k (newDs 0 0)).kind ≤ way then (0, 2) else if blocksOf (F.getD k (newDs 0 0)).kind ≤ way then (followP F 21 k, 0) else if firstP F k way ((k : Int) + 1) ≠ -1 then (firstP F k way ((k : Int) + 1), 0) else if (F.getD k (newDs 0 0)).kind = 3 then ((k : Int), 0) else (followP F 21 k, 0)) := by
    show nextP F k way = _
    unfold nextP
    rw [if_neg (by omega), Int.toNat_natCast]
  have HAt : Hid (∀ w1, Below w.heap.size w w1 → Calls Tryz.prog 79 #[.agg #[.slice (some ⟨g, 0, none⟩) F.length cap], .int .i64 (k : Int), .int .i64 way] w1 fun e w' =>
      e = .returned (.tuple #[dsv (if way < 0 ∨ waysP (F.getD k (newDs 0 0)).kind ≤ way then zDs else F.getD k (newDs 0 0)), .int .i64 (if way < 0 ∨ waysP (F.getD k (newDs 0 0)).kind ≤ way then 2 else 0)]) ∧ Below w1.heap.size w1 w') := fun w1 hb => d_with_in (HP.out.keep hb) k hk way
  clear h hpar
  generalize F.getD k (newDs 0 0) = x at *
  by_cases hbad : way < 0 ∨ waysP x.kind ≤ way
  · have HE : Hid (_ = _) := HN.out.trans (if_pos hbad)
    rw [if_pos hbad, if_pos hbad] at HAt
    unfold dsv zDs newDs at HAt
    clear HN hbad
    go_enter Tryz.func68, Tryz.ntmps68
    go_wp2_with fail
    refine (HAt.out _ (HB.out _)).mono ?_
    rintro e w1 ⟨rfl, hb1⟩
    have p1 : w1.cell? ⟨w.heap.size, 0, none⟩ = some (.slice (some ⟨g, 0, none⟩) F.length cap) := by
      rw [hb1.cell (p := ⟨w.heap.size, 0, none⟩) (by simp)]
      exact World.cell?_alloc_at _ _ _ _ rfl
    have H1 : Hid (Below w.heap.size w w1) := (HB.out _).trans (hb1.mono (by simp))
    have hs1 : w.heap.size + 1 ≤ w1.heap.size := by have := hb1.size; simp at this; omega
    have hlt1 : w.heap.size < w1.heap.size := by omega
    have hB : Hid (∀ o1 o2 : Obj, Below w.heap.size w ((w1.alloc o1).alloc o2)) := fun o1 o2 => (H1.out.alloc (by omega) _).alloc (by simp; omega) _
    clear hb1
    go_wp2_with fail
    go_ret2
    exact ⟨by rw [HE.out]; rfl, H1.out.alloc (by omega) _⟩
  have HN2 : Hid (_ = _) := HN.out.trans (if_neg hbad)
  rw [if_neg hbad, if_neg hbad] at HAt
  unfold dsv at HAt
  clear HN hbad
  by_cases hb : blocksOf x.kind ≤ way
  · have HE : Hid (_ = _) := HN2.out.trans (if_pos hb)
    clear HN2
    go_enter Tryz.func68, Tryz.ntmps68
    go_wp2_with fail
    refine (HAt.out _ (HB.out _)).mono ?_
    rintro e w1 ⟨rfl, hb1⟩
    have p1 : w1.cell? ⟨w.heap.size, 0, none⟩ = some (.slice (some ⟨g, 0, none⟩) F.length cap) := by
      rw [hb1.cell (p := ⟨w.heap.size, 0, none⟩) (by simp)]
      exact World.cell?_alloc_at _ _ _ _ rfl
    have H1 : Hid (Below w.heap.size w w1) := (HB.out _).trans (hb1.mono (by simp))
    have hs1 : w.heap.size + 1 ≤ w1.heap.size := by have := hb1.size; simp at this; omega
    have hlt1 : w.heap.size < w1.heap.size := by omega
    have hB : Hid (∀ o1 o2 : Obj, Below w.heap.size w ((w1.alloc o1).alloc o2)) := fun o1 o2 => (H1.out.alloc (by omega) _).alloc (by simp; omega) _
    clear hb1
    go_wp2_with fail
    refine (d_blocks _ _ _ _ _ _ _ _ _ _ _).mono ?_
    rintro e w2 ⟨rfl, o2, rfl⟩
    go_wp2_with fail
    refine (d_following (HP.out.keep (hB.out _ _)) hl HPar.out (k : Int) (by omega) (by omega)).mono ?_
    rintro e w4 ⟨rfl, hb4⟩
    go_wp2_with fail
    go_ret2
    exact ⟨by rw [HE.out]; rfl, (hB.out _ _).trans (hb4.mono (by simp; omega))⟩
  have HN3 : Hid (_ = _) := HN2.out.trans (if_neg hb)
  clear HN2
  have HFI : Hid (∀ (w2 : World) (hP : PRow w2 g F), Calls Tryz.prog 103 #[.agg #[.slice (some ⟨g, 0, none⟩) F.length cap], .int .i64 (k : Int), .int .i64 way, .int .i64 ((k : Int) + 1)] w2 fun e w' => e = .returned (.int .i64 (firstP F k way ((k : Int) + 1))) ∧ Below w2.heap.size w2 w') := fun w2 hP => d_firstIn (cap := cap) hP hl k way ((k : Int) + 1)
  generalize firstP F k way ((k : Int) + 1) = fi at *
  by_cases hfi : fi = -1
  · subst hfi
    have HN4 : Hid (_ = _) := HN3.out.trans (if_neg (by decide))
    clear HN3
    by_cases h3 : x.kind = 3
    · have HE : Hid (_ = _) := HN4.out.trans (if_pos h3)
      clear HN4
      have HK : Hid (x.kind = 3) := h3
      clear h3
      go_enter Tryz.func68, Tryz.ntmps68
      go_wp2_with fail
      refine (HAt.out _ (HB.out _)).mono ?_
      rintro e w1 ⟨rfl, hb1⟩
      have p1 : w1.cell? ⟨w.heap.size, 0, none⟩ = some (.slice (some ⟨g, 0, none⟩) F.length cap) := by
        rw [hb1.cell (p := ⟨w.heap.size, 0, none⟩) (by simp)]
        exact World.cell?_alloc_at _ _ _ _ rfl
      have H1 : Hid (Below w.heap.size w w1) := (HB.out _).trans (hb1.mono (by simp))
      have hs1 : w.heap.size + 1 ≤ w1.heap.size := by have := hb1.size; simp at this; omega
      have hlt1 : w.heap.size < w1.heap.size := by omega
      have hB : Hid (∀ o1 o2 : Obj, Below w.heap.size w ((w1.alloc o1).alloc o2)) := fun o1 o2 => (H1.out.alloc (by omega) _).alloc (by simp; omega) _
      clear hb1
      go_wp2_with fail
      refine (d_blocks _ _ _ _ _ _ _ _ _ _ _).mono ?_
      rintro e w2 ⟨rfl, o2, rfl⟩
      go_wp2_with fail
      refine (HFI.out _ (HP.out.keep (hB.out _ _))).mono ?_
      rintro e w3 ⟨rfl, hb3⟩
      have hsz3 := hb3.size
      simp at hsz3
      have s0 : w3.cell? ⟨w1.heap.size, 0, none⟩ = some (.int .i64 x.kind) := by
        rw [hb3.cell (p := ⟨w1.heap.size, 0, none⟩) (by simp; omega), World.cell?_alloc_past _ _ _ (by simp)]
        exact World.cell?_alloc_at _ _ _ _ rfl
      have p0 : w3.cell? ⟨w.heap.size, 0, none⟩ = some (.slice (some ⟨g, 0, none⟩) F.length cap) := by
        rw [hb3.cell (p := ⟨w.heap.size, 0, none⟩) (by simp; omega), World.cell?_alloc_past _ _ _ (by simp; omega), World.cell?_alloc_past _ _ _ (by omega)]
        exact p1
      have HB3 : Hid (Below w.heap.size w w3) := (hB.out _ _).trans (hb3.mono (by simp; omega))
      clear hb3
      have s0' : w3.cell? ⟨w1.heap.size, 0, none⟩ = some (.int .i64 3) := by rw [s0, HK.out]
      clear s0
      go_wp2_with fail
      go_ret2
      exact ⟨by rw [HE.out]; rfl, HB3.out⟩
    · have HE : Hid (_ = _) := HN4.out.trans (if_neg h3)
      have b3 : (x.kind == 3) = false := by simpa using h3
      clear HN4 h3
      go_enter Tryz.func68, Tryz.ntmps68
      go_wp2_with fail
      refine (HAt.out _ (HB.out _)).mono ?_
      rintro e w1 ⟨rfl, hb1⟩
      have p1 : w1.cell? ⟨w.heap.size, 0, none⟩ = some (.slice (some ⟨g, 0, none⟩) F.length cap) := by
        rw [hb1.cell (p := ⟨w.heap.size, 0, none⟩) (by simp)]
        exact World.cell?_alloc_at _ _ _ _ rfl
      have H1 : Hid (Below w.heap.size w w1) := (HB.out _).trans (hb1.mono (by simp))
      have hs1 : w.heap.size + 1 ≤ w1.heap.size := by have := hb1.size; simp at this; omega
      have hlt1 : w.heap.size < w1.heap.size := by omega
      have hB : Hid (∀ o1 o2 : Obj, Below w.heap.size w ((w1.alloc o1).alloc o2)) := fun o1 o2 => (H1.out.alloc (by omega) _).alloc (by simp; omega) _
      clear hb1
      go_wp2_with fail
      refine (d_blocks _ _ _ _ _ _ _ _ _ _ _).mono ?_
      rintro e w2 ⟨rfl, o2, rfl⟩
      go_wp2_with fail
      refine (HFI.out _ (HP.out.keep (hB.out _ _))).mono ?_
      rintro e w3 ⟨rfl, hb3⟩
      have hsz3 := hb3.size
      simp at hsz3
      have s0 : w3.cell? ⟨w1.heap.size, 0, none⟩ = some (.int .i64 x.kind) := by
        rw [hb3.cell (p := ⟨w1.heap.size, 0, none⟩) (by simp; omega), World.cell?_alloc_past _ _ _ (by simp)]
        exact World.cell?_alloc_at _ _ _ _ rfl
      have p0 : w3.cell? ⟨w.heap.size, 0, none⟩ = some (.slice (some ⟨g, 0, none⟩) F.length cap) := by
        rw [hb3.cell (p := ⟨w.heap.size, 0, none⟩) (by simp; omega), World.cell?_alloc_past _ _ _ (by simp; omega), World.cell?_alloc_past _ _ _ (by omega)]
        exact p1
      have HB3 : Hid (Below w.heap.size w w3) := (hB.out _ _).trans (hb3.mono (by simp; omega))
      clear hb3
      go_wp2_with fail
      refine (d_following (HP.out.keep HB3.out) hl HPar.out (k : Int) (by omega) (by omega)).mono ?_
      rintro e w4 ⟨rfl, hb4⟩
      go_wp2_with fail
      go_ret2
      exact ⟨by rw [HE.out]; rfl, HB3.out.trans (hb4.mono HB3.out.size)⟩
  · have HE : Hid (_ = _) := HN3.out.trans (if_pos hfi)
    have bf : (fi != -1) = true := by rw [bne_iff_ne]; exact hfi
    clear HN3 hfi
    go_enter Tryz.func68, Tryz.ntmps68
    go_wp2_with fail
    refine (HAt.out _ (HB.out _)).mono ?_
    rintro e w1 ⟨rfl, hb1⟩
    have p1 : w1.cell? ⟨w.heap.size, 0, none⟩ = some (.slice (some ⟨g, 0, none⟩) F.length cap) := by
      rw [hb1.cell (p := ⟨w.heap.size, 0, none⟩) (by simp)]
      exact World.cell?_alloc_at _ _ _ _ rfl
    have H1 : Hid (Below w.heap.size w w1) := (HB.out _).trans (hb1.mono (by simp))
    have hs1 : w.heap.size + 1 ≤ w1.heap.size := by have := hb1.size; simp at this; omega
    have hlt1 : w.heap.size < w1.heap.size := by omega
    have hB : Hid (∀ o1 o2 : Obj, Below w.heap.size w ((w1.alloc o1).alloc o2)) := fun o1 o2 => (H1.out.alloc (by omega) _).alloc (by simp; omega) _
    clear hb1
    go_wp2_with fail
    refine (d_blocks _ _ _ _ _ _ _ _ _ _ _).mono ?_
    rintro e w2 ⟨rfl, o2, rfl⟩
    go_wp2_with fail
    refine (HFI.out _ (HP.out.keep (hB.out _ _))).mono ?_
    rintro e w3 ⟨rfl, hb3⟩
    have hsz3 := hb3.size
    simp at hsz3
    have s0 : w3.cell? ⟨w1.heap.size, 0, none⟩ = some (.int .i64 x.kind) := by
      rw [hb3.cell (p := ⟨w1.heap.size, 0, none⟩) (by simp; omega), World.cell?_alloc_past _ _ _ (by simp)]
      exact World.cell?_alloc_at _ _ _ _ rfl
    have p0 : w3.cell? ⟨w.heap.size, 0, none⟩ = some (.slice (some ⟨g, 0, none⟩) F.length cap) := by
      rw [hb3.cell (p := ⟨w.heap.size, 0, none⟩) (by simp; omega), World.cell?_alloc_past _ _ _ (by simp; omega), World.cell?_alloc_past _ _ _ (by omega)]
      exact p1
    have HB3 : Hid (Below w.heap.size w w3) := (hB.out _ _).trans (hb3.mono (by simp; omega))
    clear hb3
    clear s0
    go_wp2_with fail
    go_ret2
    exact ⟨by rw [HE.out]; rfl, HB3.out⟩

end Go.Proofs.YtffajooegiempaaGreatDoor

namespace Go.Proofs.YtffajooegiempaaGreatDoor
open Go.RowKit
variable {w : World} {s : ByteArray}

def allN (f : Nat → Bool) : Nat → Bool
  | 0 => true
  | n + 1 => allN f n && f n
theorem allN_no {f : Nat → Bool} {n i : Nat} (hi : i < n) (h : f i = false) : allN f n = false := by
  induction n with
  | zero => cases hi
  | succ n ih =>
    show (allN f n && f n) = false
    rcases Nat.lt_or_ge i n with q | q
    · rw [ih q]; rfl
    · rw [show n = i by omega, h, Bool.and_false]
/-- What a point's check says: nothing goes wrong there, and every way leads into what is claimed. -/
def wayP (F : List Ds) (L : List (Option (List Int))) (k way : Nat) : Bool :=
  wiB (poE (cE (atL L k)) (cM (atL L k)) (F.getD k (newDs 0 0)) way) (cE (atL L (nextP F k way).1)) (poM (cE (atL L k)) (cM (atL L k)) (F.getD k (newDs 0 0)) way) (cM (atL L (nextP F k way).1))
def chkP (F : List Ds) (L : List (Option (List Int))) (k : Nat) : Int :=
  if sfP (cE (atL L k)) (cM (atL L k)) (F.getD k (newDs 0 0)) = false then 6 else if allN (wayP F L k) (waysP (F.getD k (newDs 0 0)).kind).toNat then 0 else 7
theorem next_z (F : List Ds) (k : Nat) (hk : k < F.length) (way : Nat) (h : (way : Int) < waysP (F.getD k (newDs 0 0)).kind) : (nextP F k way).2 = 0 := by
  unfold nextP
  rw [if_neg (by omega), if_neg (by rw [Int.toNat_natCast]; omega)]
  split
  · rfl
  · split
    · rfl
    · split <;> rfl
theorem ways_rng (x : Int) : 1 ≤ waysP x ∧ waysP x ≤ 2 := by
  unfold waysP
  split <;> omega

abbrev tPr : TypeId := 43
/-- The boxes of a point's check. -/
def CB (w wr : World) (B7 B9 : Nat) (e1 : Bool) (M1 : Nat → Int) (x : Ds) (pv : Value) : Prop := OAt wr B9 e1 M1 ∧ At wr B7 (dsCells x) tDs ∧ At wr w.heap.size #[pv] tPr ∧ Below w.heap.size w wr
theorem CB.keep {wr w' : World} {B7 B9 : Nat} {e1 : Bool} {M1 : Nat → Int} {x : Ds} {pv : Value} (h : CB w wr B7 B9 e1 M1 x pv) (hb : Below wr.heap.size wr w') : CB w w' B7 B9 e1 M1 x pv :=
  ⟨At.keep h.1 hb (At.lt h.1), h.2.1.keep hb h.2.1.lt, h.2.2.1.keep hb h.2.2.1.lt, h.2.2.2.trans (hb.mono h.2.2.2.size)⟩

set_option maxRecDepth 100000 in
set_option maxHeartbeats 6400000 in
theorem c_checkPoint {g0 cap g k : Nat} {F : List Ds} {L : List (Option (List Int))} (hP : PRow w g0 F) (hl : F.length ≤ 20) (hpar : ∀ (k : Nat) (x : Ds), F[k]? = some x → -1 ≤ x.parent ∧ x.parent < (k : Int)) (hk : k < F.length) (hO : ORow w g L)
    (hx : DsG (F.getD k (newDs 0 0))) (ht : 0 ≤ (F.getD k (newDs 0 0)).target ∧ (F.getD k (newDs 0 0)).target < 4) (hM : ∀ j, j < 64 → -20000000000 ≤ cM (atL L k) j ∧ cM (atL L k) j ≤ 1000000) (hS : cE (atL L k) = false → Sh (cM (atL L k))) :
    Calls Tryz.prog 91 #[.agg #[.slice (some ⟨g0, 0, none⟩) F.length cap], .slice (some ⟨g, 0, none⟩) L.length 21, .int .i64 (k : Int)] w fun e w' => e = .returned (.int .i64 (chkP F L k)) ∧ Below w.heap.size w w' := by
  have HAt : Hid (∀ w1, Below w.heap.size w w1 → Calls Tryz.prog 81 #[.agg #[.slice (some ⟨g0, 0, none⟩) F.length cap], .int .i64 (k : Int)] w1 fun e w' => e = .returned (.tuple #[dsv (F.getD k (newDs 0 0)), .int .i64 0]) ∧ Below w1.heap.size w1 w') := fun w1 hb => d_at_in (hP.keep hb) k hk
  have HNx : Hid (∀ w1 (way : Nat), (way : Int) < waysP (F.getD k (newDs 0 0)).kind → Below w.heap.size w w1 → Calls Tryz.prog 68 #[.agg #[.slice (some ⟨g0, 0, none⟩) F.length cap], .int .i64 (k : Int), .int .i64 (way : Int)] w1 fun e w' => e = .returned (.tuple #[.int .i64 (nextP F k way).1, .int .i64 0]) ∧ Below w1.heap.size w1 w') := fun w1 way hw hb => by
    have := d_next_in (cap := cap) (hP.keep hb) hl hpar k hk (way : Int)
    unfold twoD at this
    rw [next_z F k hk way hw] at this
    exact this
  have HCl : Hid (∀ w1 pt, Below w.heap.size w w1 → Calls Tryz.prog 90 #[.slice (some ⟨g, 0, none⟩) L.length 21, .int .i64 pt] w1 fun e w' => e = .returned (.agg (oc (cE (atL L pt)) (cM (atL L pt)))) ∧ Below w1.heap.size w1 w') := fun w1 pt hb => c_claimAt (hO.keep hb) pt
  have HSf : Hid (∀ w1, Calls Tryz.prog 82 #[dsv (F.getD k (newDs 0 0)), .agg (oc (cE (atL L k)) (cM (atL L k)))] w1 fun e w' => e = .returned (.bool (sfP (cE (atL L k)) (cM (atL L k)) (F.getD k (newDs 0 0)))) ∧ Below w1.heap.size w1 w') := fun w1 => e_safe _ hx (fun j hj => by have := hM j hj; omega)
  have HPo : Hid (∀ w1 (way : Nat), Calls Tryz.prog 80 #[dsv (F.getD k (newDs 0 0)), .int .i64 (way : Int), .agg (oc (cE (atL L k)) (cM (atL L k)))] w1 fun e w' => e = .returned (.agg (oc (poE (cE (atL L k)) (cM (atL L k)) (F.getD k (newDs 0 0)) way) (poM (cE (atL L k)) (cM (atL L k)) (F.getD k (newDs 0 0)) way))) ∧ Below w1.heap.size w1 w') := fun w1 way => e_post _ hx ht (way : Int) hM hS
  have HC : Hid (chkP F L k = if sfP (cE (atL L k)) (cM (atL L k)) (F.getD k (newDs 0 0)) = false then 6 else if allN (wayP F L k) (waysP (F.getD k (newDs 0 0)).kind).toNat then 0 else 7) := rfl
  have HWi : Hid (∀ way : Nat, wayP F L k way = wiB (poE (cE (atL L k)) (cM (atL L k)) (F.getD k (newDs 0 0)) way) (cE (atL L (nextP F k way).1)) (poM (cE (atL L k)) (cM (atL L k)) (F.getD k (newDs 0 0)) way) (cM (atL L (nextP F k way).1))) := fun way => rfl
  clear hP hl hpar hO hx ht hM hS hk
  generalize wayP F L k = wp at *
  generalize F.getD k (newDs 0 0) = x at *
  have HCk := fun w1 hb => HCl.out w1 (k : Int) hb
  have HCk : Hid (∀ w1, Below w.heap.size w w1 → Calls Tryz.prog 90 #[.slice (some ⟨g, 0, none⟩) L.length 21, .int .i64 (k : Int)] w1 fun e w' => e = .returned (.agg (oc (cE (atL L k)) (cM (atL L k)))) ∧ Below w1.heap.size w1 w') := HCk
  generalize cE (atL L k) = e1 at *
  generalize cM (atL L k) = M1 at *
  have hwr := ways_rng x.kind
  obtain ⟨n, hn⟩ : ∃ n : Nat, waysP x.kind = (n : Int) := ⟨(waysP x.kind).toNat, by omega⟩
  have HW : Hid (∀ w1, Calls Tryz.prog 111 #[dsv x] w1 fun e w' => e = .returned (.int .i64 (n : Int)) ∧ Below w1.heap.size w1 w') := fun w1 => by
    rw [← hn]
    exact (d_ways _ _ _ _ _ _ _ _ _ _ w1).mono fun e w' ⟨h1, o, h2⟩ => ⟨h1, by rw [h2]; exact (Below.refl _ _).alloc (Nat.le_refl _) _⟩
  rw [hn] at HC HNx
  rw [Int.toNat_natCast] at HC
  unfold dsv at HAt HSf HPo HW
  have hn2 : n ≤ 2 := by omega
  clear hwr hn
  have hz := o_zero
  obtain ⟨pv, hpv⟩ : ∃ pv, pv = Value.slice (some ⟨g0, 0, none⟩) F.length cap := ⟨_, rfl⟩
  go_enter Tryz.func91, Tryz.ntmps91
  go_wp2_with fail
  refine (HAt.out _ ((Below.refl _ _).alloc (Nat.le_refl _) _)).mono ?_
  rintro e w1 ⟨rfl, hb1⟩
  have H1 : Hid (At w1 w.heap.size #[pv] tPr ∧ Below w.heap.size w w1) := by rw [hpv]; exact ⟨At.keep (At.new w _ _) hb1 (by simp), ((Below.refl _ _).alloc (Nat.le_refl _) _).trans (hb1.mono (by simp))⟩
  have HCk2 : Hid (∀ ob, Calls Tryz.prog 90 #[.slice (some ⟨g, 0, none⟩) L.length 21, .int .i64 (k : Int)] (w1.alloc ob) fun e w' => e = .returned (.agg (oc e1 M1)) ∧ Below (w1.alloc ob).heap.size (w1.alloc ob) w') := fun ob => HCk.out _ (H1.out.2.alloc H1.out.2.size _)
  clear hb1 HCk
  go_wp2_with fail
  refine (HCk2.out _).mono ?_
  rintro e w2 ⟨rfl, hb2⟩
  obtain ⟨w3, hst3, hat3, hb3, hs3⟩ := o_fresh w2 e1 M1
  have hs2 : w1.heap.size + 1 ≤ w2.heap.size := by have := hb2.size; simpa using this
  have H3 : Hid (CB w w3 w1.heap.size w2.heap.size e1 M1 x pv) := by
    have hA2 : At w2 w1.heap.size (dsCells x) tDs := At.keep (At.new w1 (dsCells x) tDs) hb2 (by simp)
    have hA1 : At w2 w.heap.size #[pv] tPr := At.keep (At.allocH H1.out.1 _) hb2 (by have := H1.out.1.lt; simp; omega)
    have hB2 : Below w.heap.size w w2 := (H1.out.2.alloc H1.out.2.size _).trans (hb2.mono (by have := H1.out.2.size; simp; omega))
    exact ⟨hat3, hA2.keep hb3 hA2.lt, hA1.keep hb3 hA1.lt, hB2.trans (hb3.mono hB2.size)⟩
  clear hb2 hat3 hb3 HCk2
  have y0 : w3.cell? ⟨w1.heap.size, 0, none⟩ = some (.int .i64 x.kind) := (H3.out.2.1).cell 0
  have y1 : w3.cell? ⟨w1.heap.size, 1, none⟩ = some (.int .i64 x.target) := (H3.out.2.1).cell 1
  have y2 : w3.cell? ⟨w1.heap.size, 2, none⟩ = some (.bool x.any) := (H3.out.2.1).cell 2
  have y3 : w3.cell? ⟨w1.heap.size, 3, none⟩ = some (.int .i64 (sgAt x.sg 0)) := (H3.out.2.1).cell 3
  have y4 : w3.cell? ⟨w1.heap.size, 4, none⟩ = some (.int .i64 (sgAt x.sg 1)) := (H3.out.2.1).cell 4
  have y5 : w3.cell? ⟨w1.heap.size, 5, none⟩ = some (.int .i64 (sgAt x.sg 2)) := (H3.out.2.1).cell 5
  have y6 : w3.cell? ⟨w1.heap.size, 6, none⟩ = some (.int .i64 (sgAt x.sg 3)) := (H3.out.2.1).cell 6
  have y7 : w3.cell? ⟨w1.heap.size, 7, none⟩ = some (.int .i64 x.num) := (H3.out.2.1).cell 7
  have y8 : w3.cell? ⟨w1.heap.size, 8, none⟩ = some (.int .i64 x.parent) := (H3.out.2.1).cell 8
  have y9 : w3.cell? ⟨w1.heap.size, 9, none⟩ = some (.int .i64 x.block) := (H3.out.2.1).cell 9
  go_wp2_with (refine wpList_load_o rfl (.tmp 9) rfl rfl H3.out.1 ?_)
  refine (HSf.out w3).mono ?_
  rintro e w4 ⟨rfl, hb4⟩
  have H4 : Hid (CB w w4 w1.heap.size w2.heap.size e1 M1 x pv) := H3.out.keep hb4
  clear hb4 HSf y0 y1 y2 y3 y4 y5 y6 y7 y8 y9 H3
  cases hsf : sfP e1 M1 x with
  | false =>
    have HE : Hid (chkP F L k = 6) := by show _ = _; rw [HC.out, if_pos hsf]
    clear hsf
    go_wp2_with fail
    go_ret
    exact ⟨by rw [HE.out]; rfl, H4.out.2.2.2⟩
  | true =>
    have HE : Hid (chkP F L k = if allN wp n = true then 0 else 7) := by show _ = _; rw [HC.out, if_neg (by rw [hsf]; decide)]
    clear hsf HC
    go_wp2_with fail
    go_loopw [10] (fun iv wr => ∃ i : Nat, i ≤ n ∧ iv = .int .i64 (i : Int) ∧ Hid (allN wp i = true ∧ CB w wr w1.heap.size w2.heap.size e1 M1 x pv)) (fun iv _ => n - (intOf iv).toNat)
    case atStart => exact ⟨0, by omega, rfl, rfl, H4.out⟩
    case round =>
      obtain ⟨i, hi, rfl, HR⟩ := hrel
      have y0 : wr.cell? ⟨w1.heap.size, 0, none⟩ = some (.int .i64 x.kind) := (HR.out.2.2.1).cell 0
      have y1 : wr.cell? ⟨w1.heap.size, 1, none⟩ = some (.int .i64 x.target) := (HR.out.2.2.1).cell 1
      have y2 : wr.cell? ⟨w1.heap.size, 2, none⟩ = some (.bool x.any) := (HR.out.2.2.1).cell 2
      have y3 : wr.cell? ⟨w1.heap.size, 3, none⟩ = some (.int .i64 (sgAt x.sg 0)) := (HR.out.2.2.1).cell 3
      have y4 : wr.cell? ⟨w1.heap.size, 4, none⟩ = some (.int .i64 (sgAt x.sg 1)) := (HR.out.2.2.1).cell 4
      have y5 : wr.cell? ⟨w1.heap.size, 5, none⟩ = some (.int .i64 (sgAt x.sg 2)) := (HR.out.2.2.1).cell 5
      have y6 : wr.cell? ⟨w1.heap.size, 6, none⟩ = some (.int .i64 (sgAt x.sg 3)) := (HR.out.2.2.1).cell 6
      have y7 : wr.cell? ⟨w1.heap.size, 7, none⟩ = some (.int .i64 x.num) := (HR.out.2.2.1).cell 7
      have y8 : wr.cell? ⟨w1.heap.size, 8, none⟩ = some (.int .i64 x.parent) := (HR.out.2.2.1).cell 8
      have y9 : wr.cell? ⟨w1.heap.size, 9, none⟩ = some (.int .i64 x.block) := (HR.out.2.2.1).cell 9
      have hl7 := HR.out.2.2.1.lt
      go_wp2_with fail
      refine (HW.out wr).mono ?_
      rintro e w5 ⟨rfl, hb5⟩
      have H5 : Hid (CB w w5 w1.heap.size w2.heap.size e1 M1 x pv) := HR.out.2.keep hb5
      clear hb5 y0 y1 y2 y3 y4 y5 y6 y7 y8 y9
      by_cases hin : i < n
      · have hii : (i : Int) < (n : Int) := by omega
        have c3 : w5.cell? ⟨w.heap.size, 0, none⟩ = some (.slice (some ⟨g0, 0, none⟩) F.length cap) := by rw [← hpv]; exact H5.out.2.2.1.cell 0
        have hnx := HNx.out w5 i hii H5.out.2.2.2
        have HWi2 : Hid (wp i = wiB (poE e1 M1 x i) (cE (atL L (nextP F k i).1)) (poM e1 M1 x i) (cM (atL L (nextP F k i).1))) := HWi.out i
        generalize (nextP F k i).1 = q at *
        have HCq : Hid (∀ w1, Below w.heap.size w w1 → Calls Tryz.prog 90 #[.slice (some ⟨g, 0, none⟩) L.length 21, .int .i64 q] w1 fun e w' => e = .returned (.agg (oc (cE (atL L q)) (cM (atL L q)))) ∧ Below w1.heap.size w1 w') := fun w1 hb => HCl.out w1 q hb
        have HPi : Hid _ := fun w1 => HPo.out w1 i
        generalize cE (atL L q) = e3 at *
        generalize cM (atL L q) = M3 at *
        generalize poE e1 M1 x i = e4 at *
        generalize poM e1 M1 x i = M4 at *
        go_wp2_with fail
        refine hnx.mono ?_
        rintro e w6 ⟨rfl, hb6⟩
        have H6 : Hid (CB w w6 w1.heap.size w2.heap.size e1 M1 x pv) := H5.out.keep hb6
        clear hb6 hnx c3
        go_wp2_with fail
        refine (HCq.out w6 H6.out.2.2.2).mono ?_
        rintro e w7 ⟨rfl, hb7⟩
        obtain ⟨w8, hst8, hat8, hb8, hs8⟩ := o_fresh w7 e3 M3
        have H8 : Hid (OAt w8 w7.heap.size e3 M3 ∧ CB w w8 w1.heap.size w2.heap.size e1 M1 x pv) := ⟨hat8, (H6.out.keep hb7).keep hb8⟩
        clear hb7 hat8 hb8
        have y0 : w8.cell? ⟨w1.heap.size, 0, none⟩ = some (.int .i64 x.kind) := (H8.out.2.2.1).cell 0
        have y1 : w8.cell? ⟨w1.heap.size, 1, none⟩ = some (.int .i64 x.target) := (H8.out.2.2.1).cell 1
        have y2 : w8.cell? ⟨w1.heap.size, 2, none⟩ = some (.bool x.any) := (H8.out.2.2.1).cell 2
        have y3 : w8.cell? ⟨w1.heap.size, 3, none⟩ = some (.int .i64 (sgAt x.sg 0)) := (H8.out.2.2.1).cell 3
        have y4 : w8.cell? ⟨w1.heap.size, 4, none⟩ = some (.int .i64 (sgAt x.sg 1)) := (H8.out.2.2.1).cell 4
        have y5 : w8.cell? ⟨w1.heap.size, 5, none⟩ = some (.int .i64 (sgAt x.sg 2)) := (H8.out.2.2.1).cell 5
        have y6 : w8.cell? ⟨w1.heap.size, 6, none⟩ = some (.int .i64 (sgAt x.sg 3)) := (H8.out.2.2.1).cell 6
        have y7 : w8.cell? ⟨w1.heap.size, 7, none⟩ = some (.int .i64 x.num) := (H8.out.2.2.1).cell 7
        have y8 : w8.cell? ⟨w1.heap.size, 8, none⟩ = some (.int .i64 x.parent) := (H8.out.2.2.1).cell 8
        have y9 : w8.cell? ⟨w1.heap.size, 9, none⟩ = some (.int .i64 x.block) := (H8.out.2.2.1).cell 9
        go_wp2_with (refine wpList_load_o rfl (.tmp 9) rfl rfl H8.out.2.1 ?_)
        refine (HPi.out w8).mono ?_
        rintro e w9 ⟨rfl, hb9⟩
        obtain ⟨w10, hst10, hat10, hb10, hs10⟩ := o_fresh w9 e4 M4
        have H10 : Hid (OAt w10 w9.heap.size e4 M4 ∧ OAt w10 w7.heap.size e3 M3 ∧ CB w w10 w1.heap.size w2.heap.size e1 M1 x pv) := by
          have h9 : OAt w9 w7.heap.size e3 M3 := At.keep H8.out.1 hb9 (At.lt H8.out.1)
          exact ⟨hat10, At.keep h9 hb10 (At.lt h9), (H8.out.2.keep hb9).keep hb10⟩
        clear hb9 hat10 hb10 y0 y1 y2 y3 y4 y5 y6 y7 y8 y9
        go_wp2_with (first | refine wpList_load_o rfl (.tmp 14) rfl rfl H10.out.1 ?_ | refine wpList_load_o rfl (.tmp 13) rfl rfl H10.out.2.1 ?_)
        refine (o_within (w := w10) (e1 := e4) (e2 := e3) (M := M4) (N := M3)).mono ?_
        rintro e w11 ⟨rfl, hb11⟩
        have H11 : Hid (CB w w11 w1.heap.size w2.heap.size e1 M1 x pv) := H10.out.2.2.keep hb11
        clear hb11
        cases hwi : wiB e4 e3 M4 M3 with
        | false =>
          have HE7 : Hid (chkP F L k = 7) := by show _ = _; rw [HE.out, if_neg (by rw [allN_no hin (HWi2.out.trans hwi)]; decide)]
          clear hwi
          go_wp2_with fail
          go_ret
          exact ⟨by rw [HE7.out]; rfl, H11.out.2.2.2⟩
        | true =>
          have HE8 : Hid (allN wp (i + 1) = true) := by show (allN wp i && wp i) = true; rw [HR.out.1, HWi2.out, hwi]; rfl
          clear hwi
          go_wp2_with fail
          go_roundw
          case rel => exact ⟨i + 1, by omega, by go_num, HE8.out, H11.out⟩
          case measure => simp [intOf]; omega
      · have hie : i = n := by omega
        subst hie
        have HE0 : Hid (chkP F L k = 0) := by show _ = _; rw [HE.out, if_pos HR.out.1]
        go_wp2_with fail
        go_ret
        exact ⟨by rw [HE0.out]; rfl, H5.out.2.2.2⟩

end Go.Proofs.YtffajooegiempaaGreatDoor

