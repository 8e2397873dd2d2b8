import Derived.Test.YtadhimimdmoodaaDo
namespace Go.Proofs.Ytadhimimdmoodaa
open Go.RowKit
variable {w w' : World} {g cap : Nat} {F : List Ds}

set_option maxRecDepth 100000 in
set_option maxHeartbeats 800000 in
theorem d_ways (k t : Int) (an : Bool) (g0 g1 g2 g3 n p b : Int) (w : World) :
    Calls Try.prog 27 #[.agg #[.int .i64 k, .int .i64 t, .bool an, .int .i64 g0, .int .i64 g1, .int .i64 g2, .int .i64 g3, .int .i64 n, .int .i64 p, .int .i64 b]] w fun e w' => e = .returned (.int .i64 (waysP k)) ∧ ∃ o, w' = w.alloc o := by
  unfold waysP
  by_cases h2 : k = 2
  · subst h2
    go_enter Try.func27, Try.ntmps27
    go_wp2
    go_ret
    exact ⟨rfl, _, rfl⟩
  · have b2 : (k == 2) = false := by simpa using h2
    by_cases h3 : k = 3
    · subst h3
      clear h2 b2
      go_enter Try.func27, Try.ntmps27
      go_wp2
      go_ret
      exact ⟨rfl, _, rfl⟩
    · have b3 : (k == 3) = false := by simpa using h3
      rw [if_neg (fun e => e.elim h2 h3)]
      clear h2 h3
      go_enter Try.func27, Try.ntmps27
      go_wp2
      go_ret
      exact ⟨rfl, _, rfl⟩

/-- Two numbers that come out. -/
def twoD (x : Int × Int) : Ending := .returned (.tuple #[.int .i64 x.1, .int .i64 x.2])

set_option maxRecDepth 100000 in
set_option maxHeartbeats 800000 in
theorem d_next_out (ao : Option Addr) (n : Nat) (_hn : n ≤ 20) (pt way : Int) (hp : pt < 0 ∨ (n : Int) ≤ pt) (w : World) :
    Calls Try.prog 18 #[.agg #[.slice ao n cap], .int .i64 pt, .int .i64 way] w fun e w' => e = twoD (0, 2) ∧ Below w.heap.size w w' := by
  by_cases h0 : pt < 0
  · go_enter Try.func18, Try.ntmps18
    go_wp2_with fail
    go_ret2
    exact ⟨rfl, (Below.refl _ _).alloc (Nat.le_refl _) _⟩
  · have h1 : (n : Int) ≤ pt := hp.elim (fun e => absurd e h0) id
    go_enter Try.func18, Try.ntmps18
    go_wp2_with fail
    go_ret2
    exact ⟨rfl, (Below.refl _ _).alloc (Nat.le_refl _) _⟩

set_option maxRecDepth 100000 in
set_option maxHeartbeats 1600000 in
theorem d_next_in (h : PRow w g F) (hl : F.length ≤ 20) (hpar : ∀ (k : Nat) (x : Ds), F[k]? = some x → -1 ≤ x.parent ∧ x.parent < (k : Int)) (k : Nat) (hk : k < F.length) (way : Int) :
    Calls Try.prog 18 #[.agg #[.slice (some ⟨g, 0, none⟩) F.length cap], .int .i64 (k : Int), .int .i64 way] w fun e w' => e = twoD (nextP F k way) ∧ Below w.heap.size w w' := by
  have hg := h.1
  have hki : (k : Int) < (F.length : Int) := by omega
  obtain ⟨c0, c1, c2, c3, c4, c5, c6, c7, c8, c9⟩ := h.2 k _ (gets' hk)
  have HP : Hid (PRow w g F) := h
  have HPar : Hid (∀ (k : Nat) (x : Ds), F[k]? = some x → -1 ≤ x.parent ∧ x.parent < (k : Int)) := hpar
  have HN : Hid (nextP F k way = if way < 0 ∨ waysP (F.getD k (newDs 0 0)).kind ≤ way then (0, 2) else if blocksOf (F.getD k (newDs 0 0)).kind ≤ way then (followP F 21 k, 0) else if firstP F k way ((k : Int) + 1) ≠ -1 then (firstP F k way ((k : Int) + 1), 0) else if (F.getD k (newDs 0 0)).kind = 3 then ((k : Int), 0) else (followP F 21 k, 0)) := by
    show nextP F k way = _
    unfold nextP
    rw [if_neg (by omega), Int.toNat_natCast]
  clear h hpar
  generalize F.getD k (newDs 0 0) = x at *
  have hA : Hid (∀ o1 o2 : Obj, Below w.heap.size w ((w.alloc o1).alloc o2)) := fun o1 o2 => ((Below.refl _ _).alloc (Nat.le_refl _) _).alloc (by simp) _
  by_cases hw0 : way < 0
  · have HE : Hid (_ = _) := HN.out.trans (if_pos (.inl hw0))
    clear HN
    go_enter Try.func18, Try.ntmps18
    go_wp2_with fail
    go_ret2
    exact ⟨by rw [HE.out]; rfl, hA.out _ _⟩
  by_cases hw1 : waysP x.kind ≤ way
  · have HE : Hid (_ = _) := HN.out.trans (if_pos (.inr hw1))
    clear HN
    go_enter Try.func18, Try.ntmps18
    go_wp2_with fail
    refine (d_ways _ _ _ _ _ _ _ _ _ _ _).mono ?_
    rintro e w1 ⟨rfl, o1, rfl⟩
    go_wp2_with fail
    go_ret2
    exact ⟨by rw [HE.out]; rfl, (hA.out _ _).alloc (by simp; omega) _⟩
  have HN2 : Hid (_ = _) := HN.out.trans (if_neg (fun e => e.elim hw0 hw1))
  clear HN
  have hB : Hid (∀ o1 o2 o3 o4 : Obj, Below w.heap.size w ((((w.alloc o1).alloc o2).alloc o3).alloc o4)) := fun o1 o2 o3 o4 => ((((Below.refl _ _).alloc (Nat.le_refl _) _).alloc (by simp) _).alloc (by simp; omega) _).alloc (by simp; omega) _
  by_cases hb : blocksOf x.kind ≤ way
  · have HE : Hid (_ = _) := HN2.out.trans (if_pos hb)
    clear HN2
    go_enter Try.func18, Try.ntmps18
    go_wp2_with fail
    refine (d_ways _ _ _ _ _ _ _ _ _ _ _).mono ?_
    rintro e w1 ⟨rfl, o1, rfl⟩
    go_wp2_with fail
    refine (d_blocks _ _ _ _ _ _ _ _ _ _ _).mono ?_
    rintro e w2 ⟨rfl, o2, rfl⟩
    go_wp2_with fail
    refine (d_following (HP.out.keep (hB.out _ _ _ _)) hl HPar.out (k : Int) (by omega) (by omega)).mono ?_
    rintro e w4 ⟨rfl, hb4⟩
    go_wp2_with fail
    go_ret2
    exact ⟨by rw [HE.out]; rfl, (hB.out _ _ _ _).trans (hb4.mono (by simp; omega))⟩
  have HN3 : Hid (_ = _) := HN2.out.trans (if_neg hb)
  clear HN2
  have HFI : Hid (∀ (w2 : World) (hP : PRow w2 g F), Calls Try.prog 30 #[.agg #[.slice (some ⟨g, 0, none⟩) F.length cap], .int .i64 (k : Int), .int .i64 way, .int .i64 ((k : Int) + 1)] w2 fun e w' => e = .returned (.int .i64 (firstP F k way ((k : Int) + 1))) ∧ Below w2.heap.size w2 w') := fun w2 hP => d_firstIn (cap := cap) hP hl k way ((k : Int) + 1)
  generalize firstP F k way ((k : Int) + 1) = fi at *
  by_cases hfi : fi = -1
  · subst hfi
    have HN4 : Hid (_ = _) := HN3.out.trans (if_neg (by decide))
    clear HN3
    by_cases h3 : x.kind = 3
    · have HE : Hid (_ = _) := HN4.out.trans (if_pos h3)
      clear HN4
      have HK : Hid (x.kind = 3) := h3
      clear h3
      go_enter Try.func18, Try.ntmps18
      go_wp2_with fail
      refine (d_ways _ _ _ _ _ _ _ _ _ _ _).mono ?_
      rintro e w1 ⟨rfl, o1, rfl⟩
      go_wp2_with fail
      refine (d_blocks _ _ _ _ _ _ _ _ _ _ _).mono ?_
      rintro e w2 ⟨rfl, o2, rfl⟩
      go_wp2_with fail
      refine (HFI.out _ (HP.out.keep (hB.out _ _ _ _))).mono ?_
      rintro e w3 ⟨rfl, hb3⟩
      have hsz3 := hb3.size
      simp at hsz3
      have s0 : w3.cell? ⟨w.heap.size + 1, 0, none⟩ = some (.int .i64 x.kind) := by
        rw [hb3.cell (p := ⟨w.heap.size + 1, 0, none⟩) (by simp)]
        rw [World.cell?_alloc_past _ _ _ (by simp), World.cell?_alloc_past _ _ _ (by simp)]
        exact World.cell?_alloc_at _ _ _ _ (by simp)
      have p0 : w3.cell? ⟨w.heap.size, 0, none⟩ = some (.slice (some ⟨g, 0, none⟩) F.length cap) := by
        rw [hb3.cell (p := ⟨w.heap.size, 0, none⟩) (by simp; omega)]
        rw [World.cell?_alloc_past _ _ _ (by simp; omega), World.cell?_alloc_past _ _ _ (by simp; omega), World.cell?_alloc_past _ _ _ (by simp)]
        exact World.cell?_alloc_at _ _ _ _ rfl
      have HB3 : Hid (Below w.heap.size w w3) := (hB.out _ _ _ _).trans (hb3.mono (by simp; omega))
      clear hb3
      have s0' : w3.cell? ⟨w.heap.size + 1, 0, none⟩ = some (.int .i64 3) := by rw [s0, HK.out]
      clear s0
      go_wp2_with fail
      go_ret2
      exact ⟨by rw [HE.out]; rfl, HB3.out⟩
    · have HE : Hid (_ = _) := HN4.out.trans (if_neg h3)
      have b3 : (x.kind == 3) = false := by simpa using h3
      clear HN4 h3
      go_enter Try.func18, Try.ntmps18
      go_wp2_with fail
      refine (d_ways _ _ _ _ _ _ _ _ _ _ _).mono ?_
      rintro e w1 ⟨rfl, o1, rfl⟩
      go_wp2_with fail
      refine (d_blocks _ _ _ _ _ _ _ _ _ _ _).mono ?_
      rintro e w2 ⟨rfl, o2, rfl⟩
      go_wp2_with fail
      refine (HFI.out _ (HP.out.keep (hB.out _ _ _ _))).mono ?_
      rintro e w3 ⟨rfl, hb3⟩
      have hsz3 := hb3.size
      simp at hsz3
      have s0 : w3.cell? ⟨w.heap.size + 1, 0, none⟩ = some (.int .i64 x.kind) := by
        rw [hb3.cell (p := ⟨w.heap.size + 1, 0, none⟩) (by simp)]
        rw [World.cell?_alloc_past _ _ _ (by simp), World.cell?_alloc_past _ _ _ (by simp)]
        exact World.cell?_alloc_at _ _ _ _ (by simp)
      have p0 : w3.cell? ⟨w.heap.size, 0, none⟩ = some (.slice (some ⟨g, 0, none⟩) F.length cap) := by
        rw [hb3.cell (p := ⟨w.heap.size, 0, none⟩) (by simp; omega)]
        rw [World.cell?_alloc_past _ _ _ (by simp; omega), World.cell?_alloc_past _ _ _ (by simp; omega), World.cell?_alloc_past _ _ _ (by simp)]
        exact World.cell?_alloc_at _ _ _ _ rfl
      have HB3 : Hid (Below w.heap.size w w3) := (hB.out _ _ _ _).trans (hb3.mono (by simp; omega))
      clear hb3
      go_wp2_with fail
      refine (d_following (HP.out.keep HB3.out) hl HPar.out (k : Int) (by omega) (by omega)).mono ?_
      rintro e w4 ⟨rfl, hb4⟩
      go_wp2_with fail
      go_ret2
      exact ⟨by rw [HE.out]; rfl, HB3.out.trans (hb4.mono HB3.out.size)⟩
  · have HE : Hid (_ = _) := HN3.out.trans (if_pos hfi)
    have bf : (fi != -1) = true := by rw [bne_iff_ne]; exact hfi
    clear HN3 hfi
    go_enter Try.func18, Try.ntmps18
    go_wp2_with fail
    refine (d_ways _ _ _ _ _ _ _ _ _ _ _).mono ?_
    rintro e w1 ⟨rfl, o1, rfl⟩
    go_wp2_with fail
    refine (d_blocks _ _ _ _ _ _ _ _ _ _ _).mono ?_
    rintro e w2 ⟨rfl, o2, rfl⟩
    go_wp2_with fail
    refine (HFI.out _ (HP.out.keep (hB.out _ _ _ _))).mono ?_
    rintro e w3 ⟨rfl, hb3⟩
    have hsz3 := hb3.size
    simp at hsz3
    have s0 : w3.cell? ⟨w.heap.size + 1, 0, none⟩ = some (.int .i64 x.kind) := by
      rw [hb3.cell (p := ⟨w.heap.size + 1, 0, none⟩) (by simp)]
      rw [World.cell?_alloc_past _ _ _ (by simp), World.cell?_alloc_past _ _ _ (by simp)]
      exact World.cell?_alloc_at _ _ _ _ (by simp)
    have p0 : w3.cell? ⟨w.heap.size, 0, none⟩ = some (.slice (some ⟨g, 0, none⟩) F.length cap) := by
      rw [hb3.cell (p := ⟨w.heap.size, 0, none⟩) (by simp; omega)]
      rw [World.cell?_alloc_past _ _ _ (by simp; omega), World.cell?_alloc_past _ _ _ (by simp; omega), World.cell?_alloc_past _ _ _ (by simp)]
      exact World.cell?_alloc_at _ _ _ _ rfl
    have HB3 : Hid (Below w.heap.size w w3) := (hB.out _ _ _ _).trans (hb3.mono (by simp; omega))
    clear hb3
    clear s0
    go_wp2_with fail
    go_ret2
    exact ⟨by rw [HE.out]; rfl, HB3.out⟩

end Go.Proofs.Ytadhimimdmoodaa
