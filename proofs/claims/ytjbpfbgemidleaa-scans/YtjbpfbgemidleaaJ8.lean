import Derived.Test.YtjbpfbgemidleaaJ7
import Derived.Deep.RegionWith
/- The program's ways, plain. -/
namespace Go.Proofs.Ytjbpfbgemidleaa

/-- The first statement of a block from a point on. -/
def firstGo (p b fr : Int) : List Ds → Nat → Int
  | [], _ => -1
  | x :: l, i => if fr ≤ i ∧ x.parent = p ∧ x.block = b then (i : Int) else firstGo p b fr l (i + 1)
def firstP (F : List Ds) (p b fr : Int) : Int := firstGo p b fr F 0
def isRepP (F : List Ds) (p : Int) : Bool := decide (0 ≤ p) && decide (p < F.length) && decide ((F.getD p.toNat (newDs 0 0)).kind = 3)
def followP (F : List Ds) : Nat → Int → Int
  | 0, _ => F.length
  | n + 1, pt => if pt < 0 ∨ (F.length : Int) ≤ pt then F.length else
    if firstP F (F.getD pt.toNat (newDs 0 0)).parent (F.getD pt.toNat (newDs 0 0)).block (pt + 1) ≠ -1 then firstP F (F.getD pt.toNat (newDs 0 0)).parent (F.getD pt.toNat (newDs 0 0)).block (pt + 1)
    else if isRepP F (F.getD pt.toNat (newDs 0 0)).parent = true then (F.getD pt.toNat (newDs 0 0)).parent
    else followP F n (F.getD pt.toNat (newDs 0 0)).parent

def waysP (k : Int) : Int := if k = 2 ∨ k = 3 then 2 else 1
/-- Where a way leads, and the error. -/
def nextP (F : List Ds) (pt way : Int) : Int × Int :=
  if pt < 0 ∨ (F.length : Int) ≤ pt then (0, 2)
  else if way < 0 ∨ waysP (F.getD pt.toNat (newDs 0 0)).kind ≤ way then (0, 2)
  else if blocksOf (F.getD pt.toNat (newDs 0 0)).kind ≤ way then (followP F 21 pt, 0)
  else if firstP F pt way (pt + 1) ≠ -1 then (firstP F pt way (pt + 1), 0)
  else if (F.getD pt.toNat (newDs 0 0)).kind = 3 then (pt, 0)
  else (followP F 21 pt, 0)

theorem firstGo_drop {p b fr : Int} {F : List Ds} {k : Nat} (hk : k < F.length) : firstGo p b fr (F.drop k) k = if fr ≤ k ∧ (F.getD k (newDs 0 0)).parent = p ∧ (F.getD k (newDs 0 0)).block = b then (k : Int) else firstGo p b fr (F.drop (k + 1)) (k + 1) := by
  have e : F.drop k = F.getD k (newDs 0 0) :: F.drop (k + 1) := by
    rw [List.drop_eq_getElem_cons hk, List.getD_eq_getElem?_getD, List.getElem?_eq_getElem hk]; rfl
  rw [e, firstGo]

end Go.Proofs.Ytjbpfbgemidleaa

namespace Go.Proofs.Ytjbpfbgemidleaa
open Go.RowKit
variable {w w' : World} {g cap : Nat} {F : List Ds}

/-- The statements of a program, as they lie in memory. -/
def PRow (w : World) (g : Nat) (F : List Ds) : Prop := g < w.heap.size ∧ ∀ j x, F[j]? = some x → w.cell? ⟨g, j * 10, none⟩ = some (.int .i64 x.kind) ∧ w.cell? ⟨g, j * 10 + 1, none⟩ = some (.int .i64 x.target) ∧ w.cell? ⟨g, j * 10 + 2, none⟩ = some (.bool x.any) ∧
  w.cell? ⟨g, j * 10 + 3, none⟩ = some (.int .i64 (sgAt x.sg 0)) ∧ w.cell? ⟨g, j * 10 + 4, none⟩ = some (.int .i64 (sgAt x.sg 1)) ∧ w.cell? ⟨g, j * 10 + 5, none⟩ = some (.int .i64 (sgAt x.sg 2)) ∧ w.cell? ⟨g, j * 10 + 6, none⟩ = some (.int .i64 (sgAt x.sg 3)) ∧
  w.cell? ⟨g, j * 10 + 7, none⟩ = some (.int .i64 x.num) ∧ w.cell? ⟨g, j * 10 + 8, none⟩ = some (.int .i64 x.parent) ∧ w.cell? ⟨g, j * 10 + 9, none⟩ = some (.int .i64 x.block)
theorem PRow.keep (h : PRow w g F) (hb : Below w.heap.size w w') : PRow w' g F := by
  refine ⟨Nat.lt_of_lt_of_le h.1 hb.size, fun j x hx => ?_⟩
  have hc : ∀ o, w'.cell? ⟨g, o, none⟩ = w.cell? ⟨g, o, none⟩ := fun o => hb.cell (p := ⟨g, o, none⟩) h.1
  simp only [hc]
  exact h.2 j x hx

theorem flat_get : ∀ (F : List Ds) (j o : Nat) (x : Ds), F[j]? = some x → o < 10 → (flat F)[j * 10 + o]? = (dsCells x).toList[o]? := by
  intro F
  induction F with
  | nil => intro j o x h; simp at h
  | cons y F ih =>
    intro j o x h ho
    have hl : (dsCells y).toList.length = 10 := rfl
    show ((dsCells y).toList ++ flat F)[j * 10 + o]? = _
    cases j with
    | zero =>
      simp at h
      subst h
      rw [List.getElem?_append_left (by rw [hl]; omega)]
      congr 1; omega
    | succ j =>
      rw [List.getElem?_append_right (by rw [hl]; omega), hl]
      rw [show (j + 1) * 10 + o - 10 = j * 10 + o by omega]
      exact ih j o x (by simpa using h) ho

theorem prow_of {B n : Nat} (h : w.ownsRow B tDs 10 (.slice (some ⟨g, 0, none⟩) n cap) n (flat F)) (hn : F.length = n) (hlt : g < w.heap.size) : PRow w g F := by
  refine ⟨hlt, fun j x hx => ?_⟩
  have hj : j < n := by
    rw [← hn]
    rcases Nat.lt_or_ge j F.length with h' | h'
    · exact h'
    · simp [List.getElem?_eq_none h'] at hx
  have hc : ∀ o, o < 10 → w.cell? ⟨g, j * 10 + o, none⟩ = (dsCells x).toList[o]? := fun o ho => by
    rw [h.cellAt (j * 10 + o) (by omega), flat_get F j o x hx ho]
  exact ⟨hc 0 (by omega), hc 1 (by omega), hc 2 (by omega), hc 3 (by omega), hc 4 (by omega), hc 5 (by omega), hc 6 (by omega), hc 7 (by omega), hc 8 (by omega), hc 9 (by omega)⟩

theorem gets' {j : Nat} (hj : j < F.length) : F[j]? = some (F.getD j (newDs 0 0)) := by rw [List.getD_eq_getElem?_getD, List.getElem?_eq_getElem hj]; rfl

set_option maxRecDepth 100000 in
set_option maxHeartbeats 800000 in
theorem d_isRepeat (h : PRow w g F) (_hl : F.length ≤ 20) (p : Int) :
    Calls Try.prog 44 #[.agg #[.slice (some ⟨g, 0, none⟩) F.length cap], .int .i64 p] w fun e w' => e = .returned (.bool (isRepP F p)) ∧ Below w.heap.size w w' := by
  have hg := h.1
  by_cases h0 : p < 0
  · have HE : Hid (isRepP F p = false) := by show isRepP F p = false; unfold isRepP; rw [decide_eq_false (by omega : ¬ 0 ≤ p)]; rfl
    clear h
    go_enter Try.func44, Try.ntmps44
    go_wp2_with fail
    go_ret
    exact ⟨by rw [HE.out]; rfl, (Below.refl _ _).alloc (Nat.le_refl _) _⟩
  by_cases h1 : (F.length : Int) ≤ p
  · have HE : Hid (isRepP F p = false) := by show isRepP F p = false; unfold isRepP; rw [decide_eq_false (by omega : ¬ p < F.length)]; simp
    clear h
    go_enter Try.func44, Try.ntmps44
    go_wp2_with fail
    go_ret
    exact ⟨by rw [HE.out]; rfl, (Below.refl _ _).alloc (Nat.le_refl _) _⟩
  obtain ⟨k, rfl⟩ : ∃ k : Nat, p = k := ⟨p.toNat, by omega⟩
  have hk : k < F.length := by omega
  obtain ⟨c0, -⟩ := h.2 k _ (gets' hk)
  have hki : (k : Int) < (F.length : Int) := by omega
  have HE : Hid (isRepP F k = ((F.getD k (newDs 0 0)).kind == 3)) := by
    show isRepP F k = _
    unfold isRepP
    rw [Int.toNat_natCast, decide_eq_true (by omega : (0 : Int) ≤ k), decide_eq_true hki]
    simp only [Bool.true_and]
    rfl
  clear h h0 h1
  generalize (F.getD k (newDs 0 0)).kind = kd at *
  go_enter Try.func44, Try.ntmps44
  go_wp2_with fail
  go_ret
  exact ⟨by rw [HE.out]; rfl, (Below.refl _ _).alloc (Nat.le_refl _) _⟩

end Go.Proofs.Ytjbpfbgemidleaa

namespace Go.Proofs.Ytjbpfbgemidleaa
open Go.RowKit
variable {w w' : World} {g cap : Nat} {F : List Ds}

set_option maxRecDepth 100000 in
set_option maxHeartbeats 1600000 in
theorem d_firstIn (h : PRow w g F) (hl : F.length ≤ 20) (p b fr : Int) :
    Calls Try.prog 30 #[.agg #[.slice (some ⟨g, 0, none⟩) F.length cap], .int .i64 p, .int .i64 b, .int .i64 fr] w fun e w' => e = .returned (.int .i64 (firstP F p b fr)) ∧ Below w.heap.size w w' := by
  have hg := h.1
  have HP : Hid (PRow w g F) := h
  clear h
  go_enter Try.func30, Try.ntmps30
  go_wp2_with fail
  go_loopw [14] (fun i wr => ∃ k : Nat, k ≤ F.length ∧ i = .int .i64 k ∧ Below w.heap.size w wr ∧ firstP F p b fr = firstGo p b fr (F.drop k) k) (fun i _ => F.length - (intOf i).toNat)
  case atStart => exact ⟨0, Nat.zero_le _, rfl, (Below.refl _ _).alloc (Nat.le_refl _) _, rfl⟩
  case round =>
    obtain ⟨k, hk, rfl, hbel, hfi⟩ := hrel
    have HF : Hid (_ = _) := hfi
    clear hfi
    by_cases hlt : k < F.length
    · have hki : (k : Int) < (F.length : Int) := by omega
      obtain ⟨c0, c1, c2, c3, c4, c5, c6, c7, c8, c9⟩ := (HP.out.keep hbel).2 k _ (gets' hlt)
      have HD : Hid (_ = _) := HF.out.trans (firstGo_drop hlt)
      have hsz := hbel.size
      have HB : Hid (Below _ _ _) := hbel
      clear HF hbel
      generalize F.getD k (newDs 0 0) = x at *
      by_cases hm : fr ≤ (k : Int)
      · by_cases hp : x.parent = p
        · have bp : (x.parent == p) = true := by simpa using hp
          by_cases hb : x.block = b
          · have bb : (x.block == b) = true := by simpa using hb
            have HE : Hid (_ = _) := HD.out.trans (if_pos ⟨hm, hp, hb⟩)
            clear HD hp hb
            go_wp2_with fail
            go_ret
            exact ⟨by rw [HE.out]; rfl, HB.out.alloc hsz _⟩
          · have bb : (x.block == b) = false := by simpa using hb
            have HE : Hid (_ = _) := HD.out.trans (if_neg (fun e => hb e.2.2))
            clear HD hp hb
            go_wp2_with fail
            go_roundw
            case rel => exact ⟨k + 1, by omega, by go_num, HB.out.alloc hsz _, HE.out⟩
            case measure => simp [intOf]; omega
        · have bp : (x.parent == p) = false := by simpa using hp
          have HE : Hid (_ = _) := HD.out.trans (if_neg (fun e => hp e.2.1))
          clear HD hp
          go_wp2_with fail
          go_roundw
          case rel => exact ⟨k + 1, by omega, by go_num, HB.out.alloc hsz _, HE.out⟩
          case measure => simp [intOf]; omega
      · have HE : Hid (_ = _) := HD.out.trans (if_neg (fun e => hm e.1))
        have hmd : decide (fr ≤ (k : Int)) = false := decide_eq_false hm
        clear HD
        go_wp2_with fail
        go_roundw
        case rel => exact ⟨k + 1, by omega, by go_num, HB.out.alloc hsz _, HE.out⟩
        case measure => simp [intOf]; omega
    · have hke : k = F.length := by omega
      have HE : Hid (firstP F p b fr = -1) := HF.out.trans (by rw [hke, List.drop_length]; rfl)
      have hnk : ¬ (k : Int) < (F.length : Int) := by omega
      clear HF hke
      go_wp2_with fail
      go_ret
      exact ⟨by rw [HE.out]; rfl, hbel⟩

end Go.Proofs.Ytjbpfbgemidleaa

namespace Go.Proofs.Ytjbpfbgemidleaa
open Go.RowKit
variable {w w' : World} {g cap : Nat} {F : List Ds}

theorem firstP_lo (F : List Ds) (p b fr : Int) : -1 ≤ firstP F p b fr := by
  have : ∀ (l : List Ds) (i : Nat), -1 ≤ firstGo p b fr l i := by
    intro l
    induction l with
    | nil => intro i; exact Int.le_refl _
    | cons x l ih =>
      intro i
      rw [firstGo]
      split
      · omega
      · exact ih (i + 1)
  exact this F 0

def boxOf (g n cap : Nat) : Obj := .cells #[.slice (some ⟨g, 0, none⟩) n cap] 37

set_option maxRecDepth 100000 in
set_option maxHeartbeats 1600000 in
theorem d_following (h : PRow w g F) (hl : F.length ≤ 20) (hpar : ∀ (k : Nat) (x : Ds), F[k]? = some x → -1 ≤ x.parent ∧ x.parent < (k : Int)) (pt : Int) (hp0 : -1 ≤ pt) (hp1 : pt < 21) :
    Calls Try.prog 29 #[.agg #[.slice (some ⟨g, 0, none⟩) F.length cap], .int .i64 pt] w fun e w' => e = .returned (.int .i64 (followP F 21 pt)) ∧ Below w.heap.size w w' := by
  have hg := h.1
  have HP : Hid (PRow w g F) := h
  have HPar : Hid (∀ (k : Nat) (x : Ds), F[k]? = some x → -1 ≤ x.parent ∧ x.parent < (k : Int)) := hpar
  have HBox : Hid (Below w.heap.size w (w.alloc (boxOf g F.length cap))) := (Below.refl _ _).alloc (Nat.le_refl _) _
  clear h hpar
  go_enter Try.func29, Try.ntmps29
  go_wp2_with fail
  go_loopw [1] (fun q wr => ∃ (z : Int) (n : Nat), q = .int .i64 z ∧ -1 ≤ z ∧ z < n ∧ n ≤ 21 ∧ followP F 21 pt = followP F n z ∧ Below (w.heap.size + 1) (w.alloc (boxOf g F.length cap)) wr) (fun q _ => (intOf q + 1).toNat)
  case atStart => exact ⟨pt, 21, rfl, hp0, by omega, Nat.le_refl _, rfl, Below.refl _ _⟩
  case round =>
    obtain ⟨z, n, rfl, hz0, hzn, hn21, hfo, hbel⟩ := hrel
    have HF : Hid (_ = _) := hfo
    have hsz := hbel.size
    have hwsz : (w.alloc (boxOf g F.length cap)).heap.size = w.heap.size + 1 := by simp
    rw [hwsz] at hsz
    have hlt0 : w.heap.size < wr.heap.size := by omega
    have hbx : wr.cell? ⟨w.heap.size, 0, none⟩ = some (.slice (some ⟨g, 0, none⟩) F.length cap) := by
      rw [hbel.cell (p := ⟨w.heap.size, 0, none⟩) (by show w.heap.size < _; omega)]
      exact World.cell?_alloc_at (w := w) _ _ _ _ rfl
    have hbw : Below w.heap.size w wr := HBox.out.trans (hbel.mono (by omega))
    have HPr : Hid (PRow wr g F) := HP.out.keep hbw
    have HB : Hid (Below _ _ _) := hbel
    have HBW : Hid (Below _ _ _) := hbw
    clear hfo hbel hwsz hbw
    by_cases hneg : z < 0
    · have HE : Hid (followP F 21 pt = F.length) := HF.out.trans (by
        cases n with
        | zero => rfl
        | succ n => rw [followP, if_pos (.inl hneg)])
      go_wp2_with fail
      refine (d_end _ F.length cap _ hl).mono ?_
      rintro e w2 ⟨rfl, o, rfl⟩
      go_wp2_with fail
      go_ret
      exact ⟨by rw [HE.out]; rfl, HBW.out.alloc (by omega) _⟩
    obtain ⟨k, rfl⟩ : ∃ k : Nat, z = k := ⟨z.toNat, by omega⟩
    obtain ⟨n', rfl⟩ : ∃ n', n = n' + 1 := ⟨n - 1, by omega⟩
    by_cases hge : (F.length : Int) ≤ (k : Int)
    · have HE : Hid (followP F 21 pt = F.length) := HF.out.trans (by rw [followP, if_pos (.inr hge)])
      have hnk : ¬ (k : Int) < (F.length : Int) := by omega
      go_wp2_with fail
      refine (d_end _ F.length cap _ hl).mono ?_
      rintro e w2 ⟨rfl, o, rfl⟩
      go_wp2_with fail
      go_ret
      exact ⟨by rw [HE.out]; rfl, HBW.out.alloc (by omega) _⟩
    have hk : k < F.length := by omega
    have hki : (k : Int) < (F.length : Int) := by omega
    have HN : Hid (followP F 21 pt = if firstP F (F.getD k (newDs 0 0)).parent (F.getD k (newDs 0 0)).block ((k : Int) + 1) ≠ -1 then firstP F (F.getD k (newDs 0 0)).parent (F.getD k (newDs 0 0)).block ((k : Int) + 1) else if isRepP F (F.getD k (newDs 0 0)).parent = true then (F.getD k (newDs 0 0)).parent else followP F n' (F.getD k (newDs 0 0)).parent) := HF.out.trans (by
      rw [followP, if_neg (fun e => e.elim hneg hge), Int.toNat_natCast])
    obtain ⟨c0, c1, c2, c3, c4, c5, c6, c7, c8, c9⟩ := HPr.out.2 k _ (gets' hk)
    obtain ⟨q0, q1⟩ := HPar.out k _ (gets' hk)
    have hgr : g < wr.heap.size := by omega
    clear HF hneg hge
    generalize F.getD k (newDs 0 0) = x at *
    have hfi := fun (w2 : World) (hP : PRow w2 g F) => d_firstIn (cap := cap) hP hl x.parent x.block ((k : Int) + 1)
    have HFI : Hid (∀ (w2 : World) (hP : PRow w2 g F), Calls Try.prog 30 #[.agg #[.slice (some ⟨g, 0, none⟩) F.length cap], .int .i64 x.parent, .int .i64 x.block, .int .i64 ((k : Int) + 1)] w2 fun e w' => e = .returned (.int .i64 (firstP F x.parent x.block ((k : Int) + 1))) ∧ Below w2.heap.size w2 w') := hfi
    clear hfi
    generalize firstP F x.parent x.block ((k : Int) + 1) = fi at *
    go_wp2_with fail
    refine (HFI.out _ (HPr.out.keep ((Below.refl _ _).alloc (Nat.le_refl _) _))).mono ?_
    rintro e w2 ⟨rfl, hb2⟩
    have hsz2 := hb2.size
    simp at hsz2
    have hlt2 : w.heap.size < w2.heap.size := by omega
    have s8 : w2.cell? ⟨wr.heap.size, 8, none⟩ = some (.int .i64 x.parent) := by
      rw [hb2.cell (p := ⟨wr.heap.size, 8, none⟩) (by simp)]
      exact World.cell?_alloc_at (w := wr) _ _ _ _ rfl
    have hbx2 : w2.cell? ⟨w.heap.size, 0, none⟩ = some (.slice (some ⟨g, 0, none⟩) F.length cap) := by
      rw [hb2.cell (p := ⟨w.heap.size, 0, none⟩) (by simp; omega)]
      exact (World.cell?_alloc_past (w := wr) _ _ _ (by omega)).trans hbx
    have hch : Below wr.heap.size wr w2 := ((Below.refl _ _).alloc (Nat.le_refl _) _).trans (hb2.mono (by simp))
    have HCH : Hid (Below _ _ _) := hch
    clear hb2 hch c0 c1 c2 c3 c4 c5 c6 c7 c8 c9
    by_cases hf1 : fi = -1
    · subst hf1
      have HN2 : Hid (_ = _) := HN.out.trans (if_neg (by decide))
      have hre := d_isRepeat (cap := cap) (HPr.out.keep HCH.out) hl x.parent
      clear HN
      cases hrep : isRepP F x.parent
      · have HE : Hid (_ = _) := HN2.out.trans (if_neg (by rw [hrep]; decide))
        rw [hrep] at hre
        clear hrep HN2
        go_wp2_with fail
        refine hre.mono ?_
        rintro e w3 ⟨rfl, hb3⟩
        have s83 : w3.cell? ⟨wr.heap.size, 8, none⟩ = some (.int .i64 x.parent) := by
          rw [hb3.cell (p := ⟨wr.heap.size, 8, none⟩) (by show wr.heap.size < _; omega)]; exact s8
        have HB3 : Hid (Below _ _ _) := hb3
        clear hb3 hre
        go_wp2_with fail
        go_roundw
        case rel => exact ⟨x.parent, n', rfl, q0, by omega, by omega, HE.out, (HB.out.trans (HCH.out.mono hsz)).trans (HB3.out.mono (by omega))⟩
        case measure => simp [intOf]; omega
      · have HE : Hid (_ = _) := HN2.out.trans (if_pos hrep)
        rw [hrep] at hre
        clear hrep HN2
        go_wp2_with fail
        refine hre.mono ?_
        rintro e w3 ⟨rfl, hb3⟩
        have s83 : w3.cell? ⟨wr.heap.size, 8, none⟩ = some (.int .i64 x.parent) := by
          rw [hb3.cell (p := ⟨wr.heap.size, 8, none⟩) (by show wr.heap.size < _; omega)]; exact s8
        have HB3 : Hid (Below _ _ _) := hb3
        clear hb3 hre
        go_wp2_with fail
        go_ret
        exact ⟨by rw [HE.out]; rfl, (HBW.out.trans (HCH.out.mono (by omega))).trans (HB3.out.mono (by omega))⟩
    · have bf : (fi != -1) = true := by rw [bne_iff_ne]; exact hf1
      have HE : Hid (_ = _) := HN.out.trans (if_pos hf1)
      clear HN hf1
      go_wp2_with fail
      go_ret
      exact ⟨by rw [HE.out]; rfl, HBW.out.trans (HCH.out.mono (by omega))⟩

end Go.Proofs.Ytjbpfbgemidleaa

namespace Go.Proofs.Ytjbpfbgemidleaa
open Go.RowKit
variable {w w' : World} {g cap : Nat} {F : List Ds}

set_option maxRecDepth 100000 in
set_option maxHeartbeats 800000 in
theorem d_ways (k t : Int) (an : Bool) (g0 g1 g2 g3 n p b : Int) (w : World) :
    Calls Try.prog 27 #[.agg #[.int .i64 k, .int .i64 t, .bool an, .int .i64 g0, .int .i64 g1, .int .i64 g2, .int .i64 g3, .int .i64 n, .int .i64 p, .int .i64 b]] w fun e w' => e = .returned (.int .i64 (waysP k)) ∧ ∃ o, w' = w.alloc o := by
  unfold waysP
  by_cases h2 : k = 2
  · subst h2
    go_enter Try.func27, Try.ntmps27
    go_wp2
    go_ret
    exact ⟨rfl, _, rfl⟩
  · have b2 : (k == 2) = false := by simpa using h2
    by_cases h3 : k = 3
    · subst h3
      clear h2 b2
      go_enter Try.func27, Try.ntmps27
      go_wp2
      go_ret
      exact ⟨rfl, _, rfl⟩
    · have b3 : (k == 3) = false := by simpa using h3
      rw [if_neg (fun e => e.elim h2 h3)]
      clear h2 h3
      go_enter Try.func27, Try.ntmps27
      go_wp2
      go_ret
      exact ⟨rfl, _, rfl⟩

/-- Two numbers that come out. -/
def twoD (x : Int × Int) : Ending := .returned (.tuple #[.int .i64 x.1, .int .i64 x.2])

set_option maxRecDepth 100000 in
set_option maxHeartbeats 800000 in
theorem d_next_out (ao : Option Addr) (n : Nat) (_hn : n ≤ 20) (pt way : Int) (hp : pt < 0 ∨ (n : Int) ≤ pt) (w : World) :
    Calls Try.prog 18 #[.agg #[.slice ao n cap], .int .i64 pt, .int .i64 way] w fun e w' => e = twoD (0, 2) ∧ Below w.heap.size w w' := by
  by_cases h0 : pt < 0
  · go_enter Try.func18, Try.ntmps18
    go_wp2_with fail
    go_ret2
    exact ⟨rfl, (Below.refl _ _).alloc (Nat.le_refl _) _⟩
  · have h1 : (n : Int) ≤ pt := hp.elim (fun e => absurd e h0) id
    go_enter Try.func18, Try.ntmps18
    go_wp2_with fail
    go_ret2
    exact ⟨rfl, (Below.refl _ _).alloc (Nat.le_refl _) _⟩

set_option maxRecDepth 100000 in
set_option maxHeartbeats 1600000 in
theorem d_next_in (h : PRow w g F) (hl : F.length ≤ 20) (hpar : ∀ (k : Nat) (x : Ds), F[k]? = some x → -1 ≤ x.parent ∧ x.parent < (k : Int)) (k : Nat) (hk : k < F.length) (way : Int) :
    Calls Try.prog 18 #[.agg #[.slice (some ⟨g, 0, none⟩) F.length cap], .int .i64 (k : Int), .int .i64 way] w fun e w' => e = twoD (nextP F k way) ∧ Below w.heap.size w w' := by
  have hg := h.1
  have hki : (k : Int) < (F.length : Int) := by omega
  obtain ⟨c0, c1, c2, c3, c4, c5, c6, c7, c8, c9⟩ := h.2 k _ (gets' hk)
  have HP : Hid (PRow w g F) := h
  have HPar : Hid (∀ (k : Nat) (x : Ds), F[k]? = some x → -1 ≤ x.parent ∧ x.parent < (k : Int)) := hpar
  have HN : Hid (nextP F k way = if way < 0 ∨ waysP (F.getD k (newDs 0 0)).kind ≤ way then (0, 2) else if blocksOf (F.getD k (newDs 0 0)).kind ≤ way then (followP F 21 k, 0) else if firstP F k way ((k : Int) + 1) ≠ -1 then (firstP F k way ((k : Int) + 1), 0) else if (F.getD k (newDs 0 0)).kind = 3 then ((k : Int), 0) else (followP F 21 k, 0)) := by
    show nextP F k way = _
    unfold nextP
    rw [if_neg (by omega), Int.toNat_natCast]
  clear h hpar
  generalize F.getD k (newDs 0 0) = x at *
  have hA : Hid (∀ o1 o2 : Obj, Below w.heap.size w ((w.alloc o1).alloc o2)) := fun o1 o2 => ((Below.refl _ _).alloc (Nat.le_refl _) _).alloc (by simp) _
  by_cases hw0 : way < 0
  · have HE : Hid (_ = _) := HN.out.trans (if_pos (.inl hw0))
    clear HN
    go_enter Try.func18, Try.ntmps18
    go_wp2_with fail
    go_ret2
    exact ⟨by rw [HE.out]; rfl, hA.out _ _⟩
  by_cases hw1 : waysP x.kind ≤ way
  · have HE : Hid (_ = _) := HN.out.trans (if_pos (.inr hw1))
    clear HN
    go_enter Try.func18, Try.ntmps18
    go_wp2_with fail
    refine (d_ways _ _ _ _ _ _ _ _ _ _ _).mono ?_
    rintro e w1 ⟨rfl, o1, rfl⟩
    go_wp2_with fail
    go_ret2
    exact ⟨by rw [HE.out]; rfl, (hA.out _ _).alloc (by simp; omega) _⟩
  have HN2 : Hid (_ = _) := HN.out.trans (if_neg (fun e => e.elim hw0 hw1))
  clear HN
  have hB : Hid (∀ o1 o2 o3 o4 : Obj, Below w.heap.size w ((((w.alloc o1).alloc o2).alloc o3).alloc o4)) := fun o1 o2 o3 o4 => ((((Below.refl _ _).alloc (Nat.le_refl _) _).alloc (by simp) _).alloc (by simp; omega) _).alloc (by simp; omega) _
  by_cases hb : blocksOf x.kind ≤ way
  · have HE : Hid (_ = _) := HN2.out.trans (if_pos hb)
    clear HN2
    go_enter Try.func18, Try.ntmps18
    go_wp2_with fail
    refine (d_ways _ _ _ _ _ _ _ _ _ _ _).mono ?_
    rintro e w1 ⟨rfl, o1, rfl⟩
    go_wp2_with fail
    refine (d_blocks _ _ _ _ _ _ _ _ _ _ _).mono ?_
    rintro e w2 ⟨rfl, o2, rfl⟩
    go_wp2_with fail
    refine (d_following (HP.out.keep (hB.out _ _ _ _)) hl HPar.out (k : Int) (by omega) (by omega)).mono ?_
    rintro e w4 ⟨rfl, hb4⟩
    go_wp2_with fail
    go_ret2
    exact ⟨by rw [HE.out]; rfl, (hB.out _ _ _ _).trans (hb4.mono (by simp; omega))⟩
  have HN3 : Hid (_ = _) := HN2.out.trans (if_neg hb)
  clear HN2
  have HFI : Hid (∀ (w2 : World) (hP : PRow w2 g F), Calls Try.prog 30 #[.agg #[.slice (some ⟨g, 0, none⟩) F.length cap], .int .i64 (k : Int), .int .i64 way, .int .i64 ((k : Int) + 1)] w2 fun e w' => e = .returned (.int .i64 (firstP F k way ((k : Int) + 1))) ∧ Below w2.heap.size w2 w') := fun w2 hP => d_firstIn (cap := cap) hP hl k way ((k : Int) + 1)
  generalize firstP F k way ((k : Int) + 1) = fi at *
  by_cases hfi : fi = -1
  · subst hfi
    have HN4 : Hid (_ = _) := HN3.out.trans (if_neg (by decide))
    clear HN3
    by_cases h3 : x.kind = 3
    · have HE : Hid (_ = _) := HN4.out.trans (if_pos h3)
      clear HN4
      have HK : Hid (x.kind = 3) := h3
      clear h3
      go_enter Try.func18, Try.ntmps18
      go_wp2_with fail
      refine (d_ways _ _ _ _ _ _ _ _ _ _ _).mono ?_
      rintro e w1 ⟨rfl, o1, rfl⟩
      go_wp2_with fail
      refine (d_blocks _ _ _ _ _ _ _ _ _ _ _).mono ?_
      rintro e w2 ⟨rfl, o2, rfl⟩
      go_wp2_with fail
      refine (HFI.out _ (HP.out.keep (hB.out _ _ _ _))).mono ?_
      rintro e w3 ⟨rfl, hb3⟩
      have hsz3 := hb3.size
      simp at hsz3
      have s0 : w3.cell? ⟨w.heap.size + 1, 0, none⟩ = some (.int .i64 x.kind) := by
        rw [hb3.cell (p := ⟨w.heap.size + 1, 0, none⟩) (by simp)]
        rw [World.cell?_alloc_past _ _ _ (by simp), World.cell?_alloc_past _ _ _ (by simp)]
        exact World.cell?_alloc_at _ _ _ _ (by simp)
      have p0 : w3.cell? ⟨w.heap.size, 0, none⟩ = some (.slice (some ⟨g, 0, none⟩) F.length cap) := by
        rw [hb3.cell (p := ⟨w.heap.size, 0, none⟩) (by simp; omega)]
        rw [World.cell?_alloc_past _ _ _ (by simp; omega), World.cell?_alloc_past _ _ _ (by simp; omega), World.cell?_alloc_past _ _ _ (by simp)]
        exact World.cell?_alloc_at _ _ _ _ rfl
      have HB3 : Hid (Below w.heap.size w w3) := (hB.out _ _ _ _).trans (hb3.mono (by simp; omega))
      clear hb3
      have s0' : w3.cell? ⟨w.heap.size + 1, 0, none⟩ = some (.int .i64 3) := by rw [s0, HK.out]
      clear s0
      go_wp2_with fail
      go_ret2
      exact ⟨by rw [HE.out]; rfl, HB3.out⟩
    · have HE : Hid (_ = _) := HN4.out.trans (if_neg h3)
      have b3 : (x.kind == 3) = false := by simpa using h3
      clear HN4 h3
      go_enter Try.func18, Try.ntmps18
      go_wp2_with fail
      refine (d_ways _ _ _ _ _ _ _ _ _ _ _).mono ?_
      rintro e w1 ⟨rfl, o1, rfl⟩
      go_wp2_with fail
      refine (d_blocks _ _ _ _ _ _ _ _ _ _ _).mono ?_
      rintro e w2 ⟨rfl, o2, rfl⟩
      go_wp2_with fail
      refine (HFI.out _ (HP.out.keep (hB.out _ _ _ _))).mono ?_
      rintro e w3 ⟨rfl, hb3⟩
      have hsz3 := hb3.size
      simp at hsz3
      have s0 : w3.cell? ⟨w.heap.size + 1, 0, none⟩ = some (.int .i64 x.kind) := by
        rw [hb3.cell (p := ⟨w.heap.size + 1, 0, none⟩) (by simp)]
        rw [World.cell?_alloc_past _ _ _ (by simp), World.cell?_alloc_past _ _ _ (by simp)]
        exact World.cell?_alloc_at _ _ _ _ (by simp)
      have p0 : w3.cell? ⟨w.heap.size, 0, none⟩ = some (.slice (some ⟨g, 0, none⟩) F.length cap) := by
        rw [hb3.cell (p := ⟨w.heap.size, 0, none⟩) (by simp; omega)]
        rw [World.cell?_alloc_past _ _ _ (by simp; omega), World.cell?_alloc_past _ _ _ (by simp; omega), World.cell?_alloc_past _ _ _ (by simp)]
        exact World.cell?_alloc_at _ _ _ _ rfl
      have HB3 : Hid (Below w.heap.size w w3) := (hB.out _ _ _ _).trans (hb3.mono (by simp; omega))
      clear hb3
      go_wp2_with fail
      refine (d_following (HP.out.keep HB3.out) hl HPar.out (k : Int) (by omega) (by omega)).mono ?_
      rintro e w4 ⟨rfl, hb4⟩
      go_wp2_with fail
      go_ret2
      exact ⟨by rw [HE.out]; rfl, HB3.out.trans (hb4.mono HB3.out.size)⟩
  · have HE : Hid (_ = _) := HN3.out.trans (if_pos hfi)
    have bf : (fi != -1) = true := by rw [bne_iff_ne]; exact hfi
    clear HN3 hfi
    go_enter Try.func18, Try.ntmps18
    go_wp2_with fail
    refine (d_ways _ _ _ _ _ _ _ _ _ _ _).mono ?_
    rintro e w1 ⟨rfl, o1, rfl⟩
    go_wp2_with fail
    refine (d_blocks _ _ _ _ _ _ _ _ _ _ _).mono ?_
    rintro e w2 ⟨rfl, o2, rfl⟩
    go_wp2_with fail
    refine (HFI.out _ (HP.out.keep (hB.out _ _ _ _))).mono ?_
    rintro e w3 ⟨rfl, hb3⟩
    have hsz3 := hb3.size
    simp at hsz3
    have s0 : w3.cell? ⟨w.heap.size + 1, 0, none⟩ = some (.int .i64 x.kind) := by
      rw [hb3.cell (p := ⟨w.heap.size + 1, 0, none⟩) (by simp)]
      rw [World.cell?_alloc_past _ _ _ (by simp), World.cell?_alloc_past _ _ _ (by simp)]
      exact World.cell?_alloc_at _ _ _ _ (by simp)
    have p0 : w3.cell? ⟨w.heap.size, 0, none⟩ = some (.slice (some ⟨g, 0, none⟩) F.length cap) := by
      rw [hb3.cell (p := ⟨w.heap.size, 0, none⟩) (by simp; omega)]
      rw [World.cell?_alloc_past _ _ _ (by simp; omega), World.cell?_alloc_past _ _ _ (by simp; omega), World.cell?_alloc_past _ _ _ (by simp)]
      exact World.cell?_alloc_at _ _ _ _ rfl
    have HB3 : Hid (Below w.heap.size w w3) := (hB.out _ _ _ _).trans (hb3.mono (by simp; omega))
    clear hb3
    clear s0
    go_wp2_with fail
    go_ret2
    exact ⟨by rw [HE.out]; rfl, HB3.out⟩

end Go.Proofs.Ytjbpfbgemidleaa

/- A run, plain: the program's machine. -/
namespace Go.Proofs.Ytjbpfbgemidleaa

structure Ms where
  used : Nat
  st : Int
  pt : Int
  v : List Int

def clampI (n : Int) : Int := if 999 < n then 999 else if n < -999 then -999 else n
def sumTo (a b : List Int) : Nat → Int
  | 0 => 0
  | j + 1 => sumTo a b j + sgAt a j * sgAt b j
def inP (L : List Int) (u : Nat) : Int × Nat := if u < L.length then (L.getD u 0, u + 1) else (0, u)
def valP (L : List Int) (x : Ds) (s : Ms) : Int × Nat := if x.any = true then (clampI (inP L s.used).1, (inP L s.used).2) else (sumTo x.sg s.v 4 + x.num, s.used)
def holP (L : List Int) (x : Ds) (s : Ms) : Bool × Nat := if x.any = true then ((inP L s.used).1 != 0, (inP L s.used).2) else (decide (sumTo x.sg s.v 4 ≤ x.num), s.used)
def entP (n : Nat) (s : Ms) (p : Int) : Ms := ⟨s.used, if p = n then 1 else s.st, p, s.v⟩
def leaP (F : List Ds) (s : Ms) (way : Int) : Ms := if (nextP F s.pt way).2 = 0 then entP F.length s (nextP F s.pt way).1 else s
def asgP (F : List Ds) (L : List Int) (x : Ds) (s : Ms) : Ms :=
  if 999 < (valP L x s).1 ∨ (valP L x s).1 < -999 then ⟨(valP L x s).2, 2, s.pt, s.v⟩ else leaP F ⟨(valP L x s).2, s.st, s.pt, s.v.set x.target.toNat (valP L x s).1⟩ 0
def astP (F : List Ds) (L : List Int) (x : Ds) (s : Ms) : Ms :=
  if (holP L x s).1 = true then leaP F ⟨(holP L x s).2, s.st, s.pt, s.v⟩ 0 else ⟨(holP L x s).2, 3, s.pt, s.v⟩
def braP (F : List Ds) (L : List Int) (x : Ds) (s : Ms) : Ms := leaP F ⟨(holP L x s).2, s.st, s.pt, s.v⟩ (if (holP L x s).1 = true then 0 else 1)
def stpP (F : List Ds) (L : List Int) (s : Ms) : Ms :=
  if s.pt < 0 ∨ (F.length : Int) ≤ s.pt then s else
    if (F.getD s.pt.toNat (newDs 0 0)).kind = 0 then asgP F L (F.getD s.pt.toNat (newDs 0 0)) s
    else if (F.getD s.pt.toNat (newDs 0 0)).kind = 1 then astP F L (F.getD s.pt.toNat (newDs 0 0)) s
    else braP F L (F.getD s.pt.toNat (newDs 0 0)) s
def runP (F : List Ds) (L : List Int) : Nat → Ms → Ms
  | 0, s => s
  | n + 1, s => if s.st = 0 then runP F L n (stpP F L s) else s

/-- What a statement keeps to. -/
structure DsOk (x : Ds) : Prop where
  len : x.sg.length = 4
  sg : ∀ i, -1 ≤ sgAt x.sg i ∧ sgAt x.sg i ≤ 1
  num : -99 ≤ x.num ∧ x.num ≤ 99
  tg : 0 ≤ x.target ∧ x.target ≤ 3
/-- What a machine keeps to. -/
structure MsOk (L : List Int) (s : Ms) : Prop where
  len : s.v.length = 4
  v : ∀ i, -999 ≤ sgAt s.v i ∧ sgAt s.v i ≤ 999
  used : s.used ≤ L.length

theorem mul_sg (a b : Int) (h0 : -1 ≤ a) (h1 : a ≤ 1) (h2 : -999 ≤ b) (h3 : b ≤ 999) : -999 ≤ a * b ∧ a * b ≤ 999 := by
  rcases (show a = -1 ∨ a = 0 ∨ a = 1 by omega) with rfl | rfl | rfl <;> omega
theorem sumTo_le {a b : List Int} (ha : ∀ i, -1 ≤ sgAt a i ∧ sgAt a i ≤ 1) (hb : ∀ i, -999 ≤ sgAt b i ∧ sgAt b i ≤ 999) : ∀ j : Nat, -(999 * (j : Int)) ≤ sumTo a b j ∧ sumTo a b j ≤ 999 * (j : Int) := by
  intro j
  induction j with
  | zero => simp [sumTo]
  | succ j ih =>
    have := mul_sg (sgAt a j) (sgAt b j) (ha j).1 (ha j).2 (hb j).1 (hb j).2
    unfold sumTo
    omega
theorem inP_used {L : List Int} {u : Nat} (h : u ≤ L.length) : (inP L u).2 ≤ L.length := by
  unfold inP; split <;> simp <;> omega
theorem clampI_le (n : Int) : -999 ≤ clampI n ∧ clampI n ≤ 999 := by
  unfold clampI; split
  · omega
  · split <;> omega
theorem sgAt_set (l : List Int) (i j : Nat) (x : Int) (hi : i < l.length) : sgAt (l.set i x) j = if j = i then x else sgAt l j := by
  unfold sgAt
  rw [List.getD_eq_getElem?_getD, List.getElem?_set]
  by_cases e : i = j
  · subst e; simp [hi]
  · rw [if_neg e, if_neg (Ne.symm e), List.getD_eq_getElem?_getD]

variable {F : List Ds} {L : List Int} {s : Ms} {x : Ds}
theorem MsOk.lea (h : MsOk L s) (way : Int) : MsOk L (leaP F s way) := by
  unfold leaP
  split
  · exact ⟨h.len, h.v, h.used⟩
  · exact h
theorem valP_used (h : MsOk L s) : (valP L x s).2 ≤ L.length := by
  unfold valP; split
  · exact inP_used h.used
  · exact h.used
theorem holP_used (h : MsOk L s) : (holP L x s).2 ≤ L.length := by
  unfold holP; split
  · exact inP_used h.used
  · exact h.used
theorem MsOk.asg (h : MsOk L s) (hx : DsOk x) : MsOk L (asgP F L x s) := by
  unfold asgP
  split
  · exact ⟨h.len, h.v, valP_used h⟩
  · rename_i hn
    refine MsOk.lea ⟨?_, ?_, ?_⟩ 0
    · simp only [List.length_set]; exact h.len
    · intro i
      have := hx.tg
      have hl := h.len
      rw [sgAt_set _ _ _ _ (by omega)]
      split
      · omega
      · exact h.v i
    · exact valP_used h
theorem MsOk.ast (h : MsOk L s) : MsOk L (astP F L x s) := by
  unfold astP
  split
  · exact MsOk.lea (s := ⟨(holP L x s).2, s.st, s.pt, s.v⟩) ⟨h.len, h.v, holP_used h⟩ 0
  · exact ⟨h.len, h.v, holP_used h⟩
theorem MsOk.bra (h : MsOk L s) : MsOk L (braP F L x s) := MsOk.lea (s := ⟨(holP L x s).2, s.st, s.pt, s.v⟩) ⟨h.len, h.v, holP_used h⟩ _
theorem MsOk.stp (h : MsOk L s) (hF : ∀ (k : Nat) (x : Ds), F[k]? = some x → DsOk x) : MsOk L (stpP F L s) := by
  unfold stpP
  split
  · exact h
  · rename_i hn
    have hk : s.pt.toNat < F.length := by omega
    have hx : DsOk (F.getD s.pt.toNat (newDs 0 0)) := hF s.pt.toNat _ (by rw [List.getD_eq_getElem?_getD, List.getElem?_eq_getElem hk]; rfl)
    split
    · exact h.asg hx
    split
    · exact h.ast
    · exact h.bra

end Go.Proofs.Ytjbpfbgemidleaa

namespace Go.Proofs.Ytjbpfbgemidleaa
open Go.RowKit

abbrev tM : TypeId := 72
/-- A machine's cells. -/
def mCells (pv iv : Value) (s : Ms) : Array Value := #[pv, iv, .int .i64 s.used, .int .i64 s.st, .int .i64 s.pt, .int .i64 (sgAt s.v 0), .int .i64 (sgAt s.v 1), .int .i64 (sgAt s.v 2), .int .i64 (sgAt s.v 3)]
/-- The inputs, below a block. -/
def Inp (w : World) (B : Nat) (iv : Value) (L : List Int) : Prop :=
  ∃ ao cap, iv = .slice ao L.length cap ∧ L.length ≤ cap ∧ (L.length ≠ 0 → ∃ b off, ao = some ⟨b, off, none⟩ ∧ b < B ∧ ∀ i, i < L.length → w.cell? ⟨b, off + i, none⟩ = some (.int .i64 (L.getD i 0)))
theorem Inp.keep {w w' : World} {B : Nat} {iv : Value} {L : List Int} (h : Inp w B iv L) (hb : Below B w w') : Inp w' B iv L := by
  obtain ⟨ao, cap, hv, hc, h0⟩ := h
  refine ⟨ao, cap, hv, hc, fun hn => ?_⟩
  obtain ⟨b, off, ha, hlt, hcell⟩ := h0 hn
  exact ⟨b, off, ha, hlt, fun i hi => (hb.cell (by exact hlt)).trans (hcell i hi)⟩
/-- The statements, below a block. -/
def PAt (w : World) (B : Nat) (pv : Value) (F : List Ds) : Prop :=
  ∃ ao cap, pv = .slice ao F.length cap ∧ (F.length ≠ 0 → ∃ g, ao = some ⟨g, 0, none⟩ ∧ g < B ∧ PRow w g F)
theorem PAt.keep {w w' : World} {B : Nat} {pv : Value} {F : List Ds} (h : PAt w B pv F) (hb : Below B w w') : PAt w' B pv F := by
  obtain ⟨ao, cap, hv, h0⟩ := h
  refine ⟨ao, cap, hv, fun hn => ?_⟩
  obtain ⟨g, ha, hlt, hp⟩ := h0 hn
  refine ⟨g, ha, hlt, Nat.lt_of_lt_of_le hp.1 hb.size, fun j x hx => ?_⟩
  have hc : ∀ o, w'.cell? ⟨g, o, none⟩ = w.cell? ⟨g, o, none⟩ := fun o => hb.cell (p := ⟨g, o, none⟩) hlt
  simp only [hc]
  exact hp.2 j x hx
/-- What a machine's step leaves. -/
def MPost (m : Nat) (w : World) (pv iv : Value) (s : Ms) : World → Prop := fun w' => At w' m (mCells pv iv s) tM ∧ Onl m w w'

variable {w : World} {m : Nat} {pv iv : Value} {L : List Int} {s : Ms} {F : List Ds}

theorem mcells (h : At w m (mCells pv iv s) tM) : w.cell? ⟨m, 0, none⟩ = some pv ∧ w.cell? ⟨m, 1, none⟩ = some iv ∧ w.cell? ⟨m, 2, none⟩ = some (.int .i64 s.used) ∧ w.cell? ⟨m, 3, none⟩ = some (.int .i64 s.st) ∧ w.cell? ⟨m, 4, none⟩ = some (.int .i64 s.pt) ∧
    w.cell? ⟨m, 5, none⟩ = some (.int .i64 (sgAt s.v 0)) ∧ w.cell? ⟨m, 6, none⟩ = some (.int .i64 (sgAt s.v 1)) ∧ w.cell? ⟨m, 7, none⟩ = some (.int .i64 (sgAt s.v 2)) ∧ w.cell? ⟨m, 8, none⟩ = some (.int .i64 (sgAt s.v 3)) ∧ ∀ i, w.frozen? ⟨m, i, none⟩ = false :=
  ⟨h.cell 0, h.cell 1, h.cell 2, h.cell 3, h.cell 4, h.cell 5, h.cell 6, h.cell 7, h.cell 8, h.free⟩

set_option maxRecDepth 100000 in
set_option maxHeartbeats 800000 in
theorem x_clamp (n : Int) (w : World) : Calls Try.prog 64 #[.int .i64 n] w fun e w' => e = .returned (.int .i64 (clampI n)) ∧ w' = w := by
  by_cases h1 : 999 < n
  · have HE : Hid (clampI n = 999) := if_pos h1
    go_enter Try.func64, Try.ntmps64
    go_wp2_with fail
    go_ret
    exact ⟨by rw [HE.out]; rfl, rfl⟩
  by_cases h2 : n < -999
  · have HE : Hid (clampI n = -999) := by show clampI n = _; unfold clampI; rw [if_neg h1, if_pos h2]
    go_enter Try.func64, Try.ntmps64
    go_wp2_with fail
    go_ret
    exact ⟨by rw [HE.out]; rfl, rfl⟩
  · have HE : Hid (clampI n = n) := by show clampI n = _; unfold clampI; rw [if_neg h1, if_neg h2]
    go_enter Try.func64, Try.ntmps64
    go_wp2_with fail
    go_ret
    exact ⟨by rw [HE.out]; rfl, rfl⟩

set_option maxRecDepth 100000 in
set_option maxHeartbeats 1600000 in
theorem x_input (h : At w m (mCells pv iv s) tM) (hi : Inp w m iv L) (hu : s.used ≤ L.length) (hL : L.length ≤ 1073741824) :
    Calls Try.prog 63 #[.pointer (some ⟨m, 0, none⟩)] w fun e w' => e = .returned (.int .i64 (inP L s.used).1) ∧ MPost m w pv iv ⟨(inP L s.used).2, s.st, s.pt, s.v⟩ w' := by
  obtain ⟨c0, c1, c2, c3, c4, c5, c6, c7, c8, cf⟩ := mcells h
  obtain ⟨ao, cap, rfl, hcap, h0⟩ := hi
  have HA : Hid (At w m _ tM) := h
  have hlt := h.lt
  have hu0 : ¬ ((s.used : Nat) : Int) < 0 := by omega
  by_cases hb : s.used < L.length
  · obtain ⟨b, off, rfl, hbm, hcell⟩ := h0 (by omega)
    have cx := hcell s.used hb
    have HE : Hid (inP L s.used = (L.getD s.used 0, s.used + 1)) := if_pos hb
    have hui : ((s.used : Nat) : Int) < (L.length : Int) := by omega
    have hge : ¬ (L.length : Int) ≤ ((s.used : Nat) : Int) := by omega
    clear h h0 hcell
    generalize L.getD s.used 0 = y at *
    go_enter Try.func63, Try.ntmps63
    go_wp2_with fail
    go_quiet (fail)
    go_wp2_with fail
    go_quiet (fail)
    go_wp2_with fail
    go_ret
    refine ⟨by rw [HE.out]; rfl, ?_, ?_⟩
    · rw [HE.out]
      exact (HA.out.drewN _).put 2 _
    · exact ((Onl.refl m w).drewN _).setCell _ _
  · have HE : Hid (inP L s.used = (0, s.used)) := if_neg hb
    have hge : (L.length : Int) ≤ ((s.used : Nat) : Int) := by omega
    clear h h0
    go_enter Try.func63, Try.ntmps63
    go_wp2_with fail
    go_quiet (fail)
    go_wp2_with fail
    go_ret
    refine ⟨by rw [HE.out]; rfl, ?_, ?_⟩
    · rw [HE.out]
      exact HA.out.drewN _
    · exact (Onl.refl m w).drewN _

end Go.Proofs.Ytjbpfbgemidleaa

