import Derived.Test.YtadhimimdmoodaaDm
namespace Go.Proofs.Ytadhimimdmoodaa
open Go.RowKit
variable {w w' : World} {g cap : Nat} {F : List Ds}

set_option maxRecDepth 100000 in
set_option maxHeartbeats 1600000 in
theorem d_firstIn (h : PRow w g F) (hl : F.length ≤ 20) (p b fr : Int) :
    Calls Try.prog 30 #[.agg #[.slice (some ⟨g, 0, none⟩) F.length cap], .int .i64 p, .int .i64 b, .int .i64 fr] w fun e w' => e = .returned (.int .i64 (firstP F p b fr)) ∧ Below w.heap.size w w' := by
  have hg := h.1
  have HP : Hid (PRow w g F) := h
  clear h
  go_enter Try.func30, Try.ntmps30
  go_wp2_with fail
  go_loopw [14] (fun i wr => ∃ k : Nat, k ≤ F.length ∧ i = .int .i64 k ∧ Below w.heap.size w wr ∧ firstP F p b fr = firstGo p b fr (F.drop k) k) (fun i _ => F.length - (intOf i).toNat)
  case atStart => exact ⟨0, Nat.zero_le _, rfl, (Below.refl _ _).alloc (Nat.le_refl _) _, rfl⟩
  case round =>
    obtain ⟨k, hk, rfl, hbel, hfi⟩ := hrel
    have HF : Hid (_ = _) := hfi
    clear hfi
    by_cases hlt : k < F.length
    · have hki : (k : Int) < (F.length : Int) := by omega
      obtain ⟨c0, c1, c2, c3, c4, c5, c6, c7, c8, c9⟩ := (HP.out.keep hbel).2 k _ (gets' hlt)
      have HD : Hid (_ = _) := HF.out.trans (firstGo_drop hlt)
      have hsz := hbel.size
      have HB : Hid (Below _ _ _) := hbel
      clear HF hbel
      generalize F.getD k (newDs 0 0) = x at *
      by_cases hm : fr ≤ (k : Int)
      · by_cases hp : x.parent = p
        · have bp : (x.parent == p) = true := by simpa using hp
          by_cases hb : x.block = b
          · have bb : (x.block == b) = true := by simpa using hb
            have HE : Hid (_ = _) := HD.out.trans (if_pos ⟨hm, hp, hb⟩)
            clear HD hp hb
            go_wp2_with fail
            go_ret
            exact ⟨by rw [HE.out]; rfl, HB.out.alloc hsz _⟩
          · have bb : (x.block == b) = false := by simpa using hb
            have HE : Hid (_ = _) := HD.out.trans (if_neg (fun e => hb e.2.2))
            clear HD hp hb
            go_wp2_with fail
            go_roundw
            case rel => exact ⟨k + 1, by omega, by go_num, HB.out.alloc hsz _, HE.out⟩
            case measure => simp [intOf]; omega
        · have bp : (x.parent == p) = false := by simpa using hp
          have HE : Hid (_ = _) := HD.out.trans (if_neg (fun e => hp e.2.1))
          clear HD hp
          go_wp2_with fail
          go_roundw
          case rel => exact ⟨k + 1, by omega, by go_num, HB.out.alloc hsz _, HE.out⟩
          case measure => simp [intOf]; omega
      · have HE : Hid (_ = _) := HD.out.trans (if_neg (fun e => hm e.1))
        have hmd : decide (fr ≤ (k : Int)) = false := decide_eq_false hm
        clear HD
        go_wp2_with fail
        go_roundw
        case rel => exact ⟨k + 1, by omega, by go_num, HB.out.alloc hsz _, HE.out⟩
        case measure => simp [intOf]; omega
    · have hke : k = F.length := by omega
      have HE : Hid (firstP F p b fr = -1) := HF.out.trans (by rw [hke, List.drop_length]; rfl)
      have hnk : ¬ (k : Int) < (F.length : Int) := by omega
      clear HF hke
      go_wp2_with fail
      go_ret
      exact ⟨by rw [HE.out]; rfl, hbel⟩

end Go.Proofs.Ytadhimimdmoodaa
