import Derived.Test.YtadhimimdmoodaaRs
namespace Go.Proofs.Ytadhimimdmoodaa
open Go.RowKit

/-- The document's Scan, as numbers. -/
def scanOf (l : List Int) : Int × Int × Int :=
  if 160 < l.length then (0, 1, 0) else match readFrom init l 0 with
    | (n, none) => (0, 1, n)
    | (n, some m) => if isDone m then ((m.st.length : Int) + 1, 0, 0) else (0, 1, n)

def three (x : Int × Int × Int) : Ending := .returned (.tuple #[.int .i64 x.1, .int .i64 x.2.1, .int .i64 x.2.2])

set_option maxRecDepth 100000 in
set_option maxHeartbeats 1600000 in
theorem ref_scan (s : ByteArray) (w : World) (hm : s.size ≤ maxLen) :
    Calls Try.prog 7 #[.string s] w fun e w' => e = three (scanOf (bytesOf s)) ∧ Below w.heap.size w w' := by
  unfold maxLen at hm
  have hl := bytesOf_len s
  by_cases h : 160 < s.size
  · have HS : Hid (scanOf (bytesOf s) = (0, 1, 0)) := by show scanOf _ = _; unfold scanOf; rw [if_pos (by omega)]
    clear hl
    go_enter Try.func7, Try.ntmps7
    go_wp2_with fail
    go_ret3
    exact ⟨by rw [HS.out]; rfl, Below.refl _ _⟩
  · have hr := ref_read s w (by omega)
    have HS : Hid (scanOf (bytesOf s) = match readFrom init (bytesOf s) 0 with
      | (n, none) => (0, 1, n)
      | (n, some m) => if isDone m then ((m.st.length : Int) + 1, 0, 0) else (0, 1, n)) := by show scanOf _ = _; unfold scanOf; rw [if_neg (by omega)]
    clear hl
    rcases hrf : readFrom init (bytesOf s) 0 with ⟨n, _ | m⟩
    · rw [hrf] at HS
      have hr' := hr.mono (R' := fun e w' => e = .returned (.tuple #[.pointer (some ⟨w.heap.size, 0, none⟩), .int .i64 n, .bool false]) ∧ Below w.heap.size w w') (by
        rintro e w' ⟨hb, hz, hm⟩
        rw [hrf] at hm
        exact ⟨hm, hb⟩)
      clear hr hrf
      go_enter Try.func7, Try.ntmps7
      go_wp2_with (go_at_call 17; refine hr'.mono ?_; rintro e w' ⟨rfl, hb⟩)
      go_ret3
      exact ⟨by rw [HS.out]; rfl, hb⟩
    · rw [hrf] at HS
      have hr' := hr.mono (R' := fun e w' => e = .returned (.tuple #[.pointer (some ⟨w.heap.size, 0, none⟩), .int .i64 n, .bool (isDone m)]) ∧ Below w.heap.size w w' ∧ m.st.length ≤ 20 ∧ ∃ ao cap, w'.cell? ⟨w.heap.size, 1, none⟩ = some (.slice ao m.st.length cap)) (by
        rintro e w' ⟨hb, hz, hm⟩
        rw [hrf] at hm
        obtain ⟨he, ok, vs, vo, P, Q, O, hrep⟩ := hm
        obtain ⟨ao, cap, hv⟩ := hrep.slen
        exact ⟨he, hb, ok.len, ao, cap, by rw [← hv]; exact hrep.rdc.2.1⟩)
      clear hr hrf
      cases hd : isDone m
      · have HS2 : Hid (scanOf (bytesOf s) = (0, 1, (n : Int))) := HS.out.trans (by simp [hd])
        rw [hd] at hr'
        clear hd HS
        go_enter Try.func7, Try.ntmps7
        go_wp2_with (go_at_call 17; refine hr'.mono ?_; rintro e w' ⟨rfl, hb, hlen, ao, cap, hcell⟩)
        go_ret3
        exact ⟨by rw [HS2.out]; rfl, hb⟩
      · have HS2 : Hid (scanOf (bytesOf s) = ((m.st.length : Int) + 1, 0, 0)) := HS.out.trans (by simp [hd])
        rw [hd] at hr'
        clear hd HS
        go_enter Try.func7, Try.ntmps7
        go_wp2_with (go_at_call 17; refine hr'.mono ?_; rintro e w' ⟨rfl, hb, hlen, ao, cap, hcell⟩)
        go_ret3
        exact ⟨by rw [HS2.out]; rfl, hb⟩

end Go.Proofs.Ytadhimimdmoodaa
