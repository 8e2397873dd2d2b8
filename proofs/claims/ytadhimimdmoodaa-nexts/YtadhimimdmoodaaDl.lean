import Derived.Test.YtadhimimdmoodaaDk
namespace Go.Proofs.Ytadhimimdmoodaa
open Go.RowKit
variable {w w' : World} {s : ByteArray}

def scanD (s : ByteArray) : Int × Int × Int :=
  if 160 < s.size then (0, 1, 0) else if readGood s = true then (((readZ s).2.length : Int) + 1, 0, 0) else (0, 1, (readZ s).1.1)

set_option maxHeartbeats 400000 in
theorem d_end (ao : Option Addr) (n cap : Nat) (w : World) (_hn : n ≤ 20) :
    Calls Try.prog 16 #[.agg #[.slice ao n cap]] w fun e w' => e = .returned (.int .i64 n) ∧ ∃ o, w' = w.alloc o := by
  go_enter Try.func16, Try.ntmps16
  go_wp2
  go_ret
  exact ⟨rfl, _, rfl⟩

set_option maxRecDepth 100000 in
set_option maxHeartbeats 1600000 in
theorem d_scan (s : ByteArray) (w : World) (hm : s.size ≤ maxLen) :
    Calls Try.prog 6 #[.string s] w fun e w' => e = three (scanD s) ∧ Below w.heap.size w w' := by
  have hr := d_read s w hm
  by_cases h : 160 < s.size
  · have HS : Hid (scanD s = (0, 1, 0)) := if_pos h
    have hr' := hr.mono (R' := fun e w' => e = .returned (.tuple #[.agg #[.slice none 0 0], .int .i64 1, .int .i64 0]) ∧ Below w.heap.size w w') (by
      rintro e w' ⟨hb, h1 | h1 | h1⟩
      · exact ⟨h1.2, hb⟩
      · exact absurd h1.1 (by omega)
      · exact absurd h1.1 (by omega))
    clear hr hm
    go_enter Try.func6, Try.ntmps6
    go_wp2_with fail
    refine hr'.mono ?_
    rintro e w2 ⟨rfl, hb⟩
    go_wp2
    go_ret3
    exact ⟨by rw [HS.out]; rfl, hb.alloc hb.size _⟩
  · by_cases hg : readGood s = true
    · have HS : Hid (scanD s = (((readZ s).2.length : Int) + 1, 0, 0)) := by show scanD s = _; unfold scanD; rw [if_neg h, if_pos hg]
      have hlen : (readZ s).2.length ≤ 20 := (rStmts_goes s 22 (-1) 0 0 ((0, false), []) ⟨Nat.zero_le _, Nat.zero_le _⟩).ok.len
      have hr' := hr.mono (R' := fun e w' => ∃ ao cap, e = .returned (.tuple #[.agg #[.slice ao (readZ s).2.length cap], .int .i64 0, .int .i64 0]) ∧ Below w.heap.size w w') (by
        rintro e w' ⟨hb, h1 | h1 | h1⟩
        · exact absurd h1.1 h
        · exact absurd h1.2.1 (by rw [hg]; decide)
        · obtain ⟨_, _, v, he, hrow⟩ := h1
          obtain ⟨_, h2⟩ := hrow
          rcases h2 with ⟨rfl, e0⟩ | ⟨g, cap, c, rfl, _⟩
          · exact ⟨none, 0, by rw [e0]; exact he, hb⟩
          · exact ⟨_, cap, he, hb⟩)
      clear hr hm h hg
      generalize (readZ s).2.length = n at *
      go_enter Try.func6, Try.ntmps6
      go_wp2_with fail
      refine hr'.mono ?_
      rintro e w2 ⟨ao, cap, rfl, hb⟩
      go_wp2_with fail
      refine (d_end ao n cap _ hlen).mono ?_
      rintro e w3 ⟨rfl, o, rfl⟩
      go_wp2
      go_ret3
      exact ⟨by rw [HS.out]; rfl, (hb.alloc hb.size _).alloc (by have := hb.size; simp; omega) _⟩
    · have HS : Hid (scanD s = (0, 1, ((readZ s).1.1 : Int))) := by show scanD s = _; unfold scanD; rw [if_neg h, if_neg hg]
      have hr' := hr.mono (R' := fun e w' => e = .returned (.tuple #[.agg #[.slice none 0 0], .int .i64 1, .int .i64 (readZ s).1.1]) ∧ Below w.heap.size w w') (by
        rintro e w' ⟨hb, h1 | h1 | h1⟩
        · exact absurd h1.1 h
        · exact ⟨h1.2.2, hb⟩
        · exact absurd h1.2.1 hg)
      clear hr hm
      generalize (readZ s).1.1 = n at *
      go_enter Try.func6, Try.ntmps6
      go_wp2_with fail
      refine hr'.mono ?_
      rintro e w2 ⟨rfl, hb⟩
      go_wp2
      go_ret3
      exact ⟨by rw [HS.out]; rfl, hb.alloc hb.size _⟩

/-- The law's body, where both answers are the same. -/
theorem scans_walk (s : ByteArray) (w : World) (hm : s.size ≤ maxLen) (heq : scanD s = scanOf (bytesOf s)) :
    Calls Try.prog 3 #[.string s] w fun e w' => e = .returned (.bool true) ∧ Below w.heap.size w w' := by
  have h1 := d_scan s w hm
  have h2 := fun w => ref_scan s w hm
  rw [← heq] at h2
  obtain ⟨⟨a, b, c⟩, hx⟩ : ∃ x, x = scanD s := ⟨_, rfl⟩
  rw [← hx] at h1 h2
  simp only [three] at h1 h2
  clear hx heq hm
  go_enter Try.func3, Try.ntmps3
  go_wp2_with fail
  refine h1.mono ?_
  rintro e w1 ⟨rfl, hb1⟩
  go_wp2_with fail
  refine (h2 _).mono ?_
  rintro e w2 ⟨rfl, hb2⟩
  go_wp2
  go_ret
  exact ⟨rfl, hb1.trans (hb2.mono hb1.size)⟩

end Go.Proofs.Ytadhimimdmoodaa
