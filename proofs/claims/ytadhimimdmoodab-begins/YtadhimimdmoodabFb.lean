import Derived.Test.YtadhimimdmoodabEg
import Derived.Test.YtadhimimdmoodabFa
namespace Go.Proofs.Ytadhimimdmoodab
open Go.RowKit

/-- Scan, by the machine's answer. -/
theorem scan_any (s : ByteArray) (w : World) (hm : s.size ≤ maxLen) : Calls Try.prog 4 #[.string s] w fun e w' => e = three (scanOf (bytesOf s)) ∧ Below w.heap.size w w' := by
  rw [← scan_same s]; exact d_scan s w hm

def ex1 : ByteArray := ⟨#[97, 61, 49, 59, 64, 97, 60, 61, 57, 123, 97, 61, 97, 43, 49, 59, 125, 33, 97, 60, 61, 49, 48, 59]⟩
def ex2 : ByteArray := ⟨#[97, 61, 49]⟩
theorem scan_ex1 : scanOf (bytesOf ex1) = (5, 0, 0) := by decide +kernel
theorem scan_ex2 : scanOf (bytesOf ex2) = (0, 1, 3) := by decide +kernel

theorem bytesOf_pre (s : ByteArray) (n : Nat) (_h : n ≤ s.size) : bytesOf (s.extract 0 n) = (bytesOf s).take n := by
  unfold bytesOf
  rw [← List.map_take]
  congr 1
  rw [ByteArray.data_extract]
  simp
theorem size_pre (s : ByteArray) (n : Nat) (h : n ≤ s.size) : (s.extract 0 n).size = n := by simp; omega
theorem bytesOf_app (a b : ByteArray) : bytesOf (a ++ b) = bytesOf a ++ bytesOf b := by
  unfold bytesOf
  rw [ByteArray.data_append, Array.toList_append, List.map_append]
theorem bytesOf_cat (s t : ByteArray) (n : Nat) (h : n < s.size) : bytesOf (s.extract 0 (n + 1) ++ t) = (bytesOf s).take (n + 1) ++ bytesOf t := by
  rw [bytesOf_app, bytesOf_pre s (n + 1) (by omega)]
theorem size_cat (s t : ByteArray) (n : Nat) (h : n < s.size) : (s.extract 0 (n + 1) ++ t).size = n + 1 + t.size := by
  rw [ByteArray.size_append, size_pre s (n + 1) (by omega)]
theorem take_cat (s t : ByteArray) (n : Nat) (h : n < s.size) : ((bytesOf s).take (n + 1) ++ bytesOf t).take n = (bytesOf s).take n := by
  have hl : ((bytesOf s).take (n + 1)).length = n + 1 := by rw [List.length_take, bytesOf_len]; omega
  rw [List.take_append_of_le_length (by omega), List.take_take]
  congr 1; omega
theorem get_cat (s t : ByteArray) (n : Nat) (h : n < s.size) : ((bytesOf s).take (n + 1) ++ bytesOf t)[n]? = (bytesOf s)[n]? := by
  have hl : ((bytesOf s).take (n + 1)).length = n + 1 := by rw [List.length_take, bytesOf_len]; omega
  rw [List.getElem?_append_left (by omega), List.getElem?_take, if_pos (by omega)]


set_option maxRecDepth 100000 in
set_option maxHeartbeats 1600000 in
theorem begins_walk (s t : ByteArray) (w : World) (hm : s.size ≤ 140737488351232) (ht : t.size ≤ 140737488351232) :
    Calls Try.prog 3 #[.string s, .string t] w fun e w' => e = .returned (.bool true) ∧ Below w.heap.size w w' := by
  have h1 := scan_any ex1 w (by decide)
  rw [scan_ex1] at h1
  have h2 := fun w => scan_any ex2 w (by decide)
  rw [scan_ex2] at h2
  have h3 := fun w => scan_any s w (by unfold maxLen; omega)
  have hl := bytesOf_len s
  simp only [three] at h1 h2
  rcases scan_cases (bytesOf s) with ⟨hc, e⟩ | ⟨hc, k, e⟩ | ⟨hc, n, m, hn, e, hf, hx⟩
  · rw [e] at h3
    simp only [three] at h3
    rw [hl] at hc
    clear e hl
    go_enter Try.func3, Try.ntmps3
    go_wp2_with fail
    refine h1.mono ?_
    rintro e w1 ⟨rfl, hb1⟩
    go_wp2_with fail
    refine (h2 _).mono ?_
    rintro e w2 ⟨rfl, hb2⟩
    go_wp2_with fail
    refine (h3 _).mono ?_
    rintro e w3 ⟨rfl, hb3⟩
    go_wp2
    go_ret
    exact ⟨rfl, (hb1.trans (hb2.mono hb1.size)).trans (hb3.mono (Nat.le_trans hb1.size hb2.size))⟩
  · rw [e] at h3
    simp only [three] at h3
    have hk : (0 : Int) < (k : Int) + 1 := by omega
    have hkd : decide ((0 : Int) < (k : Int) + 1) = true := decide_eq_true hk
    clear e hl hc
    go_enter Try.func3, Try.ntmps3
    go_wp2_with fail
    refine h1.mono ?_
    rintro e w1 ⟨rfl, hb1⟩
    go_wp2_with fail
    refine (h2 _).mono ?_
    rintro e w2 ⟨rfl, hb2⟩
    go_wp2_with fail
    refine (h3 _).mono ?_
    rintro e w3 ⟨rfl, hb3⟩
    go_wp2
    go_ret
    exact ⟨rfl, (hb1.trans (hb2.mono hb1.size)).trans (hb3.mono (Nat.le_trans hb1.size hb2.size))⟩
  · rw [e] at h3
    simp only [three] at h3
    rw [hl] at hc hn hx
    clear e
    have h4 := fun w => scan_any (s.extract 0 n) w (by rw [size_pre s n hn]; unfold maxLen; omega)
    rw [bytesOf_pre s n hn] at h4
    obtain ⟨a, b, c, hpre, hfm⟩ : ∃ a b c : Int, scanOf ((bytesOf s).take n) = (a, b, c) ∧ (b = 0 ∨ (b = 1 ∧ c = n)) := by
      rcases scan_pre hf (by rw [hl]; exact hn) (by omega) with ⟨k, e⟩ | e
      · exact ⟨_, _, _, e, .inl rfl⟩
      · exact ⟨_, _, _, e, .inr ⟨rfl, rfl⟩⟩
    rw [hpre] at h4
    simp only [three] at h4
    clear hpre
    have hnn : decide ((n : Int) < 0) = false := decide_eq_false (by omega)
    have hns : decide ((s.size : Int) < (n : Int)) = false := decide_eq_false (by omega)
    by_cases hend : n = s.size
    · have hendb : ((n : Int) == (s.size : Int)) = true := by rw [beq_iff_eq]; omega
      have HE : Hid (n = s.size) := hend
      clear hend hx hf hl
      rcases hfm with rfl | ⟨rfl, rfl⟩
      all_goals
        go_enter Try.func3, Try.ntmps3
        go_wp2_with fail
        refine h1.mono ?_
        rintro e w1 ⟨rfl, hb1⟩
        go_wp2_with fail
        refine (h2 _).mono ?_
        rintro e w2 ⟨rfl, hb2⟩
        go_wp2_with fail
        refine (h3 _).mono ?_
        rintro e w3 ⟨rfl, hb3⟩
        go_wp2_with fail
        refine (h4 _).mono ?_
        rintro e w4 ⟨rfl, hb4⟩
        go_wp2
        go_ret
        exact ⟨rfl, ((hb1.trans (hb2.mono hb1.size)).trans (hb3.mono (Nat.le_trans hb1.size hb2.size))).trans (hb4.mono (Nat.le_trans (Nat.le_trans hb1.size hb2.size) hb3.size))⟩
    · have hendb : ((n : Int) == (s.size : Int)) = false := by rw [beq_eq_false_iff_ne]; omega
      by_cases hbig : 160 < n + 1 + t.size
      · have hbigd : decide ((160 : Int) < (n : Int) + 1 + (t.size : Int)) = true := decide_eq_true (by omega)
        clear hend hx hf hl
        rcases hfm with rfl | ⟨rfl, rfl⟩
        all_goals
          go_enter Try.func3, Try.ntmps3
          go_wp2_with fail
          refine h1.mono ?_
          rintro e w1 ⟨rfl, hb1⟩
          go_wp2_with fail
          refine (h2 _).mono ?_
          rintro e w2 ⟨rfl, hb2⟩
          go_wp2_with fail
          refine (h3 _).mono ?_
          rintro e w3 ⟨rfl, hb3⟩
          go_wp2_with fail
          refine (h4 _).mono ?_
          rintro e w4 ⟨rfl, hb4⟩
          go_wp2
          go_ret
          exact ⟨rfl, ((hb1.trans (hb2.mono hb1.size)).trans (hb3.mono (Nat.le_trans hb1.size hb2.size))).trans (hb4.mono (Nat.le_trans (Nat.le_trans hb1.size hb2.size) hb3.size))⟩
      · have hbigd : decide ((160 : Int) < (n : Int) + 1 + (t.size : Int)) = false := decide_eq_false (by omega)
        have hn1 : (n : Int) + 1 ≤ (s.size : Int) := by omega
        have hsz := size_cat s t n (by omega)
        have h5 := fun w => scan_any (s.extract 0 (n + 1) ++ t) w (by rw [hsz]; unfold maxLen; omega)
        obtain ⟨c, hc1, hc2⟩ := hx (by omega)
        have hlt : n < s.size := by omega
        rw [scan_bad (l := bytesOf s) hf (by rw [bytesOf_cat s t n hlt]; exact take_cat s t n hlt) (by rw [bytesOf_cat s t n hlt]; exact (get_cat s t n hlt).trans hc1) hc2 (by rw [bytesOf_len, hsz]; omega)] at h5
        simp only [three] at h5
        clear hend hf hl hsz hc1 hc2
        rcases hfm with rfl | ⟨rfl, rfl⟩
        all_goals
          go_enter Try.func3, Try.ntmps3
          go_wp2_with fail
          refine h1.mono ?_
          rintro e w1 ⟨rfl, hb1⟩
          go_wp2_with fail
          refine (h2 _).mono ?_
          rintro e w2 ⟨rfl, hb2⟩
          go_wp2_with fail
          refine (h3 _).mono ?_
          rintro e w3 ⟨rfl, hb3⟩
          go_wp2_with fail
          refine (h4 _).mono ?_
          rintro e w4 ⟨rfl, hb4⟩
          go_wp2_with fail
          refine (h5 _).mono ?_
          rintro e w5 ⟨rfl, hb5⟩
          go_wp2
          go_ret
          exact ⟨rfl, (((hb1.trans (hb2.mono hb1.size)).trans (hb3.mono (Nat.le_trans hb1.size hb2.size))).trans (hb4.mono (Nat.le_trans (Nat.le_trans hb1.size hb2.size) hb3.size))).trans (hb5.mono (Nat.le_trans (Nat.le_trans (Nat.le_trans hb1.size hb2.size) hb3.size) hb4.size))⟩

end Go.Proofs.Ytadhimimdmoodab
