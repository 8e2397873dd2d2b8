import Derived.Test.YtadhimimdmoodaaRf
import Derived.Test.YtadhimimdmoodaaRg
import Derived.Test.YtadhimimdmoodaaRm
import Derived.Test.YtadhimimdmoodaaRn
import Derived.Test.YtadhimimdmoodaaRo
import Derived.Test.YtadhimimdmoodaaRp
import Derived.Test.YtadhimimdmoodaaRq
namespace Go.Proofs.Ytadhimimdmoodaa
open Go.RowKit
variable {B : Nat} {w w' : World} {r : Nat} {m : Rd} {vs vo : Value} {P Q O : Nat → Nat}

theorem Rep.value (h : Rep B w r m vs vo P Q O) (ok : Ok m) (c : Int) (h0 : 0 ≤ c) (h1 : c ≤ 255) (hx : m.state = 118 ∨ m.state = 86 ∨ m.state = 120 ∨ m.state = 121 ∨ m.state = 110) :
    Calls Try.prog 42 #[.pointer (some ⟨r, 0, none⟩), .int .u8 c] w (Post B w r (valueStep m c)) := by
  have hn := ok.some_ (by omega)
  rcases hx with hx | hx | hx | hx | hx
  · exact h.valueV ok hn c h0 h1 hx
  · exact h.valueVV ok hn c h0 h1 hx
  · exact h.valueX ok hn c h0 h1 hx
  · exact h.valueY ok hn c h0 h1 hx
  · exact h.valueN ok hn c h0 h1 hx

theorem Rep.cond (h : Rep B w r m vs vo P Q O) (ok : Ok m) (hB : B ≤ w.heap.size) (c : Int) (h0 : 0 ≤ c) (h1 : c ≤ 255)
    (hx : m.state = 99 ∨ m.state = 67 ∨ m.state = 100 ∨ m.state = 101 ∨ m.state = 102 ∨ m.state = 60 ∨ m.state = 98 ∨ m.state = 66 ∨ m.state = 109 ∨ m.state = 125) :
    Calls Try.prog 43 #[.pointer (some ⟨r, 0, none⟩), .int .u8 c] w (Post B w r (condStep m c)) := by
  have hn := ok.some_ (by omega)
  rcases hx with hx | hx | hx | hx | hx | hx | hx | hx | hx | hx
  · exact h.condC ok hn hB c h0 h1 hx
  · exact h.condCC ok hn hB c h0 h1 hx
  · exact h.condD ok hn hB c h0 h1 hx
  · exact h.condE ok hn hB c h0 h1 hx
  · exact h.condF ok hn hB c h0 h1 hx
  · exact h.condL ok hn hB c h0 h1 hx
  · exact h.condB ok hn hB c h0 h1 hx
  · exact h.condBB ok hn hB c h0 h1 hx
  · exact h.condM ok hn hB c h0 h1 hx
  · exact h.condZ ok hn hB c h0 h1 hx

theorem byte_value (hx : m.state = 118 ∨ m.state = 86 ∨ m.state = 120 ∨ m.state = 121 ∨ m.state = 110) (c : Int) : byteStep m c = valueStep m c := by
  unfold byteStep; rw [if_neg (by omega), if_neg (by omega), if_pos hx]
theorem byte_plain (hx : m.state = 59 ∨ m.state = 123) (c : Int) : byteStep m c = plainStep m c := by
  unfold byteStep; rw [if_neg (by omega), if_neg (by omega), if_neg (by omega), if_pos hx]
theorem byte_cond (hx : m.state = 99 ∨ m.state = 67 ∨ m.state = 100 ∨ m.state = 101 ∨ m.state = 102 ∨ m.state = 60 ∨ m.state = 98 ∨ m.state = 66 ∨ m.state = 109 ∨ m.state = 125) (c : Int) : byteStep m c = condStep m c := by
  unfold byteStep; rw [if_neg (by omega), if_neg (by omega), if_neg (by omega), if_neg (by omega)]

set_option maxRecDepth 100000 in
set_option maxHeartbeats 1600000 in
theorem Rep.byte (h : Rep B w r m vs vo P Q O) (ok : Ok m) (hB : B ≤ w.heap.size) (c : Int) (h0 : 0 ≤ c) (h1 : c ≤ 255) :
    Calls Try.prog 26 #[.pointer (some ⟨r, 0, none⟩), .int .u8 c] w (Post B w r (byteStep m c)) := by
  obtain ⟨r0, r1, r2, r3, r4, r5, rf⟩ := h.rdc
  have geR := h.geR
  rcases ok.states with hx | hx | hx | hx | hx
  · have HY : Hid (byteStep m c = startStep m c) := by show byteStep m c = _; unfold byteStep; rw [if_pos hx]
    have hc := h.start ok hB c h0 h1
    rw [hx] at r0
    clear hx h ok
    go_enter Try.func26, Try.ntmps26
    go_wp2_with (go_at_call 41; refine hc.mono ?_; rintro e w' ⟨rfl, hb, hr⟩)
    go_ret
    exact post_via HY.out (Below.refl _ _) hb hr
  · rw [hx] at r0
    by_cases hc : c = 61
    · subst hc
      have HY : Hid (byteStep m 61 = some { m with state := 118 }) := by show byteStep m 61 = _; unfold byteStep; rw [hx, if_neg (by decide), if_pos rfl, if_pos rfl]
      have HR : Hid (Rep _ _ _ _ _ _ _ _ _) := h
      clear h ok hx
      go_enter Try.func26, Try.ntmps26
      go_wp2_with fail
      go_ret
      exact post_yes HY.out (Below.setCell (Below.refl _ _) geR _) (HR.out.setRd 0 (.int .u8 118) _ rfl rfl rfl)
    · have HY : Hid (byteStep m c = none) := by show byteStep m c = _; unfold byteStep; rw [hx, if_neg (by decide), if_pos rfl, if_neg hc]
      have bc : (c == 61) = false := by simpa using hc
      clear h ok hx hc
      go_enter Try.func26, Try.ntmps26
      go_wp2_with fail
      go_ret
      exact post_no HY.out (Below.setCell (Below.refl _ _) geR _)
  · have HY : Hid (byteStep m c = valueStep m c) := byte_value hx c
    have hc := h.value ok c h0 h1 hx
    have HR : Hid (Rep _ _ _ _ _ _ _ _ _) := h
    clear h ok
    rcases hx with hx | hx | hx | hx | hx
    all_goals
      rw [hx] at r0
      clear hx
      go_enter Try.func26, Try.ntmps26
      go_wp2_with (go_at_call 42; refine hc.mono ?_; rintro e w' ⟨rfl, hb, hr⟩)
      go_ret
      exact post_via HY.out (Below.refl _ _) hb hr
  · rw [byte_plain hx]
    exact h.bytePlain ok.len ok.oplen (ok.some_ (by omega)) hB c h0 h1 hx
  · have HY : Hid (byteStep m c = condStep m c) := byte_cond hx c
    have hc := h.cond ok hB c h0 h1 hx
    have HR : Hid (Rep _ _ _ _ _ _ _ _ _) := h
    clear h ok
    rcases hx with hx | hx | hx | hx | hx | hx | hx | hx | hx | hx
    all_goals
      rw [hx] at r0
      clear hx
      go_enter Try.func26, Try.ntmps26
      go_wp2_with (go_at_call 43; refine hc.mono ?_; rintro e w' ⟨rfl, hb, hr⟩)
      go_ret
      exact post_via HY.out (Below.refl _ _) hb hr

end Go.Proofs.Ytadhimimdmoodaa
