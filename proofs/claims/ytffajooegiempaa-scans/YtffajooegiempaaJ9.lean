import Derived.Test.YtffajooegiempaaJ8
import Derived.ProofKit
import Derived.OpenShut
import Derived.ChangeMaps5
namespace Go.Proofs.Ytffajooegiempaa
open Go.RowKit
variable {B : Nat} {w w' : World} {r : Nat} {m : Rd} {vs vo : Value} {P Q O : Nat → Nat}

theorem Rep.value (h : Rep B w r m vs vo P Q O) (ok : Ok m) (c : Int) (h0 : 0 ≤ c) (h1 : c ≤ 255) (hx : m.state = 118 ∨ m.state = 86 ∨ m.state = 120 ∨ m.state = 121 ∨ m.state = 110) :
    Calls Try.prog 58 #[.pointer (some ⟨r, 0, none⟩), .int .u8 c] w (Post B w r (valueStep m c)) := by
  have hn := ok.some_ (by omega)
  rcases hx with hx | hx | hx | hx | hx
  · exact h.valueV ok hn c h0 h1 hx
  · exact h.valueVV ok hn c h0 h1 hx
  · exact h.valueX ok hn c h0 h1 hx
  · exact h.valueY ok hn c h0 h1 hx
  · exact h.valueN ok hn c h0 h1 hx

theorem Rep.cond (h : Rep B w r m vs vo P Q O) (ok : Ok m) (hB : B ≤ w.heap.size) (c : Int) (h0 : 0 ≤ c) (h1 : c ≤ 255)
    (hx : m.state = 99 ∨ m.state = 67 ∨ m.state = 100 ∨ m.state = 101 ∨ m.state = 102 ∨ m.state = 60 ∨ m.state = 98 ∨ m.state = 66 ∨ m.state = 109 ∨ m.state = 125) :
    Calls Try.prog 59 #[.pointer (some ⟨r, 0, none⟩), .int .u8 c] w (Post B w r (condStep m c)) := by
  have hn := ok.some_ (by omega)
  rcases hx with hx | hx | hx | hx | hx | hx | hx | hx | hx | hx
  · exact h.condC ok hn hB c h0 h1 hx
  · exact h.condCC ok hn hB c h0 h1 hx
  · exact h.condD ok hn hB c h0 h1 hx
  · exact h.condE ok hn hB c h0 h1 hx
  · exact h.condF ok hn hB c h0 h1 hx
  · exact h.condL ok hn hB c h0 h1 hx
  · exact h.condB ok hn hB c h0 h1 hx
  · exact h.condBB ok hn hB c h0 h1 hx
  · exact h.condM ok hn hB c h0 h1 hx
  · exact h.condZ ok hn hB c h0 h1 hx

set_option maxRecDepth 100000 in
set_option maxHeartbeats 1600000 in
theorem Rep.byte (h : Rep B w r m vs vo P Q O) (ok : Ok m) (hB : B ≤ w.heap.size) (c : Int) (h0 : 0 ≤ c) (h1 : c ≤ 255) :
    Calls Try.prog 40 #[.pointer (some ⟨r, 0, none⟩), .int .u8 c] w (Post B w r (byteStep m c)) := by
  obtain ⟨r0, r1, r2, r3, r4, r5, rf⟩ := h.rdc
  have geR := h.geR
  rcases ok.states with hx | hx | hx | hx | hx
  · have HY : Hid (byteStep m c = startStep m c) := by show byteStep m c = _; unfold byteStep; rw [if_pos hx]
    have hc := h.start ok hB c h0 h1
    rw [hx] at r0
    clear hx h ok
    go_enter Try.func40, Try.ntmps40
    go_wp2_with (go_at_call 57; refine hc.mono ?_; rintro e w' ⟨rfl, hb, hr⟩)
    go_ret
    exact post_via HY.out (Below.refl _ _) hb hr
  · rw [hx] at r0
    by_cases hc : c = 61
    · subst hc
      have HY : Hid (byteStep m 61 = some { m with state := 118 }) := by show byteStep m 61 = _; unfold byteStep; rw [hx, if_neg (by decide), if_pos rfl, if_pos rfl]
      have HR : Hid (Rep _ _ _ _ _ _ _ _ _) := h
      clear h ok hx
      go_enter Try.func40, Try.ntmps40
      go_wp2_with fail
      go_ret
      exact post_yes HY.out (Below.setCell (Below.refl _ _) geR _) (HR.out.setRd 0 (.int .u8 118) _ rfl rfl rfl)
    · have HY : Hid (byteStep m c = none) := by show byteStep m c = _; unfold byteStep; rw [hx, if_neg (by decide), if_pos rfl, if_neg hc]
      have bc : (c == 61) = false := by simpa using hc
      clear h ok hx hc
      go_enter Try.func40, Try.ntmps40
      go_wp2_with fail
      go_ret
      exact post_no HY.out (Below.setCell (Below.refl _ _) geR _)
  · have HY : Hid (byteStep m c = valueStep m c) := byte_value hx c
    have hc := h.value ok c h0 h1 hx
    have HR : Hid (Rep _ _ _ _ _ _ _ _ _) := h
    clear h ok
    rcases hx with hx | hx | hx | hx | hx
    all_goals
      rw [hx] at r0
      clear hx
      go_enter Try.func40, Try.ntmps40
      go_wp2_with (go_at_call 58; refine hc.mono ?_; rintro e w' ⟨rfl, hb, hr⟩)
      go_ret
      exact post_via HY.out (Below.refl _ _) hb hr
  · rw [byte_plain hx]
    exact h.bytePlain ok.len ok.oplen (ok.some_ (by omega)) hB c h0 h1 hx
  · have HY : Hid (byteStep m c = condStep m c) := byte_cond hx c
    have hc := h.cond ok hB c h0 h1 hx
    have HR : Hid (Rep _ _ _ _ _ _ _ _ _) := h
    clear h ok
    rcases hx with hx | hx | hx | hx | hx | hx | hx | hx | hx | hx
    all_goals
      rw [hx] at r0
      clear hx
      go_enter Try.func40, Try.ntmps40
      go_wp2_with (go_at_call 59; refine hc.mono ?_; rintro e w' ⟨rfl, hb, hr⟩)
      go_ret
      exact post_via HY.out (Below.refl _ _) hb hr

end Go.Proofs.Ytffajooegiempaa

namespace Go.Proofs.Ytffajooegiempaa
open Go.RowKit

theorem rep_init (w : World) : Rep w.heap.size (w.alloc (.cells (rdCells init (.slice none 0 0) (.slice none 0 0)) tR)) w.heap.size init (.slice none 0 0) (.slice none 0 0) id id id where
  rd := by
    show (w.heap.push _)[w.heap.size]? = _
    rw [Array.getElem?_push, if_pos rfl]
  rs := World.ownsRow_nil _ _ _ _
  ro := World.ownsRow_nil _ _ _ _
  st := by intro i s h; simp [init] at h
  op := by intro i s h; simp [init] at h
  injP := by intro i j h; exact absurd h (by simp [init])
  injQ := by intro i j h; exact absurd h (by simp [init])
  injO := by intro i j h; exact absurd h (by simp [init])
  geR := Nat.le_refl _
  geP := by intro i h; exact absurd h (by simp [init])
  geO := by intro i h; exact absurd h (by simp [init])

/-- What Read gives. -/
def ReadPost (w : World) (l : List Int) : Ending → World → Prop := fun e w' =>
  Below w.heap.size w w' ∧ w.heap.size < w'.heap.size ∧
    match readFrom init l 0 with
    | (n, none) => e = .returned (.tuple #[.pointer (some ⟨w.heap.size, 0, none⟩), .int .i64 n, .bool false])
    | (n, some m) => e = .returned (.tuple #[.pointer (some ⟨w.heap.size, 0, none⟩), .int .i64 n, .bool (isDone m)]) ∧ Ok m ∧ ∃ vs vo P Q O, Rep w.heap.size w' w.heap.size m vs vo P Q O

theorem readPost_none {w w' : World} {l : List Int} {m : Rd} {k : Nat} {c : Int} (hb : Below w.heap.size w w') (hz : w.heap.size < w'.heap.size) (h : feed init (l.take k) = some m) (hc : l[k]? = some c) (hs : byteStep m c = none) :
    ReadPost w l (.returned (.tuple #[.pointer (some ⟨w.heap.size, 0, none⟩), .int .i64 k, .bool false])) w' := by
  refine ⟨hb, hz, ?_⟩
  rw [readFrom_none (n := 0) h hc hs, Nat.zero_add]
theorem readPost_some {w w' : World} {l : List Int} {m : Rd} {vs vo : Value} {P Q O : Nat → Nat} {b : Bool} {n : Nat} (hb : Below w.heap.size w w') (hz : w.heap.size < w'.heap.size) (h : feed init l = some m) (ok : Ok m) (hr : Rep w.heap.size w' w.heap.size m vs vo P Q O) (hd : isDone m = b) (hl : l.length = n) :
    ReadPost w l (.returned (.tuple #[.pointer (some ⟨w.heap.size, 0, none⟩), .int .i64 n, .bool b])) w' := by
  refine ⟨hb, hz, ?_⟩
  rw [readFrom_some (n := 0) h, Nat.zero_add, hl]
  exact ⟨by rw [hd], ok, _, _, _, _, _, hr⟩

set_option maxRecDepth 100000 in
set_option maxHeartbeats 1600000 in
theorem ref_read (s : ByteArray) (w : World) (hs : s.size ≤ 160) :
    Calls Try.prog 28 #[.string s] w (ReadPost w (bytesOf s)) := by
  have HI : Hid (Rep _ _ _ _ _ _ _ _ _) := rep_init w
  go_enter Try.func28, Try.ntmps28
  go_wp2
  go_loopw [6] (fun i wr => ∃ k : Nat, k ≤ s.size ∧ i = .int .i64 k ∧ w.heap.size < wr.heap.size ∧ Below w.heap.size w wr ∧ ∃ m, feed init ((bytesOf s).take k) = some m ∧ ∃ vs vo P Q O, Rep w.heap.size wr w.heap.size m vs vo P Q O) (fun i _ => s.size - (intOf i).toNat)
  case atStart => exact ⟨0, Nat.zero_le _, rfl, by simp, (Below.refl _ _).alloc (Nat.le_refl _) _, init, rfl, _, _, _, _, _, HI.out⟩
  case round =>
    obtain ⟨k, hk, rfl, hz, hbel, m, hfeed, vs, vo, P, Q, O, hrep⟩ := hrel
    have ok := Ok.init.feed hfeed
    have HF : Hid (_ = _) := hfeed
    clear hfeed
    by_cases hlt : k < s.size
    · have hb0 : (0 : Int) ≤ ((s[k]).toNat : Int) := by omega
      have hb1 : ((s[k]).toNat : Int) ≤ 255 := by have := (s[k]).toNat_lt; omega
      have hc := hrep.byte ok (by omega) ((s[k]).toNat : Int) hb0 hb1
      have HG : Hid (_ = _) := bytesOf_get s k hlt
      have HT : Hid (_ = _) := bytesOf_take s k hlt
      have OK : Hid (Ok m) := ok
      have HR : Hid (Rep _ _ _ _ _ _ _ _ _) := hrep
      clear ok hrep
      cases hst : byteStep m ((s[k]).toNat : Int) with
      | none =>
        rw [hst] at hc
        have HS : Hid (_ = _) := hst
        clear hst
        go_wp2_with (go_at_call 40; refine hc.mono ?_; rintro e w' ⟨rfl, hb, hr⟩)
        go_ret3
        exact readPost_none (hbel.trans hb) (Nat.lt_of_lt_of_le hz hb.size) HF.out HG.out HS.out
      | some m' =>
        rw [hst] at hc
        have HS : Hid (_ = _) := hst
        clear hst
        go_wp2_with (go_at_call 40; refine hc.mono ?_; rintro e w' ⟨rfl, hb, hr⟩)
        go_roundw
        case rel => exact ⟨k + 1, by omega, by go_num, Nat.lt_of_lt_of_le hz hb.size, hbel.trans hb, m', by rw [HT.out, feed_snoc, HF.out]; exact HS.out, hr m' rfl⟩
        case measure => simp [intOf]; omega
    · have hke : k = s.size := by omega
      have hall : (bytesOf s).take k = bytesOf s := List.take_of_length_le (by rw [bytesOf_len]; omega)
      have HF2 : Hid (feed init (bytesOf s) = some m) := by show feed init (bytesOf s) = some m; rw [← hall]; exact HF.out
      obtain ⟨r0, r1, r2, r3, r4, r5, rf⟩ := hrep.rdc
      obtain ⟨ao, cap, hvo⟩ := hrep.olen
      rw [hvo] at r2
      have hol := ok.oplen
      have OK : Hid (Ok m) := ok
      have HR : Hid (Rep _ _ _ _ _ _ _ _ _) := hrep
      have HL : Hid ((bytesOf s).length = s.size) := bytesOf_len s
      clear ok hrep hall hke hvo
      by_cases h115 : m.state = 115
      · rw [h115] at r0
        by_cases h0 : m.op.length = 0
        · have HD : Hid (isDone m = true) := by show isDone m = true; simp [isDone, h115, h0]
          rw [h0] at r2
          clear h115 h0
          go_wp2
          go_quiet (fail)
          go_wp2
          go_ret3
          exact readPost_some (below_drewN hbel _) hz HF2.out OK.out (HR.out.drewN _) HD.out HL.out
        · have HD : Hid (isDone m = false) := by show isDone m = false; simp [isDone, h0]
          have b0 : (((m.op.length : Nat) : Int) == 0) = false := by rw [beq_eq_false_iff_ne]; omega
          clear h115 h0
          go_wp2
          go_quiet (fail)
          go_wp2
          go_ret3
          exact readPost_some (below_drewN hbel _) hz HF2.out OK.out (HR.out.drewN _) HD.out HL.out
      · have HD : Hid (isDone m = false) := by show isDone m = false; simp [isDone, h115]
        have b115 : (m.state == 115) = false := by simpa using h115
        clear h115
        go_wp2
        go_quiet (fail)
        go_wp2
        go_ret3
        exact readPost_some (below_drewN hbel _) hz HF2.out OK.out (HR.out.drewN _) HD.out HL.out

end Go.Proofs.Ytffajooegiempaa

namespace Go.Proofs.Ytffajooegiempaa
open Go.RowKit

set_option maxRecDepth 100000 in
set_option maxHeartbeats 1600000 in
theorem ref_scan (s : ByteArray) (w : World) (hm : s.size ≤ maxLen) :
    Calls Try.prog 9 #[.string s] w fun e w' => e = three (scanOf (bytesOf s)) ∧ Below w.heap.size w w' := by
  unfold maxLen at hm
  have hl := bytesOf_len s
  by_cases h : 160 < s.size
  · have HS : Hid (scanOf (bytesOf s) = (0, 1, 0)) := by show scanOf _ = _; unfold scanOf; rw [if_pos (by omega)]
    clear hl
    go_enter Try.func9, Try.ntmps9
    go_wp2_with fail
    go_ret3
    exact ⟨by rw [HS.out]; rfl, Below.refl _ _⟩
  · have hr := ref_read s w (by omega)
    have HS : Hid (scanOf (bytesOf s) = match readFrom init (bytesOf s) 0 with
      | (n, none) => (0, 1, n)
      | (n, some m) => if isDone m then ((m.st.length : Int) + 1, 0, 0) else (0, 1, n)) := by show scanOf _ = _; unfold scanOf; rw [if_neg (by omega)]; rfl
    clear hl
    rcases hrf : readFrom init (bytesOf s) 0 with ⟨n, _ | m⟩
    · rw [hrf] at HS
      have hr' := hr.mono (R' := fun e w' => e = .returned (.tuple #[.pointer (some ⟨w.heap.size, 0, none⟩), .int .i64 n, .bool false]) ∧ Below w.heap.size w w') (by
        rintro e w' ⟨hb, hz, hm⟩
        rw [hrf] at hm
        exact ⟨hm, hb⟩)
      clear hr hrf
      go_enter Try.func9, Try.ntmps9
      go_wp2_with (go_at_call 28; refine hr'.mono ?_; rintro e w' ⟨rfl, hb⟩)
      go_ret3
      exact ⟨by rw [HS.out]; rfl, hb⟩
    · rw [hrf] at HS
      have hr' := hr.mono (R' := fun e w' => e = .returned (.tuple #[.pointer (some ⟨w.heap.size, 0, none⟩), .int .i64 n, .bool (isDone m)]) ∧ Below w.heap.size w w' ∧ m.st.length ≤ 20 ∧ ∃ ao cap, w'.cell? ⟨w.heap.size, 1, none⟩ = some (.slice ao m.st.length cap)) (by
        rintro e w' ⟨hb, hz, hm⟩
        rw [hrf] at hm
        obtain ⟨he, ok, vs, vo, P, Q, O, hrep⟩ := hm
        obtain ⟨ao, cap, hv⟩ := hrep.slen
        exact ⟨he, hb, ok.len, ao, cap, by rw [← hv]; exact hrep.rdc.2.1⟩)
      clear hr hrf
      cases hd : isDone m
      · have HS2 : Hid (scanOf (bytesOf s) = (0, 1, (n : Int))) := HS.out.trans (by simp [hd])
        rw [hd] at hr'
        clear hd HS
        go_enter Try.func9, Try.ntmps9
        go_wp2_with (go_at_call 28; refine hr'.mono ?_; rintro e w' ⟨rfl, hb, hlen, ao, cap, hcell⟩)
        go_ret3
        exact ⟨by rw [HS2.out]; rfl, hb⟩
      · have HS2 : Hid (scanOf (bytesOf s) = ((m.st.length : Int) + 1, 0, 0)) := HS.out.trans (by simp [hd])
        rw [hd] at hr'
        clear hd HS
        go_enter Try.func9, Try.ntmps9
        go_wp2_with (go_at_call 28; refine hr'.mono ?_; rintro e w' ⟨rfl, hb, hlen, ao, cap, hcell⟩)
        go_ret3
        exact ⟨by rw [HS2.out]; rfl, hb⟩

end Go.Proofs.Ytffajooegiempaa

namespace Go.Proofs.Ytffajooegiempaa
open Go.RowKit

/-- The law's body, where both answers are the same. -/
theorem scans_walk (s : ByteArray) (w : World) (hm : s.size ≤ maxLen) (heq : scanD s = scanOf (bytesOf s)) :
    Calls Try.prog 3 #[.string s] w fun e w' => e = .returned (.bool true) ∧ Below w.heap.size w w' := by
  have h1 := d_scan s w hm
  have h2 := fun w => ref_scan s w hm
  rw [← heq] at h2
  obtain ⟨⟨a, b, c⟩, hx⟩ : ∃ x, x = scanD s := ⟨_, rfl⟩
  rw [← hx] at h1 h2
  simp only [three] at h1 h2
  clear hx heq hm
  go_enter Try.func3, Try.ntmps3
  go_wp2_with fail
  refine h1.mono ?_
  rintro e w1 ⟨rfl, hb1⟩
  go_wp2_with fail
  refine (h2 _).mono ?_
  rintro e w2 ⟨rfl, hb2⟩
  go_wp2
  go_ret
  exact ⟨rfl, hb1.trans (hb2.mono hb1.size)⟩


end Go.Proofs.Ytffajooegiempaa

namespace Go.Proofs.Ytffajooegiempaa
open Go.ChangeShapes Go.WideShapes Go.ChangeAt Go.RowKit Go.ChangeMaps

theorem Try.own : ownKnob Try.prog.godebug = none := by kernel_rfl

set_option maxRecDepth 100000 in
theorem scans_lifted (os : Os) (started : os.Started) (H : Type) (enc : TypeId × Value → H) :
    ReturnsInHanded {} Try.checked os 3 .any (Rows.scansSpec.pre6 enc Try.prog Try.f3 Rows.scansRow.domain false) (Rows.scansSpec.post enc Try.prog Try.f3 false true false false) := by
  refine returnsInHanded_of_change (C := Try.checked) Try.own started (by kernel_rfl) Try.func3
    (ChangeSpec.witness6 (enc := enc) (C := Try.checked) false ⟨#[], #[.string ByteArray.empty], []⟩ 8 (by kernel_rfl) (by kernel_rfl) (by kernel_rfl) (by kernel_rfl)) ?_
  intro W base args ds gs before hval0 hW _ _
  have hval : ∀ (j : Nat) t v, Try.f3.params[j]? = some t → args[j]? = some v → Value.okWide Try.prog W .any base t v := hval0
  have hW' := hW
  obtain ⟨p, q, hA0, hV, rfl, hfz, hnd⟩ := hW
  have hA : DataW.TrodAll enc Try.prog W 0 (fun _ => true) true Try.f3.params.toList args.toList ds p := hA0
  rw [Try.params3] at hA hval
  obtain ⟨v0, vs0, d0, ds0, p0, q0, hargs, rfl, rfl, h0, r0⟩ := trodAll_cons hA
  obtain ⟨rfl, rfl, rfl⟩ := trodAll_nil r0
  obtain rfl : args = #[v0] := by cases args; simp_all
  obtain ⟨rfl, rfl⟩ := trodVars_none hV
  obtain ⟨s, rfl, rfl, rfl, hs⟩ := open_string Try.underlying9 (hval 0 9 v0 rfl rfl) h0
  clear hA0 hval0
  simp only [List.append_nil] at hW'
  refine (scans_walk s W hs (scan_same s)).mono fun e W' ⟨he, hb⟩ => ?_
  subst he
  exact ⟨_, rfl, _, _, _, [], [], [], hW', trodAll_cons_mk (shut_bool Try.underlying4 _) trodAll_mk0, trodAll_cons_mk (shut_string Try.underlying9 hs) trodAll_mk0, rfl, hb.frame _, fun h => by cases h⟩

theorem scans_holds : Rows.ScansSaid :=
  OpenClaim.holds_of_wide 3 Try.f3 rfl rfl rfl rfl rfl rfl rfl ⟨rfl, rfl, rfl, rfl, rfl⟩ rfl rfl rfl rfl rfl (by kernel_rfl) Try.func3 (by kernel_rfl)
    (of_decide_eq_true (by kernel_rfl)) (by unfold Func.isWrapper; first | (rw [if_pos (by decide +kernel)]; kernel_rfl) | (rw [if_neg (by decide +kernel)]; exact ⟨rfl, rfl⟩))
    (fun os started H enc _ => scans_lifted os started H enc)

end Go.Proofs.Ytffajooegiempaa

