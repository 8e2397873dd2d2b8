import Derived.Test.YtjbpfbgemidleaaJ3
namespace Go.Proofs.Ytjbpfbgemidleaa
open Go.RowKit
variable {B : Nat} {w w' : World} {r : Nat} {m : Rd} {vs vo : Value} {P Q O : Nat → Nat}


set_option maxRecDepth 100000 in
set_option maxHeartbeats 1600000 in
theorem Rep.condZ (h : Rep B w r m vs vo P Q O) (ok : Ok m) (hn : 0 < m.st.length) (_hB : B ≤ w.heap.size) (c : Int) (h0 : 0 ≤ c) (h1 : c ≤ 255) (hx : m.state = 125) :
    Calls Try.prog 43 #[.pointer (some ⟨r, 0, none⟩), .int .u8 c] w (Post B w r (condStep m c)) := by
  have hc := h.now hn ok.len
  have hcur := Rep.curs hn
  obtain ⟨c0, c1, c2, c3, c4, c5, c6, f7, f8, n9, n10, n11⟩ := h.stc _ _ hcur
  obtain ⟨r0, r1, r2, r3, r4, r5, rf⟩ := h.rdc
  have geR := h.geR
  obtain ⟨geP, geQ⟩ := h.geC hn
  obtain ⟨sg0, sg1⟩ := ok.sgn
  obtain ⟨nu0, nu1⟩ := ok.nums (cur m) (List.mem_of_getElem? hcur)
  have HC : Hid (_ = _) := hcur
  clear hcur
  rw [hx] at r0
  have HX : Hid (_ = _) := hx
  clear hx
  have nrp : r ≠ P (m.st.length - 1) := fun e => n9 e.symm
  have nrq : r ≠ Q (m.st.length - 1) := fun e => n10 e.symm
  have npq : P (m.st.length - 1) ≠ Q (m.st.length - 1) := fun e => n11 e.symm
  have ho := ok.open_ HX.out
  have ht := tops ho
  have hol := ok.oplen
  obtain ⟨go, capo, hvo, hrowo, ngor, hcapo, ngop, ngo⟩ := h.rowO ho
  obtain ⟨o0, o1, of, nor, nop⟩ := h.opc _ _ ht
  have hg2 := hrowo (m.op.length - 1) (by omega)
  unfold ptr at hg2
  have geO := h.geO (m.op.length - 1) (by omega)
  have nro : r ≠ O (m.op.length - 1) := fun e => nor e.symm
  subst hvo
  have HT : Hid (m.op[m.op.length - 1]? = some (top m)) := ht
  clear ht nop ngo ngop hrowo
  by_cases h123 : c = 123
  · subst h123
    have HY : Hid (condStep m 123 = some { m with op := m.op.set (m.op.length - 1) { top m with second := true }, state := 115 }) := by show condStep m 123 = _; unfold condStep; rw [HX.out, if_neg (by decide), if_neg (by decide), if_neg (by decide), if_neg (by decide), if_neg (by decide), if_neg (by decide), if_neg (by decide), if_neg (by decide), if_neg (by decide), if_pos rfl]
    have HR : Hid (Rep _ _ _ _ _ _ _ _ _) := h
    have OK : Hid (Ok m) := ok
    clear h ok
    go_enter Try.func43, Try.ntmps43
    go_wp2_with (first | (go_at_call 53; refine hc.mono ?_; rintro e w' ⟨rfl, k, rfl⟩) | (go_at_call 50; refine (variable_no _ _ (by omega) (by omega) (by omega)).mono ?_; rintro e w' ⟨rfl, rfl⟩))
    go_quiet (fail)
    go_wp2
    go_ret
    exact post_yes HY.out (Below.setCell (Below.setCell (below_drewN (Below.refl _ _) _) geO _) geR _) (((HR.out.drewN _).setBk (m.op.length - 1) (top m) { top m with second := true } HT.out 1 (.bool true) _ rfl rfl).setRd 0 (.int .u8 115) _ rfl rfl rfl)
  have b123 : (c == 123) = false := by simpa using h123
  have n123 : (c != 123) = true := by simpa using h123
  have HY : Hid (condStep m c = none) := by show condStep m c = _; unfold condStep; rw [HX.out, if_neg (by decide), if_neg (by decide), if_neg (by decide), if_neg (by decide), if_neg (by decide), if_neg (by decide), if_neg (by decide), if_neg (by decide), if_neg (by decide), if_neg h123]
  clear h123
  have HR : Hid (Rep _ _ _ _ _ _ _ _ _) := h
  have OK : Hid (Ok m) := ok
  clear h ok
  by_cases hv : 97 ≤ c ∧ c ≤ 100
  · obtain ⟨hva, hvb⟩ := hv
    go_enter Try.func43, Try.ntmps43
    go_wp2_with (first | (go_at_call 53; refine hc.mono ?_; rintro e w' ⟨rfl, k, rfl⟩) | (go_at_call 50; refine (variable_yes c _ hva hvb).mono ?_; rintro e w' ⟨rfl, rfl⟩))
    go_ret
    exact post_no HY.out (below_drewN (Below.refl _ _) _)
  · go_enter Try.func43, Try.ntmps43
    go_wp2_with (first | (go_at_call 53; refine hc.mono ?_; rintro e w' ⟨rfl, k, rfl⟩) | (go_at_call 50; refine (variable_no _ _ (by omega) (by omega) (by omega)).mono ?_; rintro e w' ⟨rfl, rfl⟩))
    go_ret
    exact post_no HY.out (below_drewN (Below.refl _ _) _)

end Go.Proofs.Ytjbpfbgemidleaa

namespace Go.Proofs.Ytjbpfbgemidleaa
open Go.RowKit
variable {B : Nat} {w w' : World} {r : Nat} {m : Rd} {vs vo : Value} {P Q O : Nat → Nat}

theorem Rep.value (h : Rep B w r m vs vo P Q O) (ok : Ok m) (c : Int) (h0 : 0 ≤ c) (h1 : c ≤ 255) (hx : m.state = 118 ∨ m.state = 86 ∨ m.state = 120 ∨ m.state = 121 ∨ m.state = 110) :
    Calls Try.prog 42 #[.pointer (some ⟨r, 0, none⟩), .int .u8 c] w (Post B w r (valueStep m c)) := by
  have hn := ok.some_ (by omega)
  rcases hx with hx | hx | hx | hx | hx
  · exact h.valueV ok hn c h0 h1 hx
  · exact h.valueVV ok hn c h0 h1 hx
  · exact h.valueX ok hn c h0 h1 hx
  · exact h.valueY ok hn c h0 h1 hx
  · exact h.valueN ok hn c h0 h1 hx

theorem Rep.cond (h : Rep B w r m vs vo P Q O) (ok : Ok m) (hB : B ≤ w.heap.size) (c : Int) (h0 : 0 ≤ c) (h1 : c ≤ 255)
    (hx : m.state = 99 ∨ m.state = 67 ∨ m.state = 100 ∨ m.state = 101 ∨ m.state = 102 ∨ m.state = 60 ∨ m.state = 98 ∨ m.state = 66 ∨ m.state = 109 ∨ m.state = 125) :
    Calls Try.prog 43 #[.pointer (some ⟨r, 0, none⟩), .int .u8 c] w (Post B w r (condStep m c)) := by
  have hn := ok.some_ (by omega)
  rcases hx with hx | hx | hx | hx | hx | hx | hx | hx | hx | hx
  · exact h.condC ok hn hB c h0 h1 hx
  · exact h.condCC ok hn hB c h0 h1 hx
  · exact h.condD ok hn hB c h0 h1 hx
  · exact h.condE ok hn hB c h0 h1 hx
  · exact h.condF ok hn hB c h0 h1 hx
  · exact h.condL ok hn hB c h0 h1 hx
  · exact h.condB ok hn hB c h0 h1 hx
  · exact h.condBB ok hn hB c h0 h1 hx
  · exact h.condM ok hn hB c h0 h1 hx
  · exact h.condZ ok hn hB c h0 h1 hx

set_option maxRecDepth 100000 in
set_option maxHeartbeats 1600000 in
theorem Rep.byte (h : Rep B w r m vs vo P Q O) (ok : Ok m) (hB : B ≤ w.heap.size) (c : Int) (h0 : 0 ≤ c) (h1 : c ≤ 255) :
    Calls Try.prog 26 #[.pointer (some ⟨r, 0, none⟩), .int .u8 c] w (Post B w r (byteStep m c)) := by
  obtain ⟨r0, r1, r2, r3, r4, r5, rf⟩ := h.rdc
  have geR := h.geR
  rcases ok.states with hx | hx | hx | hx | hx
  · have HY : Hid (byteStep m c = startStep m c) := by show byteStep m c = _; unfold byteStep; rw [if_pos hx]
    have hc := h.start ok hB c h0 h1
    rw [hx] at r0
    clear hx h ok
    go_enter Try.func26, Try.ntmps26
    go_wp2_with (go_at_call 41; refine hc.mono ?_; rintro e w' ⟨rfl, hb, hr⟩)
    go_ret
    exact post_via HY.out (Below.refl _ _) hb hr
  · rw [hx] at r0
    by_cases hc : c = 61
    · subst hc
      have HY : Hid (byteStep m 61 = some { m with state := 118 }) := by show byteStep m 61 = _; unfold byteStep; rw [hx, if_neg (by decide), if_pos rfl, if_pos rfl]
      have HR : Hid (Rep _ _ _ _ _ _ _ _ _) := h
      clear h ok hx
      go_enter Try.func26, Try.ntmps26
      go_wp2_with fail
      go_ret
      exact post_yes HY.out (Below.setCell (Below.refl _ _) geR _) (HR.out.setRd 0 (.int .u8 118) _ rfl rfl rfl)
    · have HY : Hid (byteStep m c = none) := by show byteStep m c = _; unfold byteStep; rw [hx, if_neg (by decide), if_pos rfl, if_neg hc]
      have bc : (c == 61) = false := by simpa using hc
      clear h ok hx hc
      go_enter Try.func26, Try.ntmps26
      go_wp2_with fail
      go_ret
      exact post_no HY.out (Below.setCell (Below.refl _ _) geR _)
  · have HY : Hid (byteStep m c = valueStep m c) := byte_value hx c
    have hc := h.value ok c h0 h1 hx
    have HR : Hid (Rep _ _ _ _ _ _ _ _ _) := h
    clear h ok
    rcases hx with hx | hx | hx | hx | hx
    all_goals
      rw [hx] at r0
      clear hx
      go_enter Try.func26, Try.ntmps26
      go_wp2_with (go_at_call 42; refine hc.mono ?_; rintro e w' ⟨rfl, hb, hr⟩)
      go_ret
      exact post_via HY.out (Below.refl _ _) hb hr
  · rw [byte_plain hx]
    exact h.bytePlain ok.len ok.oplen (ok.some_ (by omega)) hB c h0 h1 hx
  · have HY : Hid (byteStep m c = condStep m c) := byte_cond hx c
    have hc := h.cond ok hB c h0 h1 hx
    have HR : Hid (Rep _ _ _ _ _ _ _ _ _) := h
    clear h ok
    rcases hx with hx | hx | hx | hx | hx | hx | hx | hx | hx | hx
    all_goals
      rw [hx] at r0
      clear hx
      go_enter Try.func26, Try.ntmps26
      go_wp2_with (go_at_call 43; refine hc.mono ?_; rintro e w' ⟨rfl, hb, hr⟩)
      go_ret
      exact post_via HY.out (Below.refl _ _) hb hr

end Go.Proofs.Ytjbpfbgemidleaa

namespace Go.Proofs.Ytjbpfbgemidleaa
open Go.RowKit

theorem rep_init (w : World) : Rep w.heap.size (w.alloc (.cells (rdCells init (.slice none 0 0) (.slice none 0 0)) tR)) w.heap.size init (.slice none 0 0) (.slice none 0 0) id id id where
  rd := by
    show (w.heap.push _)[w.heap.size]? = _
    rw [Array.getElem?_push, if_pos rfl]
  rs := World.ownsRow_nil _ _ _ _
  ro := World.ownsRow_nil _ _ _ _
  st := by intro i s h; simp [init] at h
  op := by intro i s h; simp [init] at h
  injP := by intro i j h; exact absurd h (by simp [init])
  injQ := by intro i j h; exact absurd h (by simp [init])
  injO := by intro i j h; exact absurd h (by simp [init])
  geR := Nat.le_refl _
  geP := by intro i h; exact absurd h (by simp [init])
  geO := by intro i h; exact absurd h (by simp [init])

/-- What Read gives. -/
def ReadPost (w : World) (l : List Int) : Ending → World → Prop := fun e w' =>
  Below w.heap.size w w' ∧ w.heap.size < w'.heap.size ∧
    match readFrom init l 0 with
    | (n, none) => e = .returned (.tuple #[.pointer (some ⟨w.heap.size, 0, none⟩), .int .i64 n, .bool false])
    | (n, some m) => e = .returned (.tuple #[.pointer (some ⟨w.heap.size, 0, none⟩), .int .i64 n, .bool (isDone m)]) ∧ Ok m ∧ ∃ vs vo P Q O, Rep w.heap.size w' w.heap.size m vs vo P Q O

theorem readPost_none {w w' : World} {l : List Int} {m : Rd} {k : Nat} {c : Int} (hb : Below w.heap.size w w') (hz : w.heap.size < w'.heap.size) (h : feed init (l.take k) = some m) (hc : l[k]? = some c) (hs : byteStep m c = none) :
    ReadPost w l (.returned (.tuple #[.pointer (some ⟨w.heap.size, 0, none⟩), .int .i64 k, .bool false])) w' := by
  refine ⟨hb, hz, ?_⟩
  rw [readFrom_none (n := 0) h hc hs, Nat.zero_add]
theorem readPost_some {w w' : World} {l : List Int} {m : Rd} {vs vo : Value} {P Q O : Nat → Nat} {b : Bool} {n : Nat} (hb : Below w.heap.size w w') (hz : w.heap.size < w'.heap.size) (h : feed init l = some m) (ok : Ok m) (hr : Rep w.heap.size w' w.heap.size m vs vo P Q O) (hd : isDone m = b) (hl : l.length = n) :
    ReadPost w l (.returned (.tuple #[.pointer (some ⟨w.heap.size, 0, none⟩), .int .i64 n, .bool b])) w' := by
  refine ⟨hb, hz, ?_⟩
  rw [readFrom_some (n := 0) h, Nat.zero_add, hl]
  exact ⟨by rw [hd], ok, _, _, _, _, _, hr⟩

set_option maxRecDepth 100000 in
set_option maxHeartbeats 1600000 in
theorem ref_read (s : ByteArray) (w : World) (hs : s.size ≤ 160) :
    Calls Try.prog 17 #[.string s] w (ReadPost w (bytesOf s)) := by
  have HI : Hid (Rep _ _ _ _ _ _ _ _ _) := rep_init w
  go_enter Try.func17, Try.ntmps17
  go_wp2
  go_loopw [6] (fun i wr => ∃ k : Nat, k ≤ s.size ∧ i = .int .i64 k ∧ w.heap.size < wr.heap.size ∧ Below w.heap.size w wr ∧ ∃ m, feed init ((bytesOf s).take k) = some m ∧ ∃ vs vo P Q O, Rep w.heap.size wr w.heap.size m vs vo P Q O) (fun i _ => s.size - (intOf i).toNat)
  case atStart => exact ⟨0, Nat.zero_le _, rfl, by simp, (Below.refl _ _).alloc (Nat.le_refl _) _, init, rfl, _, _, _, _, _, HI.out⟩
  case round =>
    obtain ⟨k, hk, rfl, hz, hbel, m, hfeed, vs, vo, P, Q, O, hrep⟩ := hrel
    have ok := Ok.init.feed hfeed
    have HF : Hid (_ = _) := hfeed
    clear hfeed
    by_cases hlt : k < s.size
    · have hb0 : (0 : Int) ≤ ((s[k]).toNat : Int) := by omega
      have hb1 : ((s[k]).toNat : Int) ≤ 255 := by have := (s[k]).toNat_lt; omega
      have hc := hrep.byte ok (by omega) ((s[k]).toNat : Int) hb0 hb1
      have HG : Hid (_ = _) := bytesOf_get s k hlt
      have HT : Hid (_ = _) := bytesOf_take s k hlt
      have OK : Hid (Ok m) := ok
      have HR : Hid (Rep _ _ _ _ _ _ _ _ _) := hrep
      clear ok hrep
      cases hst : byteStep m ((s[k]).toNat : Int) with
      | none =>
        rw [hst] at hc
        have HS : Hid (_ = _) := hst
        clear hst
        go_wp2_with (go_at_call 26; refine hc.mono ?_; rintro e w' ⟨rfl, hb, hr⟩)
        go_ret3
        exact readPost_none (hbel.trans hb) (Nat.lt_of_lt_of_le hz hb.size) HF.out HG.out HS.out
      | some m' =>
        rw [hst] at hc
        have HS : Hid (_ = _) := hst
        clear hst
        go_wp2_with (go_at_call 26; refine hc.mono ?_; rintro e w' ⟨rfl, hb, hr⟩)
        go_roundw
        case rel => exact ⟨k + 1, by omega, by go_num, Nat.lt_of_lt_of_le hz hb.size, hbel.trans hb, m', by rw [HT.out, feed_snoc, HF.out]; exact HS.out, hr m' rfl⟩
        case measure => simp [intOf]; omega
    · have hke : k = s.size := by omega
      have hall : (bytesOf s).take k = bytesOf s := List.take_of_length_le (by rw [bytesOf_len]; omega)
      have HF2 : Hid (feed init (bytesOf s) = some m) := by show feed init (bytesOf s) = some m; rw [← hall]; exact HF.out
      obtain ⟨r0, r1, r2, r3, r4, r5, rf⟩ := hrep.rdc
      obtain ⟨ao, cap, hvo⟩ := hrep.olen
      rw [hvo] at r2
      have hol := ok.oplen
      have OK : Hid (Ok m) := ok
      have HR : Hid (Rep _ _ _ _ _ _ _ _ _) := hrep
      have HL : Hid ((bytesOf s).length = s.size) := bytesOf_len s
      clear ok hrep hall hke hvo
      by_cases h115 : m.state = 115
      · rw [h115] at r0
        by_cases h0 : m.op.length = 0
        · have HD : Hid (isDone m = true) := by show isDone m = true; simp [isDone, h115, h0]
          rw [h0] at r2
          clear h115 h0
          go_wp2
          go_quiet (fail)
          go_wp2
          go_ret3
          exact readPost_some (below_drewN hbel _) hz HF2.out OK.out (HR.out.drewN _) HD.out HL.out
        · have HD : Hid (isDone m = false) := by show isDone m = false; simp [isDone, h0]
          have b0 : (((m.op.length : Nat) : Int) == 0) = false := by rw [beq_eq_false_iff_ne]; omega
          clear h115 h0
          go_wp2
          go_quiet (fail)
          go_wp2
          go_ret3
          exact readPost_some (below_drewN hbel _) hz HF2.out OK.out (HR.out.drewN _) HD.out HL.out
      · have HD : Hid (isDone m = false) := by show isDone m = false; simp [isDone, h115]
        have b115 : (m.state == 115) = false := by simpa using h115
        clear h115
        go_wp2
        go_quiet (fail)
        go_wp2
        go_ret3
        exact readPost_some (below_drewN hbel _) hz HF2.out OK.out (HR.out.drewN _) HD.out HL.out

end Go.Proofs.Ytjbpfbgemidleaa

namespace Go.Proofs.Ytjbpfbgemidleaa
open Go.RowKit

abbrev tD : TypeId := 60
abbrev tDs : TypeId := 65

/-- The program's reader: the text, the place, is it stuck, what was found. -/
def Dat (w : World) (r : Nat) (s : ByteArray) (d : Nat × Bool) (vf : Value) : Prop := At w r #[.string s, .int .i64 d.1, .bool d.2, vf] tD

/-- Nothing but block r has turned, and no block has come. -/
structure Tch (r : Nat) (w w' : World) : Prop where
  os : w'.os = w.os
  tape : w'.tape = w.tape
  output : w'.output = w.output
  size : w'.heap.size = w.heap.size
  block : ∀ k, k ≠ r → w'.heap[k]? = w.heap[k]?

theorem Tch.refl (r : Nat) (w : World) : Tch r w w := ⟨rfl, rfl, rfl, rfl, fun _ _ => rfl⟩
theorem Tch.trans {r : Nat} {a b c : World} (h : Tch r a b) (k : Tch r b c) : Tch r a c := ⟨k.os.trans h.os, k.tape.trans h.tape, k.output.trans h.output, k.size.trans h.size, fun i hi => (k.block i hi).trans (h.block i hi)⟩
theorem Tch.drewN {r : Nat} {a w : World} (h : Tch r a w) (n : Nat) : Tch r a (w.drewN n) := ⟨h.os, h.tape, h.output, h.size, h.block⟩
theorem Tch.setCell {r : Nat} {a w : World} (h : Tch r a w) (o : Nat) (u : Value) : Tch r a (w.setCell ⟨r, o, none⟩ u) :=
  h.trans ⟨rfl, rfl, rfl, by simp [World.setCell], fun k hk => Below.heap_setCell _ _ _ _ hk⟩
theorem Tch.below {r B : Nat} {w w' : World} (h : Tch r w w') (hB : B ≤ r) : Below B w w' := ⟨h.os, h.tape, h.output, by have := h.size; omega, fun k hk => h.block k (by omega)⟩
theorem Tch.at_ {r q : Nat} {w w' : World} {c : Array Value} {t : TypeId} (h : Tch r w w') (ha : At w q c t) (hn : q ≠ r) : At w' q c t := ha.same (h.block q hn)

theorem Dat.cells {w : World} {r : Nat} {s : ByteArray} {d : Nat × Bool} {vf : Value} (h : Dat w r s d vf) : w.cell? ⟨r, 0, none⟩ = some (.string s) ∧ w.cell? ⟨r, 1, none⟩ = some (.int .i64 d.1) ∧ w.cell? ⟨r, 2, none⟩ = some (.bool d.2) ∧ w.cell? ⟨r, 3, none⟩ = some vf ∧ ∀ i, w.frozen? ⟨r, i, none⟩ = false :=
  ⟨h.cell 0, h.cell 1, h.cell 2, h.cell 3, h.free⟩
theorem Dat.drewN {w : World} {r : Nat} {s : ByteArray} {d : Nat × Bool} {vf : Value} (h : Dat w r s d vf) (k : Nat) : Dat (w.drewN k) r s d vf := h
theorem Dat.step {w : World} {r : Nat} {s : ByteArray} {d : Nat × Bool} {vf : Value} (h : Dat w r s d vf) : Dat (w.setCell ⟨r, 1, none⟩ (.int .i64 ((d.1 : Int) + 1))) r s (d.1 + 1, d.2) vf := by
  have := At.put h 1 (.int .i64 ((d.1 : Int) + 1))
  exact this
theorem Dat.stick {w : World} {r : Nat} {s : ByteArray} {d : Nat × Bool} {vf : Value} (h : Dat w r s d vf) : Dat (w.setCell ⟨r, 2, none⟩ (.bool true)) r s (d.1, true) vf := by
  have := At.put h 2 (.bool true)
  exact this

/-- The next byte; 0 where there is none. -/
def pk (s : ByteArray) (d : Nat × Bool) : Int := if d.2 then 0 else (bytesOf s).getD d.1 0
theorem pk_range (s : ByteArray) (d : Nat × Bool) : 0 ≤ pk s d ∧ pk s d ≤ 255 := by
  unfold pk
  split
  · omega
  · by_cases h : d.1 < s.size
    · rw [List.getD_eq_getElem?_getD, bytesOf_get s d.1 h]
      have := (s[d.1]).toNat_lt
      simp only [Option.getD_some]
      omega
    · rw [List.getD_eq_getElem?_getD, List.getElem?_eq_none (by rw [bytesOf_len]; omega)]
      simp

/-- Three numbers that come out. -/
def three (x : Int × Int × Int) : Ending := .returned (.tuple #[.int .i64 x.1, .int .i64 x.2.1, .int .i64 x.2.2])

variable {w : World} {r : Nat} {s : ByteArray} {d : Nat × Bool} {vf : Value}

set_option maxRecDepth 100000 in
set_option maxHeartbeats 800000 in
theorem d_peek (h : Dat w r s d vf) (_hs : s.size ≤ 160) (hd : d.1 ≤ 160) :
    Calls Try.prog 39 #[.pointer (some ⟨r, 0, none⟩)] w fun e w' => e = .returned (.int .u8 (pk s d)) ∧ ∃ k, w' = w.drewN k := by
  obtain ⟨c0, c1, c2, c3, cf⟩ := h.cells
  obtain ⟨a, b⟩ := d
  simp only at c0 c1 c2 c3 hd
  have a0 : decide (((a : Nat) : Int) < 0) = false := decide_eq_false (by omega)
  cases b
  · by_cases hl : a < s.size
    · have HP : Hid (pk s (a, false) = ((s[a]).toNat : Int)) := by show pk s (a, false) = _; unfold pk; simp only [Bool.false_eq_true, if_false]; rw [List.getD_eq_getElem?_getD, bytesOf_get s a hl]; rfl
      have a1 : decide (((s.size : Nat) : Int) ≤ (a : Int)) = false := decide_eq_false (by omega)
      have i1 : ((a : Nat) : Int) < ((s.size : Nat) : Int) := by omega
      clear h
      go_enter Try.func39, Try.ntmps39
      go_wp2
      go_quiet (fail)
      go_wp2
      go_quiet (fail)
      go_wp2
      go_ret
      exact ⟨by rw [HP.out]; rfl, _, World.drewN_drewN _ _ _⟩
    · have HP : Hid (pk s (a, false) = 0) := by show pk s (a, false) = _; unfold pk; simp only [Bool.false_eq_true, if_false]; rw [List.getD_eq_getElem?_getD, List.getElem?_eq_none (by rw [bytesOf_len]; omega)]; rfl
      have a1 : decide (((s.size : Nat) : Int) ≤ (a : Int)) = true := decide_eq_true (by omega)
      clear h
      go_enter Try.func39, Try.ntmps39
      go_wp2
      go_quiet (fail)
      go_wp2
      go_ret
      exact ⟨by rw [HP.out]; rfl, _, rfl⟩
  · clear h
    go_enter Try.func39, Try.ntmps39
    go_wp2
    go_quiet (fail)
    go_wp2
    go_ret
    exact ⟨rfl, _, rfl⟩

/-- What a small step leaves. -/
def DPost (w : World) (r : Nat) (s : ByteArray) (vf : Value) (d' : Nat × Bool) (v : Value) : Ending → World → Prop := fun e w' => e = .returned v ∧ Dat w' r s d' vf ∧ Tch r w w'

def tk (s : ByteArray) (d : Nat × Bool) (c : Int) : Bool × (Nat × Bool) := if pk s d = c then (true, (d.1 + 1, d.2)) else (false, d)
def nd (s : ByteArray) (d : Nat × Bool) (c : Int) : Nat × Bool := if pk s d = c then (d.1 + 1, d.2) else (d.1, true)

set_option maxRecDepth 100000 in
set_option maxHeartbeats 800000 in
theorem d_take (h : Dat w r s d vf) (hs : s.size ≤ 160) (hd : d.1 ≤ 160) (c : Int) :
    Calls Try.prog 67 #[.pointer (some ⟨r, 0, none⟩), .int .u8 c] w (DPost w r s vf (tk s d c).2 (.bool (tk s d c).1)) := by
  have hp := d_peek h hs hd
  obtain ⟨c0, c1, c2, c3, cf⟩ := h.cells
  have HD : Hid (Dat _ _ _ _ _) := h
  clear h
  by_cases hc : pk s d = c
  · have HT : Hid (tk s d c = (true, (d.1 + 1, d.2))) := if_pos hc
    subst hc
    go_enter Try.func67, Try.ntmps67
    go_wp2_with (go_at_call 39; refine hp.mono ?_; rintro e w' ⟨rfl, k, rfl⟩)
    go_ret
    rw [HT.out]
    exact ⟨rfl, (HD.out.drewN k).step, ((Tch.refl _ _).drewN _).setCell _ _⟩
  · have HT : Hid (tk s d c = (false, d)) := if_neg hc
    have bc : (pk s d != c) = true := by simpa using hc
    clear hc
    go_enter Try.func67, Try.ntmps67
    go_wp2_with (go_at_call 39; refine hp.mono ?_; rintro e w' ⟨rfl, k, rfl⟩)
    go_ret
    rw [HT.out]
    exact ⟨rfl, HD.out.drewN k, (Tch.refl _ _).drewN _⟩

set_option maxRecDepth 100000 in
set_option maxHeartbeats 800000 in
theorem d_need (h : Dat w r s d vf) (hs : s.size ≤ 160) (hd : d.1 ≤ 160) (c : Int) :
    Calls Try.prog 60 #[.pointer (some ⟨r, 0, none⟩), .int .u8 c] w (DPost w r s vf (nd s d c) (.tuple #[])) := by
  have hp := d_take h hs hd c
  clear h
  by_cases hc : pk s d = c
  · have HT : Hid (nd s d c = (d.1 + 1, d.2)) := if_pos hc
    have hk : tk s d c = (true, (d.1 + 1, d.2)) := if_pos hc
    rw [hk] at hp
    clear hc hk
    go_enter Try.func60, Try.ntmps60
    go_wp2_with (go_at_call 67; refine hp.mono ?_; rintro e w' ⟨rfl, hD, hT⟩)
    go_end0
    rw [HT.out]
    exact ⟨rfl, hD, hT⟩
  · have HT : Hid (nd s d c = (d.1, true)) := if_neg hc
    have hk : tk s d c = (false, d) := if_neg hc
    rw [hk] at hp
    clear hc hk
    go_enter Try.func60, Try.ntmps60
    go_wp2_with (go_at_call 67; refine hp.mono ?_; rintro e w' ⟨rfl, hD, hT⟩; obtain ⟨c0, c1, c2, c3, cf⟩ := hD.cells; have HD : Hid (Dat _ _ _ _ _) := hD; clear hD)
    go_end0
    rw [HT.out]
    exact ⟨rfl, HD.out.stick, hT.setCell _ _⟩

end Go.Proofs.Ytjbpfbgemidleaa

namespace Go.Proofs.Ytjbpfbgemidleaa
open Go.RowKit

set_option maxRecDepth 100000 in
set_option maxHeartbeats 1600000 in
theorem ref_scan (s : ByteArray) (w : World) (hm : s.size ≤ maxLen) :
    Calls Try.prog 7 #[.string s] w fun e w' => e = three (scanOf (bytesOf s)) ∧ Below w.heap.size w w' := by
  unfold maxLen at hm
  have hl := bytesOf_len s
  by_cases h : 160 < s.size
  · have HS : Hid (scanOf (bytesOf s) = (0, 1, 0)) := by show scanOf _ = _; unfold scanOf; rw [if_pos (by omega)]
    clear hl
    go_enter Try.func7, Try.ntmps7
    go_wp2_with fail
    go_ret3
    exact ⟨by rw [HS.out]; rfl, Below.refl _ _⟩
  · have hr := ref_read s w (by omega)
    have HS : Hid (scanOf (bytesOf s) = match readFrom init (bytesOf s) 0 with
      | (n, none) => (0, 1, n)
      | (n, some m) => if isDone m then ((m.st.length : Int) + 1, 0, 0) else (0, 1, n)) := by show scanOf _ = _; unfold scanOf; rw [if_neg (by omega)]; rfl
    clear hl
    rcases hrf : readFrom init (bytesOf s) 0 with ⟨n, _ | m⟩
    · rw [hrf] at HS
      have hr' := hr.mono (R' := fun e w' => e = .returned (.tuple #[.pointer (some ⟨w.heap.size, 0, none⟩), .int .i64 n, .bool false]) ∧ Below w.heap.size w w') (by
        rintro e w' ⟨hb, hz, hm⟩
        rw [hrf] at hm
        exact ⟨hm, hb⟩)
      clear hr hrf
      go_enter Try.func7, Try.ntmps7
      go_wp2_with (go_at_call 17; refine hr'.mono ?_; rintro e w' ⟨rfl, hb⟩)
      go_ret3
      exact ⟨by rw [HS.out]; rfl, hb⟩
    · rw [hrf] at HS
      have hr' := hr.mono (R' := fun e w' => e = .returned (.tuple #[.pointer (some ⟨w.heap.size, 0, none⟩), .int .i64 n, .bool (isDone m)]) ∧ Below w.heap.size w w' ∧ m.st.length ≤ 20 ∧ ∃ ao cap, w'.cell? ⟨w.heap.size, 1, none⟩ = some (.slice ao m.st.length cap)) (by
        rintro e w' ⟨hb, hz, hm⟩
        rw [hrf] at hm
        obtain ⟨he, ok, vs, vo, P, Q, O, hrep⟩ := hm
        obtain ⟨ao, cap, hv⟩ := hrep.slen
        exact ⟨he, hb, ok.len, ao, cap, by rw [← hv]; exact hrep.rdc.2.1⟩)
      clear hr hrf
      cases hd : isDone m
      · have HS2 : Hid (scanOf (bytesOf s) = (0, 1, (n : Int))) := HS.out.trans (by simp [hd])
        rw [hd] at hr'
        clear hd HS
        go_enter Try.func7, Try.ntmps7
        go_wp2_with (go_at_call 17; refine hr'.mono ?_; rintro e w' ⟨rfl, hb, hlen, ao, cap, hcell⟩)
        go_ret3
        exact ⟨by rw [HS2.out]; rfl, hb⟩
      · have HS2 : Hid (scanOf (bytesOf s) = ((m.st.length : Int) + 1, 0, 0)) := HS.out.trans (by simp [hd])
        rw [hd] at hr'
        clear hd HS
        go_enter Try.func7, Try.ntmps7
        go_wp2_with (go_at_call 17; refine hr'.mono ?_; rintro e w' ⟨rfl, hb, hlen, ao, cap, hcell⟩)
        go_ret3
        exact ⟨by rw [HS2.out]; rfl, hb⟩

end Go.Proofs.Ytjbpfbgemidleaa

/- The document's ways, plain. -/
namespace Go.Proofs.Ytjbpfbgemidleaa

/-- The last statement ahead of i that ends behind it. -/
def lastOpen (S : List St) (i : Nat) : Nat → Int
  | 0 => -1
  | k + 1 => if i < (S.getD k noSt).fin then (k : Int) else lastOpen S i k
def endOf (u : St) (i : Nat) : Nat := if u.kind = 63 ∧ i < u.mid then u.mid else u.fin
def followR (S : List St) : Nat → Nat → Int
  | 0, _ => 0
  | n + 1, i => if lastOpen S i i < 0 then ((S.getD i noSt).fin : Int)
    else if (S.getD i noSt).fin < endOf (S.getD (lastOpen S i i).toNat noSt) i then ((S.getD i noSt).fin : Int)
    else if (S.getD (lastOpen S i i).toNat noSt).kind = 64 then lastOpen S i i
    else followR S n (lastOpen S i i).toNat

/-- How many ways lead out of a statement. -/
def waysR (u : St) : Int := if u.kind = 61 ∨ u.kind = 33 then 1 else 2
/-- Where a way leads. -/
def nextR (S : List St) (p : Nat) (way : Int) : Int :=
  let u := S.getD p noSt
  let f := followR S 21 p
  if u.kind = 61 ∨ u.kind = 33 ∨ (u.kind = 64 ∧ way = 1) then f
  else if u.kind = 64 ∧ u.fin = p + 1 then p
  else if u.kind = 64 then (p : Int) + 1
  else if way = 0 ∧ p + 1 < u.mid then (p : Int) + 1
  else if way = 1 ∧ u.mid < u.fin then u.mid
  else f

theorem lastOpen_lt (S : List St) (i : Nat) : ∀ k, -1 ≤ lastOpen S i k ∧ lastOpen S i k < k := by
  intro k
  induction k with
  | zero => unfold lastOpen; omega
  | succ k ih =>
    unfold lastOpen
    split
    · omega
    · omega

end Go.Proofs.Ytjbpfbgemidleaa

namespace Go.Proofs.Ytjbpfbgemidleaa
open Go.RowKit
variable {B : Nat} {w w' : World} {r : Nat} {m : Rd} {vs vo : Value} {P Q O : Nat → Nat}

theorem Rep.gets {j : Nat} (hj : j < m.st.length) : m.st[j]? = some (m.st.getD j noSt) := by rw [List.getD_eq_getElem?_getD, List.getElem?_eq_getElem hj]; rfl

set_option maxRecDepth 100000 in
set_option maxHeartbeats 1600000 in
theorem Rep.follows (h : Rep B w r m vs vo P Q O) (hl : m.st.length ≤ 20) (n : Nat) : ∀ i, i < m.st.length → i < n →
    Calls Try.prog 32 #[.pointer (some ⟨r, 0, none⟩), .int .i64 (i : Int)] w fun e w' => e = .returned (.int .i64 (followR m.st n i)) ∧ w' = w := by
  induction n with
  | zero => intro i _ hi; omega
  | succ n ih =>
    intro i hi hin
    obtain ⟨g, cap, hvs, hrow, _⟩ := h.row (by omega)
    obtain ⟨r0, r1, r2, r3, r4, r5, rf⟩ := h.rdc
    rw [hvs] at r1
    have hcell : ∀ j, j < m.st.length → w.cell? ⟨g, j, none⟩ = some (.pointer (some ⟨P j, 0, none⟩)) := hrow
    have hst := fun j (hj : j < m.st.length) => h.stc j _ (Rep.gets hj)
    have hI := fun j (h1 : j < m.st.length) (h2 : j < n) => ih j h1 h2
    have HI : Hid (∀ j, j < m.st.length → j < n → Calls Try.prog 32 #[.pointer (some ⟨r, 0, none⟩), .int .i64 (j : Int)] w fun e w' => e = .returned (.int .i64 (followR m.st n j)) ∧ w' = w) := hI
    have HC : Hid (∀ j, j < m.st.length → w.cell? ⟨g, j, none⟩ = some (.pointer (some ⟨P j, 0, none⟩))) := hcell
    have HS : Hid (∀ j, j < m.st.length → w.cell? ⟨P j, 0, none⟩ = some (.int .u8 (m.st.getD j noSt).kind) ∧ w.cell? ⟨P j, 5, none⟩ = some (.int .i64 (m.st.getD j noSt).mid) ∧ w.cell? ⟨P j, 6, none⟩ = some (.int .i64 (m.st.getD j noSt).fin)) := fun j hj => ⟨(hst j hj).1, (hst j hj).2.2.2.2.2.1, (hst j hj).2.2.2.2.2.2.1⟩
    have HF : Hid (followR m.st (n + 1) i = if lastOpen m.st i i < 0 then ((m.st.getD i noSt).fin : Int) else if (m.st.getD i noSt).fin < endOf (m.st.getD (lastOpen m.st i i).toNat noSt) i then ((m.st.getD i noSt).fin : Int) else if (m.st.getD (lastOpen m.st i i).toNat noSt).kind = 64 then lastOpen m.st i i else followR m.st n (lastOpen m.st i i).toNat) := by
      show followR _ _ _ = _; rw [followR]
    have hii : (i : Int) < (m.st.length : Int) := by omega
    clear h ih hrow hst hI hcell hvs r0 r2 r3 r4 r5 rf
    go_enter Try.func32, Try.ntmps32
    go_wp2_with fail
    go_loop [5, 6] (fun q k => ∃ j : Nat, j ≤ i ∧ k = .int .i64 j ∧ q = .int .i64 (lastOpen m.st i j)) (fun _ k => i - (intOf k).toNat)
    case atStart => exact ⟨0, Nat.zero_le _, rfl, rfl⟩
    case round =>
      obtain ⟨j, hj, rfl, rfl⟩ := hrel
      by_cases hlt : j < i
      · have hjl : j < m.st.length := by omega
        have hji : (j : Int) < (m.st.length : Int) := by omega
        have k1 := HC.out j hjl
        obtain ⟨-, -, k2⟩ := HS.out j hjl
        have HL : Hid (lastOpen m.st i (j + 1) = if i < (m.st.getD j noSt).fin then (j : Int) else lastOpen m.st i j) := rfl
        generalize lastOpen m.st i j = lo at *
        generalize (m.st.getD j noSt).fin = fi at *
        by_cases hf : i < fi
        · have hfi : (i : Int) < (fi : Int) := by omega
          go_wp2_with fail
          go_round
          case rel => exact ⟨j + 1, by omega, by go_num, by rw [HL.out, if_pos hf]⟩
          case measure => simp [intOf]; omega
        · have hfi : ¬ (i : Int) < (fi : Int) := by omega
          go_wp2_with fail
          go_round
          case rel => exact ⟨j + 1, by omega, by go_num, by rw [HL.out, if_neg hf]⟩
          case measure => simp [intOf]; omega
      · have hje : j = i := by omega
        subst hje
        have k1 := HC.out j hi
        obtain ⟨-, -, k2⟩ := HS.out j hi
        obtain ⟨l0, l1⟩ := lastOpen_lt m.st j j
        by_cases hneg : lastOpen m.st j j < 0
        · have HE : Hid (followR m.st (n + 1) j = ((m.st.getD j noSt).fin : Int)) := HF.out.trans (if_pos hneg)
          clear HF
          generalize lastOpen m.st j j = lo at *
          generalize (m.st.getD j noSt).fin = fi at *
          go_wp2_with fail
          go_ret
          exact ⟨by rw [HE.out]; rfl, rfl⟩
        · obtain ⟨q, hq⟩ : ∃ q : Nat, lastOpen m.st j j = q := ⟨(lastOpen m.st j j).toNat, by omega⟩
          rw [hq] at l1 hneg HF ⊢
          have hql : q < m.st.length := by omega
          have hqi : (q : Int) < (m.st.length : Int) := by omega
          have k3 := HC.out q hql
          obtain ⟨s0, s5, s6⟩ := HS.out q hql
          simp only [Int.toNat_natCast] at HF
          have HF2 : Hid (followR m.st (n + 1) j = if (m.st.getD j noSt).fin < endOf (m.st.getD q noSt) j then ((m.st.getD j noSt).fin : Int) else if (m.st.getD q noSt).kind = 64 then (q : Int) else followR m.st n q) := HF.out.trans (if_neg hneg)
          have hrec := HI.out q hql (by omega)
          clear HF hneg hq
          have HEn : Hid (endOf (m.st.getD q noSt) j = if (m.st.getD q noSt).kind = 63 ∧ j < (m.st.getD q noSt).mid then (m.st.getD q noSt).mid else (m.st.getD q noSt).fin) := rfl
          generalize m.st.getD q noSt = u at *
          generalize (m.st.getD j noSt).fin = fi at *
          have hq0 : ¬ (q : Int) < 0 := by omega
          by_cases h63 : u.kind = 63
          · rw [h63] at s0
            by_cases hmid : j < u.mid
            · have hmi : (j : Int) < (u.mid : Int) := by omega
              have en : endOf u j = u.mid := HEn.out.trans (if_pos ⟨h63, hmid⟩)
              rw [en, h63] at HF2
              clear HEn en h63
              by_cases hlt2 : fi < u.mid
              · have hd : (fi : Int) < (u.mid : Int) := by omega
                have HE : Hid (_ = _) := HF2.out.trans (if_pos hlt2)
                clear HF2
                go_wp2_with fail
                go_ret
                exact ⟨by rw [HE.out]; rfl, rfl⟩
              · have hd : ¬ (fi : Int) < (u.mid : Int) := by omega
                have HE : Hid (_ = _) := (HF2.out.trans (if_neg hlt2)).trans (if_neg (by decide))
                clear HF2
                go_wp2_with fail
                refine hrec.mono ?_
                rintro e w1 ⟨rfl, rfl⟩
                go_wp2_with fail
                go_ret
                exact ⟨by rw [HE.out]; rfl, rfl⟩
            · have hmi : ¬ (j : Int) < (u.mid : Int) := by omega
              have en : endOf u j = u.fin := HEn.out.trans (if_neg (fun e => hmid e.2))
              rw [en, h63] at HF2
              clear HEn en h63
              by_cases hlt2 : fi < u.fin
              · have hd : (fi : Int) < (u.fin : Int) := by omega
                have HE : Hid (_ = _) := HF2.out.trans (if_pos hlt2)
                clear HF2
                go_wp2_with fail
                go_ret
                exact ⟨by rw [HE.out]; rfl, rfl⟩
              · have hd : ¬ (fi : Int) < (u.fin : Int) := by omega
                have HE : Hid (_ = _) := (HF2.out.trans (if_neg hlt2)).trans (if_neg (by decide))
                clear HF2
                go_wp2_with fail
                refine hrec.mono ?_
                rintro e w1 ⟨rfl, rfl⟩
                go_wp2_with fail
                go_ret
                exact ⟨by rw [HE.out]; rfl, rfl⟩
          · have b63 : (u.kind == 63) = false := by simpa using h63
            have en : endOf u j = u.fin := HEn.out.trans (if_neg (fun e => h63 e.1))
            rw [en] at HF2
            clear HEn en h63
            by_cases hlt2 : fi < u.fin
            · have hd : (fi : Int) < (u.fin : Int) := by omega
              have HE : Hid (_ = _) := HF2.out.trans (if_pos hlt2)
              clear HF2
              go_wp2_with fail
              go_ret
              exact ⟨by rw [HE.out]; rfl, rfl⟩
            · have hd : ¬ (fi : Int) < (u.fin : Int) := by omega
              by_cases h64 : u.kind = 64
              · have HE : Hid (_ = _) := (HF2.out.trans (if_neg hlt2)).trans (if_pos h64)
                rw [h64] at s0
                clear b63 h64
                clear HF2
                go_wp2_with fail
                go_ret
                exact ⟨by rw [HE.out]; rfl, rfl⟩
              · have b64 : (u.kind == 64) = false := by simpa using h64
                have HE : Hid (_ = _) := (HF2.out.trans (if_neg hlt2)).trans (if_neg h64)
                clear h64
                clear HF2
                go_wp2_with fail
                refine hrec.mono ?_
                rintro e w1 ⟨rfl, rfl⟩
                go_wp2_with fail
                go_ret
                exact ⟨by rw [HE.out]; rfl, rfl⟩

end Go.Proofs.Ytjbpfbgemidleaa

namespace Go.Proofs.Ytjbpfbgemidleaa
open Go.RowKit
variable {B : Nat} {w w' : World} {r : Nat} {m : Rd} {vs vo : Value} {P Q O : Nat → Nat}

theorem Rep.slen' (h : Rep B w r m vs vo P Q O) : ∃ ao cap, vs = .slice ao m.st.length cap := by
  obtain ⟨_, h2⟩ := h.rs
  rcases h2 with ⟨rfl, e⟩ | ⟨g, cap, c, rfl, _⟩
  · exact ⟨none, 0, by rw [e]⟩
  · exact ⟨_, cap, rfl⟩


set_option maxRecDepth 100000 in
set_option maxHeartbeats 1600000 in
theorem Rep.next (h : Rep B w r m vs vo P Q O) (hl : m.st.length ≤ 20) (p : Nat) (hp : p < m.st.length) (way : Int) :
    Calls Try.prog 20 #[.pointer (some ⟨r, 0, none⟩), .int .i64 (p : Int), .int .i64 way] w fun e w' => e = .returned (.int .i64 (nextR m.st p way)) ∧ ∃ k, w' = w.drewN k := by
  have hfo := h.follows hl 21 p hp (by omega)
  obtain ⟨g, cap, hvs, hrow, _⟩ := h.row (by omega)
  obtain ⟨r0, r1, r2, r3, r4, r5, rf⟩ := h.rdc
  rw [hvs] at r1
  have hc : w.cell? ⟨g, p, none⟩ = some (.pointer (some ⟨P p, 0, none⟩)) := hrow p hp
  obtain ⟨c0, c1, c2, c3, c4, c5, c6, -⟩ := h.stc p _ (Rep.gets hp)
  have hpi : (p : Int) < (m.st.length : Int) := by omega
  have HN : Hid (nextR m.st p way = if (m.st.getD p noSt).kind = 61 ∨ (m.st.getD p noSt).kind = 33 ∨ ((m.st.getD p noSt).kind = 64 ∧ way = 1) then followR m.st 21 p
    else if (m.st.getD p noSt).kind = 64 ∧ (m.st.getD p noSt).fin = p + 1 then (p : Int)
    else if (m.st.getD p noSt).kind = 64 then (p : Int) + 1
    else if way = 0 ∧ p + 1 < (m.st.getD p noSt).mid then (p : Int) + 1
    else if way = 1 ∧ (m.st.getD p noSt).mid < (m.st.getD p noSt).fin then ((m.st.getD p noSt).mid : Int)
    else followR m.st 21 p) := rfl
  clear h hrow hvs r0 r2 r3 r4 r5 rf c1 c2 c3 c4
  generalize m.st.getD p noSt = u at *
  generalize followR m.st 21 p = fo at *
  generalize P p = q at *
  by_cases k61 : u.kind = 61
  · have HE : Hid (_ = _) := HN.out.trans (if_pos (.inl k61))
    rw [k61] at c0
    clear HN k61
    go_enter Try.func20, Try.ntmps20
    go_wp2_with fail
    refine hfo.mono ?_
    rintro e w1 ⟨rfl, rfl⟩
    go_wp2_with fail
    go_ret
    exact ⟨by rw [HE.out]; rfl, 0, rfl⟩
  have b61 : (u.kind == 61) = false := by simpa using k61
  by_cases k33 : u.kind = 33
  · have HE : Hid (_ = _) := HN.out.trans (if_pos (.inr (.inl k33)))
    rw [k33] at c0
    clear HN k61 b61 k33
    go_enter Try.func20, Try.ntmps20
    go_wp2_with fail
    refine hfo.mono ?_
    rintro e w1 ⟨rfl, rfl⟩
    go_wp2_with fail
    go_ret
    exact ⟨by rw [HE.out]; rfl, 0, rfl⟩
  have b33 : (u.kind == 33) = false := by simpa using k33
  by_cases k64 : u.kind = 64
  · by_cases w1 : way = 1
    · have HE : Hid (_ = _) := HN.out.trans (if_pos (.inr (.inr ⟨k64, w1⟩)))
      rw [k64] at c0
      subst w1
      clear HN k61 b61 k33 b33 k64
      go_enter Try.func20, Try.ntmps20
      go_wp2_with fail
      refine hfo.mono ?_
      rintro e w1 ⟨rfl, rfl⟩
      go_wp2_with fail
      go_ret
      exact ⟨by rw [HE.out]; rfl, 0, rfl⟩
    · have bw : (way == 1) = false := by simpa using w1
      have HN2 : Hid (_ = _) := HN.out.trans (if_neg (fun e => e.elim k61 (fun e => e.elim k33 (fun e => w1 e.2))))
      by_cases hf : u.fin = p + 1
      · have HE : Hid (_ = _) := HN2.out.trans (if_pos ⟨k64, hf⟩)
        have hfb : (((u.fin : Nat) : Int) == (p : Int) + 1) = true := by rw [beq_iff_eq]; omega
        rw [k64] at c0
        clear HN HN2 k61 b61 k33 b33 k64 w1 hf
        go_enter Try.func20, Try.ntmps20
        go_wp2_with fail
        refine hfo.mono ?_
        rintro e w1 ⟨rfl, rfl⟩
        go_wp2_with fail
        go_ret
        exact ⟨by rw [HE.out]; rfl, 0, rfl⟩
      · have HE : Hid (_ = _) := (HN2.out.trans (if_neg (fun e => hf e.2))).trans (if_pos k64)
        have hfb : (((u.fin : Nat) : Int) == (p : Int) + 1) = false := by rw [beq_eq_false_iff_ne]; omega
        rw [k64] at c0
        clear HN HN2 k61 b61 k33 b33 k64 w1 hf
        go_enter Try.func20, Try.ntmps20
        go_wp2_with fail
        refine hfo.mono ?_
        rintro e w1 ⟨rfl, rfl⟩
        go_wp2_with fail
        go_ret
        exact ⟨by rw [HE.out]; rfl, 0, rfl⟩
  have b64 : (u.kind == 64) = false := by simpa using k64
  have HN2 : Hid (_ = _) := ((HN.out.trans (if_neg (fun e => e.elim k61 (fun e => e.elim k33 (fun e => k64 e.1))))).trans (if_neg (fun e => k64 e.1))).trans (if_neg k64)
  clear HN k61 k33 k64
  by_cases w0 : way = 0
  · subst w0
    by_cases hm : p + 1 < u.mid
    · have HE : Hid (_ = _) := HN2.out.trans (if_pos ⟨rfl, hm⟩)
      have hmi : (p : Int) + 1 < (u.mid : Int) := by omega
      clear HN2
      go_enter Try.func20, Try.ntmps20
      go_wp2_with fail
      refine hfo.mono ?_
      rintro e w1 ⟨rfl, rfl⟩
      go_wp2_with fail
      go_ret
      exact ⟨by rw [HE.out]; rfl, 0, rfl⟩
    · have HE : Hid (_ = _) := (HN2.out.trans (if_neg (fun e => hm e.2))).trans (if_neg (fun e => absurd e.1 (by decide)))
      have hmi : ¬ (p : Int) + 1 < (u.mid : Int) := by omega
      clear HN2
      go_enter Try.func20, Try.ntmps20
      go_wp2_with fail
      refine hfo.mono ?_
      rintro e w1 ⟨rfl, rfl⟩
      go_wp2_with fail
      go_quiet (fail)
      go_wp2_with fail
      go_ret
      exact ⟨by rw [HE.out]; rfl, _, rfl⟩
  · have bw0 : (way == 0) = false := by simpa using w0
    by_cases w1 : way = 1
    · subst w1
      clear w0 bw0
      by_cases hm : u.mid < u.fin
      · have HE : Hid (_ = _) := (HN2.out.trans (if_neg (fun e => absurd e.1 (by decide)))).trans (if_pos ⟨rfl, hm⟩)
        have hmi : (u.mid : Int) < (u.fin : Int) := by omega
        clear HN2
        go_enter Try.func20, Try.ntmps20
        go_wp2_with fail
        refine hfo.mono ?_
        rintro e w1 ⟨rfl, rfl⟩
        go_wp2_with fail
        go_quiet (fail)
        go_wp2_with fail
        go_ret
        exact ⟨by rw [HE.out]; rfl, _, rfl⟩
      · have HE : Hid (_ = _) := (HN2.out.trans (if_neg (fun e => absurd e.1 (by decide)))).trans (if_neg (fun e => hm e.2))
        have hmi : ¬ (u.mid : Int) < (u.fin : Int) := by omega
        clear HN2
        go_enter Try.func20, Try.ntmps20
        go_wp2_with fail
        refine hfo.mono ?_
        rintro e w1 ⟨rfl, rfl⟩
        go_wp2_with fail
        go_quiet (fail)
        go_wp2_with fail
        go_ret
        exact ⟨by rw [HE.out]; rfl, _, rfl⟩
    · have bw1 : (way == 1) = false := by simpa using w1
      have HE : Hid (_ = _) := (HN2.out.trans (if_neg (fun e => w0 e.1))).trans (if_neg (fun e => w1 e.1))
      clear HN2 w0 w1
      go_enter Try.func20, Try.ntmps20
      go_wp2_with fail
      refine hfo.mono ?_
      rintro e w1 ⟨rfl, rfl⟩
      go_wp2_with fail
      go_quiet (fail)
      go_wp2_with fail
      go_ret
      exact ⟨by rw [HE.out]; rfl, _, rfl⟩

set_option maxRecDepth 100000 in
set_option maxHeartbeats 800000 in
theorem Rep.ways (h : Rep B w r m vs vo P Q O) (p : Int) :
    Calls Try.prog 31 #[.pointer (some ⟨r, 0, none⟩), .int .i64 p] w fun e w' => e = .returned (.int .i64 (if p < 0 ∨ (m.st.length : Int) ≤ p then 0 else waysR (m.st.getD p.toNat noSt))) ∧ w' = w := by
  obtain ⟨ao, cap, hvs⟩ := h.slen'
  obtain ⟨r0, r1, r2, r3, r4, r5, rf⟩ := h.rdc
  by_cases h0 : p < 0
  · rw [if_pos (.inl h0)]
    clear h r0 r2 r3 r4 r5 rf
    go_enter Try.func31, Try.ntmps31
    go_wp2_with fail
    go_ret
    exact ⟨rfl, rfl⟩
  by_cases h1 : (m.st.length : Int) ≤ p
  · rw [if_pos (.inr h1)]
    rw [hvs] at r1
    clear h r0 r2 r3 r4 r5 rf
    go_enter Try.func31, Try.ntmps31
    go_wp2_with fail
    go_ret
    exact ⟨rfl, rfl⟩
  rw [if_neg (fun e => e.elim h0 h1)]
  obtain ⟨k, rfl⟩ : ∃ k : Nat, p = k := ⟨p.toNat, by omega⟩
  rw [Int.toNat_natCast]
  have hk : k < m.st.length := by omega
  obtain ⟨g, cap', hvs', hrow, _⟩ := h.row (by omega)
  rw [hvs'] at r1
  have hc : w.cell? ⟨g, k, none⟩ = some (.pointer (some ⟨P k, 0, none⟩)) := hrow k hk
  obtain ⟨c0, -⟩ := h.stc k _ (Rep.gets hk)
  have hki : (k : Int) < (m.st.length : Int) := by omega
  unfold waysR
  clear h hrow hvs hvs' r0 r2 r3 r4 r5 rf h1
  generalize m.st.getD k noSt = u at *
  generalize P k = q at *
  by_cases k61 : u.kind = 61
  · rw [if_pos (.inl k61)]
    rw [k61] at c0
    clear k61
    go_enter Try.func31, Try.ntmps31
    go_wp2_with fail
    go_ret
    exact ⟨rfl, rfl⟩
  have b61 : (u.kind == 61) = false := by simpa using k61
  by_cases k33 : u.kind = 33
  · rw [if_pos (.inr k33)]
    rw [k33] at c0
    clear k33 k61 b61
    go_enter Try.func31, Try.ntmps31
    go_wp2_with fail
    go_ret
    exact ⟨rfl, rfl⟩
  have b33 : (u.kind == 33) = false := by simpa using k33
  rw [if_neg (fun e => e.elim k61 k33)]
  clear k33 k61
  go_enter Try.func31, Try.ntmps31
  go_wp2_with fail
  go_ret
  exact ⟨rfl, rfl⟩

end Go.Proofs.Ytjbpfbgemidleaa

