import Derived.Test.YtadhimimdmoodaaRr
import Derived.Test.YtadhimimdmoodaaPn
namespace Go.Proofs.Ytadhimimdmoodaa
open Go.RowKit

def bytesOf (s : ByteArray) : List Int := s.data.toList.map fun b => (b.toNat : Int)
theorem bytesOf_len (s : ByteArray) : (bytesOf s).length = s.size := by simp [bytesOf]
theorem bytesOf_take (s : ByteArray) (k : Nat) (h : k < s.size) : (bytesOf s).take (k + 1) = (bytesOf s).take k ++ [((s[k]).toNat : Int)] := by
  rw [List.take_succ_eq_append_getElem (by rw [bytesOf_len]; exact h)]
  simp [bytesOf]; rfl
theorem bytesOf_get (s : ByteArray) (k : Nat) (h : k < s.size) : (bytesOf s)[k]? = some ((s[k]).toNat : Int) := by
  rw [List.getElem?_eq_getElem (by rw [bytesOf_len]; exact h)]
  simp [bytesOf]; rfl

/-- How many bytes can be read, and what the reader is behind them (none: it met one that cannot stand there). -/
def readFrom : Rd → List Int → Nat → Nat × Option Rd
  | m, [], n => (n, some m)
  | m, c :: l, n => match byteStep m c with
    | none => (n, none)
    | some m' => readFrom m' l (n + 1)

theorem readFrom_none {m0 m : Rd} {l : List Int} {k n : Nat} {c : Int} (h : feed m0 (l.take k) = some m) (hc : l[k]? = some c) (hb : byteStep m c = none) : readFrom m0 l n = (n + k, none) := by
  induction l generalizing m0 k n with
  | nil => simp at hc
  | cons a l ih =>
    cases k with
    | zero =>
      simp [feed] at h hc
      subst h; subst hc
      simp [readFrom, hb]
    | succ k =>
      simp only [List.take_succ_cons, feed] at h
      simp only [List.getElem?_cons_succ] at hc
      simp only [readFrom]
      split at h
      · cases h
      · rename_i m1 e
        rw [e]
        simp only
        rw [ih h hc]; congr 1; omega

theorem readFrom_some {m0 m : Rd} {l : List Int} {n : Nat} (h : feed m0 l = some m) : readFrom m0 l n = (n + l.length, some m) := by
  induction l generalizing m0 n with
  | nil => simp only [feed] at h; cases h; rfl
  | cons a l ih =>
    simp only [feed] at h
    simp only [readFrom]
    split at h
    · cases h
    · rename_i m1 e
      rw [e]
      simp only
      rw [ih h]; simp only [List.length_cons]; congr 1; omega

def isDone (m : Rd) : Bool := decide (m.state = 115) && decide (m.op.length = 0)

theorem rep_init (w : World) : Rep w.heap.size (w.alloc (.cells (rdCells init (.slice none 0 0) (.slice none 0 0)) tR)) w.heap.size init (.slice none 0 0) (.slice none 0 0) id id id where
  rd := by
    show (w.heap.push _)[w.heap.size]? = _
    rw [Array.getElem?_push, if_pos rfl]
  rs := World.ownsRow_nil _ _ _ _
  ro := World.ownsRow_nil _ _ _ _
  st := by intro i s h; simp [init] at h
  op := by intro i s h; simp [init] at h
  injP := by intro i j h; exact absurd h (by simp [init])
  injQ := by intro i j h; exact absurd h (by simp [init])
  injO := by intro i j h; exact absurd h (by simp [init])
  geR := Nat.le_refl _
  geP := by intro i h; exact absurd h (by simp [init])
  geO := by intro i h; exact absurd h (by simp [init])

/-- What Read gives. -/
def ReadPost (w : World) (l : List Int) : Ending → World → Prop := fun e w' =>
  Below w.heap.size w w' ∧ w.heap.size < w'.heap.size ∧
    match readFrom init l 0 with
    | (n, none) => e = .returned (.tuple #[.pointer (some ⟨w.heap.size, 0, none⟩), .int .i64 n, .bool false])
    | (n, some m) => e = .returned (.tuple #[.pointer (some ⟨w.heap.size, 0, none⟩), .int .i64 n, .bool (isDone m)]) ∧ Ok m ∧ ∃ vs vo P Q O, Rep w.heap.size w' w.heap.size m vs vo P Q O

theorem readPost_none {w w' : World} {l : List Int} {m : Rd} {k : Nat} {c : Int} (hb : Below w.heap.size w w') (hz : w.heap.size < w'.heap.size) (h : feed init (l.take k) = some m) (hc : l[k]? = some c) (hs : byteStep m c = none) :
    ReadPost w l (.returned (.tuple #[.pointer (some ⟨w.heap.size, 0, none⟩), .int .i64 k, .bool false])) w' := by
  refine ⟨hb, hz, ?_⟩
  rw [readFrom_none (n := 0) h hc hs, Nat.zero_add]
theorem readPost_some {w w' : World} {l : List Int} {m : Rd} {vs vo : Value} {P Q O : Nat → Nat} {b : Bool} {n : Nat} (hb : Below w.heap.size w w') (hz : w.heap.size < w'.heap.size) (h : feed init l = some m) (ok : Ok m) (hr : Rep w.heap.size w' w.heap.size m vs vo P Q O) (hd : isDone m = b) (hl : l.length = n) :
    ReadPost w l (.returned (.tuple #[.pointer (some ⟨w.heap.size, 0, none⟩), .int .i64 n, .bool b])) w' := by
  refine ⟨hb, hz, ?_⟩
  rw [readFrom_some (n := 0) h, Nat.zero_add, hl]
  exact ⟨by rw [hd], ok, _, _, _, _, _, hr⟩

set_option maxRecDepth 100000 in
set_option maxHeartbeats 1600000 in
theorem ref_read (s : ByteArray) (w : World) (hs : s.size ≤ 160) :
    Calls Try.prog 17 #[.string s] w (ReadPost w (bytesOf s)) := by
  have HI : Hid (Rep _ _ _ _ _ _ _ _ _) := rep_init w
  go_enter Try.func17, Try.ntmps17
  go_wp2
  go_loopw [6] (fun i wr => ∃ k : Nat, k ≤ s.size ∧ i = .int .i64 k ∧ w.heap.size < wr.heap.size ∧ Below w.heap.size w wr ∧ ∃ m, feed init ((bytesOf s).take k) = some m ∧ ∃ vs vo P Q O, Rep w.heap.size wr w.heap.size m vs vo P Q O) (fun i _ => s.size - (intOf i).toNat)
  case atStart => exact ⟨0, Nat.zero_le _, rfl, by simp, (Below.refl _ _).alloc (Nat.le_refl _) _, init, rfl, _, _, _, _, _, HI.out⟩
  case round =>
    obtain ⟨k, hk, rfl, hz, hbel, m, hfeed, vs, vo, P, Q, O, hrep⟩ := hrel
    have ok := Ok.init.feed hfeed
    have HF : Hid (_ = _) := hfeed
    clear hfeed
    by_cases hlt : k < s.size
    · have hb0 : (0 : Int) ≤ ((s[k]).toNat : Int) := by omega
      have hb1 : ((s[k]).toNat : Int) ≤ 255 := by have := (s[k]).toNat_lt; omega
      have hc := hrep.byte ok (by omega) ((s[k]).toNat : Int) hb0 hb1
      have HG : Hid (_ = _) := bytesOf_get s k hlt
      have HT : Hid (_ = _) := bytesOf_take s k hlt
      have OK : Hid (Ok m) := ok
      have HR : Hid (Rep _ _ _ _ _ _ _ _ _) := hrep
      clear ok hrep
      cases hst : byteStep m ((s[k]).toNat : Int) with
      | none =>
        rw [hst] at hc
        have HS : Hid (_ = _) := hst
        clear hst
        go_wp2_with (go_at_call 26; refine hc.mono ?_; rintro e w' ⟨rfl, hb, hr⟩)
        go_ret3
        exact readPost_none (hbel.trans hb) (Nat.lt_of_lt_of_le hz hb.size) HF.out HG.out HS.out
      | some m' =>
        rw [hst] at hc
        have HS : Hid (_ = _) := hst
        clear hst
        go_wp2_with (go_at_call 26; refine hc.mono ?_; rintro e w' ⟨rfl, hb, hr⟩)
        go_roundw
        case rel => exact ⟨k + 1, by omega, by go_num, Nat.lt_of_lt_of_le hz hb.size, hbel.trans hb, m', by rw [HT.out, feed_snoc, HF.out]; exact HS.out, hr m' rfl⟩
        case measure => simp [intOf]; omega
    · have hke : k = s.size := by omega
      have hall : (bytesOf s).take k = bytesOf s := List.take_of_length_le (by rw [bytesOf_len]; omega)
      have HF2 : Hid (feed init (bytesOf s) = some m) := by show feed init (bytesOf s) = some m; rw [← hall]; exact HF.out
      obtain ⟨r0, r1, r2, r3, r4, r5, rf⟩ := hrep.rdc
      obtain ⟨ao, cap, hvo⟩ := hrep.olen
      rw [hvo] at r2
      have hol := ok.oplen
      have OK : Hid (Ok m) := ok
      have HR : Hid (Rep _ _ _ _ _ _ _ _ _) := hrep
      have HL : Hid ((bytesOf s).length = s.size) := bytesOf_len s
      clear ok hrep hall hke hvo
      by_cases h115 : m.state = 115
      · rw [h115] at r0
        by_cases h0 : m.op.length = 0
        · have HD : Hid (isDone m = true) := by show isDone m = true; simp [isDone, h115, h0]
          rw [h0] at r2
          clear h115 h0
          go_wp2
          go_quiet (fail)
          go_wp2
          go_ret3
          exact readPost_some (below_drewN hbel _) hz HF2.out OK.out (HR.out.drewN _) HD.out HL.out
        · have HD : Hid (isDone m = false) := by show isDone m = false; simp [isDone, h0]
          have b0 : (((m.op.length : Nat) : Int) == 0) = false := by rw [beq_eq_false_iff_ne]; omega
          clear h115 h0
          go_wp2
          go_quiet (fail)
          go_wp2
          go_ret3
          exact readPost_some (below_drewN hbel _) hz HF2.out OK.out (HR.out.drewN _) HD.out HL.out
      · have HD : Hid (isDone m = false) := by show isDone m = false; simp [isDone, h115]
        have b115 : (m.state == 115) = false := by simpa using h115
        clear h115
        go_wp2
        go_quiet (fail)
        go_wp2
        go_ret3
        exact readPost_some (below_drewN hbel _) hz HF2.out OK.out (HR.out.drewN _) HD.out HL.out

end Go.Proofs.Ytadhimimdmoodaa
