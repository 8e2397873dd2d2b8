import Derived.Test.YtadhimimdmoodaaRt
import Derived.Test.YtadhimimdmoodaaRw
namespace Go.Proofs.Ytadhimimdmoodaa
open Go.RowKit

/-- The machine behind a text that is a program. -/
def progOf (l : List Int) : Option Rd :=
  if 160 < l.length then none else match (readFrom init l 0).2 with
    | none => none
    | some m => if isDone m then some m else none

theorem progOf_none {l : List Int} (h : progOf l = none) : (scanOf l).2.1 = 1 := by
  unfold progOf at h
  unfold scanOf
  split at h
  · rename_i e; rw [if_pos e]
  · rename_i e
    rw [if_neg e]
    rcases hr : readFrom init l 0 with ⟨n, _ | m⟩
    · rfl
    · rw [hr] at h
      simp only at h ⊢
      cases hd : isDone m
      · simp
      · rw [hd] at h; simp at h
theorem progOf_some {l : List Int} {m : Rd} (h : progOf l = some m) : l.length ≤ 160 ∧ (∃ n, readFrom init l 0 = (n, some m)) ∧ isDone m = true ∧ scanOf l = ((m.st.length : Int) + 1, 0, 0) := by
  unfold progOf at h
  split at h
  · cases h
  · rename_i e
    rcases hr : readFrom init l 0 with ⟨n, _ | m'⟩
    · rw [hr] at h; cases h
    · rw [hr] at h
      simp only at h
      cases hd : isDone m'
      · rw [hd] at h; simp at h
      · rw [hd] at h
        simp at h
        subst h
        refine ⟨by omega, ⟨n, rfl⟩, hd, ?_⟩
        unfold scanOf
        rw [if_neg e, hr]
        simp [hd]

/-- The number of ways at a point. -/
def waysAt (m : Rd) (p : Int) : Int := if p < 0 ∨ (m.st.length : Int) ≤ p then 0 else waysR (m.st.getD p.toNat noSt)
/-- The document's Next. -/
def nextOf (l : List Int) (p way : Int) : Int × Int :=
  match progOf l with
  | none => (0, 1)
  | some m => if way < 0 ∨ waysAt m p ≤ way then (0, 2) else (nextR m.st p.toNat way, 0)

def two (x : Int × Int) : Ending := .returned (.tuple #[.int .i64 x.1, .int .i64 x.2])

/-- The reader of a program, read anew. -/
theorem ref_again {s : ByteArray} {m : Rd} (hp : progOf (bytesOf s) = some m) (w : World) :
    Calls Try.prog 17 #[.string s] w fun e w' => ∃ n : Nat, e = .returned (.tuple #[.pointer (some ⟨w.heap.size, 0, none⟩), .int .i64 n, .bool true]) ∧ Below w.heap.size w w' ∧ m.st.length ≤ 20 ∧ ∃ vs vo P Q O, Rep w.heap.size w' w.heap.size m vs vo P Q O := by
  obtain ⟨hl, ⟨n, hr⟩, hd, _⟩ := progOf_some hp
  refine (ref_read s w (by rw [← bytesOf_len]; exact hl)).mono ?_
  rintro e w' ⟨hb, _, h⟩
  rw [hr] at h
  obtain ⟨he, ok, hrep⟩ := h
  exact ⟨n, by rw [he, hd], hb, ok.len, hrep⟩

set_option maxRecDepth 100000 in
set_option maxHeartbeats 1600000 in
theorem ref_known_none (s : ByteArray) (p way : Int) (w : World) (hm : s.size ≤ maxLen) (hp : progOf (bytesOf s) = none) :
    Calls Try.prog 19 #[.string s, .int .i64 p, .int .i64 way] w fun e w' => e = .returned (.tuple #[.pointer none, .int .i64 1]) ∧ Below w.heap.size w w' := by
  have hs := ref_scan s w hm
  have h1 := progOf_none hp
  generalize scanOf (bytesOf s) = x at *
  obtain ⟨a, b, c⟩ := x
  have h2 : b = 1 := h1
  subst h2
  simp only [three] at hs
  clear hm hp h1
  go_enter Try.func19, Try.ntmps19
  go_wp2_with fail
  refine hs.mono ?_
  rintro e w1 ⟨rfl, hb⟩
  go_wp2_with fail
  go_ret2
  exact ⟨rfl, hb⟩

set_option maxRecDepth 100000 in
set_option maxHeartbeats 1600000 in
theorem ref_known_some (s : ByteArray) (p way : Int) (w : World) (hm : s.size ≤ maxLen) {m : Rd} (hp : progOf (bytesOf s) = some m) :
    Calls Try.prog 19 #[.string s, .int .i64 p, .int .i64 way] w fun e w' => Below w.heap.size w w' ∧ ((e = .returned (.tuple #[.pointer none, .int .i64 2]) ∧ (way < 0 ∨ waysAt m p ≤ way)) ∨
      (¬ (way < 0 ∨ waysAt m p ≤ way) ∧ m.st.length ≤ 20 ∧ ∃ r B vs vo P Q O, e = .returned (.tuple #[.pointer (some ⟨r, 0, none⟩), .int .i64 0]) ∧ Rep B w' r m vs vo P Q O)) := by
  have hs := ref_scan s w hm
  rw [(progOf_some hp).2.2.2] at hs
  simp only [three] at hs
  have hr := fun w => ref_again hp w
  have HW : Hid (∀ {B : Nat} {w : World} {r : Nat} {vs vo : Value} {P Q O : Nat → Nat}, Rep B w r m vs vo P Q O → Calls Try.prog 31 #[.pointer (some ⟨r, 0, none⟩), .int .i64 p] w fun e w' => e = .returned (.int .i64 (waysAt m p)) ∧ w' = w) := fun h => h.ways p
  clear hm hp
  generalize waysAt m p = wa at *
  by_cases hw : way < 0
  · go_enter Try.func19, Try.ntmps19
    go_wp2_with fail
    refine hs.mono ?_
    rintro e w1 ⟨rfl, hb⟩
    go_wp2_with fail
    refine (hr _).mono ?_
    rintro e w2 ⟨n, rfl, hb2, hlen, vs, vo, P, Q, O, hrep⟩
    have HR : Hid (Rep _ _ _ _ _ _ _ _ _) := hrep
    clear hrep
    go_wp2_with fail
    refine (HW.out HR.out).mono ?_
    rintro e w3 ⟨rfl, rfl⟩
    go_wp2_with fail
    go_ret2
    exact ⟨hb.trans (hb2.mono hb.size), .inl ⟨rfl, .inl hw⟩⟩
  by_cases hw2 : wa ≤ way
  · go_enter Try.func19, Try.ntmps19
    go_wp2_with fail
    refine hs.mono ?_
    rintro e w1 ⟨rfl, hb⟩
    go_wp2_with fail
    refine (hr _).mono ?_
    rintro e w2 ⟨n, rfl, hb2, hlen, vs, vo, P, Q, O, hrep⟩
    have HR : Hid (Rep _ _ _ _ _ _ _ _ _) := hrep
    clear hrep
    go_wp2_with fail
    refine (HW.out HR.out).mono ?_
    rintro e w3 ⟨rfl, rfl⟩
    go_wp2_with fail
    go_ret2
    exact ⟨hb.trans (hb2.mono hb.size), .inl ⟨rfl, .inr hw2⟩⟩
  · have HN : Hid (¬ (way < 0 ∨ wa ≤ way)) := fun e => e.elim hw hw2
    go_enter Try.func19, Try.ntmps19
    go_wp2_with fail
    refine hs.mono ?_
    rintro e w1 ⟨rfl, hb⟩
    go_wp2_with fail
    refine (hr _).mono ?_
    rintro e w2 ⟨n, rfl, hb2, hlen, vs, vo, P, Q, O, hrep⟩
    have HR : Hid (Rep _ _ _ _ _ _ _ _ _) := hrep
    clear hrep
    go_wp2_with fail
    refine (HW.out HR.out).mono ?_
    rintro e w3 ⟨rfl, rfl⟩
    go_wp2_with fail
    go_ret2
    exact ⟨hb.trans (hb2.mono hb.size), .inr ⟨HN.out, hlen, _, _, _, _, _, _, _, rfl, HR.out⟩⟩

set_option maxRecDepth 100000 in
set_option maxHeartbeats 1600000 in
theorem ref_next (s : ByteArray) (p way : Int) (w : World) (hm : s.size ≤ maxLen) :
    Calls Try.prog 9 #[.string s, .int .i64 p, .int .i64 way] w fun e w' => e = two (nextOf (bytesOf s) p way) ∧ Below w.heap.size w w' := by
  cases hp : progOf (bytesOf s) with
  | none =>
    have HE : Hid (nextOf (bytesOf s) p way = (0, 1)) := by show nextOf _ _ _ = _; unfold nextOf; rw [hp]
    have hk := ref_known_none s p way w hm hp
    clear hp hm
    go_enter Try.func9, Try.ntmps9
    go_wp2_with fail
    refine hk.mono ?_
    rintro e w1 ⟨rfl, hb⟩
    go_wp2_with fail
    go_ret2
    exact ⟨by rw [HE.out]; rfl, hb⟩
  | some m =>
    have HE : Hid (nextOf (bytesOf s) p way = if way < 0 ∨ waysAt m p ≤ way then (0, 2) else (nextR m.st p.toNat way, 0)) := by show nextOf _ _ _ = _; unfold nextOf; rw [hp]
    have hk := ref_known_some s p way w hm hp
    clear hp hm
    by_cases hbad : way < 0 ∨ waysAt m p ≤ way
    · have HE2 : Hid (_ = _) := HE.out.trans (if_pos hbad)
      have hk2 := hk.mono (R' := fun e w' => e = .returned (.tuple #[.pointer none, .int .i64 2]) ∧ Below w.heap.size w w') (by
        rintro e w' ⟨hb, h | h⟩
        · exact ⟨h.1, hb⟩
        · exact absurd hbad h.1)
      clear hk hbad HE
      go_enter Try.func9, Try.ntmps9
      go_wp2_with fail
      refine hk2.mono ?_
      rintro e w1 ⟨rfl, hb⟩
      go_wp2_with fail
      go_ret2
      exact ⟨by rw [HE2.out]; rfl, hb⟩
    · have HE2 : Hid (_ = _) := HE.out.trans (if_neg hbad)
      have hin : 0 ≤ p ∧ p < m.st.length := by
        have hw : ¬ waysAt m p ≤ way := fun e => hbad (.inr e)
        have hw0 : ¬ way < 0 := fun e => hbad (.inl e)
        unfold waysAt at hw
        split at hw
        · omega
        · omega
      obtain ⟨k, rfl⟩ : ∃ k : Nat, p = k := ⟨p.toNat, by omega⟩
      have hk2 := hk.mono (R' := fun e w' => Below w.heap.size w w' ∧ m.st.length ≤ 20 ∧ ∃ r B vs vo P Q O, e = .returned (.tuple #[.pointer (some ⟨r, 0, none⟩), .int .i64 0]) ∧ Rep B w' r m vs vo P Q O) (by
        rintro e w' ⟨hb, h | h⟩
        · exact absurd h.2 hbad
        · exact ⟨hb, h.2⟩)
      have hkl : k < m.st.length := by omega
      rw [Int.toNat_natCast] at HE2
      clear hk hbad HE hin
      go_enter Try.func9, Try.ntmps9
      go_wp2_with fail
      refine hk2.mono ?_
      rintro e w1 ⟨hb, hlen, r, B, vs, vo, P, Q, O, rfl, hrep⟩
      have HR : Hid (Rep _ _ _ _ _ _ _ _ _) := hrep
      clear hrep
      go_wp2_with fail
      refine (HR.out.next hlen k hkl way).mono ?_
      rintro e w2 ⟨rfl, j, rfl⟩
      go_wp2_with fail
      go_ret2
      exact ⟨by rw [HE2.out]; rfl, below_drewN hb _⟩

end Go.Proofs.Ytadhimimdmoodaa
