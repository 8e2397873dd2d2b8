import Derived.Test.YtjbpfbgemidleaaJ4
import Derived.Laws.CopyOwn
import Derived.Laws.MakeOwn
namespace Go.Proofs.Ytjbpfbgemidleaa
open Go.RowKit

/-- The machine behind a text that is a program. -/
def progOf (l : List Int) : Option Rd :=
  if 160 < l.length then none else match (readFrom init l 0).2 with
    | none => none
    | some m => if isDone m then some m else none

theorem progOf_none {l : List Int} (h : progOf l = none) : (scanOf l).2.1 = 1 := by
  unfold progOf at h
  unfold scanOf
  split at h
  · rename_i e; rw [if_pos e]
  · rename_i e
    rw [if_neg e]
    rcases hr : readFrom init l 0 with ⟨n, _ | m⟩
    · rfl
    · rw [hr] at h
      simp only at h ⊢
      cases hd : isDone m
      · simp
      · rw [hd] at h; simp at h
theorem progOf_some {l : List Int} {m : Rd} (h : progOf l = some m) : l.length ≤ 160 ∧ (∃ n, readFrom init l 0 = (n, some m)) ∧ isDone m = true ∧ scanOf l = ((m.st.length : Int) + 1, 0, 0) := by
  unfold progOf at h
  split at h
  · cases h
  · rename_i e
    rcases hr : readFrom init l 0 with ⟨n, _ | m'⟩
    · rw [hr] at h; cases h
    · rw [hr] at h
      simp only at h
      cases hd : isDone m'
      · rw [hd] at h; simp at h
      · rw [hd] at h
        simp at h
        subst h
        refine ⟨by omega, ⟨n, rfl⟩, hd, ?_⟩
        unfold scanOf
        rw [if_neg e, hr]
        simp [hd]

/-- The number of ways at a point. -/
def waysAt (m : Rd) (p : Int) : Int := if p < 0 ∨ (m.st.length : Int) ≤ p then 0 else waysR (m.st.getD p.toNat noSt)
/-- The document's Next. -/
def nextOf (l : List Int) (p way : Int) : Int × Int :=
  match progOf l with
  | none => (0, 1)
  | some m => if way < 0 ∨ waysAt m p ≤ way then (0, 2) else (nextR m.st p.toNat way, 0)

def two (x : Int × Int) : Ending := .returned (.tuple #[.int .i64 x.1, .int .i64 x.2])

/-- The reader of a program, read anew. -/
theorem ref_again {s : ByteArray} {m : Rd} (hp : progOf (bytesOf s) = some m) (w : World) :
    Calls Try.prog 17 #[.string s] w fun e w' => ∃ n : Nat, e = .returned (.tuple #[.pointer (some ⟨w.heap.size, 0, none⟩), .int .i64 n, .bool true]) ∧ Below w.heap.size w w' ∧ m.st.length ≤ 20 ∧ ∃ vs vo P Q O, Rep w.heap.size w' w.heap.size m vs vo P Q O := by
  obtain ⟨hl, ⟨n, hr⟩, hd, _⟩ := progOf_some hp
  refine (ref_read s w (by rw [← bytesOf_len]; exact hl)).mono ?_
  rintro e w' ⟨hb, _, h⟩
  rw [hr] at h
  obtain ⟨he, ok, hrep⟩ := h
  exact ⟨n, by rw [he, hd], hb, ok.len, hrep⟩

set_option maxRecDepth 100000 in
set_option maxHeartbeats 1600000 in
theorem ref_known_none (s : ByteArray) (p way : Int) (w : World) (hm : s.size ≤ maxLen) (hp : progOf (bytesOf s) = none) :
    Calls Try.prog 19 #[.string s, .int .i64 p, .int .i64 way] w fun e w' => e = .returned (.tuple #[.pointer none, .int .i64 1]) ∧ Below w.heap.size w w' := by
  have hs := ref_scan s w hm
  have h1 := progOf_none hp
  generalize scanOf (bytesOf s) = x at *
  obtain ⟨a, b, c⟩ := x
  have h2 : b = 1 := h1
  subst h2
  simp only [three] at hs
  clear hm hp h1
  go_enter Try.func19, Try.ntmps19
  go_wp2_with fail
  refine hs.mono ?_
  rintro e w1 ⟨rfl, hb⟩
  go_wp2_with fail
  go_ret2
  exact ⟨rfl, hb⟩

set_option maxRecDepth 100000 in
set_option maxHeartbeats 1600000 in
theorem ref_known_some (s : ByteArray) (p way : Int) (w : World) (hm : s.size ≤ maxLen) {m : Rd} (hp : progOf (bytesOf s) = some m) :
    Calls Try.prog 19 #[.string s, .int .i64 p, .int .i64 way] w fun e w' => Below w.heap.size w w' ∧ ((e = .returned (.tuple #[.pointer none, .int .i64 2]) ∧ (way < 0 ∨ waysAt m p ≤ way)) ∨
      (¬ (way < 0 ∨ waysAt m p ≤ way) ∧ m.st.length ≤ 20 ∧ ∃ r B vs vo P Q O, e = .returned (.tuple #[.pointer (some ⟨r, 0, none⟩), .int .i64 0]) ∧ Rep B w' r m vs vo P Q O)) := by
  have hs := ref_scan s w hm
  rw [(progOf_some hp).2.2.2] at hs
  simp only [three] at hs
  have hr := fun w => ref_again hp w
  have HW : Hid (∀ {B : Nat} {w : World} {r : Nat} {vs vo : Value} {P Q O : Nat → Nat}, Rep B w r m vs vo P Q O → Calls Try.prog 31 #[.pointer (some ⟨r, 0, none⟩), .int .i64 p] w fun e w' => e = .returned (.int .i64 (waysAt m p)) ∧ w' = w) := fun h => h.ways p
  clear hm hp
  generalize waysAt m p = wa at *
  by_cases hw : way < 0
  · go_enter Try.func19, Try.ntmps19
    go_wp2_with fail
    refine hs.mono ?_
    rintro e w1 ⟨rfl, hb⟩
    go_wp2_with fail
    refine (hr _).mono ?_
    rintro e w2 ⟨n, rfl, hb2, hlen, vs, vo, P, Q, O, hrep⟩
    have HR : Hid (Rep _ _ _ _ _ _ _ _ _) := hrep
    clear hrep
    go_wp2_with fail
    refine (HW.out HR.out).mono ?_
    rintro e w3 ⟨rfl, rfl⟩
    go_wp2_with fail
    go_ret2
    exact ⟨hb.trans (hb2.mono hb.size), .inl ⟨rfl, .inl hw⟩⟩
  by_cases hw2 : wa ≤ way
  · go_enter Try.func19, Try.ntmps19
    go_wp2_with fail
    refine hs.mono ?_
    rintro e w1 ⟨rfl, hb⟩
    go_wp2_with fail
    refine (hr _).mono ?_
    rintro e w2 ⟨n, rfl, hb2, hlen, vs, vo, P, Q, O, hrep⟩
    have HR : Hid (Rep _ _ _ _ _ _ _ _ _) := hrep
    clear hrep
    go_wp2_with fail
    refine (HW.out HR.out).mono ?_
    rintro e w3 ⟨rfl, rfl⟩
    go_wp2_with fail
    go_ret2
    exact ⟨hb.trans (hb2.mono hb.size), .inl ⟨rfl, .inr hw2⟩⟩
  · have HN : Hid (¬ (way < 0 ∨ wa ≤ way)) := fun e => e.elim hw hw2
    go_enter Try.func19, Try.ntmps19
    go_wp2_with fail
    refine hs.mono ?_
    rintro e w1 ⟨rfl, hb⟩
    go_wp2_with fail
    refine (hr _).mono ?_
    rintro e w2 ⟨n, rfl, hb2, hlen, vs, vo, P, Q, O, hrep⟩
    have HR : Hid (Rep _ _ _ _ _ _ _ _ _) := hrep
    clear hrep
    go_wp2_with fail
    refine (HW.out HR.out).mono ?_
    rintro e w3 ⟨rfl, rfl⟩
    go_wp2_with fail
    go_ret2
    exact ⟨hb.trans (hb2.mono hb.size), .inr ⟨HN.out, hlen, _, _, _, _, _, _, _, rfl, HR.out⟩⟩

set_option maxRecDepth 100000 in
set_option maxHeartbeats 1600000 in
theorem ref_next (s : ByteArray) (p way : Int) (w : World) (hm : s.size ≤ maxLen) :
    Calls Try.prog 9 #[.string s, .int .i64 p, .int .i64 way] w fun e w' => e = two (nextOf (bytesOf s) p way) ∧ Below w.heap.size w w' := by
  cases hp : progOf (bytesOf s) with
  | none =>
    have HE : Hid (nextOf (bytesOf s) p way = (0, 1)) := by show nextOf _ _ _ = _; unfold nextOf; rw [hp]
    have hk := ref_known_none s p way w hm hp
    clear hp hm
    go_enter Try.func9, Try.ntmps9
    go_wp2_with fail
    refine hk.mono ?_
    rintro e w1 ⟨rfl, hb⟩
    go_wp2_with fail
    go_ret2
    exact ⟨by rw [HE.out]; rfl, hb⟩
  | some m =>
    have HE : Hid (nextOf (bytesOf s) p way = if way < 0 ∨ waysAt m p ≤ way then (0, 2) else (nextR m.st p.toNat way, 0)) := by show nextOf _ _ _ = _; unfold nextOf; rw [hp]
    have hk := ref_known_some s p way w hm hp
    clear hp hm
    by_cases hbad : way < 0 ∨ waysAt m p ≤ way
    · have HE2 : Hid (_ = _) := HE.out.trans (if_pos hbad)
      have hk2 := hk.mono (R' := fun e w' => e = .returned (.tuple #[.pointer none, .int .i64 2]) ∧ Below w.heap.size w w') (by
        rintro e w' ⟨hb, h | h⟩
        · exact ⟨h.1, hb⟩
        · exact absurd hbad h.1)
      clear hk hbad HE
      go_enter Try.func9, Try.ntmps9
      go_wp2_with fail
      refine hk2.mono ?_
      rintro e w1 ⟨rfl, hb⟩
      go_wp2_with fail
      go_ret2
      exact ⟨by rw [HE2.out]; rfl, hb⟩
    · have HE2 : Hid (_ = _) := HE.out.trans (if_neg hbad)
      have hin : 0 ≤ p ∧ p < m.st.length := by
        have hw : ¬ waysAt m p ≤ way := fun e => hbad (.inr e)
        have hw0 : ¬ way < 0 := fun e => hbad (.inl e)
        unfold waysAt at hw
        split at hw
        · omega
        · omega
      obtain ⟨k, rfl⟩ : ∃ k : Nat, p = k := ⟨p.toNat, by omega⟩
      have hk2 := hk.mono (R' := fun e w' => Below w.heap.size w w' ∧ m.st.length ≤ 20 ∧ ∃ r B vs vo P Q O, e = .returned (.tuple #[.pointer (some ⟨r, 0, none⟩), .int .i64 0]) ∧ Rep B w' r m vs vo P Q O) (by
        rintro e w' ⟨hb, h | h⟩
        · exact absurd h.2 hbad
        · exact ⟨hb, h.2⟩)
      have hkl : k < m.st.length := by omega
      rw [Int.toNat_natCast] at HE2
      clear hk hbad HE hin
      go_enter Try.func9, Try.ntmps9
      go_wp2_with fail
      refine hk2.mono ?_
      rintro e w1 ⟨hb, hlen, r, B, vs, vo, P, Q, O, rfl, hrep⟩
      have HR : Hid (Rep _ _ _ _ _ _ _ _ _) := hrep
      clear hrep
      go_wp2_with fail
      refine (HR.out.next hlen k hkl way).mono ?_
      rintro e w2 ⟨rfl, j, rfl⟩
      go_wp2_with fail
      go_ret2
      exact ⟨by rw [HE2.out]; rfl, below_drewN hb _⟩

end Go.Proofs.Ytjbpfbgemidleaa

namespace Go.Proofs.Ytjbpfbgemidleaa
open Go.RowKit

/-- Numbers as cells. -/
def ic (l : List Int) : Array Value := (l.map (Value.int .i64)).toArray
theorem ic_get (l : List Int) (i : Nat) (h : i < l.length) : (ic l)[i]? = some (.int .i64 (l.getD i 0)) := by
  simp [ic, List.getD, h]
theorem ic_set (l : List Int) (i : Nat) (x : Int) : (ic l).setIfInBounds i (.int .i64 x) = ic (l.set i x) := by simp [ic, List.map_set]
theorem ic_size (l : List Int) : (ic l).size = l.length := by simp [ic]

/-- A slice that reads as these numbers. -/
def Reads (w : World) (v : Value) (l : List Int) : Prop :=
  ∃ ao cap, v = .slice ao l.length cap ∧ l.length ≤ cap ∧ (l.length ≠ 0 → ∃ b off, ao = some ⟨b, off, none⟩ ∧ b < w.heap.size ∧ ∀ i, i < l.length → w.cell? ⟨b, off + i, none⟩ = some (.int .i64 (l.getD i 0)))

theorem Reads.keep {w w' : World} {v : Value} {l : List Int} (h : Reads w v l) (hb : Below w.heap.size w w') : Reads w' v l := by
  obtain ⟨ao, cap, hv, hc, h0⟩ := h
  refine ⟨ao, cap, hv, hc, fun hn => ?_⟩
  obtain ⟨b, off, ha, hlt, hcell⟩ := h0 hn
  exact ⟨b, off, ha, Nat.lt_of_lt_of_le hlt hb.size, fun i hi => (hb.cell (by exact hlt)).trans (hcell i hi)⟩
theorem Reads.at_ {w : World} {g n cap : Nat} {l : List Int} {c : Array Value} {t : TypeId} (h : At w g c t) (hn : l.length = n) (hcap : n ≤ cap) (hc : ∀ i, i < n → c[i]? = some (.int .i64 (l.getD i 0))) : Reads w (.slice (some ⟨g, 0, none⟩) n cap) l := by
  subst hn
  exact ⟨_, cap, rfl, hcap, fun _ => ⟨g, 0, rfl, h.lt, fun i hi => by rw [Nat.zero_add, h.cell]; exact hc i hi⟩⟩

theorem drewN_two (w : World) (j k : Nat) : (w.drewN j).drewN k = w.drewN (j + k) := by
  first | rfl | (induction k with | zero => rfl | succ k ih => rw [← Nat.add_assoc]; show ((w.drewN j).drewN k).drew = _; rw [ih]; rfl) | simp [World.drewN, Nat.add_assoc]
set_option maxRecDepth 100000 in
set_option maxHeartbeats 800000 in
theorem l_same (w : World) (a b : Value) (l : List Int) (hm : l.length ≤ 1073741824) (ha : Reads w a l) (hb : Reads w b l) :
    Calls Try.prog 23 #[a, b] w fun e w' => e = .returned (.bool true) ∧ ∃ k, w' = w.drewN k := by
  obtain ⟨ao, ca, rfl, hca, ha⟩ := ha
  obtain ⟨bo, cb, rfl, hcb, hb⟩ := hb
  by_cases h0 : l.length = 0
  · rw [h0]
    clear ha hb hca hcb h0
    go_enter Try.func23, Try.ntmps23
    go_wp2_with fail
    go_loop [5] (fun i => i = .int .i64 0) (fun _ => 0)
    case atStart => rfl
    case round =>
      subst hrel
      go_wp2_with fail
      go_ret
      exact ⟨rfl, 0, rfl⟩
  · obtain ⟨p, o, rfl, hp, cp⟩ := ha h0
    obtain ⟨q, o', rfl, hq, cq⟩ := hb h0
    generalize hL : l.length = n at *
    have HA : Hid (∀ i, i < n → w.cell? ⟨p, o + i, none⟩ = some (.int .i64 (l.getD i 0))) := cp
    have HB : Hid (∀ i, i < n → w.cell? ⟨q, o' + i, none⟩ = some (.int .i64 (l.getD i 0))) := cq
    clear ha hb cp cq hL h0
    go_enter Try.func23, Try.ntmps23
    go_wp2_with fail
    go_loopw [5] (fun i wr => ∃ j k : Nat, j ≤ n ∧ i = .int .i64 j ∧ wr = w.drewN k) (fun i _ => n - (intOf i).toNat)
    case atStart => exact ⟨0, 0, Nat.zero_le _, rfl, rfl⟩
    case round =>
      obtain ⟨j, k, hj, rfl, hwr⟩ := hrel
      have HW : Hid (∃ k, wr = w.drewN k) := ⟨k, hwr⟩
      have k1 : ∀ a, wr.cell? a = w.cell? a := fun a => by rw [hwr]; rfl
      by_cases hlt : j < n
      · have c1 : wr.cell? ⟨p, o + j, none⟩ = some (.int .i64 (l.getD j 0)) := (k1 _).trans (HA.out j hlt)
        have c2 : wr.cell? ⟨q, o' + j, none⟩ = some (.int .i64 (l.getD j 0)) := (k1 _).trans (HB.out j hlt)
        clear hwr k1
        have hji : (j : Int) < (n : Int) := by omega
        generalize l.getD j 0 = x at *
        go_wp2_with fail
        go_quiet (fail)
        go_wp2_with fail
        go_roundw
        case rel => obtain ⟨k', e⟩ := HW.out; exact ⟨j + 1, _, by omega, by go_num, by rw [e]; exact drewN_two _ _ _⟩
        case measure => simp [intOf]; omega
      · have hji : ¬ (j : Int) < (n : Int) := by omega
        clear hwr k1
        go_wp2_with fail
        go_ret
        exact ⟨rfl, HW.out⟩

end Go.Proofs.Ytjbpfbgemidleaa

namespace Go.Proofs.Ytjbpfbgemidleaa
open Go.RowKit

abbrev tN : TypeId := 3

set_option maxRecDepth 100000 in
set_option maxHeartbeats 800000 in
theorem l_mark (w : World) (g n cap : Nat) (c : Array Value) (v : Int) (h : At w g c tN) (hs : c.size = cap) (_hn : n ≤ cap) (hm : cap ≤ 1073741824) (hv0 : 0 ≤ v) (hv1 : v ≤ 4398046511104) :
    Calls Try.prog 37 #[.slice (some ⟨g, 0, none⟩) n cap, .int .i64 v] w fun e w' => e = .returned (.tuple #[]) ∧ Below g w w' ∧ ∃ c', At w' g c' tN ∧ c'.size = cap ∧ ∀ i, i < cap → c'[i]? = some (.int .i64 (v + i)) := by
  have HA : Hid (At w g c tN) := h
  have HS : Hid (c.size = cap) := hs
  have hg := h.lt
  clear h hs
  go_enter Try.func37, Try.ntmps37
  go_wp2_with fail
  go_loopw [5] (fun i wr => ∃ (j : Nat) (c' : Array Value), j ≤ cap ∧ i = .int .i64 j ∧ At wr g c' tN ∧ c'.size = cap ∧ (∀ i, i < j → c'[i]? = some (.int .i64 (v + i))) ∧ Below g w wr) (fun i _ => cap - (intOf i).toNat)
  case atStart => exact ⟨0, c, Nat.zero_le _, rfl, HA.out, HS.out, fun i hi => absurd hi (by omega), Below.refl _ _⟩
  case round =>
    obtain ⟨j, c', hj, rfl, hat, hsz, hall, hbel⟩ := hrel
    have HA' : Hid (At wr g c' tN) := hat
    have HS' : Hid (c'.size = cap) := hsz
    have HL : Hid (∀ i, i < j → c'[i]? = some (.int .i64 (v + i))) := hall
    have HB : Hid (Below g w wr) := hbel
    by_cases hlt : j < cap
    · have hji : (j : Int) < (cap : Int) := by omega
      obtain ⟨x, c1⟩ : ∃ x, wr.cell? ⟨g, j, none⟩ = some x := ⟨c'[j]'(by omega), by rw [hat.cell]; simp [hsz, hlt]⟩
      have f1 : wr.frozen? ⟨g, j, none⟩ = false := hat.free j
      clear hat hsz hall hbel
      go_wp2_with fail
      go_roundw
      case rel =>
        refine ⟨j + 1, _, by omega, by go_num, HA'.out.put j (.int .i64 (v + j)), by simp [HS'.out], fun i hi => ?_, HB.out.setCell (Nat.le_refl _) _⟩
        have := HS'.out
        by_cases e : i = j
        · subst e; simp [this, hlt]
        · simp [Ne.symm e]; exact HL.out i (by omega)
      case measure => simp [intOf]; omega
    · have hji : ¬ (j : Int) < (cap : Int) := by omega
      have hje : j = cap := by omega
      clear hat hsz hall hbel
      go_wp2_with fail
      go_end0
      exact ⟨rfl, HB.out, c', HA'.out, HS'.out, by rw [← hje]; exact HL.out⟩

set_option maxRecDepth 100000 in
set_option maxHeartbeats 800000 in
theorem l_marked (w : World) (g n cap : Nat) (v : Int) (_hg : g < w.heap.size) (_hn : n ≤ cap) (hm : cap ≤ 1073741824) (hv0 : 0 ≤ v) (hv1 : v ≤ 4398046511104) (h : ∀ i : Nat, i < cap → w.cell? ⟨g, i, none⟩ = some (.int .i64 (v + i))) :
    Calls Try.prog 38 #[.slice (some ⟨g, 0, none⟩) n cap, .int .i64 v] w fun e w' => e = .returned (.bool true) ∧ w' = w := by
  have HA : Hid (∀ i : Nat, i < cap → w.cell? ⟨g, i, none⟩ = some (.int .i64 (v + i))) := h
  clear h
  go_enter Try.func38, Try.ntmps38
  go_wp2_with fail
  go_loop [6] (fun i => ∃ (j : Nat), j ≤ cap ∧ i = .int .i64 j) (fun i => cap - (intOf i).toNat)
  case atStart => exact ⟨0, Nat.zero_le _, rfl⟩
  case round =>
    obtain ⟨j, hj, rfl⟩ := hrel
    by_cases hlt : j < cap
    · have hji : (j : Int) < (cap : Int) := by omega
      have c1 := HA.out j hlt
      go_wp2_with fail
      go_round
      case rel => exact ⟨j + 1, by omega, by go_num⟩
      case measure => simp [intOf]; omega
    · have hji : ¬ (j : Int) < (cap : Int) := by omega
      go_wp2_with fail
      go_ret
      exact ⟨rfl, rfl⟩

set_option maxRecDepth 100000 in
set_option maxHeartbeats 800000 in
theorem l_mine (w : World) (g n cap : Nat) (c : Array Value) (h : At w g c tN) (hs : c.size = cap) (hn : n ≤ cap) (hm : cap ≤ 1073741824) :
    Calls Try.prog 24 #[.slice (some ⟨g, 0, none⟩) n cap] w fun e w' => e = .returned (.bool true) ∧ Below g w w' := by
  have h1 := l_mark w g n cap c 1099511627776 h hs hn hm (by omega) (by omega)
  clear h hs
  go_enter Try.func24, Try.ntmps24
  go_wp2_with fail
  refine h1.mono ?_
  rintro e w1 ⟨rfl, hb, c', hat, hsz, hall⟩
  have h2 := l_marked w1 g n cap 1099511627776 hat.lt hn hm (by omega) (by omega) (fun i hi => by rw [hat.cell]; exact hall i hi)
  clear hat hsz hall h1
  go_wp2_with fail
  refine h2.mono ?_
  rintro e w2 ⟨rfl, rfl⟩
  go_wp2_with fail
  go_ret
  exact ⟨rfl, hb⟩

set_option maxRecDepth 100000 in
set_option maxHeartbeats 800000 in
theorem l_mine_nil (w : World) : Calls Try.prog 24 #[.slice none 0 0] w fun e w' => e = .returned (.bool true) ∧ w' = w := by
  have h1 : ∀ w, Calls Try.prog 37 #[.slice none 0 0, .int .i64 1099511627776] w fun e w' => e = .returned (.tuple #[]) ∧ w' = w := by
    intro w
    go_enter Try.func37, Try.ntmps37
    go_wp2_with fail
    go_loop [5] (fun i => i = .int .i64 0) (fun _ => 0)
    case atStart => rfl
    case round =>
      subst hrel
      go_wp2_with fail
      go_end0
      exact ⟨rfl, rfl⟩
  have h2 : ∀ w, Calls Try.prog 38 #[.slice none 0 0, .int .i64 1099511627776] w fun e w' => e = .returned (.bool true) ∧ w' = w := by
    intro w
    go_enter Try.func38, Try.ntmps38
    go_wp2_with fail
    go_loop [6] (fun i => i = .int .i64 0) (fun _ => 0)
    case atStart => rfl
    case round =>
      subst hrel
      go_wp2_with fail
      go_ret
      exact ⟨rfl, rfl⟩
  go_enter Try.func24, Try.ntmps24
  go_wp2_with fail
  refine (h1 _).mono ?_
  rintro e w1 ⟨rfl, rfl⟩
  go_wp2_with fail
  refine (h2 _).mono ?_
  rintro e w1 ⟨rfl, rfl⟩
  go_wp2_with fail
  go_ret
  exact ⟨rfl, rfl⟩

end Go.Proofs.Ytjbpfbgemidleaa

namespace Go.Proofs.Ytjbpfbgemidleaa
open Go.RowKit

/-- Of the blocks that were there nothing but m has turned; new ones may have come. -/
structure Onl (m : Nat) (w w' : World) : Prop where
  os : w'.os = w.os
  tape : w'.tape = w.tape
  output : w'.output = w.output
  size : w.heap.size ≤ w'.heap.size
  block : ∀ k, k < w.heap.size → k ≠ m → w'.heap[k]? = w.heap[k]?

variable {m : Nat} {a b c w w' : World}
theorem Onl.refl (m : Nat) (w : World) : Onl m w w := ⟨rfl, rfl, rfl, Nat.le_refl _, fun _ _ _ => rfl⟩
theorem Onl.trans (h : Onl m a b) (k : Onl m b c) : Onl m a c :=
  ⟨k.os.trans h.os, k.tape.trans h.tape, k.output.trans h.output, Nat.le_trans h.size k.size, fun i hi hn => (k.block i (Nat.lt_of_lt_of_le hi h.size) hn).trans (h.block i hi hn)⟩
theorem Onl.of (h : Below w.heap.size w w') (m : Nat) : Onl m w w' := ⟨h.os, h.tape, h.output, h.size, fun k hk _ => h.block k hk⟩
/-- A block of the call's own is written. -/
theorem Onl.own (h : Onl m a b) {q : Nat} (hq : q = m ∨ a.heap.size ≤ q) (o : Nat) (u : Value) : Onl m a (b.setCell ⟨q, o, none⟩ u) :=
  ⟨h.os, h.tape, h.output, by have := h.size; simpa [World.setCell] using this, fun k hk hn => (Below.heap_setCell _ _ _ _ (by show k ≠ q; omega)).trans (h.block k hk hn)⟩
theorem Onl.setCell (h : Onl m a b) (o : Nat) (u : Value) : Onl m a (b.setCell ⟨m, o, none⟩ u) := h.own (.inl rfl) o u
theorem Onl.alloc (h : Onl m a b) (o : Obj) : Onl m a (b.alloc o) := h.trans (Onl.of ((Below.refl _ _).alloc (Nat.le_refl _) _) m)
theorem Onl.drewN (h : Onl m a b) (n : Nat) : Onl m a (b.drewN n) := ⟨h.os, h.tape, h.output, h.size, h.block⟩
theorem Onl.below (h : Onl m a b) {B : Nat} (h1 : B ≤ m) (h2 : B ≤ a.heap.size) : Below B a b := ⟨h.os, h.tape, h.output, h.size, fun k hk => h.block k (by omega) (by omega)⟩
theorem Onl.at_ {q : Nat} {c : Array Value} {t : TypeId} (h : Onl m w w') (ha : At w q c t) (hn : q ≠ m) : At w' q c t := ha.same (h.block q ha.lt hn)
theorem Onl.cell (h : Onl m w w') {q : Nat} (hq : q < w.heap.size) (hn : q ≠ m) (i : Nat) : w'.cell? ⟨q, i, none⟩ = w.cell? ⟨q, i, none⟩ := World.cell?_of_block (a := ⟨q, i, none⟩) (h.block q hq hn)
theorem At.keep {w w' : World} {B b : Nat} {c : Array Value} {t : TypeId} (h : At w b c t) (hb : Below B w w') (hlt : b < B) : At w' b c t := h.same (hb.block b hlt)
theorem At.allocH {b : Nat} {c : Array Value} {t : TypeId} (h : At w b c t) (o : Obj) : At (w.alloc o) b c t := h.keep ((Below.refl _ _).alloc (Nat.le_refl _) _) h.lt
theorem At.new (w : World) (c : Array Value) (t : TypeId) : At (w.alloc (.cells c t)) w.heap.size c t := by
  show (w.heap.push _)[w.heap.size]? = _
  simp

end Go.Proofs.Ytjbpfbgemidleaa

namespace Go.Proofs.Ytjbpfbgemidleaa
open Go.RowKit
variable {w : World} {r : Nat} {s : ByteArray} {d : Nat × Bool} {vf : Value}

theorem pk_lt {c : Int} (h : pk s d = c) (hc : c ≠ 0) : d.1 < s.size ∧ d.2 = false := by
  unfold pk at h
  split at h
  · exact absurd h.symm hc
  · rename_i hb
    refine ⟨?_, by simpa using hb⟩
    rcases Nat.lt_or_ge d.1 s.size with h' | h'
    · exact h'
    · rw [List.getD_eq_getElem?_getD, List.getElem?_eq_none (by rw [bytesOf_len]; omega)] at h
      exact absurd h.symm hc

def adv (d : Nat × Bool) : Nat × Bool := (d.1 + 1, d.2)
def stk (d : Nat × Bool) : Nat × Bool := (d.1, true)

def rSign (s : ByteArray) (d : Nat × Bool) : Int × (Nat × Bool) := if pk s d = 45 then (-1, adv d) else (1, d)
def rVar (s : ByteArray) (d : Nat × Bool) (not : Int) : Int × (Nat × Bool) := if varOf (pk s d) = -1 ∨ varOf (pk s d) = not then (0, stk d) else (varOf (pk s d), adv d)
def rNum (s : ByteArray) (d : Nat × Bool) (sg : Int) : Int × (Nat × Bool) :=
  if pk s d = 48 ∧ 0 < sg then (0, adv d)
  else if pk s d < 49 ∨ 57 < pk s d then (0, stk d)
  else if 48 ≤ pk s (adv d) ∧ pk s (adv d) ≤ 57 then (sg * (10 * (pk s d - 48) + (pk s (adv d) - 48)), adv (adv d))
  else (sg * (pk s d - 48), adv d)
def rSummand (s : ByteArray) (d : Nat × Bool) : Int × (Nat × Bool) :=
  if pk s d = 43 then rNum s (adv d) 1
  else if pk s d = 45 then (-(rNum s (adv d) 1).1, (rNum s (adv d) 1).2)
  else (0, d)

theorem rSign_le (hd : d.1 ≤ s.size) : (rSign s d).2.1 ≤ s.size := by
  unfold rSign
  split
  · rename_i h; have := (pk_lt h (by decide)).1; show d.1 + 1 ≤ _; omega
  · exact hd
theorem varOf_ne {c : Int} (h : varOf c ≠ -1) : 97 ≤ c ∧ c ≤ 100 := by
  unfold varOf at h
  split at h
  · assumption
  · exact absurd rfl h
theorem rVar_le (hd : d.1 ≤ s.size) (x : Int) : (rVar s d x).2.1 ≤ s.size := by
  unfold rVar
  split
  · exact hd
  · rename_i h
    have h1 := varOf_ne (fun e => h (.inl e))
    have := (pk_lt (s := s) (d := d) rfl (by omega)).1
    show d.1 + 1 ≤ _; omega
theorem rVar_range (x : Int) : 0 ≤ (rVar s d x).1 ∧ (rVar s d x).1 ≤ 3 := by
  unfold rVar
  split
  · exact ⟨by simp, by simp⟩
  · rename_i h
    have h1 := varOf_ne (fun e => h (.inl e))
    show 0 ≤ varOf _ ∧ varOf _ ≤ 3
    unfold varOf
    rw [if_pos h1]; omega
theorem rNum_le (hd : d.1 ≤ s.size) (x : Int) : (rNum s d x).2.1 ≤ s.size := by
  unfold rNum
  split
  · rename_i h; have := (pk_lt h.1 (by decide)).1; show d.1 + 1 ≤ _; omega
  split
  · exact hd
  rename_i h1
  have h2 := (pk_lt (s := s) (d := d) rfl (by omega)).1
  split
  · rename_i h3
    have := (pk_lt (s := s) (d := adv d) rfl (by omega)).1
    show (adv d).1 + 1 ≤ _; omega
  · show d.1 + 1 ≤ _; omega
theorem rNum_range (x : Int) (hx : x = 1 ∨ x = -1) : -99 ≤ (rNum s d x).1 ∧ (rNum s d x).1 ≤ 99 := by
  have p1 := pk_range s d
  have p2 := pk_range s (adv d)
  unfold rNum
  split
  · exact ⟨by simp, by simp⟩
  split
  · exact ⟨by simp, by simp⟩
  split
  · show -99 ≤ x * _ ∧ x * _ ≤ 99
    rcases hx with rfl | rfl <;> omega
  · show -99 ≤ x * _ ∧ x * _ ≤ 99
    rcases hx with rfl | rfl <;> omega

set_option maxRecDepth 100000 in
set_option maxHeartbeats 800000 in
theorem d_readSign (h : Dat w r s d vf) (hs : s.size ≤ 160) (hd : d.1 ≤ s.size) :
    Calls Try.prog 68 #[.pointer (some ⟨r, 0, none⟩)] w (DPost w r s vf (rSign s d).2 (.int .i64 (rSign s d).1)) := by
  have hp := d_take h hs (by omega) 45
  clear h
  by_cases hc : pk s d = 45
  · have HT : Hid (rSign s d = (-1, adv d)) := if_pos hc
    have hk : tk s d 45 = (true, adv d) := if_pos hc
    rw [hk] at hp
    clear hc hk
    go_enter Try.func68, Try.ntmps68
    go_wp2_with (go_at_call 67; refine hp.mono ?_; rintro e w' ⟨rfl, hD, hT⟩)
    go_ret
    rw [HT.out]
    exact ⟨rfl, hD, hT⟩
  · have HT : Hid (rSign s d = (1, d)) := if_neg hc
    have hk : tk s d 45 = (false, d) := if_neg hc
    rw [hk] at hp
    clear hc hk
    go_enter Try.func68, Try.ntmps68
    go_wp2_with (go_at_call 67; refine hp.mono ?_; rintro e w' ⟨rfl, hD, hT⟩)
    go_ret
    rw [HT.out]
    exact ⟨rfl, hD, hT⟩

set_option maxHeartbeats 400000 in
theorem d_variableOf (c : Int) (w : World) (h0 : 0 ≤ c) (h1 : c ≤ 255) :
    Calls Try.prog 69 #[.int .u8 c] w fun e w' => e = .returned (.int .i64 (varOf c)) ∧ w' = w := by
  unfold varOf
  by_cases ha : 97 ≤ c
  · by_cases hb : c ≤ 100
    · go_enter Try.func69, Try.ntmps69
      go_wp2
      go_ret
      exact ⟨rfl, rfl⟩
    · go_enter Try.func69, Try.ntmps69
      go_wp2
      go_ret
      exact ⟨rfl, rfl⟩
  · go_enter Try.func69, Try.ntmps69
    go_wp2
    go_ret
    exact ⟨rfl, rfl⟩

set_option maxRecDepth 100000 in
set_option maxHeartbeats 800000 in
theorem d_readVariable (h : Dat w r s d vf) (hs : s.size ≤ 160) (hd : d.1 ≤ s.size) (x : Int) :
    Calls Try.prog 66 #[.pointer (some ⟨r, 0, none⟩), .int .i64 x] w (DPost w r s vf (rVar s d x).2 (.int .i64 (rVar s d x).1)) := by
  have hp := d_peek h hs (by omega)
  obtain ⟨p0, p1⟩ := pk_range s d
  obtain ⟨c0, c1, c2, c3, cf⟩ := h.cells
  have HD : Hid (Dat _ _ _ _ _) := h
  clear h
  by_cases hv : varOf (pk s d) = -1
  · have HT : Hid (rVar s d x = (0, stk d)) := if_pos (.inl hv)
    have hvo := fun w => d_variableOf (pk s d) w p0 p1
    rw [hv] at hvo
    clear hv
    go_enter Try.func66, Try.ntmps66
    go_wp2_with (first | (go_at_call 39; refine hp.mono ?_; rintro e w' ⟨rfl, k, rfl⟩) | (go_at_call 69; refine (hvo _).mono ?_; rintro e w' ⟨rfl, rfl⟩))
    go_ret
    rw [HT.out]
    exact ⟨rfl, (HD.out.drewN k).stick, ((Tch.refl _ _).drewN _).setCell _ _⟩
  · have bv : (varOf (pk s d) == -1) = false := by simpa using hv
    have hvo := fun w => d_variableOf (pk s d) w p0 p1
    by_cases hx : varOf (pk s d) = x
    · have HT : Hid (rVar s d x = (0, stk d)) := if_pos (.inr hx)
      have bx : (varOf (pk s d) == x) = true := by simpa using hx
      clear hv hx
      generalize varOf (pk s d) = v at *
      go_enter Try.func66, Try.ntmps66
      go_wp2_with (first | (go_at_call 39; refine hp.mono ?_; rintro e w' ⟨rfl, k, rfl⟩) | (go_at_call 69; refine (hvo _).mono ?_; rintro e w' ⟨rfl, rfl⟩))
      go_ret
      rw [HT.out]
      exact ⟨rfl, (HD.out.drewN k).stick, ((Tch.refl _ _).drewN _).setCell _ _⟩
    · have HT : Hid (rVar s d x = (varOf (pk s d), adv d)) := if_neg (fun e => e.elim hv hx)
      have bx : (varOf (pk s d) == x) = false := by simpa using hx
      clear hv hx
      generalize varOf (pk s d) = v at *
      go_enter Try.func66, Try.ntmps66
      go_wp2_with (first | (go_at_call 39; refine hp.mono ?_; rintro e w' ⟨rfl, k, rfl⟩) | (go_at_call 69; refine (hvo _).mono ?_; rintro e w' ⟨rfl, rfl⟩))
      go_ret
      rw [HT.out]
      exact ⟨rfl, (HD.out.drewN k).step, ((Tch.refl _ _).drewN _).setCell _ _⟩

end Go.Proofs.Ytjbpfbgemidleaa

namespace Go.Proofs.Ytjbpfbgemidleaa
open Go.RowKit
variable {w : World} {r : Nat} {s : ByteArray} {d : Nat × Bool} {vf : Value}

theorem Dat.steps (h : Dat w r s d vf) : Dat (w.setCell ⟨r, 1, none⟩ (.int .i64 ((d.1 : Int) + 1))) r s (adv d) vf := h.step

set_option maxRecDepth 100000 in
set_option maxHeartbeats 1600000 in
theorem d_readNumber (h : Dat w r s d vf) (hs : s.size ≤ 160) (hd : d.1 ≤ s.size) (x : Int) (hx : x = 1 ∨ x = -1) :
    Calls Try.prog 70 #[.pointer (some ⟨r, 0, none⟩), .int .i64 x] w (DPost w r s vf (rNum s d x).2 (.int .i64 (rNum s d x).1)) := by
  have hp := d_peek h hs (by omega)
  obtain ⟨p0, p1⟩ := pk_range s d
  obtain ⟨q0, q1⟩ := pk_range s (adv d)
  obtain ⟨c0, c1, c2, c3, cf⟩ := h.cells
  have x0 : -1 ≤ x := by omega
  have x1 : x ≤ 1 := by omega
  have HD : Hid (Dat _ _ _ _ _) := h
  clear h
  by_cases hz : pk s d = 48 ∧ 0 < x
  · have HT : Hid (rNum s d x = (0, adv d)) := if_pos hz
    obtain ⟨hz, hx0⟩ := hz
    rw [hz] at hp
    clear hz hx
    go_enter Try.func70, Try.ntmps70
    go_wp2_with (go_at_call 39; refine hp.mono ?_; rintro e w' ⟨rfl, k, rfl⟩)
    go_ret
    rw [HT.out]
    exact ⟨rfl, (HD.out.drewN k).step, ((Tch.refl _ _).drewN _).setCell _ _⟩
  by_cases hn : pk s d < 49 ∨ 57 < pk s d
  · have HT : Hid (rNum s d x = (0, stk d)) := by show rNum s d x = _; unfold rNum; rw [if_neg hz, if_pos hn]
    by_cases h48 : pk s d = 48
    · have hx1 : x = -1 := by
        rcases hx with e | e
        · exact absurd ⟨h48, by omega⟩ hz
        · exact e
      subst hx1
      rw [h48] at hp
      clear hz hn h48 hx
      go_enter Try.func70, Try.ntmps70
      go_wp2_with (go_at_call 39; refine hp.mono ?_; rintro e w' ⟨rfl, k, rfl⟩)
      go_ret
      rw [HT.out]
      exact ⟨rfl, (HD.out.drewN k).stick, ((Tch.refl _ _).drewN _).setCell _ _⟩
    · have b48 : (pk s d == 48) = false := by simpa using h48
      clear hz h48 hx
      generalize pk s d = c at *
      rcases hn with hn | hn
      · go_enter Try.func70, Try.ntmps70
        go_wp2_with (go_at_call 39; refine hp.mono ?_; rintro e w' ⟨rfl, k, rfl⟩)
        go_ret
        rw [HT.out]
        exact ⟨rfl, (HD.out.drewN k).stick, ((Tch.refl _ _).drewN _).setCell _ _⟩
      · go_enter Try.func70, Try.ntmps70
        go_wp2_with (go_at_call 39; refine hp.mono ?_; rintro e w' ⟨rfl, k, rfl⟩)
        go_ret
        rw [HT.out]
        exact ⟨rfl, (HD.out.drewN k).stick, ((Tch.refl _ _).drewN _).setCell _ _⟩
  · have n49 : 49 ≤ pk s d := by omega
    have n57 : pk s d ≤ 57 := by omega
    have b48 : (pk s d == 48) = false := by simp; omega
    have hlt := (pk_lt (s := s) (d := d) rfl (by omega)).1
    by_cases h2 : 48 ≤ pk s (adv d) ∧ pk s (adv d) ≤ 57
    · have HT : Hid (rNum s d x = (x * (10 * (pk s d - 48) + (pk s (adv d) - 48)), adv (adv d))) := by show rNum s d x = _; unfold rNum; rw [if_neg hz, if_neg hn, if_pos h2]
      obtain ⟨m0, m1⟩ := h2
      have HW : Hid (_ = _) := (show wrap64 (x * (10 * (pk s d - 48) + (pk s (adv d) - 48))) = x * (10 * (pk s d - 48) + (pk s (adv d) - 48)) from mul_wrap _ _ x0 x1 (by omega) (by omega))
      have hp2 := fun k => d_peek (d := adv d) (HD.out.drewN k).steps hs (by show d.1 + 1 ≤ 160; omega)
      clear hz hn hx
      generalize pk s (adv d) = c2 at *
      generalize pk s d = c at *
      go_enter Try.func70, Try.ntmps70
      go_wp2_with fail
      refine hp.mono ?_
      rintro e w' ⟨rfl, k, rfl⟩
      go_wp2_with fail
      refine (hp2 k).mono ?_
      rintro e w' ⟨rfl, k2, rfl⟩
      go_wp2
      go_ret
      rw [HT.out]
      exact ⟨congrArg (fun z => Ending.returned (Value.int IntKind.i64 z)) HW.out, (((HD.out.drewN k).steps).drewN k2).step, ((((Tch.refl _ _).drewN _).setCell _ _).drewN _).setCell _ _⟩
    · have HT : Hid (rNum s d x = (x * (pk s d - 48), adv d)) := by show rNum s d x = _; unfold rNum; rw [if_neg hz, if_neg hn, if_neg h2]
      have HW : Hid (_ = _) := (show wrap64 (x * (pk s d - 48)) = x * (pk s d - 48) from mul_wrap _ _ x0 x1 (by omega) (by omega))
      have hp2 := fun k => d_peek (d := adv d) (HD.out.drewN k).steps hs (by show d.1 + 1 ≤ 160; omega)
      clear hz hn hx
      generalize pk s (adv d) = c2 at *
      generalize pk s d = c at *
      by_cases m0 : 48 ≤ c2
      · have m1 : 57 < c2 := by omega
        go_enter Try.func70, Try.ntmps70
        go_wp2_with fail
        refine hp.mono ?_
        rintro e w' ⟨rfl, k, rfl⟩
        go_wp2_with fail
        refine (hp2 k).mono ?_
        rintro e w' ⟨rfl, k2, rfl⟩
        go_wp2
        go_ret
        rw [HT.out]
        exact ⟨congrArg (fun z => Ending.returned (Value.int IntKind.i64 z)) HW.out, ((HD.out.drewN k).steps).drewN k2, (((Tch.refl _ _).drewN _).setCell _ _).drewN _⟩
      · go_enter Try.func70, Try.ntmps70
        go_wp2_with fail
        refine hp.mono ?_
        rintro e w' ⟨rfl, k, rfl⟩
        go_wp2_with fail
        refine (hp2 k).mono ?_
        rintro e w' ⟨rfl, k2, rfl⟩
        go_wp2
        go_ret
        rw [HT.out]
        exact ⟨congrArg (fun z => Ending.returned (Value.int IntKind.i64 z)) HW.out, ((HD.out.drewN k).steps).drewN k2, (((Tch.refl _ _).drewN _).setCell _ _).drewN _⟩

end Go.Proofs.Ytjbpfbgemidleaa

namespace Go.Proofs.Ytjbpfbgemidleaa
open Go.RowKit
variable {w : World} {r q : Nat} {s : ByteArray} {d : Nat × Bool} {vf : Value}

/-- A statement of the program's. -/
structure Ds where
  kind : Int
  target : Int
  any : Bool
  sg : List Int
  num : Int
  parent : Int
  block : Int

/-- The sign of a variable. -/
def sgAt (l : List Int) (i : Nat) : Int := l.getD i 0
def dsCells (x : Ds) : Array Value := #[.int .i64 x.kind, .int .i64 x.target, .bool x.any, .int .i64 (sgAt x.sg 0), .int .i64 (sgAt x.sg 1), .int .i64 (sgAt x.sg 2), .int .i64 (sgAt x.sg 3), .int .i64 x.num, .int .i64 x.parent, .int .i64 x.block]
def DsAt (w : World) (q : Nat) (x : Ds) : Prop := At w q (dsCells x) tDs

structure Tch2 (r q : Nat) (w w' : World) : Prop where
  os : w'.os = w.os
  tape : w'.tape = w.tape
  output : w'.output = w.output
  size : w'.heap.size = w.heap.size
  block : ∀ k, k ≠ r → k ≠ q → w'.heap[k]? = w.heap[k]?
theorem Tch2.refl (r q : Nat) (w : World) : Tch2 r q w w := ⟨rfl, rfl, rfl, rfl, fun _ _ _ => rfl⟩
theorem Tch2.trans {a b c : World} (h : Tch2 r q a b) (k : Tch2 r q b c) : Tch2 r q a c := ⟨k.os.trans h.os, k.tape.trans h.tape, k.output.trans h.output, k.size.trans h.size, fun i h1 h2 => (k.block i h1 h2).trans (h.block i h1 h2)⟩
theorem Tch.two {a b : World} (h : Tch r a b) (q : Nat) : Tch2 r q a b := ⟨h.os, h.tape, h.output, h.size, fun i h1 _ => h.block i h1⟩
theorem Tch2.setCell {a w : World} (h : Tch2 r q a w) (o : Nat) (u : Value) : Tch2 r q a (w.setCell ⟨q, o, none⟩ u) :=
  h.trans ⟨rfl, rfl, rfl, by simp [World.setCell], fun k _ hk => Below.heap_setCell _ _ _ _ hk⟩
theorem Tch2.below {B : Nat} {w w' : World} (h : Tch2 r q w w') (hB : B ≤ r) (hq : B ≤ q) : Below B w w' := ⟨h.os, h.tape, h.output, by have := h.size; omega, fun k hk => h.block k (by omega) (by omega)⟩
theorem Tch2.drewN {a w : World} (h : Tch2 r q a w) (n : Nat) : Tch2 r q a (w.drewN n) := ⟨h.os, h.tape, h.output, h.size, h.block⟩

theorem DsAt.cells {x : Ds} (h : DsAt w q x) : w.cell? ⟨q, 0, none⟩ = some (.int .i64 x.kind) ∧ w.cell? ⟨q, 1, none⟩ = some (.int .i64 x.target) ∧ w.cell? ⟨q, 2, none⟩ = some (.bool x.any) ∧ w.cell? ⟨q, 3, none⟩ = some (.int .i64 (sgAt x.sg 0)) ∧ w.cell? ⟨q, 4, none⟩ = some (.int .i64 (sgAt x.sg 1)) ∧ w.cell? ⟨q, 5, none⟩ = some (.int .i64 (sgAt x.sg 2)) ∧ w.cell? ⟨q, 6, none⟩ = some (.int .i64 (sgAt x.sg 3)) ∧ w.cell? ⟨q, 7, none⟩ = some (.int .i64 x.num) ∧ w.cell? ⟨q, 8, none⟩ = some (.int .i64 x.parent) ∧ w.cell? ⟨q, 9, none⟩ = some (.int .i64 x.block) ∧ ∀ i, w.frozen? ⟨q, i, none⟩ = false :=
  ⟨h.cell 0, h.cell 1, h.cell 2, h.cell 3, h.cell 4, h.cell 5, h.cell 6, h.cell 7, h.cell 8, h.cell 9, h.free⟩
theorem DsAt.drewN {x : Ds} (h : DsAt w q x) (k : Nat) : DsAt (w.drewN k) q x := h
theorem DsAt.setAny {x : Ds} (h : DsAt w q x) (b : Bool) : DsAt (w.setCell ⟨q, 2, none⟩ (.bool b)) q { x with any := b } := At.put h 2 (.bool b)
theorem DsAt.setNum {x : Ds} (h : DsAt w q x) (n : Int) : DsAt (w.setCell ⟨q, 7, none⟩ (.int .i64 n)) q { x with num := n } := At.put h 7 (.int .i64 n)
theorem DsAt.setKind {x : Ds} (h : DsAt w q x) (n : Int) : DsAt (w.setCell ⟨q, 0, none⟩ (.int .i64 n)) q { x with kind := n } := At.put h 0 (.int .i64 n)
theorem DsAt.setTarget {x : Ds} (h : DsAt w q x) (n : Int) : DsAt (w.setCell ⟨q, 1, none⟩ (.int .i64 n)) q { x with target := n } := At.put h 1 (.int .i64 n)
theorem DsAt.setSg {x : Ds} (h : DsAt w q x) (hl : x.sg.length = 4) (v : Nat) (hv : v < 4) (n : Int) : DsAt (w.setCell ⟨q, 3 + v, none⟩ (.int .i64 n)) q { x with sg := x.sg.set v n } := by
  have := At.put h (3 + v) (.int .i64 n)
  unfold DsAt
  have e : dsCells { x with sg := x.sg.set v n } = (dsCells x).setIfInBounds (3 + v) (.int .i64 n) := by
    obtain ⟨kd, tg, an, sg, nm, pa, bl⟩ := x
    match sg, hl with
    | [a, b, c, e], _ =>
      match v, hv with
      | 0, _ => rfl
      | 1, _ => rfl
      | 2, _ => rfl
      | 3, _ => rfl
  rw [e]; exact this
theorem DsAt.ne {x : Ds} (h : DsAt w q x) (k : Dat w r s d vf) : q ≠ r := At.ne h k (by decide)
theorem DsAt.keep {x : Ds} {w' : World} (h : DsAt w q x) (t : Tch r w w') (hn : q ≠ r) : DsAt w' q x := t.at_ h hn
theorem Dat.keepq {u : Value} (h : Dat w r s d vf) (o : Nat) (hn : q ≠ r) : Dat (w.setCell ⟨q, o, none⟩ u) r s d vf := At.other h o u (fun e => hn e.symm)

set_option maxRecDepth 100000 in
set_option maxHeartbeats 800000 in
theorem d_setSign {x : Ds} (h : DsAt w q x) (_hl : x.sg.length = 4) (v : Int) (hv0 : 0 ≤ v) (hv3 : v ≤ 3) (n : Int) :
    Calls Try.prog 71 #[.pointer (some ⟨q, 0, none⟩), .int .i64 v, .int .i64 n] w fun e w' => e = .returned (.tuple #[]) ∧ w' = w.setCell ⟨q, 3 + v.toNat, none⟩ (.int .i64 n) := by
  obtain ⟨c0, c1, c2, c3, c4, c5, c6, c7, c8, c9, cf⟩ := h.cells
  clear h
  rcases (show v = 0 ∨ v = 1 ∨ v = 2 ∨ v = 3 by omega) with rfl | rfl | rfl | rfl
  all_goals
    go_enter Try.func71, Try.ntmps71
    go_wp2
    go_end0
    exact ⟨rfl, rfl⟩

set_option maxRecDepth 100000 in
set_option maxHeartbeats 800000 in
theorem d_readSummand (h : Dat w r s d vf) (hs : s.size ≤ 160) (hd : d.1 ≤ s.size) :
    Calls Try.prog 72 #[.pointer (some ⟨r, 0, none⟩)] w (DPost w r s vf (rSummand s d).2 (.int .i64 (rSummand s d).1)) := by
  have hp := d_take h hs (by omega) 43
  have HD : Hid (Dat _ _ _ _ _) := h
  clear h
  by_cases hc : pk s d = 43
  · have HT : Hid (rSummand s d = rNum s (adv d) 1) := if_pos hc
    have hk : tk s d 43 = (true, adv d) := if_pos hc
    have hlt := (pk_lt hc (by decide)).1
    rw [hk] at hp
    clear hc hk
    go_enter Try.func72, Try.ntmps72
    go_wp2_with (go_at_call 67; refine hp.mono ?_; rintro e w' ⟨rfl, hD, hT⟩)
    refine (d_readNumber hD hs (by show d.1 + 1 ≤ s.size; omega) 1 (.inl rfl)).mono ?_
    rintro e w2 ⟨rfl, hD2, hT2⟩
    go_wp2
    go_ret
    rw [HT.out]
    exact ⟨rfl, hD2, hT.trans hT2⟩
  · have hk : tk s d 43 = (false, d) := if_neg hc
    rw [hk] at hp
    clear hk
    by_cases hm : pk s d = 45
    · have HT : Hid (rSummand s d = (-(rNum s (adv d) 1).1, (rNum s (adv d) 1).2)) := by show rSummand s d = _; unfold rSummand; rw [if_neg hc, if_pos hm]
      have hk2 : tk s d 45 = (true, adv d) := if_pos hm
      have hlt := (pk_lt hm (by decide)).1
      obtain ⟨g0, g1⟩ := rNum_range (s := s) (d := adv d) 1 (.inl rfl)
      have HK : Hid (_ = _) := hk2
      clear hc hm hk2
      go_enter Try.func72, Try.ntmps72
      go_wp2_with fail
      refine hp.mono ?_
      rintro e w' ⟨rfl, hD, hT⟩
      go_wp2_with fail
      have hq := d_take hD hs (by omega) 45
      rw [HK.out] at hq
      refine hq.mono ?_
      rintro e w2 ⟨rfl, hD2, hT2⟩
      go_wp2_with fail
      refine (d_readNumber hD2 hs (by show d.1 + 1 ≤ s.size; omega) 1 (.inl rfl)).mono ?_
      rintro e w3 ⟨rfl, hD3, hT3⟩
      go_wp2
      go_ret
      rw [HT.out]
      exact ⟨rfl, hD3, (hT.trans hT2).trans hT3⟩
    · have HT : Hid (rSummand s d = (0, d)) := by show rSummand s d = _; unfold rSummand; rw [if_neg hc, if_neg hm]
      have hk2 : tk s d 45 = (false, d) := if_neg hm
      have HK : Hid (_ = _) := hk2
      clear hc hm hk2
      go_enter Try.func72, Try.ntmps72
      go_wp2_with fail
      refine hp.mono ?_
      rintro e w' ⟨rfl, hD, hT⟩
      go_wp2_with fail
      have hq := d_take hD hs (by omega) 45
      rw [HK.out] at hq
      refine hq.mono ?_
      rintro e w2 ⟨rfl, hD2, hT2⟩
      go_wp2
      go_ret
      rw [HT.out]
      exact ⟨rfl, hD2, hT.trans hT2⟩

end Go.Proofs.Ytjbpfbgemidleaa

