import Derived.Test.YtffajooegiempaaJ9
import Derived.Laws.Rows
import Derived.Laws.Tables
import Derived.ProofKit
import Derived.OpenShut
import Derived.ChangeMaps5
/- The program's ways, plain. -/
namespace Go.Proofs.Ytffajooegiempaa

/-- The first statement of a block from a point on. -/
def firstGo (p b fr : Int) : List Ds → Nat → Int
  | [], _ => -1
  | x :: l, i => if fr ≤ i ∧ x.parent = p ∧ x.block = b then (i : Int) else firstGo p b fr l (i + 1)
def firstP (F : List Ds) (p b fr : Int) : Int := firstGo p b fr F 0
def isRepP (F : List Ds) (p : Int) : Bool := decide (0 ≤ p) && decide (p < F.length) && decide ((F.getD p.toNat (newDs 0 0)).kind = 3)
def followP (F : List Ds) : Nat → Int → Int
  | 0, _ => F.length
  | n + 1, pt => if pt < 0 ∨ (F.length : Int) ≤ pt then F.length else
    if firstP F (F.getD pt.toNat (newDs 0 0)).parent (F.getD pt.toNat (newDs 0 0)).block (pt + 1) ≠ -1 then firstP F (F.getD pt.toNat (newDs 0 0)).parent (F.getD pt.toNat (newDs 0 0)).block (pt + 1)
    else if isRepP F (F.getD pt.toNat (newDs 0 0)).parent = true then (F.getD pt.toNat (newDs 0 0)).parent
    else followP F n (F.getD pt.toNat (newDs 0 0)).parent

def waysP (k : Int) : Int := if k = 2 ∨ k = 3 then 2 else 1
/-- Where a way leads, and the error. -/
def nextP (F : List Ds) (pt way : Int) : Int × Int :=
  if pt < 0 ∨ (F.length : Int) ≤ pt then (0, 2)
  else if way < 0 ∨ waysP (F.getD pt.toNat (newDs 0 0)).kind ≤ way then (0, 2)
  else if blocksOf (F.getD pt.toNat (newDs 0 0)).kind ≤ way then (followP F 21 pt, 0)
  else if firstP F pt way (pt + 1) ≠ -1 then (firstP F pt way (pt + 1), 0)
  else if (F.getD pt.toNat (newDs 0 0)).kind = 3 then (pt, 0)
  else (followP F 21 pt, 0)

theorem firstGo_drop {p b fr : Int} {F : List Ds} {k : Nat} (hk : k < F.length) : firstGo p b fr (F.drop k) k = if fr ≤ k ∧ (F.getD k (newDs 0 0)).parent = p ∧ (F.getD k (newDs 0 0)).block = b then (k : Int) else firstGo p b fr (F.drop (k + 1)) (k + 1) := by
  have e : F.drop k = F.getD k (newDs 0 0) :: F.drop (k + 1) := by
    rw [List.drop_eq_getElem_cons hk, List.getD_eq_getElem?_getD, List.getElem?_eq_getElem hk]; rfl
  rw [e, firstGo]

end Go.Proofs.Ytffajooegiempaa

namespace Go.Proofs.Ytffajooegiempaa
open Go.RowKit

/-- Of the blocks that were there nothing but m has turned; new ones may have come. -/
structure Onl (m : Nat) (w w' : World) : Prop where
  os : w'.os = w.os
  tape : w'.tape = w.tape
  output : w'.output = w.output
  size : w.heap.size ≤ w'.heap.size
  block : ∀ k, k < w.heap.size → k ≠ m → w'.heap[k]? = w.heap[k]?

variable {m : Nat} {a b c w w' : World}
theorem Onl.refl (m : Nat) (w : World) : Onl m w w := ⟨rfl, rfl, rfl, Nat.le_refl _, fun _ _ _ => rfl⟩
theorem Onl.trans (h : Onl m a b) (k : Onl m b c) : Onl m a c :=
  ⟨k.os.trans h.os, k.tape.trans h.tape, k.output.trans h.output, Nat.le_trans h.size k.size, fun i hi hn => (k.block i (Nat.lt_of_lt_of_le hi h.size) hn).trans (h.block i hi hn)⟩
theorem Onl.of (h : Below w.heap.size w w') (m : Nat) : Onl m w w' := ⟨h.os, h.tape, h.output, h.size, fun k hk _ => h.block k hk⟩
/-- A block of the call's own is written. -/
theorem Onl.own (h : Onl m a b) {q : Nat} (hq : q = m ∨ a.heap.size ≤ q) (o : Nat) (u : Value) : Onl m a (b.setCell ⟨q, o, none⟩ u) :=
  ⟨h.os, h.tape, h.output, by have := h.size; simpa [World.setCell] using this, fun k hk hn => (Below.heap_setCell _ _ _ _ (by show k ≠ q; omega)).trans (h.block k hk hn)⟩
theorem Onl.setCell (h : Onl m a b) (o : Nat) (u : Value) : Onl m a (b.setCell ⟨m, o, none⟩ u) := h.own (.inl rfl) o u
theorem Onl.alloc (h : Onl m a b) (o : Obj) : Onl m a (b.alloc o) := h.trans (Onl.of ((Below.refl _ _).alloc (Nat.le_refl _) _) m)
theorem Onl.drewN (h : Onl m a b) (n : Nat) : Onl m a (b.drewN n) := ⟨h.os, h.tape, h.output, h.size, h.block⟩
theorem Onl.below (h : Onl m a b) {B : Nat} (h1 : B ≤ m) (h2 : B ≤ a.heap.size) : Below B a b := ⟨h.os, h.tape, h.output, h.size, fun k hk => h.block k (by omega) (by omega)⟩
theorem Onl.at_ {q : Nat} {c : Array Value} {t : TypeId} (h : Onl m w w') (ha : At w q c t) (hn : q ≠ m) : At w' q c t := ha.same (h.block q ha.lt hn)
theorem Onl.cell (h : Onl m w w') {q : Nat} (hq : q < w.heap.size) (hn : q ≠ m) (i : Nat) : w'.cell? ⟨q, i, none⟩ = w.cell? ⟨q, i, none⟩ := World.cell?_of_block (a := ⟨q, i, none⟩) (h.block q hq hn)
theorem At.keep {w w' : World} {B b : Nat} {c : Array Value} {t : TypeId} (h : At w b c t) (hb : Below B w w') (hlt : b < B) : At w' b c t := h.same (hb.block b hlt)
theorem At.allocH {b : Nat} {c : Array Value} {t : TypeId} (h : At w b c t) (o : Obj) : At (w.alloc o) b c t := h.keep ((Below.refl _ _).alloc (Nat.le_refl _) _) h.lt
theorem At.new (w : World) (c : Array Value) (t : TypeId) : At (w.alloc (.cells c t)) w.heap.size c t := by
  show (w.heap.push _)[w.heap.size]? = _
  simp

end Go.Proofs.Ytffajooegiempaa

namespace Go.Proofs.Ytffajooegiempaa
open Go.RowKit
variable {w w' : World} {g cap b : Nat} {F : List Ds}

/-- A statement as a value. -/
def dsv (x : Ds) : Value := .agg #[.int .i64 x.kind, .int .i64 x.target, .bool x.any, .int .i64 (sgAt x.sg 0), .int .i64 (sgAt x.sg 1), .int .i64 (sgAt x.sg 2), .int .i64 (sgAt x.sg 3), .int .i64 x.num, .int .i64 x.parent, .int .i64 x.block]
theorem ds_loadVar {x : Ds} (h : At w b (dsCells x) tDs) : (loadVar tDs ⟨b, 0, none⟩).run Try.prog w = .ok (dsv x) w :=
  run_loadVar_row w b tDs tDs (dsCells x) (0, 0) _ h Try.underlying79 rfl (by kernel_rfl)
theorem results_dc {fn : Func} {t u : Tmp} {x : Ds} (h : fn.results = #[.cell t tDs, .tmp u]) (tmps : Array Value) (hp : tmps.getD t undef = .pointer (some ⟨b, 0, none⟩)) (hat : At w b (dsCells x) tDs) :
    (results fn tmps).run Try.prog w = .ok (.tuple #[dsv x, tmps.getD u undef]) w := by
  have hp' : tmps[t]?.getD undef = .pointer (some ⟨b, 0, none⟩) := by simpa using hp
  simp [results, h, hp', asAddr, ds_loadVar hat]

/-- The statements of a program, as they lie in memory. -/
def PRow (w : World) (g : Nat) (F : List Ds) : Prop := g < w.heap.size ∧ ∀ j x, F[j]? = some x → w.cell? ⟨g, j * 10, none⟩ = some (.int .i64 x.kind) ∧ w.cell? ⟨g, j * 10 + 1, none⟩ = some (.int .i64 x.target) ∧ w.cell? ⟨g, j * 10 + 2, none⟩ = some (.bool x.any) ∧
  w.cell? ⟨g, j * 10 + 3, none⟩ = some (.int .i64 (sgAt x.sg 0)) ∧ w.cell? ⟨g, j * 10 + 4, none⟩ = some (.int .i64 (sgAt x.sg 1)) ∧ w.cell? ⟨g, j * 10 + 5, none⟩ = some (.int .i64 (sgAt x.sg 2)) ∧ w.cell? ⟨g, j * 10 + 6, none⟩ = some (.int .i64 (sgAt x.sg 3)) ∧
  w.cell? ⟨g, j * 10 + 7, none⟩ = some (.int .i64 x.num) ∧ w.cell? ⟨g, j * 10 + 8, none⟩ = some (.int .i64 x.parent) ∧ w.cell? ⟨g, j * 10 + 9, none⟩ = some (.int .i64 x.block)
theorem PRow.keep (h : PRow w g F) (hb : Below w.heap.size w w') : PRow w' g F := by
  refine ⟨Nat.lt_of_lt_of_le h.1 hb.size, fun j x hx => ?_⟩
  have hc : ∀ o, w'.cell? ⟨g, o, none⟩ = w.cell? ⟨g, o, none⟩ := fun o => hb.cell (p := ⟨g, o, none⟩) h.1
  simp only [hc]
  exact h.2 j x hx
theorem gets' {j : Nat} (hj : j < F.length) : F[j]? = some (F.getD j (newDs 0 0)) := by rw [List.getD_eq_getElem?_getD, List.getElem?_eq_getElem hj]; rfl

set_option maxRecDepth 100000 in
set_option maxHeartbeats 800000 in
theorem d_ways (k t : Int) (an : Bool) (g0 g1 g2 g3 n p b : Int) (w : World) :
    Calls Try.prog 61 #[.agg #[.int .i64 k, .int .i64 t, .bool an, .int .i64 g0, .int .i64 g1, .int .i64 g2, .int .i64 g3, .int .i64 n, .int .i64 p, .int .i64 b]] w fun e w' => e = .returned (.int .i64 (waysP k)) ∧ ∃ o, w' = w.alloc o := by
  unfold waysP
  by_cases h2 : k = 2
  · subst h2
    go_enter Try.func61, Try.ntmps61
    go_wp2
    go_ret
    exact ⟨rfl, _, rfl⟩
  · have b2 : (k == 2) = false := by simpa using h2
    by_cases h3 : k = 3
    · subst h3
      clear h2 b2
      go_enter Try.func61, Try.ntmps61
      go_wp2
      go_ret
      exact ⟨rfl, _, rfl⟩
    · have b3 : (k == 3) = false := by simpa using h3
      rw [if_neg (fun e => e.elim h2 h3)]
      clear h2 h3
      go_enter Try.func61, Try.ntmps61
      go_wp2
      go_ret
      exact ⟨rfl, _, rfl⟩

/-- No statement. -/
def zDs : Ds := newDs 0 0
set_option maxRecDepth 100000 in
set_option maxHeartbeats 1600000 in
theorem d_at_in (h : PRow w g F) (k : Nat) (hk : k < F.length) :
    Calls Try.prog 60 #[.agg #[.slice (some ⟨g, 0, none⟩) F.length cap], .int .i64 (k : Int)] w fun e w' => e = .returned (.tuple #[dsv (F.getD k (newDs 0 0)), .int .i64 0]) ∧ Below w.heap.size w w' := by
  have hg := h.1
  have hki : (k : Int) < (F.length : Int) := by omega
  have hge : ¬ (F.length : Int) ≤ (k : Int) := by omega
  obtain ⟨c0, c1, c2, c3, c4, c5, c6, c7, c8, c9⟩ := h.2 k _ (gets' hk)
  have HB : Hid (∀ o1 o2, Below w.heap.size w ((w.alloc o1).alloc o2)) := fun o1 o2 => ((Below.refl _ _).alloc (Nat.le_refl _) _).alloc (by simp) _
  generalize F.getD k (newDs 0 0) = x at *
  clear h
  go_enter Try.func60, Try.ntmps60
  go_wp2_with fail
  try simp only [Exit.inBlock, Exit.then]
  refine bodyPost_ret (results_dc (b := w.heap.size + 1) (x := x) rfl _ rfl ?_) rfl ?_
  · have := At.new (w.alloc (.cells #[.slice (some ⟨g, 0, none⟩) F.length cap] 49)) (dsCells x) tDs
    rw [show (w.alloc (.cells #[.slice (some ⟨g, 0, none⟩) F.length cap] 49)).heap.size = w.heap.size + 1 by simp] at this
    exact this
  · exact ⟨rfl, HB.out _ _⟩
set_option maxRecDepth 100000 in
set_option maxHeartbeats 1600000 in
theorem d_at_out (ao : Option Addr) (n : Nat) (_hn : n ≤ 20) (p : Int) (hp : p < 0 ∨ (n : Int) ≤ p) :
    Calls Try.prog 60 #[.agg #[.slice ao n cap], .int .i64 p] w fun e w' => e = .returned (.tuple #[dsv zDs, .int .i64 2]) ∧ Below w.heap.size w w' := by
  have HB : Hid (∀ o1 o2, Below w.heap.size w ((w.alloc o1).alloc o2)) := fun o1 o2 => ((Below.refl _ _).alloc (Nat.le_refl _) _).alloc (by simp) _
  by_cases h0 : p < 0
  · clear hp
    go_enter Try.func60, Try.ntmps60
    go_wp2_with fail
    try simp only [Exit.inBlock, Exit.then]
    refine bodyPost_ret (results_dc (b := w.heap.size + 1) (x := zDs) rfl _ rfl ?_) rfl ?_
    · have := At.new (w.alloc (.cells #[.slice ao n cap] 49)) (dsCells zDs) tDs
      rw [show (w.alloc (.cells #[.slice ao n cap] 49)).heap.size = w.heap.size + 1 by simp] at this
      exact this
    · exact ⟨rfl, HB.out _ _⟩
  · have h1 : (n : Int) ≤ p := hp.elim (fun e => absurd e h0) id
    clear hp
    go_enter Try.func60, Try.ntmps60
    go_wp2_with fail
    try simp only [Exit.inBlock, Exit.then]
    refine bodyPost_ret (results_dc (b := w.heap.size + 1) (x := zDs) rfl _ rfl ?_) rfl ?_
    · have := At.new (w.alloc (.cells #[.slice ao n cap] 49)) (dsCells zDs) tDs
      rw [show (w.alloc (.cells #[.slice ao n cap] 49)).heap.size = w.heap.size + 1 by simp] at this
      exact this
    · exact ⟨rfl, HB.out _ _⟩

end Go.Proofs.Ytffajooegiempaa

namespace Go.Proofs.Ytffajooegiempaa
open Go.RowKit
variable {w w' : World} {g cap : Nat} {F : List Ds}

theorem flat_get : ∀ (F : List Ds) (j o : Nat) (x : Ds), F[j]? = some x → o < 10 → (flat F)[j * 10 + o]? = (dsCells x).toList[o]? := by
  intro F
  induction F with
  | nil => intro j o x h; simp at h
  | cons y F ih =>
    intro j o x h ho
    have hl : (dsCells y).toList.length = 10 := rfl
    show ((dsCells y).toList ++ flat F)[j * 10 + o]? = _
    cases j with
    | zero =>
      simp at h
      subst h
      rw [List.getElem?_append_left (by rw [hl]; omega)]
      congr 1; omega
    | succ j =>
      rw [List.getElem?_append_right (by rw [hl]; omega), hl]
      rw [show (j + 1) * 10 + o - 10 = j * 10 + o by omega]
      exact ih j o x (by simpa using h) ho

theorem prow_of {B n : Nat} (h : w.ownsRow B tDs 10 (.slice (some ⟨g, 0, none⟩) n cap) n (flat F)) (hn : F.length = n) (hlt : g < w.heap.size) : PRow w g F := by
  refine ⟨hlt, fun j x hx => ?_⟩
  have hj : j < n := by
    rw [← hn]
    rcases Nat.lt_or_ge j F.length with h' | h'
    · exact h'
    · simp [List.getElem?_eq_none h'] at hx
  have hc : ∀ o, o < 10 → w.cell? ⟨g, j * 10 + o, none⟩ = (dsCells x).toList[o]? := fun o ho => by
    rw [h.cellAt (j * 10 + o) (by omega), flat_get F j o x hx ho]
  exact ⟨hc 0 (by omega), hc 1 (by omega), hc 2 (by omega), hc 3 (by omega), hc 4 (by omega), hc 5 (by omega), hc 6 (by omega), hc 7 (by omega), hc 8 (by omega), hc 9 (by omega)⟩

end Go.Proofs.Ytffajooegiempaa

namespace Go.Proofs.Ytffajooegiempaa
open Go.RowKit
variable {w w' : World} {g cap : Nat} {F : List Ds}

set_option maxRecDepth 100000 in
set_option maxHeartbeats 1600000 in
theorem d_isRepeat (h : PRow w g F) (hl : F.length ≤ 20) (p : Int) :
    Calls Try.prog 62 #[.agg #[.slice (some ⟨g, 0, none⟩) F.length cap], .int .i64 p] w fun e w' => e = .returned (.bool (isRepP F p)) ∧ Below w.heap.size w w' := by
  have hg := h.1
  have HP : Hid (PRow w g F) := h
  have HB : Hid (∀ o1, Below w.heap.size w (w.alloc o1)) := fun o1 => (Below.refl _ _).alloc (Nat.le_refl _) _
  by_cases hout : p < 0 ∨ (F.length : Int) ≤ p
  · have HE : Hid (isRepP F p = false) := by
      show isRepP F p = false
      unfold isRepP
      rcases hout with e | e
      · rw [decide_eq_false (by omega : ¬ 0 ≤ p)]; rfl
      · rw [decide_eq_false (by omega : ¬ p < F.length)]; simp
    have HAt : Hid (∀ w1, Calls Try.prog 60 #[.agg #[.slice (some ⟨g, 0, none⟩) F.length cap], .int .i64 p] w1 fun e w' => e = .returned (.tuple #[dsv zDs, .int .i64 2]) ∧ Below w1.heap.size w1 w') := fun w1 => d_at_out _ _ hl p hout
    clear h hout
    unfold dsv zDs at HAt
    go_enter Try.func62, Try.ntmps62
    go_wp2_with fail
    refine (HAt.out _).mono ?_
    rintro e w1 ⟨rfl, hb1⟩
    have H1 : Hid (Below w.heap.size w w1) := (HB.out _).trans (hb1.mono (by simp))
    have hs1 := H1.out.size
    clear hb1
    go_wp2_with fail
    go_ret
    exact ⟨by rw [HE.out]; rfl, H1.out.alloc hs1 _⟩
  · obtain ⟨k, rfl⟩ : ∃ k : Nat, p = k := ⟨p.toNat, by omega⟩
    have hk : k < F.length := by omega
    have HE : Hid (isRepP F k = ((F.getD k (newDs 0 0)).kind == 3)) := by
      show isRepP F k = _
      unfold isRepP
      rw [Int.toNat_natCast, decide_eq_true (by omega : (0 : Int) ≤ k), decide_eq_true (by omega : (k : Int) < F.length)]
      simp only [Bool.true_and]
      rfl
    have HAt : Hid (∀ w1, Below w.heap.size w w1 → Calls Try.prog 60 #[.agg #[.slice (some ⟨g, 0, none⟩) F.length cap], .int .i64 (k : Int)] w1 fun e w' => e = .returned (.tuple #[dsv (F.getD k (newDs 0 0)), .int .i64 0]) ∧ Below w1.heap.size w1 w') := fun w1 hb => d_at_in (HP.out.keep hb) k hk
    clear h hout
    generalize F.getD k (newDs 0 0) = x at *
    unfold dsv at HAt
    go_enter Try.func62, Try.ntmps62
    go_wp2_with fail
    refine (HAt.out _ (HB.out _)).mono ?_
    rintro e w1 ⟨rfl, hb1⟩
    have H1 : Hid (Below w.heap.size w w1) := (HB.out _).trans (hb1.mono (by simp))
    have hs1 := H1.out.size
    clear hb1
    go_wp2_with fail
    go_ret
    exact ⟨by rw [HE.out]; rfl, H1.out.alloc hs1 _⟩

end Go.Proofs.Ytffajooegiempaa

namespace Go.Proofs.Ytffajooegiempaa
open Go.RowKit
variable {w w' : World} {g cap : Nat} {F : List Ds}

set_option maxRecDepth 100000 in
set_option maxHeartbeats 1600000 in
theorem d_firstIn (h : PRow w g F) (hl : F.length ≤ 20) (p b fr : Int) :
    Calls Try.prog 44 #[.agg #[.slice (some ⟨g, 0, none⟩) F.length cap], .int .i64 p, .int .i64 b, .int .i64 fr] w fun e w' => e = .returned (.int .i64 (firstP F p b fr)) ∧ Below w.heap.size w w' := by
  have hg := h.1
  have HP : Hid (PRow w g F) := h
  clear h
  go_enter Try.func44, Try.ntmps44
  go_wp2_with fail
  go_loopw [14] (fun i wr => ∃ k : Nat, k ≤ F.length ∧ i = .int .i64 k ∧ Below w.heap.size w wr ∧ firstP F p b fr = firstGo p b fr (F.drop k) k) (fun i _ => F.length - (intOf i).toNat)
  case atStart => exact ⟨0, Nat.zero_le _, rfl, (Below.refl _ _).alloc (Nat.le_refl _) _, rfl⟩
  case round =>
    obtain ⟨k, hk, rfl, hbel, hfi⟩ := hrel
    have HF : Hid (_ = _) := hfi
    clear hfi
    by_cases hlt : k < F.length
    · have hki : (k : Int) < (F.length : Int) := by omega
      obtain ⟨c0, c1, c2, c3, c4, c5, c6, c7, c8, c9⟩ := (HP.out.keep hbel).2 k _ (gets' hlt)
      have HD : Hid (_ = _) := HF.out.trans (firstGo_drop hlt)
      have hsz := hbel.size
      have HB : Hid (Below _ _ _) := hbel
      clear HF hbel
      generalize F.getD k (newDs 0 0) = x at *
      by_cases hm : fr ≤ (k : Int)
      · by_cases hp : x.parent = p
        · have bp : (x.parent == p) = true := by simpa using hp
          by_cases hb : x.block = b
          · have bb : (x.block == b) = true := by simpa using hb
            have HE : Hid (_ = _) := HD.out.trans (if_pos ⟨hm, hp, hb⟩)
            clear HD hp hb
            go_wp2_with fail
            go_ret
            exact ⟨by rw [HE.out]; rfl, HB.out.alloc hsz _⟩
          · have bb : (x.block == b) = false := by simpa using hb
            have HE : Hid (_ = _) := HD.out.trans (if_neg (fun e => hb e.2.2))
            clear HD hp hb
            go_wp2_with fail
            go_roundw
            case rel => exact ⟨k + 1, by omega, by go_num, HB.out.alloc hsz _, HE.out⟩
            case measure => simp [intOf]; omega
        · have bp : (x.parent == p) = false := by simpa using hp
          have HE : Hid (_ = _) := HD.out.trans (if_neg (fun e => hp e.2.1))
          clear HD hp
          go_wp2_with fail
          go_roundw
          case rel => exact ⟨k + 1, by omega, by go_num, HB.out.alloc hsz _, HE.out⟩
          case measure => simp [intOf]; omega
      · have HE : Hid (_ = _) := HD.out.trans (if_neg (fun e => hm e.1))
        have hmd : decide (fr ≤ (k : Int)) = false := decide_eq_false hm
        clear HD
        go_wp2_with fail
        go_roundw
        case rel => exact ⟨k + 1, by omega, by go_num, HB.out.alloc hsz _, HE.out⟩
        case measure => simp [intOf]; omega
    · have hke : k = F.length := by omega
      have HE : Hid (firstP F p b fr = -1) := HF.out.trans (by rw [hke, List.drop_length]; rfl)
      have hnk : ¬ (k : Int) < (F.length : Int) := by omega
      clear HF hke
      go_wp2_with fail
      go_ret
      exact ⟨by rw [HE.out]; rfl, hbel⟩

end Go.Proofs.Ytffajooegiempaa

namespace Go.Proofs.Ytffajooegiempaa
open Go.RowKit
variable {w w' : World} {g cap : Nat} {F : List Ds}

theorem firstP_lo (F : List Ds) (p b fr : Int) : -1 ≤ firstP F p b fr := by
  have : ∀ (l : List Ds) (i : Nat), -1 ≤ firstGo p b fr l i := by
    intro l
    induction l with
    | nil => intro i; exact Int.le_refl _
    | cons x l ih =>
      intro i
      rw [firstGo]
      split
      · omega
      · exact ih (i + 1)
  exact this F 0

def boxOf (g n cap : Nat) : Obj := .cells #[.slice (some ⟨g, 0, none⟩) n cap] 49

set_option maxRecDepth 100000 in
set_option maxHeartbeats 1600000 in
theorem d_following (h : PRow w g F) (hl : F.length ≤ 20) (hpar : ∀ (k : Nat) (x : Ds), F[k]? = some x → -1 ≤ x.parent ∧ x.parent < (k : Int)) (pt : Int) (hp0 : -1 ≤ pt) (hp1 : pt < 21) :
    Calls Try.prog 43 #[.agg #[.slice (some ⟨g, 0, none⟩) F.length cap], .int .i64 pt] w fun e w' => e = .returned (.int .i64 (followP F 21 pt)) ∧ Below w.heap.size w w' := by
  have hg := h.1
  have HP : Hid (PRow w g F) := h
  have HPar : Hid (∀ (k : Nat) (x : Ds), F[k]? = some x → -1 ≤ x.parent ∧ x.parent < (k : Int)) := hpar
  have HBox : Hid (Below w.heap.size w (w.alloc (boxOf g F.length cap))) := (Below.refl _ _).alloc (Nat.le_refl _) _
  clear h hpar
  go_enter Try.func43, Try.ntmps43
  go_wp2_with fail
  go_loopw [1] (fun q wr => ∃ (z : Int) (n : Nat), q = .int .i64 z ∧ -1 ≤ z ∧ z < n ∧ n ≤ 21 ∧ followP F 21 pt = followP F n z ∧ Below (w.heap.size + 1) (w.alloc (boxOf g F.length cap)) wr) (fun q _ => (intOf q + 1).toNat)
  case atStart => exact ⟨pt, 21, rfl, hp0, by omega, Nat.le_refl _, rfl, Below.refl _ _⟩
  case round =>
    obtain ⟨z, n, rfl, hz0, hzn, hn21, hfo, hbel⟩ := hrel
    have HF : Hid (_ = _) := hfo
    have hsz := hbel.size
    have hwsz : (w.alloc (boxOf g F.length cap)).heap.size = w.heap.size + 1 := by simp
    rw [hwsz] at hsz
    have hlt0 : w.heap.size < wr.heap.size := by omega
    have hbx : wr.cell? ⟨w.heap.size, 0, none⟩ = some (.slice (some ⟨g, 0, none⟩) F.length cap) := by
      rw [hbel.cell (p := ⟨w.heap.size, 0, none⟩) (by show w.heap.size < _; omega)]
      exact World.cell?_alloc_at (w := w) _ _ _ _ rfl
    have hbw : Below w.heap.size w wr := HBox.out.trans (hbel.mono (by omega))
    have HPr : Hid (PRow wr g F) := HP.out.keep hbw
    have HB : Hid (Below _ _ _) := hbel
    have HBW : Hid (Below _ _ _) := hbw
    clear hfo hbel hwsz hbw
    by_cases hneg : z < 0
    · have HE : Hid (followP F 21 pt = F.length) := HF.out.trans (by
        cases n with
        | zero => rfl
        | succ n => rw [followP, if_pos (.inl hneg)])
      go_wp2_with fail
      refine (d_end _ F.length cap _ hl).mono ?_
      rintro e w2 ⟨rfl, o, rfl⟩
      go_wp2_with fail
      go_ret
      exact ⟨by rw [HE.out]; rfl, HBW.out.alloc (by omega) _⟩
    obtain ⟨k, rfl⟩ : ∃ k : Nat, z = k := ⟨z.toNat, by omega⟩
    obtain ⟨n', rfl⟩ : ∃ n', n = n' + 1 := ⟨n - 1, by omega⟩
    by_cases hge : (F.length : Int) ≤ (k : Int)
    · have HE : Hid (followP F 21 pt = F.length) := HF.out.trans (by rw [followP, if_pos (.inr hge)])
      have hnk : ¬ (k : Int) < (F.length : Int) := by omega
      go_wp2_with fail
      refine (d_end _ F.length cap _ hl).mono ?_
      rintro e w2 ⟨rfl, o, rfl⟩
      go_wp2_with fail
      go_ret
      exact ⟨by rw [HE.out]; rfl, HBW.out.alloc (by omega) _⟩
    have hk : k < F.length := by omega
    have hki : (k : Int) < (F.length : Int) := by omega
    have HN : Hid (followP F 21 pt = if firstP F (F.getD k (newDs 0 0)).parent (F.getD k (newDs 0 0)).block ((k : Int) + 1) ≠ -1 then firstP F (F.getD k (newDs 0 0)).parent (F.getD k (newDs 0 0)).block ((k : Int) + 1) else if isRepP F (F.getD k (newDs 0 0)).parent = true then (F.getD k (newDs 0 0)).parent else followP F n' (F.getD k (newDs 0 0)).parent) := HF.out.trans (by
      rw [followP, if_neg (fun e => e.elim hneg hge), Int.toNat_natCast])
    obtain ⟨c0, c1, c2, c3, c4, c5, c6, c7, c8, c9⟩ := HPr.out.2 k _ (gets' hk)
    obtain ⟨q0, q1⟩ := HPar.out k _ (gets' hk)
    have hgr : g < wr.heap.size := by omega
    clear HF hneg hge
    generalize F.getD k (newDs 0 0) = x at *
    have hfi := fun (w2 : World) (hP : PRow w2 g F) => d_firstIn (cap := cap) hP hl x.parent x.block ((k : Int) + 1)
    have HFI : Hid (∀ (w2 : World) (hP : PRow w2 g F), Calls Try.prog 44 #[.agg #[.slice (some ⟨g, 0, none⟩) F.length cap], .int .i64 x.parent, .int .i64 x.block, .int .i64 ((k : Int) + 1)] w2 fun e w' => e = .returned (.int .i64 (firstP F x.parent x.block ((k : Int) + 1))) ∧ Below w2.heap.size w2 w') := hfi
    clear hfi
    generalize firstP F x.parent x.block ((k : Int) + 1) = fi at *
    go_wp2_with fail
    refine (HFI.out _ (HPr.out.keep ((Below.refl _ _).alloc (Nat.le_refl _) _))).mono ?_
    rintro e w2 ⟨rfl, hb2⟩
    have hsz2 := hb2.size
    simp at hsz2
    have hlt2 : w.heap.size < w2.heap.size := by omega
    have s8 : w2.cell? ⟨wr.heap.size, 8, none⟩ = some (.int .i64 x.parent) := by
      rw [hb2.cell (p := ⟨wr.heap.size, 8, none⟩) (by simp)]
      exact World.cell?_alloc_at (w := wr) _ _ _ _ rfl
    have hbx2 : w2.cell? ⟨w.heap.size, 0, none⟩ = some (.slice (some ⟨g, 0, none⟩) F.length cap) := by
      rw [hb2.cell (p := ⟨w.heap.size, 0, none⟩) (by simp; omega)]
      exact (World.cell?_alloc_past (w := wr) _ _ _ (by omega)).trans hbx
    have hch : Below wr.heap.size wr w2 := ((Below.refl _ _).alloc (Nat.le_refl _) _).trans (hb2.mono (by simp))
    have HCH : Hid (Below _ _ _) := hch
    clear hb2 hch c0 c1 c2 c3 c4 c5 c6 c7 c8 c9
    by_cases hf1 : fi = -1
    · subst hf1
      have HN2 : Hid (_ = _) := HN.out.trans (if_neg (by decide))
      have hre := d_isRepeat (cap := cap) (HPr.out.keep HCH.out) hl x.parent
      clear HN
      cases hrep : isRepP F x.parent
      · have HE : Hid (_ = _) := HN2.out.trans (if_neg (by rw [hrep]; decide))
        rw [hrep] at hre
        clear hrep HN2
        go_wp2_with fail
        refine hre.mono ?_
        rintro e w3 ⟨rfl, hb3⟩
        have s83 : w3.cell? ⟨wr.heap.size, 8, none⟩ = some (.int .i64 x.parent) := by
          rw [hb3.cell (p := ⟨wr.heap.size, 8, none⟩) (by show wr.heap.size < _; omega)]; exact s8
        have HB3 : Hid (Below _ _ _) := hb3
        clear hb3 hre
        go_wp2_with fail
        go_roundw
        case rel => exact ⟨x.parent, n', rfl, q0, by omega, by omega, HE.out, (HB.out.trans (HCH.out.mono hsz)).trans (HB3.out.mono (by omega))⟩
        case measure => simp [intOf]; omega
      · have HE : Hid (_ = _) := HN2.out.trans (if_pos hrep)
        rw [hrep] at hre
        clear hrep HN2
        go_wp2_with fail
        refine hre.mono ?_
        rintro e w3 ⟨rfl, hb3⟩
        have s83 : w3.cell? ⟨wr.heap.size, 8, none⟩ = some (.int .i64 x.parent) := by
          rw [hb3.cell (p := ⟨wr.heap.size, 8, none⟩) (by show wr.heap.size < _; omega)]; exact s8
        have HB3 : Hid (Below _ _ _) := hb3
        clear hb3 hre
        go_wp2_with fail
        go_ret
        exact ⟨by rw [HE.out]; rfl, (HBW.out.trans (HCH.out.mono (by omega))).trans (HB3.out.mono (by omega))⟩
    · have bf : (fi != -1) = true := by rw [bne_iff_ne]; exact hf1
      have HE : Hid (_ = _) := HN.out.trans (if_pos hf1)
      clear HN hf1
      go_wp2_with fail
      go_ret
      exact ⟨by rw [HE.out]; rfl, HBW.out.trans (HCH.out.mono (by omega))⟩

end Go.Proofs.Ytffajooegiempaa

namespace Go.Proofs.Ytffajooegiempaa
open Go.RowKit
variable {w w' : World} {g cap b : Nat} {F : List Ds}

theorem ds_storeAt {c : Array Value} (h : At w b c tDs) (hc : c.size = 10) (y : Ds) : ∃ w1, (Instr.storeAt tDs (.pointer (some ⟨b, 0, none⟩)) (dsv y)).run Try.prog w = .ok () w1 ∧ At w1 b (dsCells y) tDs ∧ Onl b w w1 := by
  refine ⟨w.setRow b (dsCells y), ?_, setRow_heap w b c (dsCells y) tDs (0, 0) h, ⟨rfl, rfl, rfl, by simp [World.setRow], fun k _ hk => setRow_other w b k _ (fun e => hk e)⟩⟩
  simp only [Instr.storeAt, Instr.sureAddr, Sem.run_bind, Sem.run_pure, Result.andThen]
  exact run_storeVar_row w b tDs tDs c (dsCells y) h (by kernel_rfl) (by rw [hc]; rfl) (by simp [dsCells, Value.oneCell'])
/-- A whole statement is written, in a walk. -/
theorem wpList_store_ds {ops : Array Oper} {rest : List Oper} {o : Oper} {a : Act} {Q : Exit → Act → World → Prop} {c : Array Value} (hg : o.guard = none) (p x : Operand) (hop : o.op = Op.store tDs p x) (hp : a.eval p = .pointer (some ⟨b, 0, none⟩)) (y : Ds) (hx : a.eval x = dsv y) (hat : At w b c tDs) (hc : c.size = 10)
    (hK : ∀ w1, At w1 b (dsCells y) tDs → Onl b w w1 → wpList Try.prog ops Q rest (a.put o.dst undef) w1) : wpList Try.prog ops Q (o :: rest) a w := by
  refine wpList_plain hg fun K hK' => ?_
  obtain ⟨w1, h1, h2, h3⟩ := ds_storeAt hat hc y
  unfold Oper.wp
  simp [execOp, hop, hp, hx, h1, Result.andThen, Oper.upon]
  exact hK' _ _ (hK w1 h2 h3)
theorem ds_zero (w : World) : (zeroValue 79).run Try.prog w = .ok (dsv zDs) w := by kernel_rfl

set_option maxRecDepth 100000 in
set_option maxHeartbeats 1600000 in
theorem d_with_out (ao : Option Addr) (n : Nat) (hn : n ≤ 20) (p way : Int) (hp : p < 0 ∨ (n : Int) ≤ p) :
    Calls Try.prog 41 #[.agg #[.slice ao n cap], .int .i64 p, .int .i64 way] w fun e w' => e = .returned (.tuple #[dsv zDs, .int .i64 2]) ∧ Below w.heap.size w w' := by
  obtain ⟨w0, hw0⟩ : ∃ w0, w0 = (w.alloc (.cells #[.slice ao n cap] 49)).alloc (.cells (dsCells zDs) tDs) := ⟨_, rfl⟩
  have HB0 : Hid (Below w.heap.size w w0 ∧ At w0 (w.heap.size + 1) (dsCells zDs) tDs ∧ w0.heap.size = w.heap.size + 2) := by
    refine ⟨by rw [hw0]; exact ((Below.refl _ _).alloc (Nat.le_refl _) _).alloc (by simp) _, ?_, by rw [hw0]; simp⟩
    have := At.new (w.alloc (.cells #[.slice ao n cap] 49)) (dsCells zDs) tDs
    rw [show (w.alloc (.cells #[.slice ao n cap] 49)).heap.size = w.heap.size + 1 by simp] at this
    rw [hw0]; exact this
  obtain ⟨BW, hBW⟩ : ∃ BW : World → Prop, BW = fun w' => Below w0.heap.size w0 w' := ⟨_, rfl⟩
  have hat0 : Calls Try.prog 60 #[.agg #[.slice ao n cap], .int .i64 p] w0 fun e w' => e = .returned (.tuple #[dsv zDs, .int .i64 2]) ∧ BW w' := by rw [hBW]; exact d_at_out ao n hn p hp
  clear hp
  rw [hw0] at hat0
  unfold dsv dsCells zDs newDs at hat0
  go_enter Try.func41, Try.ntmps41
  go_wp2_with fail
  refine hat0.mono ?_
  rintro e w1 ⟨rfl, hb1⟩
  obtain ⟨w2, hw2⟩ : ∃ w2, w2 = w1.alloc (.cells (dsCells zDs) tDs) := ⟨_, rfl⟩
  have H2 : Hid (Below w.heap.size w w2 ∧ At w2 (w.heap.size + 1) (dsCells zDs) tDs ∧ At w2 w1.heap.size (dsCells zDs) tDs ∧ w.heap.size + 2 ≤ w1.heap.size ∧ w2.heap.size = w1.heap.size + 1) := by
    have s0 := HB0.out.2.2
    rw [hBW] at hb1
    have s1 := hb1.size
    have a1 := At.keep HB0.out.2.1 hb1 (by omega)
    refine ⟨?_, ?_, ?_, by omega, by rw [hw2]; simp⟩
    · rw [hw2]; exact (HB0.out.1.trans (hb1.mono (by omega))).alloc (by have := HB0.out.1.size; omega) _
    · rw [hw2]; exact At.allocH a1 _
    · rw [hw2]; exact At.new _ _ _
  have hs1 : w.heap.size + 2 ≤ w1.heap.size := H2.out.2.2.2.1
  clear hb1
  unfold dsCells zDs newDs at hw2
  rw [hw2] at H2
  go_wp2_with (first | (refine wpList_store_ds (b := w.heap.size + 1) (c := dsCells zDs) rfl (.tmp 6) (.tmp 18) rfl rfl zDs rfl H2.out.2.1 rfl ?_; intro w5 h5a h5b))
  have h5 : Hid (At w5 (w.heap.size + 1) (dsCells zDs) tDs ∧ Below w.heap.size w w5) := ⟨h5a, H2.out.1.trans (h5b.below (by omega) (by have := H2.out.1.size; exact this))⟩
  go_wp2_with fail
  try simp only [Exit.inBlock, Exit.then]
  refine bodyPost_ret (results_dc (b := w.heap.size + 1) (x := zDs) rfl _ rfl h5.out.1) rfl ?_
  exact ⟨rfl, h5.out.2⟩

set_option maxRecDepth 100000 in
set_option maxHeartbeats 1600000 in
theorem d_with_in (h : PRow w g F) (k : Nat) (hk : k < F.length) (way : Int) :
    Calls Try.prog 41 #[.agg #[.slice (some ⟨g, 0, none⟩) F.length cap], .int .i64 (k : Int), .int .i64 way] w fun e w' =>
      e = .returned (.tuple #[dsv (if way < 0 ∨ waysP (F.getD k (newDs 0 0)).kind ≤ way then zDs else F.getD k (newDs 0 0)), .int .i64 (if way < 0 ∨ waysP (F.getD k (newDs 0 0)).kind ≤ way then 2 else 0)]) ∧ Below w.heap.size w w' := by
  obtain ⟨w0, hw0⟩ : ∃ w0, w0 = (w.alloc (.cells #[.slice (some ⟨g, 0, none⟩) F.length cap] 49)).alloc (.cells (dsCells zDs) tDs) := ⟨_, rfl⟩
  have HB0 : Hid (Below w.heap.size w w0 ∧ At w0 (w.heap.size + 1) (dsCells zDs) tDs ∧ w0.heap.size = w.heap.size + 2) := by
    refine ⟨by rw [hw0]; exact ((Below.refl _ _).alloc (Nat.le_refl _) _).alloc (by simp) _, ?_, by rw [hw0]; simp⟩
    have := At.new (w.alloc (.cells #[.slice (some ⟨g, 0, none⟩) F.length cap] 49)) (dsCells zDs) tDs
    rw [show (w.alloc (.cells #[.slice (some ⟨g, 0, none⟩) F.length cap] 49)).heap.size = w.heap.size + 1 by simp] at this
    rw [hw0]; exact this
  obtain ⟨BW, hBW⟩ : ∃ BW : World → Prop, BW = fun w' => Below w0.heap.size w0 w' := ⟨_, rfl⟩
  have hat0 : Calls Try.prog 60 #[.agg #[.slice (some ⟨g, 0, none⟩) F.length cap], .int .i64 (k : Int)] w0 fun e w' => e = .returned (.tuple #[dsv (F.getD k (newDs 0 0)), .int .i64 0]) ∧ BW w' := by rw [hBW]; exact d_at_in (h.keep HB0.out.1) k hk
  generalize F.getD k (newDs 0 0) = x at *
  clear h hk
  by_cases hw0' : way < 0
  · rw [if_pos (.inl hw0'), if_pos (.inl hw0')]
    rw [hw0] at hat0
    unfold dsv dsCells zDs newDs at hat0
    go_enter Try.func41, Try.ntmps41
    go_wp2_with fail
    refine hat0.mono ?_
    rintro e w1 ⟨rfl, hb1⟩
    obtain ⟨w2, hw2⟩ : ∃ w2, w2 = w1.alloc (.cells (dsCells x) tDs) := ⟨_, rfl⟩
    have H2 : Hid (Below w.heap.size w w2 ∧ At w2 (w.heap.size + 1) (dsCells zDs) tDs ∧ At w2 w1.heap.size (dsCells x) tDs ∧ w.heap.size + 2 ≤ w1.heap.size ∧ w2.heap.size = w1.heap.size + 1) := by
      have s0 := HB0.out.2.2
      rw [hBW] at hb1
      have s1 := hb1.size
      have a1 := At.keep HB0.out.2.1 hb1 (by omega)
      refine ⟨?_, ?_, ?_, by omega, by rw [hw2]; simp⟩
      · rw [hw2]; exact (HB0.out.1.trans (hb1.mono (by omega))).alloc (by have := HB0.out.1.size; omega) _
      · rw [hw2]; exact At.allocH a1 _
      · rw [hw2]; exact At.new _ _ _
    have hs1 : w.heap.size + 2 ≤ w1.heap.size := H2.out.2.2.2.1
    clear hb1
    unfold dsCells at hw2
    rw [hw2] at H2
    go_wp2_with (first | (refine wpList_store_ds (b := w.heap.size + 1) (c := dsCells zDs) rfl (.tmp 6) (.tmp 28) rfl rfl zDs rfl H2.out.2.1 rfl ?_; intro w5 h5a h5b))
    have h5 : Hid (At w5 (w.heap.size + 1) (dsCells zDs) tDs ∧ Below w.heap.size w w5) := ⟨h5a, H2.out.1.trans (h5b.below (by omega) (by have := H2.out.1.size; exact this))⟩
    go_wp2_with fail
    try simp only [Exit.inBlock, Exit.then]
    refine bodyPost_ret (results_dc (b := w.heap.size + 1) (x := zDs) rfl _ rfl h5.out.1) rfl ?_
    exact ⟨rfl, h5.out.2⟩
  by_cases hw1 : waysP x.kind ≤ way
  · rw [if_pos (.inr hw1), if_pos (.inr hw1)]
    rw [hw0] at hat0
    unfold dsv dsCells zDs newDs at hat0
    go_enter Try.func41, Try.ntmps41
    go_wp2_with fail
    refine hat0.mono ?_
    rintro e w1 ⟨rfl, hb1⟩
    obtain ⟨w2, hw2⟩ : ∃ w2, w2 = w1.alloc (.cells (dsCells x) tDs) := ⟨_, rfl⟩
    have H2 : Hid (Below w.heap.size w w2 ∧ At w2 (w.heap.size + 1) (dsCells zDs) tDs ∧ At w2 w1.heap.size (dsCells x) tDs ∧ w.heap.size + 2 ≤ w1.heap.size ∧ w2.heap.size = w1.heap.size + 1) := by
      have s0 := HB0.out.2.2
      rw [hBW] at hb1
      have s1 := hb1.size
      have a1 := At.keep HB0.out.2.1 hb1 (by omega)
      refine ⟨?_, ?_, ?_, by omega, by rw [hw2]; simp⟩
      · rw [hw2]; exact (HB0.out.1.trans (hb1.mono (by omega))).alloc (by have := HB0.out.1.size; omega) _
      · rw [hw2]; exact At.allocH a1 _
      · rw [hw2]; exact At.new _ _ _
    have hs1 : w.heap.size + 2 ≤ w1.heap.size := H2.out.2.2.2.1
    clear hb1
    unfold dsCells at hw2
    rw [hw2] at H2
    go_wp2_with fail
    refine (d_ways _ _ _ _ _ _ _ _ _ _ _).mono ?_
    rintro e w3 ⟨rfl, o3, rfl⟩
    go_wp2_with (first | (refine wpList_store_ds (b := w.heap.size + 1) (c := dsCells zDs) rfl (.tmp 6) (.tmp 28) rfl rfl zDs rfl (At.allocH H2.out.2.1 _) rfl ?_; intro w5 h5a h5b))
    have h5 : Hid (At w5 (w.heap.size + 1) (dsCells zDs) tDs ∧ Below w.heap.size w w5) := ⟨h5a, (H2.out.1.alloc (by have := H2.out.1.size; exact this) _).trans (h5b.below (by omega) (by have := H2.out.1.size; simp at this ⊢; omega))⟩
    go_wp2_with fail
    try simp only [Exit.inBlock, Exit.then]
    refine bodyPost_ret (results_dc (b := w.heap.size + 1) (x := zDs) rfl _ rfl h5.out.1) rfl ?_
    exact ⟨rfl, h5.out.2⟩
  · rw [if_neg (fun e => e.elim hw0' hw1), if_neg (fun e => e.elim hw0' hw1)]
    rw [hw0] at hat0
    unfold dsv dsCells zDs newDs at hat0
    go_enter Try.func41, Try.ntmps41
    go_wp2_with fail
    refine hat0.mono ?_
    rintro e w1 ⟨rfl, hb1⟩
    obtain ⟨w2, hw2⟩ : ∃ w2, w2 = w1.alloc (.cells (dsCells x) tDs) := ⟨_, rfl⟩
    have H2 : Hid (Below w.heap.size w w2 ∧ At w2 (w.heap.size + 1) (dsCells zDs) tDs ∧ At w2 w1.heap.size (dsCells x) tDs ∧ w.heap.size + 2 ≤ w1.heap.size ∧ w2.heap.size = w1.heap.size + 1) := by
      have s0 := HB0.out.2.2
      rw [hBW] at hb1
      have s1 := hb1.size
      have a1 := At.keep HB0.out.2.1 hb1 (by omega)
      refine ⟨?_, ?_, ?_, by omega, by rw [hw2]; simp⟩
      · rw [hw2]; exact (HB0.out.1.trans (hb1.mono (by omega))).alloc (by have := HB0.out.1.size; omega) _
      · rw [hw2]; exact At.allocH a1 _
      · rw [hw2]; exact At.new _ _ _
    have hs1 : w.heap.size + 2 ≤ w1.heap.size := H2.out.2.2.2.1
    clear hb1
    unfold dsCells at hw2
    rw [hw2] at H2
    go_wp2_with fail
    refine (d_ways _ _ _ _ _ _ _ _ _ _ _).mono ?_
    rintro e w3 ⟨rfl, o3, rfl⟩
    go_wp2_with (first | (refine wpList_store_ds (b := w.heap.size + 1) (c := dsCells zDs) rfl (.tmp 6) (.tmp 29) rfl rfl x rfl (At.allocH H2.out.2.1 _) rfl ?_; intro w5 h5a h5b))
    have h5 : Hid (At w5 (w.heap.size + 1) (dsCells x) tDs ∧ Below w.heap.size w w5) := ⟨h5a, (H2.out.1.alloc (by have := H2.out.1.size; exact this) _).trans (h5b.below (by omega) (by have := H2.out.1.size; simp at this ⊢; omega))⟩
    go_wp2_with fail
    try simp only [Exit.inBlock, Exit.then]
    refine bodyPost_ret (results_dc (b := w.heap.size + 1) (x := x) rfl _ rfl h5.out.1) rfl ?_
    exact ⟨rfl, h5.out.2⟩

end Go.Proofs.Ytffajooegiempaa

namespace Go.Proofs.Ytffajooegiempaa
open Go.RowKit
variable {w w' : World} {g cap : Nat} {F : List Ds}

/-- Two numbers that come out. -/
def twoD (x : Int × Int) : Ending := .returned (.tuple #[.int .i64 x.1, .int .i64 x.2])

set_option maxRecDepth 100000 in
set_option maxHeartbeats 1600000 in
theorem d_next_out (ao : Option Addr) (n : Nat) (hn : n ≤ 20) (pt way : Int) (hp : pt < 0 ∨ (n : Int) ≤ pt) (w : World) :
    Calls Try.prog 29 #[.agg #[.slice ao n cap], .int .i64 pt, .int .i64 way] w fun e w' => e = twoD (0, 2) ∧ Below w.heap.size w w' := by
  have HB : Hid (∀ o1, Below w.heap.size w (w.alloc o1)) := fun o1 => (Below.refl _ _).alloc (Nat.le_refl _) _
  have HAt : Hid (∀ w1, Calls Try.prog 41 #[.agg #[.slice ao n cap], .int .i64 pt, .int .i64 way] w1 fun e w' => e = .returned (.tuple #[dsv zDs, .int .i64 2]) ∧ Below w1.heap.size w1 w') := fun w1 => d_with_out ao n hn pt way hp
  unfold dsv zDs newDs at HAt
  clear hp
  go_enter Try.func29, Try.ntmps29
  go_wp2_with fail
  refine (HAt.out _).mono ?_
  rintro e w1 ⟨rfl, hb1⟩
  have H1 : Hid (Below w.heap.size w w1) := (HB.out _).trans (hb1.mono (by simp))
  have hs1 := H1.out.size
  clear hb1
  go_wp2_with fail
  go_ret2
  exact ⟨rfl, H1.out.alloc hs1 _⟩

set_option maxRecDepth 100000 in
set_option maxHeartbeats 1600000 in
theorem d_next_in (h : PRow w g F) (hl : F.length ≤ 20) (hpar : ∀ (k : Nat) (x : Ds), F[k]? = some x → -1 ≤ x.parent ∧ x.parent < (k : Int)) (k : Nat) (hk : k < F.length) (way : Int) :
    Calls Try.prog 29 #[.agg #[.slice (some ⟨g, 0, none⟩) F.length cap], .int .i64 (k : Int), .int .i64 way] w fun e w' => e = twoD (nextP F k way) ∧ Below w.heap.size w w' := by
  have hg := h.1
  have hki : (k : Int) < (F.length : Int) := by omega
  have HP : Hid (PRow w g F) := h
  have HPar : Hid (∀ (k : Nat) (x : Ds), F[k]? = some x → -1 ≤ x.parent ∧ x.parent < (k : Int)) := hpar
  have HB : Hid (∀ o1, Below w.heap.size w (w.alloc o1)) := fun o1 => (Below.refl _ _).alloc (Nat.le_refl _) _
  have HN : Hid (nextP F k way = if way < 0 ∨ waysP (F.getD k (newDs 0 0)).kind ≤ way then (0, 2) else if blocksOf (F.getD k (newDs 0 0)).kind ≤ way then (followP F 21 k, 0) else if firstP F k way ((k : Int) + 1) ≠ -1 then (firstP F k way ((k : Int) + 1), 0) else if (F.getD k (newDs 0 0)).kind = 3 then ((k : Int), 0) else (followP F 21 k, 0)) := by
    show nextP F k way = _
    unfold nextP
    rw [if_neg (by omega), Int.toNat_natCast]
  have HAt : Hid (∀ w1, Below w.heap.size w w1 → Calls Try.prog 41 #[.agg #[.slice (some ⟨g, 0, none⟩) F.length cap], .int .i64 (k : Int), .int .i64 way] w1 fun e w' =>
      e = .returned (.tuple #[dsv (if way < 0 ∨ waysP (F.getD k (newDs 0 0)).kind ≤ way then zDs else F.getD k (newDs 0 0)), .int .i64 (if way < 0 ∨ waysP (F.getD k (newDs 0 0)).kind ≤ way then 2 else 0)]) ∧ Below w1.heap.size w1 w') := fun w1 hb => d_with_in (HP.out.keep hb) k hk way
  clear h hpar
  generalize F.getD k (newDs 0 0) = x at *
  by_cases hbad : way < 0 ∨ waysP x.kind ≤ way
  · have HE : Hid (_ = _) := HN.out.trans (if_pos hbad)
    rw [if_pos hbad, if_pos hbad] at HAt
    unfold dsv zDs newDs at HAt
    clear HN hbad
    go_enter Try.func29, Try.ntmps29
    go_wp2_with fail
    refine (HAt.out _ (HB.out _)).mono ?_
    rintro e w1 ⟨rfl, hb1⟩
    have p1 : w1.cell? ⟨w.heap.size, 0, none⟩ = some (.slice (some ⟨g, 0, none⟩) F.length cap) := by
      rw [hb1.cell (p := ⟨w.heap.size, 0, none⟩) (by simp)]
      exact World.cell?_alloc_at _ _ _ _ rfl
    have H1 : Hid (Below w.heap.size w w1) := (HB.out _).trans (hb1.mono (by simp))
    have hs1 : w.heap.size + 1 ≤ w1.heap.size := by have := hb1.size; simp at this; omega
    have hlt1 : w.heap.size < w1.heap.size := by omega
    have hB : Hid (∀ o1 o2 : Obj, Below w.heap.size w ((w1.alloc o1).alloc o2)) := fun o1 o2 => (H1.out.alloc (by omega) _).alloc (by simp; omega) _
    clear hb1
    go_wp2_with fail
    go_ret2
    exact ⟨by rw [HE.out]; rfl, H1.out.alloc (by omega) _⟩
  have HN2 : Hid (_ = _) := HN.out.trans (if_neg hbad)
  rw [if_neg hbad, if_neg hbad] at HAt
  unfold dsv at HAt
  clear HN hbad
  by_cases hb : blocksOf x.kind ≤ way
  · have HE : Hid (_ = _) := HN2.out.trans (if_pos hb)
    clear HN2
    go_enter Try.func29, Try.ntmps29
    go_wp2_with fail
    refine (HAt.out _ (HB.out _)).mono ?_
    rintro e w1 ⟨rfl, hb1⟩
    have p1 : w1.cell? ⟨w.heap.size, 0, none⟩ = some (.slice (some ⟨g, 0, none⟩) F.length cap) := by
      rw [hb1.cell (p := ⟨w.heap.size, 0, none⟩) (by simp)]
      exact World.cell?_alloc_at _ _ _ _ rfl
    have H1 : Hid (Below w.heap.size w w1) := (HB.out _).trans (hb1.mono (by simp))
    have hs1 : w.heap.size + 1 ≤ w1.heap.size := by have := hb1.size; simp at this; omega
    have hlt1 : w.heap.size < w1.heap.size := by omega
    have hB : Hid (∀ o1 o2 : Obj, Below w.heap.size w ((w1.alloc o1).alloc o2)) := fun o1 o2 => (H1.out.alloc (by omega) _).alloc (by simp; omega) _
    clear hb1
    go_wp2_with fail
    refine (d_blocks _ _ _ _ _ _ _ _ _ _ _).mono ?_
    rintro e w2 ⟨rfl, o2, rfl⟩
    go_wp2_with fail
    refine (d_following (HP.out.keep (hB.out _ _)) hl HPar.out (k : Int) (by omega) (by omega)).mono ?_
    rintro e w4 ⟨rfl, hb4⟩
    go_wp2_with fail
    go_ret2
    exact ⟨by rw [HE.out]; rfl, (hB.out _ _).trans (hb4.mono (by simp; omega))⟩
  have HN3 : Hid (_ = _) := HN2.out.trans (if_neg hb)
  clear HN2
  have HFI : Hid (∀ (w2 : World) (hP : PRow w2 g F), Calls Try.prog 44 #[.agg #[.slice (some ⟨g, 0, none⟩) F.length cap], .int .i64 (k : Int), .int .i64 way, .int .i64 ((k : Int) + 1)] w2 fun e w' => e = .returned (.int .i64 (firstP F k way ((k : Int) + 1))) ∧ Below w2.heap.size w2 w') := fun w2 hP => d_firstIn (cap := cap) hP hl k way ((k : Int) + 1)
  generalize firstP F k way ((k : Int) + 1) = fi at *
  by_cases hfi : fi = -1
  · subst hfi
    have HN4 : Hid (_ = _) := HN3.out.trans (if_neg (by decide))
    clear HN3
    by_cases h3 : x.kind = 3
    · have HE : Hid (_ = _) := HN4.out.trans (if_pos h3)
      clear HN4
      have HK : Hid (x.kind = 3) := h3
      clear h3
      go_enter Try.func29, Try.ntmps29
      go_wp2_with fail
      refine (HAt.out _ (HB.out _)).mono ?_
      rintro e w1 ⟨rfl, hb1⟩
      have p1 : w1.cell? ⟨w.heap.size, 0, none⟩ = some (.slice (some ⟨g, 0, none⟩) F.length cap) := by
        rw [hb1.cell (p := ⟨w.heap.size, 0, none⟩) (by simp)]
        exact World.cell?_alloc_at _ _ _ _ rfl
      have H1 : Hid (Below w.heap.size w w1) := (HB.out _).trans (hb1.mono (by simp))
      have hs1 : w.heap.size + 1 ≤ w1.heap.size := by have := hb1.size; simp at this; omega
      have hlt1 : w.heap.size < w1.heap.size := by omega
      have hB : Hid (∀ o1 o2 : Obj, Below w.heap.size w ((w1.alloc o1).alloc o2)) := fun o1 o2 => (H1.out.alloc (by omega) _).alloc (by simp; omega) _
      clear hb1
      go_wp2_with fail
      refine (d_blocks _ _ _ _ _ _ _ _ _ _ _).mono ?_
      rintro e w2 ⟨rfl, o2, rfl⟩
      go_wp2_with fail
      refine (HFI.out _ (HP.out.keep (hB.out _ _))).mono ?_
      rintro e w3 ⟨rfl, hb3⟩
      have hsz3 := hb3.size
      simp at hsz3
      have s0 : w3.cell? ⟨w1.heap.size, 0, none⟩ = some (.int .i64 x.kind) := by
        rw [hb3.cell (p := ⟨w1.heap.size, 0, none⟩) (by simp; omega), World.cell?_alloc_past _ _ _ (by simp)]
        exact World.cell?_alloc_at _ _ _ _ rfl
      have p0 : w3.cell? ⟨w.heap.size, 0, none⟩ = some (.slice (some ⟨g, 0, none⟩) F.length cap) := by
        rw [hb3.cell (p := ⟨w.heap.size, 0, none⟩) (by simp; omega), World.cell?_alloc_past _ _ _ (by simp; omega), World.cell?_alloc_past _ _ _ (by omega)]
        exact p1
      have HB3 : Hid (Below w.heap.size w w3) := (hB.out _ _).trans (hb3.mono (by simp; omega))
      clear hb3
      have s0' : w3.cell? ⟨w1.heap.size, 0, none⟩ = some (.int .i64 3) := by rw [s0, HK.out]
      clear s0
      go_wp2_with fail
      go_ret2
      exact ⟨by rw [HE.out]; rfl, HB3.out⟩
    · have HE : Hid (_ = _) := HN4.out.trans (if_neg h3)
      have b3 : (x.kind == 3) = false := by simpa using h3
      clear HN4 h3
      go_enter Try.func29, Try.ntmps29
      go_wp2_with fail
      refine (HAt.out _ (HB.out _)).mono ?_
      rintro e w1 ⟨rfl, hb1⟩
      have p1 : w1.cell? ⟨w.heap.size, 0, none⟩ = some (.slice (some ⟨g, 0, none⟩) F.length cap) := by
        rw [hb1.cell (p := ⟨w.heap.size, 0, none⟩) (by simp)]
        exact World.cell?_alloc_at _ _ _ _ rfl
      have H1 : Hid (Below w.heap.size w w1) := (HB.out _).trans (hb1.mono (by simp))
      have hs1 : w.heap.size + 1 ≤ w1.heap.size := by have := hb1.size; simp at this; omega
      have hlt1 : w.heap.size < w1.heap.size := by omega
      have hB : Hid (∀ o1 o2 : Obj, Below w.heap.size w ((w1.alloc o1).alloc o2)) := fun o1 o2 => (H1.out.alloc (by omega) _).alloc (by simp; omega) _
      clear hb1
      go_wp2_with fail
      refine (d_blocks _ _ _ _ _ _ _ _ _ _ _).mono ?_
      rintro e w2 ⟨rfl, o2, rfl⟩
      go_wp2_with fail
      refine (HFI.out _ (HP.out.keep (hB.out _ _))).mono ?_
      rintro e w3 ⟨rfl, hb3⟩
      have hsz3 := hb3.size
      simp at hsz3
      have s0 : w3.cell? ⟨w1.heap.size, 0, none⟩ = some (.int .i64 x.kind) := by
        rw [hb3.cell (p := ⟨w1.heap.size, 0, none⟩) (by simp; omega), World.cell?_alloc_past _ _ _ (by simp)]
        exact World.cell?_alloc_at _ _ _ _ rfl
      have p0 : w3.cell? ⟨w.heap.size, 0, none⟩ = some (.slice (some ⟨g, 0, none⟩) F.length cap) := by
        rw [hb3.cell (p := ⟨w.heap.size, 0, none⟩) (by simp; omega), World.cell?_alloc_past _ _ _ (by simp; omega), World.cell?_alloc_past _ _ _ (by omega)]
        exact p1
      have HB3 : Hid (Below w.heap.size w w3) := (hB.out _ _).trans (hb3.mono (by simp; omega))
      clear hb3
      go_wp2_with fail
      refine (d_following (HP.out.keep HB3.out) hl HPar.out (k : Int) (by omega) (by omega)).mono ?_
      rintro e w4 ⟨rfl, hb4⟩
      go_wp2_with fail
      go_ret2
      exact ⟨by rw [HE.out]; rfl, HB3.out.trans (hb4.mono HB3.out.size)⟩
  · have HE : Hid (_ = _) := HN3.out.trans (if_pos hfi)
    have bf : (fi != -1) = true := by rw [bne_iff_ne]; exact hfi
    clear HN3 hfi
    go_enter Try.func29, Try.ntmps29
    go_wp2_with fail
    refine (HAt.out _ (HB.out _)).mono ?_
    rintro e w1 ⟨rfl, hb1⟩
    have p1 : w1.cell? ⟨w.heap.size, 0, none⟩ = some (.slice (some ⟨g, 0, none⟩) F.length cap) := by
      rw [hb1.cell (p := ⟨w.heap.size, 0, none⟩) (by simp)]
      exact World.cell?_alloc_at _ _ _ _ rfl
    have H1 : Hid (Below w.heap.size w w1) := (HB.out _).trans (hb1.mono (by simp))
    have hs1 : w.heap.size + 1 ≤ w1.heap.size := by have := hb1.size; simp at this; omega
    have hlt1 : w.heap.size < w1.heap.size := by omega
    have hB : Hid (∀ o1 o2 : Obj, Below w.heap.size w ((w1.alloc o1).alloc o2)) := fun o1 o2 => (H1.out.alloc (by omega) _).alloc (by simp; omega) _
    clear hb1
    go_wp2_with fail
    refine (d_blocks _ _ _ _ _ _ _ _ _ _ _).mono ?_
    rintro e w2 ⟨rfl, o2, rfl⟩
    go_wp2_with fail
    refine (HFI.out _ (HP.out.keep (hB.out _ _))).mono ?_
    rintro e w3 ⟨rfl, hb3⟩
    have hsz3 := hb3.size
    simp at hsz3
    have s0 : w3.cell? ⟨w1.heap.size, 0, none⟩ = some (.int .i64 x.kind) := by
      rw [hb3.cell (p := ⟨w1.heap.size, 0, none⟩) (by simp; omega), World.cell?_alloc_past _ _ _ (by simp)]
      exact World.cell?_alloc_at _ _ _ _ rfl
    have p0 : w3.cell? ⟨w.heap.size, 0, none⟩ = some (.slice (some ⟨g, 0, none⟩) F.length cap) := by
      rw [hb3.cell (p := ⟨w.heap.size, 0, none⟩) (by simp; omega), World.cell?_alloc_past _ _ _ (by simp; omega), World.cell?_alloc_past _ _ _ (by omega)]
      exact p1
    have HB3 : Hid (Below w.heap.size w w3) := (hB.out _ _).trans (hb3.mono (by simp; omega))
    clear hb3
    clear s0
    go_wp2_with fail
    go_ret2
    exact ⟨by rw [HE.out]; rfl, HB3.out⟩

end Go.Proofs.Ytffajooegiempaa

/- What follows a statement: the program's way and the document's. No Go in here. -/
namespace Go.Proofs.Ytffajooegiempaa

variable {F : List Ds} {S : List St}

/-- Whose parents lie where. -/
theorem Blk.par {f : Nat} : ∀ {p b : Int} {a c : Nat}, Blk F S f p b a c → ∀ j, a ≤ j → j < c → ∃ x, F[j]? = some x ∧ ((x.parent = p ∧ x.block = b) ∨ ((a : Int) ≤ x.parent ∧ x.parent < j)) := by
  induction f with
  | zero => intro p b a c h j h1 h2; have h' : a = c := h; omega
  | succ f ih =>
    intro p b a c h j h1 h2
    rcases h with h | ⟨e, he, hs, hr⟩
    · omega
    · obtain ⟨x, u, hx, hu, hp, hb, hf, hae, hk⟩ := hs
      by_cases hj : j = a
      · subst hj; exact ⟨x, hx, .inl ⟨hp, hb⟩⟩
      · by_cases hje : j < e
        · rcases hk with ⟨_, hk⟩ | ⟨_, hk⟩ | ⟨_, q1, q2, hk1, hk2⟩
          · omega
          · obtain ⟨y, hy, h3⟩ := ih hk j (by omega) hje
            refine ⟨y, hy, .inr ?_⟩
            rcases h3 with ⟨h3, _⟩ | h3 <;> omega
          · by_cases hjq : j < u.mid
            · obtain ⟨y, hy, h3⟩ := ih hk1 j (by omega) hjq
              refine ⟨y, hy, .inr ?_⟩
              rcases h3 with ⟨h3, _⟩ | h3 <;> omega
            · obtain ⟨y, hy, h3⟩ := ih hk2 j (by omega) hje
              refine ⟨y, hy, .inr ?_⟩
              rcases h3 with ⟨h3, _⟩ | h3 <;> omega
        · obtain ⟨y, hy, h3⟩ := ih hr j (by omega) h2
          refine ⟨y, hy, ?_⟩
          rcases h3 with h3 | h3
          · exact .inl h3
          · exact .inr (by omega)

/-- No statement ends behind its block. -/
theorem Blk.fins {f : Nat} : ∀ {p b : Int} {a c : Nat}, Blk F S f p b a c → ∀ j, a ≤ j → j < c → ∃ u, S[j]? = some u ∧ j < u.fin ∧ u.fin ≤ c := by
  induction f with
  | zero => intro p b a c h j h1 h2; have h' : a = c := h; omega
  | succ f ih =>
    intro p b a c h j h1 h2
    rcases h with h | ⟨e, he, hs, hr⟩
    · omega
    · obtain ⟨x, u, hx, hu, hp, hb, hf, hae, hk⟩ := hs
      by_cases hj : j = a
      · subst hj; exact ⟨u, hu, by omega, by omega⟩
      · by_cases hje : j < e
        · rcases hk with ⟨_, hk⟩ | ⟨_, hk⟩ | ⟨_, q1, q2, hk1, hk2⟩
          · omega
          · obtain ⟨v, hv, h3, h4⟩ := ih hk j (by omega) hje
            exact ⟨v, hv, h3, by omega⟩
          · by_cases hjq : j < u.mid
            · obtain ⟨v, hv, h3, h4⟩ := ih hk1 j (by omega) hjq
              exact ⟨v, hv, h3, by omega⟩
            · obtain ⟨v, hv, h3, h4⟩ := ih hk2 j (by omega) hje
              exact ⟨v, hv, h3, by omega⟩
        · exact ih hr j (by omega) h2

/-- A statement of the block itself: those ahead of it end there at the latest; from it on the block goes on. -/
theorem Blk.at_ {f : Nat} : ∀ {p b : Int} {a c : Nat}, Blk F S f p b a c → p < a → ∀ i x, a ≤ i → i < c → F[i]? = some x → x.parent = p → (∀ k, a ≤ k → k < i → ∃ u, S[k]? = some u ∧ u.fin ≤ i) ∧ ∃ g e, e ≤ c ∧ StmOk F S (Blk F S g) p b i e ∧ Blk F S g p b e c := by
  induction f with
  | zero => intro p b a c h _ i x h1 h2; have h' : a = c := h; omega
  | succ f ih =>
    intro p b a c h hpa i x h1 h2 hx hp
    rcases h with h | ⟨e, he, hs, hr⟩
    · omega
    · have hae := hs.lt
      by_cases hi : i = a
      · subst hi
        exact ⟨fun k h3 h4 => by omega, f, e, he, hs, hr⟩
      · have hall : Blk F S (f + 1) p b a c := .inr ⟨e, he, hs, hr⟩
        have hone : Blk F S (f + 1) p b a e := .inr ⟨e, Nat.le_refl _, hs, by cases f with | zero => exact rfl | succ f => exact .inl rfl⟩
        by_cases hie : i < e
        · exfalso
          obtain ⟨y, u, hy, hu, hp', hb', hf, hae', hk⟩ := hs
          have inner : ∀ (b : Int) (a1 c1 : Nat), a + 1 ≤ a1 → Blk F S f a b a1 c1 → a1 ≤ i → i < c1 → False := by
            intro b a1 c1 ha1 hB h3 h4
            obtain ⟨z, hz, h5⟩ := hB.par i h3 h4
            rw [hx] at hz
            cases hz
            rcases h5 with ⟨h5, _⟩ | h5 <;> omega
          rcases hk with ⟨_, hk⟩ | ⟨_, hk⟩ | ⟨_, q1, q2, hk1, hk2⟩
          · omega
          · exact inner _ _ _ (by omega) hk (by omega) hie
          · by_cases hjq : i < u.mid
            · exact inner _ _ _ (by omega) hk1 (by omega) hjq
            · exact inner _ _ _ (by omega) hk2 (by omega) hie
        · obtain ⟨h3, h4⟩ := ih hr (by omega) i x (by omega) h2 hx hp
          refine ⟨fun k hk1 hk2 => ?_, h4⟩
          by_cases hke : k < e
          · obtain ⟨v, hv, _, h6⟩ := hone.fins k hk1 hke
            exact ⟨v, hv, by omega⟩
          · exact h3 k (by omega) hk2

/-- Where the block of a statement begins and ends. -/
def Ctx (F : List Ds) (S : List St) (p b : Int) (a c : Nat) : Prop :=
  (p = -1 ∧ b = 0 ∧ a = 0 ∧ c = F.length) ∨ ∃ (q : Nat) (x : Ds) (u : St), p = q ∧ F[q]? = some x ∧ S[q]? = some u ∧
    ((x.kind = 3 ∧ b = 0 ∧ a = q + 1 ∧ c = u.fin) ∨ (x.kind = 2 ∧ b = 0 ∧ a = q + 1 ∧ c = u.mid ∧ u.mid ≤ u.fin) ∨ (x.kind = 2 ∧ b = 1 ∧ a = u.mid ∧ c = u.fin ∧ q + 1 ≤ u.mid))

theorem Ctx.lt {p b : Int} {a c : Nat} (h : Ctx F S p b a c) : p < a := by
  rcases h with ⟨h1, _, h3, _⟩ | ⟨q, x, u, h1, _, _, h2⟩
  · omega
  · rcases h2 with h2 | h2 | h2 <;> omega

/-- Each statement stands in a block. -/
theorem Blk.pos {f : Nat} : ∀ {p b : Int} {a c : Nat}, Blk F S f p b a c → (∃ a0, a0 ≤ a ∧ Ctx F S p b a0 c ∧ ∃ g, Blk F S g p b a0 c) → ∀ i, a ≤ i → i < c → ∃ x a0 c0, F[i]? = some x ∧ a0 ≤ i ∧ i < c0 ∧ Ctx F S x.parent x.block a0 c0 ∧ ∃ g, Blk F S g x.parent x.block a0 c0 := by
  induction f with
  | zero => intro p b a c h _ i h1 h2; have h' : a = c := h; omega
  | succ f ih =>
    intro p b a c h hctx i h1 h2
    obtain ⟨a0, ha0, hC, g, hg⟩ := hctx
    rcases h with h | ⟨e, he, hs, hr⟩
    · omega
    · obtain ⟨x, u, hx, hu, hp, hb, hf, hae, hk⟩ := hs
      by_cases hi : i = a
      · subst hi
        exact ⟨x, a0, c, hx, ha0, h2, by rw [hp, hb]; exact hC, g, by rw [hp, hb]; exact hg⟩
      · by_cases hie : i < e
        · rcases hk with ⟨_, hk⟩ | ⟨k3, hk⟩ | ⟨k2, q1, q2, hk1, hk2⟩
          · omega
          · exact ih hk ⟨a + 1, Nat.le_refl _, .inr ⟨a, x, u, rfl, hx, hu, .inl ⟨k3, rfl, rfl, hf.symm⟩⟩, f, hk⟩ i (by omega) hie
          · by_cases hiq : i < u.mid
            · exact ih hk1 ⟨a + 1, Nat.le_refl _, .inr ⟨a, x, u, rfl, hx, hu, .inr (.inl ⟨k2, rfl, rfl, rfl, by omega⟩)⟩, f, hk1⟩ i (by omega) hiq
            · exact ih hk2 ⟨u.mid, Nat.le_refl _, .inr ⟨a, x, u, rfl, hx, hu, .inr (.inr ⟨k2, rfl, rfl, hf.symm, by omega⟩)⟩, f, hk2⟩ i (by omega) hie
        · exact ih hr ⟨a0, by omega, hC, g, hg⟩ i (by omega) h2

/-- The whole program. -/
def Whole (F : List Ds) (S : List St) : Prop := CorL F S ∧ ∃ f, Blk F S f (-1) 0 0 F.length

theorem Whole.pos (h : Whole F S) (i : Nat) (hi : i < F.length) : ∃ x a0 c0, F[i]? = some x ∧ a0 ≤ i ∧ i < c0 ∧ Ctx F S x.parent x.block a0 c0 ∧ ∃ g, Blk F S g x.parent x.block a0 c0 := by
  obtain ⟨_, f, hf⟩ := h
  exact hf.pos ⟨0, Nat.le_refl _, .inl ⟨rfl, rfl, rfl, rfl⟩, f, hf⟩ i (Nat.zero_le _) hi

end Go.Proofs.Ytffajooegiempaa

/- The document's ways, plain. -/
namespace Go.Proofs.Ytffajooegiempaa

/-- The last statement ahead of i that ends behind it. -/
def lastOpen (S : List St) (i : Nat) : Nat → Int
  | 0 => -1
  | k + 1 => if i < (S.getD k noSt).fin then (k : Int) else lastOpen S i k
def endOf (u : St) (i : Nat) : Nat := if u.kind = 63 ∧ i < u.mid then u.mid else u.fin
def followR (S : List St) : Nat → Nat → Int
  | 0, _ => 0
  | n + 1, i => if lastOpen S i i < 0 then ((S.getD i noSt).fin : Int)
    else if (S.getD i noSt).fin < endOf (S.getD (lastOpen S i i).toNat noSt) i then ((S.getD i noSt).fin : Int)
    else if (S.getD (lastOpen S i i).toNat noSt).kind = 64 then lastOpen S i i
    else followR S n (lastOpen S i i).toNat

/-- How many ways lead out of a statement. -/
def waysR (u : St) : Int := if u.kind = 61 ∨ u.kind = 33 then 1 else 2
/-- Where a way leads. -/
def nextR (S : List St) (p : Nat) (way : Int) : Int :=
  let u := S.getD p noSt
  let f := followR S 21 p
  if u.kind = 61 ∨ u.kind = 33 ∨ (u.kind = 64 ∧ way = 1) then f
  else if u.kind = 64 ∧ u.fin = p + 1 then p
  else if u.kind = 64 then (p : Int) + 1
  else if way = 0 ∧ p + 1 < u.mid then (p : Int) + 1
  else if way = 1 ∧ u.mid < u.fin then u.mid
  else f

theorem lastOpen_lt (S : List St) (i : Nat) : ∀ k, -1 ≤ lastOpen S i k ∧ lastOpen S i k < k := by
  intro k
  induction k with
  | zero => unfold lastOpen; omega
  | succ k ih =>
    unfold lastOpen
    split
    · omega
    · omega

end Go.Proofs.Ytffajooegiempaa

namespace Go.Proofs.Ytffajooegiempaa

variable {F : List Ds} {S : List St}

theorem getD_some {α : Type} {l : List α} {i : Nat} {x d : α} (h : l[i]? = some x) : l.getD i d = x := by rw [List.getD_eq_getElem?_getD, h]; rfl

theorem firstGo_hit {p b fr : Int} : ∀ (l : List Ds) (i j : Nat) (x : Ds), l[j]? = some x → fr ≤ ((i + j : Nat) : Int) → x.parent = p → x.block = b → (∀ k y, k < j → l[k]? = some y → fr ≤ ((i + k : Nat) : Int) → ¬ (y.parent = p ∧ y.block = b)) → firstGo p b fr l i = ((i + j : Nat) : Int) := by
  intro l
  induction l with
  | nil => intro i j x h; simp at h
  | cons y l ih =>
    intro i j x h hf hp hb hno
    cases j with
    | zero =>
      simp at h
      subst h
      simp only [firstGo]
      rw [if_pos ⟨by simpa using hf, hp, hb⟩]; rfl
    | succ j =>
      simp only [firstGo]
      rw [if_neg (by
        rintro ⟨h1, h2⟩
        exact hno 0 y (by omega) rfl (by simpa using h1) h2)]
      rw [ih (i + 1) j x (by simpa using h) (by rw [show i + 1 + j = i + (j + 1) by omega]; exact hf) hp hb (fun k z hk hz hfk => hno (k + 1) z (by omega) (by simpa using hz) (by rw [show i + (k + 1) = i + 1 + k by omega]; exact hfk))]
      rw [show i + 1 + j = i + (j + 1) by omega]
theorem firstGo_miss {p b fr : Int} : ∀ (l : List Ds) (i : Nat), (∀ k y, l[k]? = some y → fr ≤ ((i + k : Nat) : Int) → ¬ (y.parent = p ∧ y.block = b)) → firstGo p b fr l i = -1 := by
  intro l
  induction l with
  | nil => intro i _; rfl
  | cons y l ih =>
    intro i hno
    simp only [firstGo]
    rw [if_neg (by
      rintro ⟨h1, h2⟩
      exact hno 0 y rfl (by simpa using h1) h2)]
    exact ih (i + 1) (fun k z hz hfk => hno (k + 1) z (by simpa using hz) (by rw [show i + (k + 1) = i + 1 + k by omega]; exact hfk))

theorem lastOpen_hit {i q : Nat} : ∀ (k : Nat), q < k → i < (S.getD q noSt).fin → (∀ j, q < j → j < k → (S.getD j noSt).fin ≤ i) → lastOpen S i k = q := by
  intro k
  induction k with
  | zero => intro h; omega
  | succ k ih =>
    intro h1 h2 h3
    unfold lastOpen
    by_cases e : q = k
    · subst e; rw [if_pos h2]
    · rw [if_neg (by have := h3 k (by omega) (by omega); omega)]
      exact ih (by omega) h2 (fun j hj hjk => h3 j hj (by omega))
theorem lastOpen_miss {i : Nat} : ∀ (k : Nat), (∀ j, j < k → (S.getD j noSt).fin ≤ i) → lastOpen S i k = -1 := by
  intro k
  induction k with
  | zero => intro _; rfl
  | succ k ih =>
    intro h
    unfold lastOpen
    rw [if_neg (by have := h k (by omega); omega)]
    exact ih (fun j hj => h j (by omega))

theorem StmOk.par {g : Nat} {p b : Int} {a e : Nat} (h : StmOk F S (Blk F S g) p b a e) (j : Nat) (h1 : a < j) (h2 : j < e) : ∃ x, F[j]? = some x ∧ (a : Int) ≤ x.parent := by
  obtain ⟨x, u, hx, hu, hp, hb, hf, hae, hk⟩ := h
  rcases hk with ⟨_, hk⟩ | ⟨_, hk⟩ | ⟨_, q1, q2, hk1, hk2⟩
  · omega
  · obtain ⟨y, hy, h3⟩ := hk.par j (by omega) h2
    exact ⟨y, hy, by rcases h3 with ⟨h3, _⟩ | h3 <;> omega⟩
  · by_cases hjq : j < u.mid
    · obtain ⟨y, hy, h3⟩ := hk1.par j (by omega) hjq
      exact ⟨y, hy, by rcases h3 with ⟨h3, _⟩ | h3 <;> omega⟩
    · obtain ⟨y, hy, h3⟩ := hk2.par j (by omega) h2
      exact ⟨y, hy, by rcases h3 with ⟨h3, _⟩ | h3 <;> omega⟩

theorem Ctx.det {p b : Int} {a c a' c' : Nat} (h : Ctx F S p b a c) (k : Ctx F S p b a' c') : a = a' ∧ c = c' := by
  rcases h with ⟨h1, h2, h3, h4⟩ | ⟨q, x, u, h1, hx, hu, h2⟩
  · rcases k with ⟨k1, k2, k3, k4⟩ | ⟨q', x', u', k1, kx, ku, k2⟩
    · exact ⟨by omega, by omega⟩
    · omega
  · rcases k with ⟨k1, k2, k3, k4⟩ | ⟨q', x', u', k1, kx, ku, k2⟩
    · omega
    · have e : q = q' := by omega
      subst e
      rw [hx] at kx
      rw [hu] at ku
      cases kx
      cases ku
      rcases h2 with h2 | h2 | h2 <;> rcases k2 with k2 | k2 | k2 <;> omega

/-- All that is known of one statement. -/
theorem Whole.at_ (h : Whole F S) (i : Nat) (hi : i < F.length) : ∃ x u a0 c0 g, F[i]? = some x ∧ S[i]? = some u ∧ Cor x u ∧ a0 ≤ i ∧ i < u.fin ∧ u.fin ≤ c0 ∧ Ctx F S x.parent x.block a0 c0 ∧
    StmOk F S (Blk F S g) x.parent x.block i u.fin ∧ Blk F S g x.parent x.block u.fin c0 ∧ (∀ k, a0 ≤ k → k < i → (S.getD k noSt).fin ≤ i) := by
  obtain ⟨x, a0, c0, hx, ha, hc, hC, g, hg⟩ := h.pos i hi
  obtain ⟨h1, g', e, he, hs, hr⟩ := hg.at_ hC.lt i x ha hc hx rfl
  obtain ⟨y, u, hy, hu, hp, hb, hf, hae, hk⟩ := hs
  rw [hx] at hy
  cases hy
  subst hf
  exact ⟨x, u, a0, c0, g', hx, hu, h.1.cor i x u hx hu, ha, hae, he, hC, ⟨x, u, hx, hu, hp, hb, rfl, hae, hk⟩, hr, fun k hk1 hk2 => by
    obtain ⟨v, hv, hvf⟩ := h1 k hk1 hk2
    rw [getD_some hv]; exact hvf⟩

/-- What comes next in the block. -/
theorem Whole.first (h : Whole F S) {i : Nat} {x : Ds} {u : St} {a0 c0 g : Nat} (_hx : F[i]? = some x) (ha : a0 ≤ i) (hfc : u.fin ≤ c0) (hif : i < u.fin) (hC : Ctx F S x.parent x.block a0 c0) (hs : StmOk F S (Blk F S g) x.parent x.block i u.fin) (hr : Blk F S g x.parent x.block u.fin c0) :
    firstP F x.parent x.block (i + 1) = if u.fin < c0 then (u.fin : Int) else -1 := by
  have hplt := hC.lt
  have hin : ∀ k y, i < k → k < u.fin → F[k]? = some y → ¬ (y.parent = x.parent ∧ y.block = x.block) := by
    rintro k y h1 h2 hy ⟨h3, _⟩
    obtain ⟨z, hz, h4⟩ := hs.par k h1 h2
    rw [hy] at hz
    cases hz
    omega
  by_cases hlt : u.fin < c0
  · rw [if_pos hlt]
    obtain ⟨y, hy, hyp⟩ : ∃ y, F[u.fin]? = some y ∧ y.parent = x.parent ∧ y.block = x.block := by
      cases g with
      | zero => have h' : u.fin = c0 := hr; omega
      | succ g =>
        rcases hr with hr | ⟨e, he, hs2, _⟩
        · omega
        · obtain ⟨y, v, hy, _, hp, hb, _⟩ := hs2
          exact ⟨y, hy, hp, hb⟩
    have := firstGo_hit (p := x.parent) (b := x.block) (fr := (i : Int) + 1) F 0 u.fin y hy (by omega) hyp.1 hyp.2 (fun k z hk hz hf => hin k z (by omega) hk hz)
    rw [Nat.zero_add] at this
    exact this
  · rw [if_neg hlt]
    refine firstGo_miss F 0 (fun k y hy hf hm => ?_)
    have hk : k < F.length := by
      rcases Nat.lt_or_ge k F.length with h' | h'
      · exact h'
      · simp [List.getElem?_eq_none h'] at hy
    obtain ⟨z, a1, c1, hz, _, hkc, hC1, _⟩ := h.pos k hk
    rw [hy] at hz
    cases hz
    rw [hm.1, hm.2] at hC1
    have := hC.det hC1
    exact hin k y (by omega) (by omega) hy hm

/-- The statement in whose block it stands. -/
theorem Whole.open_ (h : Whole F S) {i : Nat} (_hi : i < F.length) {x : Ds} {a0 c0 : Nat} (hC : Ctx F S x.parent x.block a0 c0) (hic : i < c0) (hai : a0 ≤ i) (hk : ∀ k, a0 ≤ k → k < i → (S.getD k noSt).fin ≤ i) : lastOpen S i i = x.parent := by
  rcases hC with ⟨h1, h2, h3, h4⟩ | ⟨q, y, v, h1, hy, hv, h2⟩
  · rw [h1]; exact lastOpen_miss i (fun j hj => hk j (by omega) hj)
  · rw [h1]
    have hq : q < F.length := by
      rcases Nat.lt_or_ge q F.length with h' | h'
      · exact h'
      · simp [List.getElem?_eq_none h'] at hy
    have hvD : S.getD q noSt = v := getD_some hv
    obtain ⟨y', v', a1, c1, g1, hy', hv', _, _, hq1, _, _, hs, _, _⟩ := h.at_ q hq
    rw [hy] at hy'
    rw [hv] at hv'
    cases hy'
    cases hv'
    refine lastOpen_hit i (by rcases h2 with h2 | h2 | h2 <;> omega) (by rw [hvD]; rcases h2 with h2 | h2 | h2 <;> omega) (fun j hj1 hj2 => ?_)
    by_cases hja : a0 ≤ j
    · exact hk j hja hj2
    · obtain ⟨y2, v2, hy2, hv2, _, _, _, _, hkk⟩ := hs
      rw [hy] at hy2
      rw [hv] at hv2
      cases hy2
      cases hv2
      rcases hkk with ⟨hk0, _⟩ | ⟨hk3, _⟩ | ⟨_, q1, q2, hk1, _⟩
      · rcases h2 with h2 | h2 | h2 <;> omega
      · rcases h2 with h2 | h2 | h2 <;> omega
      · have hjm : j < v.mid := by rcases h2 with h2 | h2 | h2 <;> omega
        obtain ⟨t, ht, _, htf⟩ := hk1.fins j (by omega) hjm
        rw [getD_some ht]
        rcases h2 with h2 | h2 | h2 <;> omega

theorem follow_same (h : Whole F S) : ∀ (n i : Nat), i < F.length → i < n → followP F n i = followR S n i := by
  intro n
  induction n with
  | zero => intro i _ hi; omega
  | succ n ih =>
    intro i hi hn
    obtain ⟨x, u, a0, c0, g, hx, hu, hcor, ha, hif, hfc, hC, hs, hr, hk⟩ := h.at_ i hi
    have hxD : F.getD i (newDs 0 0) = x := getD_some hx
    have huD : S.getD i noSt = u := getD_some hu
    have hfirst := h.first hx ha hfc hif hC hs hr
    have hopen := h.open_ hi hC (by omega) ha hk
    have e1 : followP F (n + 1) i = if firstP F x.parent x.block (i + 1) ≠ -1 then firstP F x.parent x.block (i + 1) else if isRepP F x.parent = true then x.parent else followP F n x.parent := by
      rw [followP, if_neg (by omega)]
      simp only [Int.toNat_natCast]
      rw [hxD]
    have e2 : followR S (n + 1) i = if x.parent < 0 then (u.fin : Int) else if u.fin < endOf (S.getD x.parent.toNat noSt) i then (u.fin : Int) else if (S.getD x.parent.toNat noSt).kind = 64 then x.parent else followR S n x.parent.toNat := by
      rw [followR, hopen, huD]
    rw [e1, e2, hfirst]
    rcases hC with ⟨h1, h2, h3, h4⟩ | ⟨q, y, v, h1, hy, hv, h2⟩
    · rw [h1, if_pos (by decide : (-1 : Int) < 0)]
      by_cases hlt : u.fin < c0
      · rw [if_pos hlt, if_pos (show ((u.fin : Int) ≠ -1) by omega)]
      · rw [if_neg hlt, if_neg (show ¬ ((-1 : Int) ≠ -1) by decide), if_neg (show ¬ (isRepP F (-1) = true) by simp [isRepP])]
        cases n with
        | zero => show (F.length : Int) = _; omega
        | succ n => rw [followP, if_pos (.inl (by decide))]; omega
    · have hyD : F.getD q (newDs 0 0) = y := getD_some hy
      have hvD : S.getD q noSt = v := getD_some hv
      have hq : q < F.length := by
        rcases Nat.lt_or_ge q F.length with h' | h'
        · exact h'
        · simp [List.getElem?_eq_none h'] at hy
      have hcor2 := h.1.cor q y v hy hv
      rw [h1, if_neg (show ¬ ((q : Int) < 0) by omega)]
      simp only [Int.toNat_natCast]
      rw [hvD]
      have hend : endOf v i = c0 := by
        unfold endOf
        rcases h2 with ⟨k3, _, _, hc⟩ | ⟨k2, _, _, hc, _⟩ | ⟨k2, _, hm, hc, _⟩
        · rw [if_neg (by rw [hcor2.1, k3]; rintro ⟨e, _⟩; exact absurd e (by decide))]; exact hc.symm
        · rw [if_pos ⟨by rw [hcor2.1, k2]; rfl, by omega⟩]; exact hc.symm
        · rw [if_neg (by omega)]; exact hc.symm
      rw [hend]
      by_cases hlt : u.fin < c0
      · rw [if_pos hlt, if_pos (show ((u.fin : Int) ≠ -1) by omega), if_pos hlt]
      · rw [if_neg hlt, if_neg (show ¬ ((-1 : Int) ≠ -1) by decide), if_neg hlt]
        have hqi : q < i := by rcases h2 with h2 | h2 | h2 <;> omega
        have hrep : isRepP F q = decide (y.kind = 3) := by
          have e : (F.getD ((q : Int)).toNat (newDs 0 0)).kind = y.kind := by rw [Int.toNat_natCast, hyD]
          unfold isRepP
          simp only [e]
          rw [decide_eq_true (show (0 : Int) ≤ q by omega), decide_eq_true (show (q : Int) < F.length by omega)]
          rfl
        have hkind : v.kind = 64 ↔ y.kind = 3 := by
          rw [hcor2.1]
          rcases h2 with h2 | h2 | h2
          · rw [h2.1]; decide
          · rw [h2.1]; decide
          · rw [h2.1]; decide
        rw [hrep]
        by_cases hk3 : y.kind = 3
        · rw [if_pos (by simp [hk3]), if_pos (hkind.2 hk3)]
        · rw [if_neg (by simp [hk3]), if_neg (fun e => hk3 (hkind.1 e))]
          exact ih q hq (by omega)

end Go.Proofs.Ytffajooegiempaa

namespace Go.Proofs.Ytffajooegiempaa

variable {F : List Ds} {S : List St}

theorem Whole.par (h : Whole F S) (k : Nat) (x : Ds) (hx : F[k]? = some x) : -1 ≤ x.parent ∧ x.parent < (k : Int) := by
  have hk : k < F.length := by
    rcases Nat.lt_or_ge k F.length with h' | h'
    · exact h'
    · simp [List.getElem?_eq_none h'] at hx
  obtain ⟨y, a0, c0, hy, ha, _, hC, _⟩ := h.pos k hk
  rw [hx] at hy
  cases hy
  have hlt := hC.lt
  rcases hC with ⟨h1, _⟩ | ⟨q, _, _, h1, _⟩ <;> omega

/-- The first statement of a block of statement i. -/
theorem Whole.inner (h : Whole F S) {i : Nat} {b : Int} {a c g : Nat} (hC : Ctx F S i b a c) (hB : Blk F S g i b a c) : firstP F i b ((i : Int) + 1) = if a < c then (a : Int) else -1 := by
  have hia : (i : Int) < a := hC.lt
  have hno : ∀ (k : Nat) (y : Ds), F[k]? = some y → y.parent = (i : Int) → y.block = b → a ≤ k ∧ k < c := by
    intro k y hy hp hb
    have hk : k < F.length := by
      rcases Nat.lt_or_ge k F.length with h' | h'
      · exact h'
      · simp [List.getElem?_eq_none h'] at hy
    obtain ⟨z, a1, c1, hz, h1, h2, hC1, _⟩ := h.pos k hk
    rw [hy] at hz
    cases hz
    rw [hp, hb] at hC1
    have := hC.det hC1
    omega
  by_cases hlt : a < c
  · rw [if_pos hlt]
    obtain ⟨y, hy, hyp⟩ : ∃ y, F[a]? = some y ∧ y.parent = i ∧ y.block = b := by
      cases g with
      | zero => have h' : a = c := hB; omega
      | succ g =>
        rcases hB with hB | ⟨e, he, hs2, _⟩
        · omega
        · obtain ⟨y, v, hy, _, hp, hb, _⟩ := hs2
          exact ⟨y, hy, hp, hb⟩
    have := firstGo_hit (p := i) (b := b) (fr := (i : Int) + 1) F 0 a y hy (by omega) hyp.1 hyp.2 (fun k z hk hz _ hm => by have := hno k z hz hm.1 hm.2; omega)
    rw [Nat.zero_add] at this
    exact this
  · rw [if_neg hlt]
    refine firstGo_miss F 0 (fun k y hy _ hm => ?_)
    have := hno k y hy hm.1 hm.2
    omega

/-- Where a way leads: both ways of telling. -/
theorem next_same (h : Whole F S) (hl : F.length ≤ 20) (k : Nat) (hk : k < F.length) (way : Int) :
    nextP F k way = if way < 0 ∨ waysR (S.getD k noSt) ≤ way then (0, 2) else (nextR S k way, 0) := by
  obtain ⟨x, u, a0, c0, g, hx, hu, hcor, ha, hif, hfc, hC, hs, hr, hkk⟩ := h.at_ k hk
  have hxD : F.getD k (newDs 0 0) = x := getD_some hx
  have huD : S.getD k noSt = u := getD_some hu
  have hfol := follow_same h 21 k hk (by omega)
  have e1 : nextP F k way = if way < 0 ∨ waysP x.kind ≤ way then (0, 2) else if blocksOf x.kind ≤ way then (followP F 21 k, 0) else if firstP F k way ((k : Int) + 1) ≠ -1 then (firstP F k way ((k : Int) + 1), 0) else if x.kind = 3 then ((k : Int), 0) else (followP F 21 k, 0) := by
    unfold nextP
    rw [if_neg (by omega), Int.toNat_natCast, hxD]
  have e2 : nextR S k way = if u.kind = 61 ∨ u.kind = 33 ∨ (u.kind = 64 ∧ way = 1) then followR S 21 k else if u.kind = 64 ∧ u.fin = k + 1 then (k : Int) else if u.kind = 64 then (k : Int) + 1 else if way = 0 ∧ k + 1 < u.mid then (k : Int) + 1 else if way = 1 ∧ u.mid < u.fin then (u.mid : Int) else followR S 21 k := by
    unfold nextR
    simp only [huD]
  rw [e1, huD, e2, hfol]
  obtain ⟨x', u', hx', hu', _, _, _, _, hkd⟩ := hs
  rw [hx] at hx'
  rw [hu] at hu'
  cases hx'
  cases hu'
  have hkind := hcor.1
  rcases hkd with ⟨hk01, _⟩ | ⟨hk3, hB⟩ | ⟨hk2, q1, q2, hB1, hB2⟩
  · have hu61 : u.kind = 61 ∨ u.kind = 33 := by
      rcases hk01 with e | e
      · left; rw [hkind, e]; rfl
      · right; rw [hkind, e]; rfl
    have hw : waysP x.kind = 1 ∧ waysR u = 1 ∧ blocksOf x.kind = 0 := by
      refine ⟨?_, ?_, ?_⟩
      · rcases hk01 with e | e <;> rw [e] <;> decide
      · unfold waysR; rw [if_pos hu61]
      · rcases hk01 with e | e <;> rw [e] <;> decide
    rw [hw.1, hw.2.1, hw.2.2]
    by_cases hbad : way < 0 ∨ (1 : Int) ≤ way
    · rw [if_pos hbad, if_pos hbad]
    · rw [if_neg hbad, if_neg hbad, if_pos (show (0 : Int) ≤ way by omega), if_pos (show u.kind = 61 ∨ u.kind = 33 ∨ (u.kind = 64 ∧ way = 1) from hu61.elim .inl (fun e => .inr (.inl e)))]
  · have hu64 : u.kind = 64 := by rw [hkind, hk3]; rfl
    have hw : waysP x.kind = 2 ∧ waysR u = 2 ∧ blocksOf x.kind = 1 := by
      refine ⟨by rw [hk3]; decide, ?_, by rw [hk3]; decide⟩
      unfold waysR; rw [hu64]; decide
    rw [hw.1, hw.2.1, hw.2.2]
    by_cases hbad : way < 0 ∨ (2 : Int) ≤ way
    · rw [if_pos hbad, if_pos hbad]
    · rw [if_neg hbad, if_neg hbad]
      have hin := h.inner (b := 0) (.inr ⟨k, x, u, rfl, hx, hu, .inl ⟨hk3, rfl, rfl, rfl⟩⟩) hB
      by_cases w1 : way = 1
      · rw [if_pos (show (1 : Int) ≤ way by omega), if_pos (show u.kind = 61 ∨ u.kind = 33 ∨ (u.kind = 64 ∧ way = 1) from .inr (.inr ⟨hu64, w1⟩))]
      · have w0 : way = 0 := by omega
        subst w0
        rw [if_neg (show ¬ (1 : Int) ≤ 0 by decide), hin, if_neg (show ¬ (u.kind = 61 ∨ u.kind = 33 ∨ (u.kind = 64 ∧ (0 : Int) = 1)) by rw [hu64]; decide)]
        by_cases hlt : k + 1 < u.fin
        · rw [if_pos hlt, if_pos (show ((k + 1 : Nat) : Int) ≠ -1 by omega), if_neg (show ¬ (u.kind = 64 ∧ u.fin = k + 1) by omega), if_pos hu64]
          rfl
        · rw [if_neg hlt, if_neg (show ¬ ((-1 : Int) ≠ -1) by decide), if_pos hk3, if_pos (show u.kind = 64 ∧ u.fin = k + 1 from ⟨hu64, by omega⟩)]
  · have hu63 : u.kind = 63 := by rw [hkind, hk2]; rfl
    have hw : waysP x.kind = 2 ∧ waysR u = 2 ∧ blocksOf x.kind = 2 := by
      refine ⟨by rw [hk2]; decide, ?_, by rw [hk2]; decide⟩
      unfold waysR; rw [hu63]; decide
    rw [hw.1, hw.2.1, hw.2.2]
    by_cases hbad : way < 0 ∨ (2 : Int) ≤ way
    · rw [if_pos hbad, if_pos hbad]
    · rw [if_neg hbad, if_neg hbad, if_neg (show ¬ (2 : Int) ≤ way by omega)]
      have n1 : ¬ (u.kind = 61 ∨ u.kind = 33 ∨ (u.kind = 64 ∧ way = 1)) := by omega
      have n2 : ¬ (u.kind = 64 ∧ u.fin = k + 1) := by omega
      have n3 : ¬ u.kind = 64 := by omega
      have n4 : ¬ x.kind = 3 := by omega
      rw [if_neg n1, if_neg n2, if_neg n3]
      have hin0 := h.inner (b := 0) (.inr ⟨k, x, u, rfl, hx, hu, .inr (.inl ⟨hk2, rfl, rfl, rfl, q2⟩)⟩) hB1
      have hin1 := h.inner (b := 1) (.inr ⟨k, x, u, rfl, hx, hu, .inr (.inr ⟨hk2, rfl, rfl, rfl, q1⟩)⟩) hB2
      by_cases w0 : way = 0
      · subst w0
        rw [hin0]
        by_cases hlt : k + 1 < u.mid
        · rw [if_pos hlt, if_pos (show ((k + 1 : Nat) : Int) ≠ -1 by omega), if_pos (show (0 : Int) = 0 ∧ k + 1 < u.mid from ⟨rfl, hlt⟩)]
          rfl
        · rw [if_neg hlt, if_neg (show ¬ ((-1 : Int) ≠ -1) by decide), if_neg n4, if_neg (show ¬ ((0 : Int) = 0 ∧ k + 1 < u.mid) from fun e => hlt e.2), if_neg (show ¬ ((0 : Int) = 1 ∧ u.mid < u.fin) from fun e => absurd e.1 (by decide))]
      · have w1 : way = 1 := by omega
        subst w1
        rw [hin1, if_neg (show ¬ ((1 : Int) = 0 ∧ k + 1 < u.mid) from fun e => absurd e.1 (by decide))]
        by_cases hlt : u.mid < u.fin
        · rw [if_pos hlt, if_pos (show ((u.mid : Nat) : Int) ≠ -1 by omega), if_pos (show (1 : Int) = 1 ∧ u.mid < u.fin from ⟨rfl, hlt⟩)]
        · rw [if_neg hlt, if_neg (show ¬ ((-1 : Int) ≠ -1) by decide), if_neg n4, if_neg (show ¬ ((1 : Int) = 1 ∧ u.mid < u.fin) from fun e => hlt e.2)]

end Go.Proofs.Ytffajooegiempaa

namespace Go.Proofs.Ytffajooegiempaa
open Go.RowKit
variable {B : Nat} {w w' : World} {r : Nat} {m : Rd} {vs vo : Value} {P Q O : Nat → Nat}

theorem Rep.gets {j : Nat} (hj : j < m.st.length) : m.st[j]? = some (m.st.getD j noSt) := by rw [List.getD_eq_getElem?_getD, List.getElem?_eq_getElem hj]; rfl
theorem Rep.slen' (h : Rep B w r m vs vo P Q O) : ∃ ao cap, vs = .slice ao m.st.length cap := by
  obtain ⟨_, h2⟩ := h.rs
  rcases h2 with ⟨rfl, e⟩ | ⟨g, cap, c, rfl, _⟩
  · exact ⟨none, 0, by rw [e]⟩
  · exact ⟨_, cap, rfl⟩

set_option maxRecDepth 100000 in
set_option maxHeartbeats 800000 in
theorem Rep.ways (h : Rep B w r m vs vo P Q O) (p : Int) :
    Calls Try.prog 45 #[.pointer (some ⟨r, 0, none⟩), .int .i64 p] w fun e w' => e = .returned (.int .i64 (if p < 0 ∨ (m.st.length : Int) ≤ p then 0 else waysR (m.st.getD p.toNat noSt))) ∧ w' = w := by
  obtain ⟨ao, cap, hvs⟩ := h.slen'
  obtain ⟨r0, r1, r2, r3, r4, r5, rf⟩ := h.rdc
  by_cases h0 : p < 0
  · rw [if_pos (.inl h0)]
    clear h r0 r2 r3 r4 r5 rf
    go_enter Try.func45, Try.ntmps45
    go_wp2_with fail
    go_ret
    exact ⟨rfl, rfl⟩
  by_cases h1 : (m.st.length : Int) ≤ p
  · rw [if_pos (.inr h1)]
    rw [hvs] at r1
    clear h r0 r2 r3 r4 r5 rf
    go_enter Try.func45, Try.ntmps45
    go_wp2_with fail
    go_ret
    exact ⟨rfl, rfl⟩
  rw [if_neg (fun e => e.elim h0 h1)]
  obtain ⟨k, rfl⟩ : ∃ k : Nat, p = k := ⟨p.toNat, by omega⟩
  rw [Int.toNat_natCast]
  have hk : k < m.st.length := by omega
  obtain ⟨g, cap', hvs', hrow, _⟩ := h.row (by omega)
  rw [hvs'] at r1
  have hc : w.cell? ⟨g, k, none⟩ = some (.pointer (some ⟨P k, 0, none⟩)) := hrow k hk
  obtain ⟨c0, -⟩ := h.stc k _ (Rep.gets hk)
  have hki : (k : Int) < (m.st.length : Int) := by omega
  unfold waysR
  clear h hrow hvs hvs' r0 r2 r3 r4 r5 rf h1
  generalize m.st.getD k noSt = u at *
  generalize P k = q at *
  by_cases k61 : u.kind = 61
  · rw [if_pos (.inl k61)]
    rw [k61] at c0
    clear k61
    go_enter Try.func45, Try.ntmps45
    go_wp2_with fail
    go_ret
    exact ⟨rfl, rfl⟩
  have b61 : (u.kind == 61) = false := by simpa using k61
  by_cases k33 : u.kind = 33
  · rw [if_pos (.inr k33)]
    rw [k33] at c0
    clear k33 k61 b61
    go_enter Try.func45, Try.ntmps45
    go_wp2_with fail
    go_ret
    exact ⟨rfl, rfl⟩
  have b33 : (u.kind == 33) = false := by simpa using k33
  rw [if_neg (fun e => e.elim k61 k33)]
  clear k33 k61
  go_enter Try.func45, Try.ntmps45
  go_wp2_with fail
  go_ret
  exact ⟨rfl, rfl⟩

end Go.Proofs.Ytffajooegiempaa

namespace Go.Proofs.Ytffajooegiempaa
open Go.RowKit

/-- The machine behind a text that is a program. -/
def progOf (l : List Int) : Option Rd :=
  if 160 < l.length then none else match (readFrom init l 0).2 with
    | none => none
    | some m => if isDone m then some m else none

theorem progOf_none {l : List Int} (h : progOf l = none) : (scanOf l).2.1 = 1 := by
  unfold progOf at h
  unfold scanOf
  split at h
  · rename_i e; rw [if_pos e]
  · rename_i e
    rw [if_neg e]
    rcases hr : readFrom init l 0 with ⟨n, _ | m⟩
    · rfl
    · rw [hr] at h
      simp only at h ⊢
      cases hd : isDone m
      · simp
      · rw [hd] at h; simp at h
theorem progOf_some {l : List Int} {m : Rd} (h : progOf l = some m) : l.length ≤ 160 ∧ (∃ n, readFrom init l 0 = (n, some m)) ∧ isDone m = true ∧ scanOf l = ((m.st.length : Int) + 1, 0, 0) := by
  unfold progOf at h
  split at h
  · cases h
  · rename_i e
    rcases hr : readFrom init l 0 with ⟨n, _ | m'⟩
    · rw [hr] at h; cases h
    · rw [hr] at h
      simp only at h
      cases hd : isDone m'
      · rw [hd] at h; simp at h
      · rw [hd] at h
        simp at h
        subst h
        refine ⟨by omega, ⟨n, rfl⟩, hd, ?_⟩
        unfold scanOf
        rw [if_neg e, hr]
        simp [hd]

/-- The number of ways at a point. -/
def waysAt (m : Rd) (p : Int) : Int := if p < 0 ∨ (m.st.length : Int) ≤ p then 0 else waysR (m.st.getD p.toNat noSt)
def two (x : Int × Int) : Ending := .returned (.tuple #[.int .i64 x.1, .int .i64 x.2])

/-- The reader of a program, read anew. -/
theorem ref_again {s : ByteArray} {m : Rd} (hp : progOf (bytesOf s) = some m) (w : World) :
    Calls Try.prog 28 #[.string s] w fun e w' => ∃ n : Nat, e = .returned (.tuple #[.pointer (some ⟨w.heap.size, 0, none⟩), .int .i64 n, .bool true]) ∧ Below w.heap.size w w' ∧ m.st.length ≤ 20 ∧ ∃ vs vo P Q O, Rep w.heap.size w' w.heap.size m vs vo P Q O := by
  obtain ⟨hl, ⟨n, hr⟩, hd, _⟩ := progOf_some hp
  refine (ref_read s w (by rw [← bytesOf_len]; exact hl)).mono ?_
  rintro e w' ⟨hb, _, h⟩
  rw [hr] at h
  obtain ⟨he, ok, hrep⟩ := h
  exact ⟨n, by rw [he, hd], hb, ok.len, hrep⟩

set_option maxRecDepth 100000 in
set_option maxHeartbeats 1600000 in
theorem ref_known_none (s : ByteArray) (p way : Int) (w : World) (hm : s.size ≤ maxLen) (hp : progOf (bytesOf s) = none) :
    Calls Try.prog 30 #[.string s, .int .i64 p, .int .i64 way] w fun e w' => e = .returned (.tuple #[.pointer none, .int .i64 1]) ∧ Below w.heap.size w w' := by
  have hs := ref_scan s w hm
  have h1 := progOf_none hp
  generalize scanOf (bytesOf s) = x at *
  obtain ⟨a, b, c⟩ := x
  have h2 : b = 1 := h1
  subst h2
  simp only [three] at hs
  clear hm hp h1
  go_enter Try.func30, Try.ntmps30
  go_wp2_with fail
  refine hs.mono ?_
  rintro e w1 ⟨rfl, hb⟩
  go_wp2_with fail
  go_ret2
  exact ⟨rfl, hb⟩

set_option maxRecDepth 100000 in
set_option maxHeartbeats 1600000 in
theorem ref_known_some (s : ByteArray) (p way : Int) (w : World) (hm : s.size ≤ maxLen) {m : Rd} (hp : progOf (bytesOf s) = some m) :
    Calls Try.prog 30 #[.string s, .int .i64 p, .int .i64 way] w fun e w' => Below w.heap.size w w' ∧ ((e = .returned (.tuple #[.pointer none, .int .i64 2]) ∧ (way < 0 ∨ waysAt m p ≤ way)) ∨
      (¬ (way < 0 ∨ waysAt m p ≤ way) ∧ m.st.length ≤ 20 ∧ ∃ r B vs vo P Q O, e = .returned (.tuple #[.pointer (some ⟨r, 0, none⟩), .int .i64 0]) ∧ Rep B w' r m vs vo P Q O)) := by
  have hs := ref_scan s w hm
  rw [(progOf_some hp).2.2.2] at hs
  simp only [three] at hs
  have hr := fun w => ref_again hp w
  have HW : Hid (∀ {B : Nat} {w : World} {r : Nat} {vs vo : Value} {P Q O : Nat → Nat}, Rep B w r m vs vo P Q O → Calls Try.prog 45 #[.pointer (some ⟨r, 0, none⟩), .int .i64 p] w fun e w' => e = .returned (.int .i64 (waysAt m p)) ∧ w' = w) := fun h => h.ways p
  clear hm hp
  generalize waysAt m p = wa at *
  by_cases hw : way < 0
  · go_enter Try.func30, Try.ntmps30
    go_wp2_with fail
    refine hs.mono ?_
    rintro e w1 ⟨rfl, hb⟩
    go_wp2_with fail
    refine (hr _).mono ?_
    rintro e w2 ⟨n, rfl, hb2, hlen, vs, vo, P, Q, O, hrep⟩
    have HR : Hid (Rep _ _ _ _ _ _ _ _ _) := hrep
    clear hrep
    go_wp2_with fail
    refine (HW.out HR.out).mono ?_
    rintro e w3 ⟨rfl, rfl⟩
    go_wp2_with fail
    go_ret2
    exact ⟨hb.trans (hb2.mono hb.size), .inl ⟨rfl, .inl hw⟩⟩
  by_cases hw2 : wa ≤ way
  · go_enter Try.func30, Try.ntmps30
    go_wp2_with fail
    refine hs.mono ?_
    rintro e w1 ⟨rfl, hb⟩
    go_wp2_with fail
    refine (hr _).mono ?_
    rintro e w2 ⟨n, rfl, hb2, hlen, vs, vo, P, Q, O, hrep⟩
    have HR : Hid (Rep _ _ _ _ _ _ _ _ _) := hrep
    clear hrep
    go_wp2_with fail
    refine (HW.out HR.out).mono ?_
    rintro e w3 ⟨rfl, rfl⟩
    go_wp2_with fail
    go_ret2
    exact ⟨hb.trans (hb2.mono hb.size), .inl ⟨rfl, .inr hw2⟩⟩
  · have HN : Hid (¬ (way < 0 ∨ wa ≤ way)) := fun e => e.elim hw hw2
    go_enter Try.func30, Try.ntmps30
    go_wp2_with fail
    refine hs.mono ?_
    rintro e w1 ⟨rfl, hb⟩
    go_wp2_with fail
    refine (hr _).mono ?_
    rintro e w2 ⟨n, rfl, hb2, hlen, vs, vo, P, Q, O, hrep⟩
    have HR : Hid (Rep _ _ _ _ _ _ _ _ _) := hrep
    clear hrep
    go_wp2_with fail
    refine (HW.out HR.out).mono ?_
    rintro e w3 ⟨rfl, rfl⟩
    go_wp2_with fail
    go_ret2
    exact ⟨hb.trans (hb2.mono hb.size), .inr ⟨HN.out, hlen, _, _, _, _, _, _, _, rfl, HR.out⟩⟩

end Go.Proofs.Ytffajooegiempaa

namespace Go.Proofs.Ytffajooegiempaa
open Go.RowKit

/-- A text that is a program: both readers have the same statements. -/
theorem prog_whole (s : ByteArray) (h160 : s.size ≤ 160) : (readGood s = false ∧ progOf (bytesOf s) = none) ∨ ∃ m, readGood s = true ∧ progOf (bytesOf s) = some m ∧ Whole (readZ s).2 m.st := by
  have hl := bytesOf_len s
  have hsame := scan_same s
  rcases read_says s with hd | ⟨m, ho, hf, hpk⟩
  · left
    have hg : readGood s = false := by unfold readGood; rw [hd.st]; rfl
    refine ⟨hg, ?_⟩
    cases hp : progOf (bytesOf s) with
    | none => rfl
    | some m =>
      exfalso
      have e := (progOf_some hp).2.2.2
      rw [← hsame] at e
      unfold scanD at e
      rw [if_neg (by omega), hg] at e
      simp at e
  · by_cases hlt : (readZ s).1.1 < s.size
    · left
      have hg : readGood s = false := by unfold readGood; rw [ho.sync.ns]; simp; omega
      refine ⟨hg, ?_⟩
      cases hp : progOf (bytesOf s) with
      | none => rfl
      | some m =>
        exfalso
        have e := (progOf_some hp).2.2.2
        rw [← hsame] at e
        unfold scanD at e
        rw [if_neg (by omega), hg] at e
        simp at e
    · right
      have hg : readGood s = true := by unfold readGood; rw [ho.sync.ns]; simp; omega
      have hfd := ho.sync.fd
      have he : (readZ s).1.1 = s.size := by have := ho.sync.le; omega
      rw [he, take_all] at hfd
      refine ⟨m, hg, ?_, ho.cor, hf⟩
      have hop : m.op = [] := ho.op
      unfold progOf
      rw [if_neg (by omega), readFrom_some (n := 0) hfd]
      have hdn : isDone m = true := by unfold isDone; rw [ho.st, hop]; rfl
      simp [hdn]

end Go.Proofs.Ytffajooegiempaa

namespace Go.Proofs.Ytffajooegiempaa
open Go.RowKit
variable {B : Nat} {w w' : World} {r : Nat} {m : Rd} {vs vo : Value} {P Q O : Nat → Nat}


set_option maxRecDepth 100000 in
set_option maxHeartbeats 1600000 in
theorem Rep.follows (h : Rep B w r m vs vo P Q O) (hl : m.st.length ≤ 20) (n : Nat) : ∀ i, i < m.st.length → i < n →
    Calls Try.prog 46 #[.pointer (some ⟨r, 0, none⟩), .int .i64 (i : Int)] w fun e w' => e = .returned (.int .i64 (followR m.st n i)) ∧ w' = w := by
  induction n with
  | zero => intro i _ hi; omega
  | succ n ih =>
    intro i hi hin
    obtain ⟨g, cap, hvs, hrow, _⟩ := h.row (by omega)
    obtain ⟨r0, r1, r2, r3, r4, r5, rf⟩ := h.rdc
    rw [hvs] at r1
    have hcell : ∀ j, j < m.st.length → w.cell? ⟨g, j, none⟩ = some (.pointer (some ⟨P j, 0, none⟩)) := hrow
    have hst := fun j (hj : j < m.st.length) => h.stc j _ (Rep.gets hj)
    have hI := fun j (h1 : j < m.st.length) (h2 : j < n) => ih j h1 h2
    have HI : Hid (∀ j, j < m.st.length → j < n → Calls Try.prog 46 #[.pointer (some ⟨r, 0, none⟩), .int .i64 (j : Int)] w fun e w' => e = .returned (.int .i64 (followR m.st n j)) ∧ w' = w) := hI
    have HC : Hid (∀ j, j < m.st.length → w.cell? ⟨g, j, none⟩ = some (.pointer (some ⟨P j, 0, none⟩))) := hcell
    have HS : Hid (∀ j, j < m.st.length → w.cell? ⟨P j, 0, none⟩ = some (.int .u8 (m.st.getD j noSt).kind) ∧ w.cell? ⟨P j, 5, none⟩ = some (.int .i64 (m.st.getD j noSt).mid) ∧ w.cell? ⟨P j, 6, none⟩ = some (.int .i64 (m.st.getD j noSt).fin)) := fun j hj => ⟨(hst j hj).1, (hst j hj).2.2.2.2.2.1, (hst j hj).2.2.2.2.2.2.1⟩
    have HF : Hid (followR m.st (n + 1) i = if lastOpen m.st i i < 0 then ((m.st.getD i noSt).fin : Int) else if (m.st.getD i noSt).fin < endOf (m.st.getD (lastOpen m.st i i).toNat noSt) i then ((m.st.getD i noSt).fin : Int) else if (m.st.getD (lastOpen m.st i i).toNat noSt).kind = 64 then lastOpen m.st i i else followR m.st n (lastOpen m.st i i).toNat) := by
      show followR _ _ _ = _; rw [followR]
    have hii : (i : Int) < (m.st.length : Int) := by omega
    clear h ih hrow hst hI hcell hvs r0 r2 r3 r4 r5 rf
    go_enter Try.func46, Try.ntmps46
    go_wp2_with fail
    go_loop [5, 6] (fun q k => ∃ j : Nat, j ≤ i ∧ k = .int .i64 j ∧ q = .int .i64 (lastOpen m.st i j)) (fun _ k => i - (intOf k).toNat)
    case atStart => exact ⟨0, Nat.zero_le _, rfl, rfl⟩
    case round =>
      obtain ⟨j, hj, rfl, rfl⟩ := hrel
      by_cases hlt : j < i
      · have hjl : j < m.st.length := by omega
        have hji : (j : Int) < (m.st.length : Int) := by omega
        have k1 := HC.out j hjl
        obtain ⟨-, -, k2⟩ := HS.out j hjl
        have HL : Hid (lastOpen m.st i (j + 1) = if i < (m.st.getD j noSt).fin then (j : Int) else lastOpen m.st i j) := rfl
        generalize lastOpen m.st i j = lo at *
        generalize (m.st.getD j noSt).fin = fi at *
        by_cases hf : i < fi
        · have hfi : (i : Int) < (fi : Int) := by omega
          go_wp2_with fail
          go_round
          case rel => exact ⟨j + 1, by omega, by go_num, by rw [HL.out, if_pos hf]⟩
          case measure => simp [intOf]; omega
        · have hfi : ¬ (i : Int) < (fi : Int) := by omega
          go_wp2_with fail
          go_round
          case rel => exact ⟨j + 1, by omega, by go_num, by rw [HL.out, if_neg hf]⟩
          case measure => simp [intOf]; omega
      · have hje : j = i := by omega
        subst hje
        have k1 := HC.out j hi
        obtain ⟨-, -, k2⟩ := HS.out j hi
        obtain ⟨l0, l1⟩ := lastOpen_lt m.st j j
        by_cases hneg : lastOpen m.st j j < 0
        · have HE : Hid (followR m.st (n + 1) j = ((m.st.getD j noSt).fin : Int)) := HF.out.trans (if_pos hneg)
          clear HF
          generalize lastOpen m.st j j = lo at *
          generalize (m.st.getD j noSt).fin = fi at *
          go_wp2_with fail
          go_ret
          exact ⟨by rw [HE.out]; rfl, rfl⟩
        · obtain ⟨q, hq⟩ : ∃ q : Nat, lastOpen m.st j j = q := ⟨(lastOpen m.st j j).toNat, by omega⟩
          rw [hq] at l1 hneg HF ⊢
          have hql : q < m.st.length := by omega
          have hqi : (q : Int) < (m.st.length : Int) := by omega
          have k3 := HC.out q hql
          obtain ⟨s0, s5, s6⟩ := HS.out q hql
          simp only [Int.toNat_natCast] at HF
          have HF2 : Hid (followR m.st (n + 1) j = if (m.st.getD j noSt).fin < endOf (m.st.getD q noSt) j then ((m.st.getD j noSt).fin : Int) else if (m.st.getD q noSt).kind = 64 then (q : Int) else followR m.st n q) := HF.out.trans (if_neg hneg)
          have hrec := HI.out q hql (by omega)
          clear HF hneg hq
          have HEn : Hid (endOf (m.st.getD q noSt) j = if (m.st.getD q noSt).kind = 63 ∧ j < (m.st.getD q noSt).mid then (m.st.getD q noSt).mid else (m.st.getD q noSt).fin) := rfl
          generalize m.st.getD q noSt = u at *
          generalize (m.st.getD j noSt).fin = fi at *
          have hq0 : ¬ (q : Int) < 0 := by omega
          by_cases h63 : u.kind = 63
          · rw [h63] at s0
            by_cases hmid : j < u.mid
            · have hmi : (j : Int) < (u.mid : Int) := by omega
              have en : endOf u j = u.mid := HEn.out.trans (if_pos ⟨h63, hmid⟩)
              rw [en, h63] at HF2
              clear HEn en h63
              by_cases hlt2 : fi < u.mid
              · have hd : (fi : Int) < (u.mid : Int) := by omega
                have HE : Hid (_ = _) := HF2.out.trans (if_pos hlt2)
                clear HF2
                go_wp2_with fail
                go_ret
                exact ⟨by rw [HE.out]; rfl, rfl⟩
              · have hd : ¬ (fi : Int) < (u.mid : Int) := by omega
                have HE : Hid (_ = _) := (HF2.out.trans (if_neg hlt2)).trans (if_neg (by decide))
                clear HF2
                go_wp2_with fail
                refine hrec.mono ?_
                rintro e w1 ⟨rfl, rfl⟩
                go_wp2_with fail
                go_ret
                exact ⟨by rw [HE.out]; rfl, rfl⟩
            · have hmi : ¬ (j : Int) < (u.mid : Int) := by omega
              have en : endOf u j = u.fin := HEn.out.trans (if_neg (fun e => hmid e.2))
              rw [en, h63] at HF2
              clear HEn en h63
              by_cases hlt2 : fi < u.fin
              · have hd : (fi : Int) < (u.fin : Int) := by omega
                have HE : Hid (_ = _) := HF2.out.trans (if_pos hlt2)
                clear HF2
                go_wp2_with fail
                go_ret
                exact ⟨by rw [HE.out]; rfl, rfl⟩
              · have hd : ¬ (fi : Int) < (u.fin : Int) := by omega
                have HE : Hid (_ = _) := (HF2.out.trans (if_neg hlt2)).trans (if_neg (by decide))
                clear HF2
                go_wp2_with fail
                refine hrec.mono ?_
                rintro e w1 ⟨rfl, rfl⟩
                go_wp2_with fail
                go_ret
                exact ⟨by rw [HE.out]; rfl, rfl⟩
          · have b63 : (u.kind == 63) = false := by simpa using h63
            have en : endOf u j = u.fin := HEn.out.trans (if_neg (fun e => h63 e.1))
            rw [en] at HF2
            clear HEn en h63
            by_cases hlt2 : fi < u.fin
            · have hd : (fi : Int) < (u.fin : Int) := by omega
              have HE : Hid (_ = _) := HF2.out.trans (if_pos hlt2)
              clear HF2
              go_wp2_with fail
              go_ret
              exact ⟨by rw [HE.out]; rfl, rfl⟩
            · have hd : ¬ (fi : Int) < (u.fin : Int) := by omega
              by_cases h64 : u.kind = 64
              · have HE : Hid (_ = _) := (HF2.out.trans (if_neg hlt2)).trans (if_pos h64)
                rw [h64] at s0
                clear b63 h64
                clear HF2
                go_wp2_with fail
                go_ret
                exact ⟨by rw [HE.out]; rfl, rfl⟩
              · have b64 : (u.kind == 64) = false := by simpa using h64
                have HE : Hid (_ = _) := (HF2.out.trans (if_neg hlt2)).trans (if_neg h64)
                clear h64
                clear HF2
                go_wp2_with fail
                refine hrec.mono ?_
                rintro e w1 ⟨rfl, rfl⟩
                go_wp2_with fail
                go_ret
                exact ⟨by rw [HE.out]; rfl, rfl⟩

end Go.Proofs.Ytffajooegiempaa

namespace Go.Proofs.Ytffajooegiempaa
open Go.RowKit
variable {B : Nat} {w w' : World} {r : Nat} {m : Rd} {vs vo : Value} {P Q O : Nat → Nat}


set_option maxRecDepth 100000 in
set_option maxHeartbeats 1600000 in
theorem Rep.next (h : Rep B w r m vs vo P Q O) (hl : m.st.length ≤ 20) (p : Nat) (hp : p < m.st.length) (way : Int) :
    Calls Try.prog 31 #[.pointer (some ⟨r, 0, none⟩), .int .i64 (p : Int), .int .i64 way] w fun e w' => e = .returned (.int .i64 (nextR m.st p way)) ∧ ∃ k, w' = w.drewN k := by
  have hfo := h.follows hl 21 p hp (by omega)
  obtain ⟨g, cap, hvs, hrow, _⟩ := h.row (by omega)
  obtain ⟨r0, r1, r2, r3, r4, r5, rf⟩ := h.rdc
  rw [hvs] at r1
  have hc : w.cell? ⟨g, p, none⟩ = some (.pointer (some ⟨P p, 0, none⟩)) := hrow p hp
  obtain ⟨c0, c1, c2, c3, c4, c5, c6, -⟩ := h.stc p _ (Rep.gets hp)
  have hpi : (p : Int) < (m.st.length : Int) := by omega
  have HN : Hid (nextR m.st p way = if (m.st.getD p noSt).kind = 61 ∨ (m.st.getD p noSt).kind = 33 ∨ ((m.st.getD p noSt).kind = 64 ∧ way = 1) then followR m.st 21 p
    else if (m.st.getD p noSt).kind = 64 ∧ (m.st.getD p noSt).fin = p + 1 then (p : Int)
    else if (m.st.getD p noSt).kind = 64 then (p : Int) + 1
    else if way = 0 ∧ p + 1 < (m.st.getD p noSt).mid then (p : Int) + 1
    else if way = 1 ∧ (m.st.getD p noSt).mid < (m.st.getD p noSt).fin then ((m.st.getD p noSt).mid : Int)
    else followR m.st 21 p) := rfl
  clear h hrow hvs r0 r2 r3 r4 r5 rf c1 c2 c3 c4
  generalize m.st.getD p noSt = u at *
  generalize followR m.st 21 p = fo at *
  generalize P p = q at *
  by_cases k61 : u.kind = 61
  · have HE : Hid (_ = _) := HN.out.trans (if_pos (.inl k61))
    rw [k61] at c0
    clear HN k61
    go_enter Try.func31, Try.ntmps31
    go_wp2_with fail
    refine hfo.mono ?_
    rintro e w1 ⟨rfl, rfl⟩
    go_wp2_with fail
    go_ret
    exact ⟨by rw [HE.out]; rfl, 0, rfl⟩
  have b61 : (u.kind == 61) = false := by simpa using k61
  by_cases k33 : u.kind = 33
  · have HE : Hid (_ = _) := HN.out.trans (if_pos (.inr (.inl k33)))
    rw [k33] at c0
    clear HN k61 b61 k33
    go_enter Try.func31, Try.ntmps31
    go_wp2_with fail
    refine hfo.mono ?_
    rintro e w1 ⟨rfl, rfl⟩
    go_wp2_with fail
    go_ret
    exact ⟨by rw [HE.out]; rfl, 0, rfl⟩
  have b33 : (u.kind == 33) = false := by simpa using k33
  by_cases k64 : u.kind = 64
  · by_cases w1 : way = 1
    · have HE : Hid (_ = _) := HN.out.trans (if_pos (.inr (.inr ⟨k64, w1⟩)))
      rw [k64] at c0
      subst w1
      clear HN k61 b61 k33 b33 k64
      go_enter Try.func31, Try.ntmps31
      go_wp2_with fail
      refine hfo.mono ?_
      rintro e w1 ⟨rfl, rfl⟩
      go_wp2_with fail
      go_ret
      exact ⟨by rw [HE.out]; rfl, 0, rfl⟩
    · have bw : (way == 1) = false := by simpa using w1
      have HN2 : Hid (_ = _) := HN.out.trans (if_neg (fun e => e.elim k61 (fun e => e.elim k33 (fun e => w1 e.2))))
      by_cases hf : u.fin = p + 1
      · have HE : Hid (_ = _) := HN2.out.trans (if_pos ⟨k64, hf⟩)
        have hfb : (((u.fin : Nat) : Int) == (p : Int) + 1) = true := by rw [beq_iff_eq]; omega
        rw [k64] at c0
        clear HN HN2 k61 b61 k33 b33 k64 w1 hf
        go_enter Try.func31, Try.ntmps31
        go_wp2_with fail
        refine hfo.mono ?_
        rintro e w1 ⟨rfl, rfl⟩
        go_wp2_with fail
        go_ret
        exact ⟨by rw [HE.out]; rfl, 0, rfl⟩
      · have HE : Hid (_ = _) := (HN2.out.trans (if_neg (fun e => hf e.2))).trans (if_pos k64)
        have hfb : (((u.fin : Nat) : Int) == (p : Int) + 1) = false := by rw [beq_eq_false_iff_ne]; omega
        rw [k64] at c0
        clear HN HN2 k61 b61 k33 b33 k64 w1 hf
        go_enter Try.func31, Try.ntmps31
        go_wp2_with fail
        refine hfo.mono ?_
        rintro e w1 ⟨rfl, rfl⟩
        go_wp2_with fail
        go_ret
        exact ⟨by rw [HE.out]; rfl, 0, rfl⟩
  have b64 : (u.kind == 64) = false := by simpa using k64
  have HN2 : Hid (_ = _) := ((HN.out.trans (if_neg (fun e => e.elim k61 (fun e => e.elim k33 (fun e => k64 e.1))))).trans (if_neg (fun e => k64 e.1))).trans (if_neg k64)
  clear HN k61 k33 k64
  by_cases w0 : way = 0
  · subst w0
    by_cases hm : p + 1 < u.mid
    · have HE : Hid (_ = _) := HN2.out.trans (if_pos ⟨rfl, hm⟩)
      have hmi : (p : Int) + 1 < (u.mid : Int) := by omega
      clear HN2
      go_enter Try.func31, Try.ntmps31
      go_wp2_with fail
      refine hfo.mono ?_
      rintro e w1 ⟨rfl, rfl⟩
      go_wp2_with fail
      go_ret
      exact ⟨by rw [HE.out]; rfl, 0, rfl⟩
    · have HE : Hid (_ = _) := (HN2.out.trans (if_neg (fun e => hm e.2))).trans (if_neg (fun e => absurd e.1 (by decide)))
      have hmi : ¬ (p : Int) + 1 < (u.mid : Int) := by omega
      clear HN2
      go_enter Try.func31, Try.ntmps31
      go_wp2_with fail
      refine hfo.mono ?_
      rintro e w1 ⟨rfl, rfl⟩
      go_wp2_with fail
      go_quiet (fail)
      go_wp2_with fail
      go_ret
      exact ⟨by rw [HE.out]; rfl, _, rfl⟩
  · have bw0 : (way == 0) = false := by simpa using w0
    by_cases w1 : way = 1
    · subst w1
      clear w0 bw0
      by_cases hm : u.mid < u.fin
      · have HE : Hid (_ = _) := (HN2.out.trans (if_neg (fun e => absurd e.1 (by decide)))).trans (if_pos ⟨rfl, hm⟩)
        have hmi : (u.mid : Int) < (u.fin : Int) := by omega
        clear HN2
        go_enter Try.func31, Try.ntmps31
        go_wp2_with fail
        refine hfo.mono ?_
        rintro e w1 ⟨rfl, rfl⟩
        go_wp2_with fail
        go_quiet (fail)
        go_wp2_with fail
        go_ret
        exact ⟨by rw [HE.out]; rfl, _, rfl⟩
      · have HE : Hid (_ = _) := (HN2.out.trans (if_neg (fun e => absurd e.1 (by decide)))).trans (if_neg (fun e => hm e.2))
        have hmi : ¬ (u.mid : Int) < (u.fin : Int) := by omega
        clear HN2
        go_enter Try.func31, Try.ntmps31
        go_wp2_with fail
        refine hfo.mono ?_
        rintro e w1 ⟨rfl, rfl⟩
        go_wp2_with fail
        go_quiet (fail)
        go_wp2_with fail
        go_ret
        exact ⟨by rw [HE.out]; rfl, _, rfl⟩
    · have bw1 : (way == 1) = false := by simpa using w1
      have HE : Hid (_ = _) := (HN2.out.trans (if_neg (fun e => w0 e.1))).trans (if_neg (fun e => w1 e.1))
      clear HN2 w0 w1
      go_enter Try.func31, Try.ntmps31
      go_wp2_with fail
      refine hfo.mono ?_
      rintro e w1 ⟨rfl, rfl⟩
      go_wp2_with fail
      go_quiet (fail)
      go_wp2_with fail
      go_ret
      exact ⟨by rw [HE.out]; rfl, _, rfl⟩

end Go.Proofs.Ytffajooegiempaa

namespace Go.Proofs.Ytffajooegiempaa
open Go.RowKit

/-- The document's Next. -/
def nextOf (l : List Int) (p way : Int) : Int × Int :=
  match progOf l with
  | none => (0, 1)
  | some m => if way < 0 ∨ waysAt m p ≤ way then (0, 2) else (nextR m.st p.toNat way, 0)

set_option maxRecDepth 100000 in
set_option maxHeartbeats 1600000 in
theorem ref_next (s : ByteArray) (p way : Int) (w : World) (hm : s.size ≤ maxLen) :
    Calls Try.prog 11 #[.string s, .int .i64 p, .int .i64 way] w fun e w' => e = two (nextOf (bytesOf s) p way) ∧ Below w.heap.size w w' := by
  cases hp : progOf (bytesOf s) with
  | none =>
    have HE : Hid (nextOf (bytesOf s) p way = (0, 1)) := by show nextOf _ _ _ = _; unfold nextOf; rw [hp]
    have hk := ref_known_none s p way w hm hp
    clear hp hm
    go_enter Try.func11, Try.ntmps11
    go_wp2_with fail
    refine hk.mono ?_
    rintro e w1 ⟨rfl, hb⟩
    go_wp2_with fail
    go_ret2
    exact ⟨by rw [HE.out]; rfl, hb⟩
  | some m =>
    have HE : Hid (nextOf (bytesOf s) p way = if way < 0 ∨ waysAt m p ≤ way then (0, 2) else (nextR m.st p.toNat way, 0)) := by show nextOf _ _ _ = _; unfold nextOf; rw [hp]
    have hk := ref_known_some s p way w hm hp
    clear hp hm
    by_cases hbad : way < 0 ∨ waysAt m p ≤ way
    · have HE2 : Hid (_ = _) := HE.out.trans (if_pos hbad)
      have hk2 := hk.mono (R' := fun e w' => e = .returned (.tuple #[.pointer none, .int .i64 2]) ∧ Below w.heap.size w w') (by
        rintro e w' ⟨hb, h | h⟩
        · exact ⟨h.1, hb⟩
        · exact absurd hbad h.1)
      clear hk hbad HE
      go_enter Try.func11, Try.ntmps11
      go_wp2_with fail
      refine hk2.mono ?_
      rintro e w1 ⟨rfl, hb⟩
      go_wp2_with fail
      go_ret2
      exact ⟨by rw [HE2.out]; rfl, hb⟩
    · have HE2 : Hid (_ = _) := HE.out.trans (if_neg hbad)
      have hin : 0 ≤ p ∧ p < m.st.length := by
        have hw : ¬ waysAt m p ≤ way := fun e => hbad (.inr e)
        have hw0 : ¬ way < 0 := fun e => hbad (.inl e)
        unfold waysAt at hw
        split at hw
        · omega
        · omega
      obtain ⟨k, rfl⟩ : ∃ k : Nat, p = k := ⟨p.toNat, by omega⟩
      have hk2 := hk.mono (R' := fun e w' => Below w.heap.size w w' ∧ m.st.length ≤ 20 ∧ ∃ r B vs vo P Q O, e = .returned (.tuple #[.pointer (some ⟨r, 0, none⟩), .int .i64 0]) ∧ Rep B w' r m vs vo P Q O) (by
        rintro e w' ⟨hb, h | h⟩
        · exact absurd h.2 hbad
        · exact ⟨hb, h.2⟩)
      have hkl : k < m.st.length := by omega
      rw [Int.toNat_natCast] at HE2
      clear hk hbad HE hin
      go_enter Try.func11, Try.ntmps11
      go_wp2_with fail
      refine hk2.mono ?_
      rintro e w1 ⟨hb, hlen, r, B, vs, vo, P, Q, O, rfl, hrep⟩
      have HR : Hid (Rep _ _ _ _ _ _ _ _ _) := hrep
      clear hrep
      go_wp2_with fail
      refine (HR.out.next hlen k hkl way).mono ?_
      rintro e w2 ⟨rfl, j, rfl⟩
      go_wp2_with fail
      go_ret2
      exact ⟨by rw [HE2.out]; rfl, below_drewN hb _⟩

end Go.Proofs.Ytffajooegiempaa

namespace Go.Proofs.Ytffajooegiempaa
open Go.RowKit

set_option maxRecDepth 100000 in
set_option maxHeartbeats 800000 in
theorem d_wnext (s : ByteArray) (p way : Int) (w : World) (hm : s.size ≤ maxLen) :
    Calls Try.prog 10 #[.string s, .int .i64 p, .int .i64 way] w fun e w' => e = two (nextOf (bytesOf s) p way) ∧ Below w.heap.size w w' := by
  have hr := d_read s w hm
  have hl := bytesOf_len s
  have bad : progOf (bytesOf s) = none → (∀ e w', DReadPost w s e w' → ∃ c : Int, e = .returned (.tuple #[.agg #[.slice none 0 0], .int .i64 1, .int .i64 c]) ∧ Below w.heap.size w w') →
      Calls Try.prog 10 #[.string s, .int .i64 p, .int .i64 way] w fun e w' => e = two (nextOf (bytesOf s) p way) ∧ Below w.heap.size w w' := by
    intro hp hq
    have HE : Hid (nextOf (bytesOf s) p way = (0, 1)) := by show nextOf _ _ _ = _; unfold nextOf; rw [hp]
    have hr' := hr.mono hq
    clear hr hp hq hm hl
    go_enter Try.func10, Try.ntmps10
    go_wp2_with fail
    refine hr'.mono ?_
    rintro e w1 ⟨c, rfl, hb⟩
    go_wp2_with fail
    go_ret2
    exact ⟨by rw [HE.out]; rfl, hb.alloc hb.size _⟩
  by_cases h160 : 160 < s.size
  · refine bad (by unfold progOf; rw [if_pos (by omega)]) ?_
    rintro e w' ⟨hb, h | h | h⟩
    · exact ⟨0, h.2, hb⟩
    · exact absurd h.1 (by omega)
    · exact absurd h.1 (by omega)
  rcases prog_whole s (by omega) with ⟨hg, hp⟩ | ⟨m, hg, hp, hW⟩
  · refine bad hp ?_
    rintro e w' ⟨hb, h | h | h⟩
    · exact absurd h.1 h160
    · exact ⟨_, h.2.2, hb⟩
    · exact absurd h.2.1 (by rw [hg]; decide)
  clear bad
  have hlen : (readZ s).2.length ≤ 20 := (rStmts_goes s 22 (-1) 0 0 ((0, false), []) ⟨Nat.zero_le _, Nat.zero_le _⟩).ok.len
  have hSl : (readZ s).2.length = m.st.length := hW.1.len
  have hr' := hr.mono (R' := fun e w' => ∃ v, e = .returned (.tuple #[.agg #[v], .int .i64 0, .int .i64 0]) ∧ Below w.heap.size w w' ∧ w'.ownsRow w.heap.size tDs 10 v (readZ s).2.length (flat (readZ s).2)) (by
    rintro e w' ⟨hb, h | h | h⟩
    · exact absurd h.1 h160
    · exact absurd h.2.1 (by rw [hg]; decide)
    · obtain ⟨_, _, v, he, hrow⟩ := h
      exact ⟨v, he, hb, hrow⟩)
  have HE : Hid (nextOf (bytesOf s) p way = if way < 0 ∨ waysAt m p ≤ way then (0, 2) else (nextR m.st p.toNat way, 0)) := by show nextOf _ _ _ = _; unfold nextOf; rw [hp]
  have HW : Hid (Whole (readZ s).2 m.st) := hW
  have HSl : Hid ((readZ s).2.length = m.st.length) := hSl
  clear hr hm hl h160 hg hp hW hSl
  generalize (readZ s).2 = F at *
  by_cases hout : p < 0 ∨ (F.length : Int) ≤ p
  · have hwa : waysAt m p = 0 := by have := HSl.out; unfold waysAt; rw [if_pos (by omega)]
    have HE2 : Hid (nextOf (bytesOf s) p way = (0, 2)) := HE.out.trans (by rw [hwa, if_pos (by omega)])
    clear HE hwa
    go_enter Try.func10, Try.ntmps10
    go_wp2_with fail
    refine hr'.mono ?_
    rintro e w1 ⟨v, rfl, hb, hrow⟩
    obtain ⟨ao, cap, rfl⟩ : ∃ ao cap, v = .slice ao F.length cap := by
      obtain ⟨_, h2⟩ := hrow
      rcases h2 with ⟨rfl, e⟩ | ⟨g, cap, c, rfl, _⟩
      · exact ⟨none, 0, by rw [e]⟩
      · exact ⟨_, cap, rfl⟩
    clear hrow
    go_wp2_with fail
    refine (d_next_out ao F.length hlen p way hout _).mono ?_
    rintro e w2 ⟨rfl, hb2⟩
    simp only [twoD]
    go_wp2_with fail
    go_ret2
    exact ⟨by rw [HE2.out]; rfl, (hb.alloc hb.size _).trans (hb2.mono (by have := hb.size; simp; omega))⟩
  · obtain ⟨k, rfl⟩ : ∃ k : Nat, p = k := ⟨p.toNat, by omega⟩
    have hk : k < F.length := by omega
    have hns := next_same HW.out hlen k hk way
    have HE2 : Hid (nextOf (bytesOf s) k way = nextP F k way) := by
      show nextOf _ _ _ = _
      rw [HE.out, hns]
      have hwa : waysAt m k = waysR (m.st.getD k noSt) := by have := HSl.out; unfold waysAt; rw [if_neg (by omega), Int.toNat_natCast]
      rw [hwa, Int.toNat_natCast]
    have HNI : Hid (∀ (w2 : World) (g cap : Nat), PRow w2 g F → Calls Try.prog 29 #[.agg #[.slice (some ⟨g, 0, none⟩) F.length cap], .int .i64 (k : Int), .int .i64 way] w2 fun e w' => e = twoD (nextP F k way) ∧ Below w2.heap.size w2 w') := fun w2 g cap hP => d_next_in hP hlen HW.out.par k hk way
    clear HE hns hout
    generalize nextP F k way = nx at *
    obtain ⟨n1, n2⟩ := nx
    go_enter Try.func10, Try.ntmps10
    go_wp2_with fail
    refine hr'.mono ?_
    rintro e w1 ⟨v, rfl, hb, hrow⟩
    obtain ⟨g, cap, rfl⟩ : ∃ g cap, v = .slice (some ⟨g, 0, none⟩) F.length cap := by
      obtain ⟨_, h2⟩ := hrow
      rcases h2 with ⟨_, e⟩ | ⟨g, cap, c, rfl, _⟩
      · omega
      · exact ⟨g, cap, rfl⟩
    have HPr : Hid (PRow w1 g F) := prow_of hrow rfl (hrow.lt g rfl).2
    clear hrow
    go_wp2_with fail
    refine (HNI.out _ g cap (HPr.out.keep ((Below.refl _ _).alloc (Nat.le_refl _) _))).mono ?_
    rintro e w2 ⟨rfl, hb2⟩
    simp only [twoD]
    go_wp2_with fail
    go_ret2
    exact ⟨by rw [HE2.out]; rfl, (hb.alloc hb.size _).trans (hb2.mono (by have := hb.size; simp; omega))⟩

end Go.Proofs.Ytffajooegiempaa

namespace Go.Proofs.Ytffajooegiempaa
open Go.ChangeShapes Go.WideShapes Go.ChangeAt Go.RowKit Go.ChangeMaps

theorem Try.ownN : ownKnob Try.prog.godebug = none := by kernel_rfl

set_option maxRecDepth 100000 in
set_option maxHeartbeats 800000 in
theorem nexts_walk (s : ByteArray) (p way : Int) (w : World) (hm : s.size ≤ maxLen) :
    Calls Try.prog 4 #[.string s, .int .i64 p, .int .i64 way] w fun e w' => e = .returned (.bool true) ∧ Below w.heap.size w w' := by
  have h1 := d_wnext s p way w hm
  have h2 := fun w => ref_next s p way w hm
  obtain ⟨⟨a, b⟩, hx⟩ : ∃ x, x = nextOf (bytesOf s) p way := ⟨_, rfl⟩
  rw [← hx] at h1 h2
  simp only [two] at h1 h2
  clear hx hm
  go_enter Try.func4, Try.ntmps4
  go_wp2_with fail
  refine h1.mono ?_
  rintro e w1 ⟨rfl, hb1⟩
  go_wp2_with fail
  refine (h2 _).mono ?_
  rintro e w2 ⟨rfl, hb2⟩
  go_wp2
  go_ret
  exact ⟨rfl, hb1.trans (hb2.mono hb1.size)⟩

set_option maxRecDepth 100000 in
theorem nexts_lifted (os : Os) (started : os.Started) (H : Type) (enc : TypeId × Value → H) :
    ReturnsInHanded {} Try.checked os 4 .any (Rows.nextsSpec.pre6 enc Try.prog Try.f4 Rows.nextsRow.domain false) (Rows.nextsSpec.post enc Try.prog Try.f4 false true false false) := by
  refine returnsInHanded_of_change (C := Try.checked) Try.ownN started (by kernel_rfl) Try.func4
    (ChangeSpec.witness6 (enc := enc) (C := Try.checked) false ⟨#[], #[.string ByteArray.empty, .int .i64 0, .int .i64 0], []⟩ 8 (by kernel_rfl) (by kernel_rfl) (by kernel_rfl) (by kernel_rfl)) ?_
  intro W base args ds gs before hval0 hW _ _
  have hval : ∀ (j : Nat) t v, Try.f4.params[j]? = some t → args[j]? = some v → Value.okWide Try.prog W .any base t v := hval0
  have hW' := hW
  obtain ⟨p, q, hA0, hV, rfl, hfz, hnd⟩ := hW
  have hA : DataW.TrodAll enc Try.prog W 0 (fun _ => true) true Try.f4.params.toList args.toList ds p := hA0
  rw [Try.params4] at hA hval
  obtain ⟨v0, vs0, d0, ds0, p0, q0, hargs0, rfl, rfl, h0, r0⟩ := trodAll_cons hA
  obtain ⟨v1, vs1, d1, ds1, p1, q1, hargs1, rfl, rfl, h1, r1⟩ := trodAll_cons r0
  obtain ⟨v2, vs2, d2, ds2, p2, q2, hargs2, rfl, rfl, h2, r2⟩ := trodAll_cons r1
  obtain ⟨rfl, rfl, rfl⟩ := trodAll_nil r2
  obtain rfl : args = #[v0, v1, v2] := by cases args; simp_all
  obtain ⟨rfl, rfl⟩ := trodVars_none hV
  obtain ⟨s, rfl, rfl, rfl, hs⟩ := open_string Try.underlying9 (hval 0 9 v0 rfl rfl) h0
  obtain ⟨a, rfl, rfl, rfl, wa⟩ := open_int Try.underlying3 (hval 1 3 v1 rfl rfl) h1
  obtain ⟨b, rfl, rfl, rfl, wb⟩ := open_int Try.underlying3 (hval 2 3 v2 rfl rfl) h2
  clear hA0 hval0
  simp only [List.append_nil] at hW'
  refine (nexts_walk s a b W hs).mono fun e W' ⟨he, hb⟩ => ?_
  subst he
  exact ⟨_, rfl, _, _, _, [], [], [], hW', trodAll_cons_mk (shut_bool Try.underlying4 _) trodAll_mk0, trodAll_cons_mk (shut_string Try.underlying9 hs) (trodAll_cons_mk (shut_int Try.underlying3 wa) (trodAll_cons_mk (shut_int Try.underlying3 wb) trodAll_mk0)), rfl, hb.frame _, fun h => by cases h⟩

theorem nexts_holds : Rows.NextsSaid :=
  OpenClaim.holds_of_wide 4 Try.f4 rfl rfl rfl rfl rfl rfl rfl ⟨rfl, rfl, rfl, rfl, rfl⟩ rfl rfl rfl rfl rfl (by kernel_rfl) Try.func4 (by kernel_rfl)
    (of_decide_eq_true (by kernel_rfl)) (by unfold Func.isWrapper; first | (rw [if_pos (by decide +kernel)]; kernel_rfl) | (rw [if_neg (by decide +kernel)]; exact ⟨rfl, rfl⟩))
    (fun os started H enc _ => nexts_lifted os started H enc)

end Go.Proofs.Ytffajooegiempaa

