import Derived.Test.YtffajooegiempaaDoorJ10
import Derived.Deep.RegionLaw
import Derived.Laws.AppendOwn
import Derived.Laws.OwnMore
import Derived.ArgAppend
import Derived.Laws.Rows
import Derived.Laws.Tables
import Derived.Deep.RegionWith
import Derived.BigRegion
import Derived.ChangeMaps5
namespace Go.Proofs.YtffajooegiempaaDoor
open Go.RowKit
variable {w : World} {e0 : Bool} {M : Nat → Int}

abbrev tV4 : TypeId := 56
/-- Four signs as a value. -/
def v4 (l : List Int) : Value := .agg #[.int .i64 (gAt l 0), .int .i64 (gAt l 1), .int .i64 (gAt l 2), .int .i64 (gAt l 3)]
def c4 (l : List Int) : Array Value := #[.int .i64 (gAt l 0), .int .i64 (gAt l 1), .int .i64 (gAt l 2), .int .i64 (gAt l 3)]
/-- The two sides of a sum, as far as it is looked at. -/
def sdS (l : List Int) : Nat → Nat × Nat × Bool
  | 0 => (0, 1, false)
  | v + 1 => if gAt l v = 0 then sdS l v else
      (if (sdS l v).2.2 = true then (sdS l v).1 else 2 * v + (if gAt l v < 0 then 1 else 0), 2 * v + (if gAt l v < 0 then 1 else 0), true)
def sd1 (l : List Int) : Nat := (sdS l 4).1
def sd2 (l : List Int) : Nat := (sdS l 4).2.1
theorem sdS_lt (l : List Int) : ∀ v, v ≤ 4 → (sdS l v).1 < 8 ∧ (sdS l v).2.1 < 8 := by
  intro v
  induction v with
  | zero => intro _; exact ⟨by show (0 : Nat) < 8; omega, by show (1 : Nat) < 8; omega⟩
  | succ v ih =>
    intro hv
    have h := ih (by omega)
    rw [sdS]
    split
    · exact h
    · refine ⟨?_, ?_⟩
      · dsimp only
        split
        · exact h.1
        · split <;> omega
      · dsimp only
        split <;> omega

theorem c4_get (l : List Int) {i : Nat} (h : i < 4) : (c4 l)[i]? = some (.int .i64 (gAt l i)) := by
  rcases (show i = 0 ∨ i = 1 ∨ i = 2 ∨ i = 3 by omega) with rfl | rfl | rfl | rfl <;> rfl
set_option maxRecDepth 100000 in
set_option maxHeartbeats 1600000 in
theorem o_sides (l : List Int) (hl : ∀ i, -1 ≤ gAt l i ∧ gAt l i ≤ 1) :
    Calls Tryd.prog 88 #[v4 l] w fun e w' => e = .returned (.tuple #[.int .i64 ((sd1 l : Nat) : Int), .int .i64 ((sd2 l : Nat) : Int)]) ∧ Below w.heap.size w w' := by
  have h0 := o_opposite 0 (by omega) (w.alloc (.cells (c4 l) tV4))
  have HC0 : Hid (At (w.alloc (.cells (c4 l) tV4)) w.heap.size (c4 l) tV4 ∧ Below w.heap.size w (w.alloc (.cells (c4 l) tV4))) := ⟨At.new _ _ _, (Below.refl _ _).alloc (Nat.le_refl _) _⟩
  have HO : Hid (∀ (v : Nat) w1, v < 4 → Calls Tryd.prog 98 #[.int .i64 (2 * (v : Int))] w1 fun e w' => e = .returned (.int .i64 (2 * (v : Int) + 1)) ∧ w' = w1) := by
    intro v w1 hv
    have h := o_opposite (2 * v) (by omega) w1
    have e1 : ((2 * v : Nat) : Int) = 2 * (v : Int) := by omega
    have e2 : ((opp (2 * v) : Nat) : Int) = 2 * (v : Int) + 1 := by unfold opp; rw [if_pos (by omega)]; omega
    rw [e1, e2] at h
    exact h
  unfold v4
  rw [show ((0 : Nat) : Int) = 0 from rfl, show ((opp 0 : Nat) : Int) = 1 from rfl] at h0
  obtain ⟨w0, hw0⟩ : ∃ w0, w0 = w.alloc (.cells (c4 l) tV4) := ⟨_, rfl⟩
  rw [← hw0] at HC0
  have hw0' := hw0
  unfold c4 at h0 hw0
  go_enter Tryd.func88, Tryd.ntmps88
  go_wp2_with fail
  refine h0.mono ?_
  rintro e w1 ⟨rfl, hw1⟩
  subst hw1
  rw [← hw0]
  clear h0 hw0 hw0'
  go_wp2_with fail
  go_loopw [4, 5, 6, 7] (fun fv sv bv iv wr => ∃ (v a b : Nat) (f : Bool), v ≤ 4 ∧ iv = .int .i64 v ∧ fv = .int .i64 a ∧ sv = .int .i64 b ∧ bv = .bool f ∧ Hid (sdS l v = (a, b, f)) ∧ Hid (At wr w.heap.size (c4 l) tV4 ∧ Below w.heap.size w wr)) (fun _ _ _ iv _ => 4 - (intOf iv).toNat)
  case atStart => exact ⟨0, 0, 1, false, by omega, rfl, rfl, rfl, rfl, rfl, HC0.out⟩
  case round =>
    obtain ⟨v, a, b, f, hv, rfl, rfl, rfl, rfl, HA, HR⟩ := hrel
    by_cases hlt : v < 4
    · have hvi : (v : Int) < 4 := by omega
      have cx : wr.cell? ⟨w.heap.size, v, none⟩ = some (.int .i64 (gAt l v)) := by rw [HR.out.1.cell]; exact c4_get l hlt
      have hx := hl v
      have HS0 : Hid (sdS l (v + 1) = if gAt l v = 0 then (a, b, f) else (if f = true then a else 2 * v + (if gAt l v < 0 then 1 else 0), 2 * v + (if gAt l v < 0 then 1 else 0), true)) := by
        show sdS l (v + 1) = _
        rw [sdS, HA.out]
      have hop := HO.out v wr hlt
      generalize gAt l v = x at *
      rcases (show x = 0 ∨ x = 1 ∨ x = -1 by omega) with rfl | rfl | rfl
      · have HS : Hid (sdS l (v + 1) = (a, b, f)) := HS0.out
        clear HS0
        go_wp2_with fail
        go_roundw
        case rel => exact ⟨v + 1, a, b, f, by omega, by go_num, rfl, rfl, rfl, HS.out, HR.out⟩
        case measure => simp [intOf]; omega
      · cases f with
        | false =>
          have HS : Hid (sdS l (v + 1) = (2 * v, 2 * v, true)) := HS0.out
          clear HS0
          go_wp2_with fail
          go_roundw
          case rel => exact ⟨v + 1, 2 * v, 2 * v, true, by omega, by go_num, by first | rfl | (congr 1), by first | rfl | (congr 1), rfl, HS.out, HR.out⟩
          case measure => simp [intOf]; omega
        | true =>
          have HS : Hid (sdS l (v + 1) = (a, 2 * v, true)) := HS0.out
          clear HS0
          go_wp2_with fail
          go_roundw
          case rel => exact ⟨v + 1, a, 2 * v, true, by omega, by go_num, rfl, by first | rfl | (congr 1), rfl, HS.out, HR.out⟩
          case measure => simp [intOf]; omega
      · cases f with
        | false =>
          have HS : Hid (sdS l (v + 1) = (2 * v + 1, 2 * v + 1, true)) := HS0.out
          clear HS0
          go_wp2_with fail
          refine hop.mono ?_
          rintro e w2 ⟨rfl, hw2⟩
          subst hw2
          go_wp2_with fail
          go_roundw
          case rel => exact ⟨v + 1, 2 * v + 1, 2 * v + 1, true, by omega, by go_num, by first | rfl | (congr 1), by first | rfl | (congr 1), rfl, HS.out, HR.out⟩
          case measure => simp [intOf]; omega
        | true =>
          have HS : Hid (sdS l (v + 1) = (a, 2 * v + 1, true)) := HS0.out
          clear HS0
          go_wp2_with fail
          refine hop.mono ?_
          rintro e w2 ⟨rfl, hw2⟩
          subst hw2
          go_wp2_with fail
          go_roundw
          case rel => exact ⟨v + 1, a, 2 * v + 1, true, by omega, by go_num, rfl, by first | rfl | (congr 1), rfl, HS.out, HR.out⟩
          case measure => simp [intOf]; omega
    · have hv4 : v = 4 := by omega
      subst hv4
      have HE : Hid (sd1 l = a ∧ sd2 l = b) := ⟨by unfold sd1; rw [HA.out], by unfold sd2; rw [HA.out]⟩
      go_wp2_with fail
      go_ret2
      exact ⟨by rw [HE.out.1, HE.out.2]; rfl, HR.out.2⟩

set_option maxRecDepth 100000 in
set_option maxHeartbeats 1600000 in
theorem o_greatest (l : List Int) (hl : ∀ i, -1 ≤ gAt l i ∧ gAt l i ≤ 1) (hS : Sm M) :
    Calls Tryd.prog 64 #[.agg (oc e0 M), v4 l] w fun e w' => e = .returned (.int .i64 (mo M (sd1 l) (sd2 l))) ∧ Below w.heap.size w w' := by
  have hz := o_zero
  have h8 := sdS_lt l 4 (Nat.le_refl _)
  have HSd : Hid (∀ w1, Calls Tryd.prog 88 #[v4 l] w1 fun e w' => e = .returned (.tuple #[.int .i64 ((sd1 l : Nat) : Int), .int .i64 ((sd2 l : Nat) : Int)]) ∧ Below w1.heap.size w1 w') := fun w1 => o_sides l hl
  have HMo : Hid (∀ w1, Calls Tryd.prog 81 #[.agg (oc e0 M), .int .i64 ((sd1 l : Nat) : Int), .int .i64 ((sd2 l : Nat) : Int)] w1 fun e w' => e = .returned (.int .i64 (mo M (sd1 l) (sd2 l))) ∧ Below w1.heap.size w1 w') := fun w1 => o_most _ _ h8.1 h8.2 (by have := hS (sd1 l * 8 + sd2 l) (by have h1 : sd1 l < 8 := h8.1; have h2 : sd2 l < 8 := h8.2; omega); omega)
  obtain ⟨w0, hw0⟩ : ∃ w0, w0 = (w.alloc (.cells (oc e0 M) tO)).alloc (.cells (c4 l) tV4) := ⟨_, rfl⟩
  have H0 : Hid (OAt w0 w.heap.size e0 M ∧ Below w.heap.size w w0 ∧ w0.heap.size = w.heap.size + 2) := by
    refine ⟨by rw [hw0]; exact At.allocH (At.new _ _ _) _, by rw [hw0]; exact ((Below.refl _ _).alloc (Nat.le_refl _) _).alloc (by simp) _, by rw [hw0]; simp⟩
  have hsd := HSd.out w0
  rw [hw0] at hsd
  generalize mo M (sd1 l) (sd2 l) = g at *
  generalize sd1 l = i at *
  generalize sd2 l = j at *
  obtain ⟨BW, hBW⟩ : ∃ BW : World → Prop, BW = fun w' => Below w0.heap.size w0 w' := ⟨_, rfl⟩
  have hsd' : Calls Tryd.prog 88 #[v4 l] w0 fun e w' => e = .returned (.tuple #[.int .i64 (i : Int), .int .i64 (j : Int)]) ∧ BW w' := by rw [hBW]; exact HSd.out w0
  rw [hw0] at hsd'
  clear hS h8 hsd
  unfold v4 c4 at hsd'
  unfold v4
  go_enter Tryd.func64, Tryd.ntmps64
  go_wp2_with fail
  refine hsd'.mono ?_
  rintro e w1 ⟨rfl, hb1⟩
  rw [hBW] at hb1
  have s0 := H0.out.2.2
  have s1 := hb1.size
  have H1 : Hid (OAt w1 w.heap.size e0 M ∧ Below w.heap.size w w1) := ⟨At.keep H0.out.1 hb1 (by omega), H0.out.2.1.trans (hb1.mono (by omega))⟩
  have hmo := HMo.out w1
  clear hb1 hsd'
  go_wp2_with (refine wpList_load_o rfl (.tmp 2) rfl rfl H1.out.1 ?_)
  refine hmo.mono ?_
  rintro e w2 ⟨rfl, hb2⟩
  go_wp2_with fail
  go_ret
  exact ⟨rfl, H1.out.2.trans (hb2.mono H1.out.2.size)⟩

def ngL (l : List Int) : List Int := [-gAt l 0, -gAt l 1, -gAt l 2, -gAt l 3]
/-- Some signs are turned. -/
def tuP (l : List Int) : Nat → List Int
  | 0 => [gAt l 0, gAt l 1, gAt l 2, gAt l 3]
  | j + 1 => (tuP l j).set j (-gAt l j)
theorem results_v4 {fn : Func} {t : Tmp} {b : Nat} {l : List Int} (h : fn.results = #[.cell t tV4]) (tmps : Array Value) (hp : tmps.getD t undef = .pointer (some ⟨b, 0, none⟩)) (hat : At w b (c4 l) tV4) :
    (results fn tmps).run Tryd.prog w = .ok (v4 l) w := by
  have hp' : tmps[t]?.getD undef = .pointer (some ⟨b, 0, none⟩) := by simpa using hp
  have hl : (loadVar tV4 ⟨b, 0, none⟩).run Tryd.prog w = .ok (v4 l) w := run_loadVar_row w b tV4 tV4 (c4 l) (0, 0) _ hat Tryd.underlying56 rfl (by kernel_rfl)
  simp [results, h, hp', asAddr, hl]
theorem v4_storeAt {b : Nat} {c : Array Value} (h : At w b c tV4) (hc : c.size = 4) (l : List Int) : ∃ w1, (Instr.storeAt tV4 (.pointer (some ⟨b, 0, none⟩)) (v4 l)).run Tryd.prog w = .ok () w1 ∧ At w1 b (c4 l) tV4 ∧ Onl b w w1 := by
  refine ⟨w.setRow b (c4 l), ?_, setRow_heap w b c (c4 l) tV4 (0, 0) h, ⟨rfl, rfl, rfl, by simp [World.setRow], fun k _ hk => setRow_other w b k _ (fun e => hk e)⟩⟩
  simp only [Instr.storeAt, Instr.sureAddr, Sem.run_bind, Sem.run_pure, Result.andThen]
  exact run_storeVar_row w b tV4 tV4 c (c4 l) h (by kernel_rfl) (by rw [hc]; rfl) (by simp [c4, Value.oneCell'])
theorem wpList_store_v4 {ops : Array Oper} {rest : List Oper} {o : Oper} {a : Act} {Q : Exit → Act → World → Prop} {b : Nat} {c : Array Value} (hg : o.guard = none) (p x : Operand) (hop : o.op = Op.store tV4 p x) (hp : a.eval p = .pointer (some ⟨b, 0, none⟩)) (l : List Int) (hx : a.eval x = v4 l) (hat : At w b c tV4) (hc : c.size = 4)
    (hK : ∀ w1, At w1 b (c4 l) tV4 → Onl b w w1 → wpList Tryd.prog ops Q rest (a.put o.dst undef) w1) : wpList Tryd.prog ops Q (o :: rest) a w := by
  refine wpList_plain hg fun K hK' => ?_
  obtain ⟨w1, h1, h2, h3⟩ := v4_storeAt hat hc l
  unfold Oper.wp
  simp [execOp, hop, hp, hx, h1, Result.andThen, Oper.upon]
  exact hK' _ _ (hK w1 h2 h3)
theorem tuP_at (l : List Int) : ∀ j, j < 4 → (c4 (tuP l j))[j]? = some (.int .i64 (gAt l j))
  | 0, _ => rfl
  | 1, _ => rfl
  | 2, _ => rfl
  | 3, _ => rfl
  | n + 4, h => absurd h (by omega)
theorem tuP_set (l : List Int) : ∀ j, j < 4 → (c4 (tuP l j)).setIfInBounds j (.int .i64 (-gAt l j)) = c4 (tuP l (j + 1))
  | 0, _ => rfl
  | 1, _ => rfl
  | 2, _ => rfl
  | 3, _ => rfl
  | n + 4, h => absurd h (by omega)

set_option maxRecDepth 100000 in
set_option maxHeartbeats 1600000 in
theorem e_turned (l : List Int) (hl : ∀ i, -1 ≤ gAt l i ∧ gAt l i ≤ 1) :
    Calls Tryd.prog 59 #[v4 l] w fun e w' => e = .returned (v4 (ngL l)) ∧ Below w.heap.size w w' := by
  obtain ⟨w0, hw0⟩ : ∃ w0, w0 = (w.alloc (.cells (c4 l) tV4)).alloc (.cells (c4 [0, 0, 0, 0]) tV4) := ⟨_, rfl⟩
  have H0 : Hid (At w0 w.heap.size (c4 (tuP l 0)) tV4 ∧ At w0 (w.heap.size + 1) (c4 [0, 0, 0, 0]) tV4 ∧ Below w.heap.size w w0) := by
    refine ⟨by rw [hw0]; exact At.allocH (At.new _ _ _) _, ?_, by rw [hw0]; exact ((Below.refl _ _).alloc (Nat.le_refl _) _).alloc (by simp) _⟩
    have := At.new (w.alloc (.cells (c4 l) tV4)) (c4 [0, 0, 0, 0]) tV4
    rw [show (w.alloc (.cells (c4 l) tV4)).heap.size = w.heap.size + 1 by simp] at this
    rw [hw0]; exact this
  unfold c4 at hw0
  unfold v4
  go_enter Tryd.func59, Tryd.ntmps59
  go_wp2_with fail
  go_loopw [3] (fun iv wr => ∃ (v : Nat), v ≤ 4 ∧ iv = .int .i64 v ∧ Hid (At wr w.heap.size (c4 (tuP l v)) tV4 ∧ At wr (w.heap.size + 1) (c4 [0, 0, 0, 0]) tV4 ∧ Below w.heap.size w wr)) (fun iv _ => 4 - (intOf iv).toNat)
  case atStart => exact ⟨0, by omega, rfl, by have := H0.out; rw [hw0] at this; exact this⟩
  case round =>
    obtain ⟨v, hv, rfl, HR⟩ := hrel
    clear H0 hw0
    by_cases hlt : v < 4
    · have hvi : (v : Int) < 4 := by omega
      have cx : wr.cell? ⟨w.heap.size, v, none⟩ = some (.int .i64 (gAt l v)) := by rw [HR.out.1.cell]; exact tuP_at l v hlt
      have cf := HR.out.1.free
      have hl1 := HR.out.1.lt
      have hx := hl v
      have HT : Hid (_ = _) := tuP_set l v hlt
      generalize gAt l v = x at *
      go_wp2_with fail
      go_roundw
      case rel =>
        refine ⟨v + 1, by omega, by go_num, ?_, HR.out.2.1.other _ _ (by omega), HR.out.2.2.setCell (Nat.le_refl _) _⟩
        rw [← HT.out]
        exact HR.out.1.put v _
      case measure => simp [intOf]; omega
    · have hv4 : v = 4 := by omega
      subst hv4
      have y0 := HR.out.1.cell 0
      have y1 := HR.out.1.cell 1
      have y2 := HR.out.1.cell 2
      have y3 := HR.out.1.cell 3
      have HN : Hid (v4 (ngL l) = .agg #[.int .i64 (-gAt l 0), .int .i64 (-gAt l 1), .int .i64 (-gAt l 2), .int .i64 (-gAt l 3)]) := rfl
      have z0 : wr.cell? ⟨w.heap.size, 0, none⟩ = some (.int .i64 (-gAt l 0)) := y0
      have z1 : wr.cell? ⟨w.heap.size, 1, none⟩ = some (.int .i64 (-gAt l 1)) := y1
      have z2 : wr.cell? ⟨w.heap.size, 2, none⟩ = some (.int .i64 (-gAt l 2)) := y2
      have z3 : wr.cell? ⟨w.heap.size, 3, none⟩ = some (.int .i64 (-gAt l 3)) := y3
      clear y0 y1 y2 y3
      go_wp2_with (refine wpList_store_v4 (b := w.heap.size + 1) (c := c4 [0, 0, 0, 0]) rfl (.tmp 2) (.tmp 14) rfl rfl (ngL l) rfl HR.out.2.1 rfl ?_; intro w5 h5a h5b)
      try simp only [Exit.inBlock, Exit.then]
      refine bodyPost_ret (results_v4 (b := w.heap.size + 1) (l := ngL l) rfl _ rfl h5a) rfl ?_
      exact ⟨rfl, HR.out.2.2.trans (h5b.below (by omega) HR.out.2.2.size)⟩

end Go.Proofs.YtffajooegiempaaDoor

/- The reader of the document's answer, as a plain machine: a step a byte. No Go in here. -/
namespace Go.Proofs.YtffajooegiempaaDoor

structure St where
  kind : Int
  var : Int
  star : Bool
  sg : List Int
  num : Int
  mid : Nat
  fin : Nat

structure Bk where
  of_ : Nat
  second : Bool

structure Rd where
  state : Int
  st : List St
  op : List Bk
  sign : Int
  neg : Bool
  dig : Int

def noSt : St := ⟨0, 0, false, [0, 0, 0, 0], 0, 0, 0⟩
def noBk : Bk := ⟨0, false⟩
def cur (m : Rd) : St := m.st.getD (m.st.length - 1) noSt
def setCur (m : Rd) (s : St) : Rd := { m with st := m.st.set (m.st.length - 1) s }
def top (m : Rd) : Bk := m.op.getD (m.op.length - 1) noBk
def behindOf (m : Rd) : Int := if (cur m).kind = 33 then 59 else 123

def beginStep (m : Rd) (k v nx : Int) : Option Rd :=
  if m.st.length = 20 then none else some { m with st := m.st ++ [⟨k, v, false, [0, 0, 0, 0], 0, 0, m.st.length + 1⟩], state := nx }

def shutStep (m : Rd) : Option Rd :=
  let b := top m
  let s := m.st.getD b.of_ noSt
  if s.kind = 63 ∧ b.second = false then some { m with st := m.st.set b.of_ { s with fin := m.st.length, mid := m.st.length }, state := 125 }
  else some { m with st := m.st.set b.of_ { s with fin := m.st.length }, op := m.op.take (m.op.length - 1) }

def startStep (m : Rd) (c : Int) : Option Rd :=
  if 97 ≤ c ∧ c ≤ 100 then beginStep m 61 (c - 97) 61
  else if c = 63 ∨ c = 64 then (if m.op.length < 4 then beginStep m c 0 99 else none)
  else if c = 33 then beginStep m c 0 99
  else if c = 125 ∧ 0 < m.op.length then shutStep m
  else none

def digitStep (m : Rd) (c : Int) (pos : Bool) (nx : Int) : Option Rd :=
  let d := if m.state = nx then m.dig else 0
  let u := if m.state = nx then (cur m).num else 0
  if c < 48 ∨ 57 < c ∨ d = 2 ∨ (d = 1 ∧ u = 0) ∨ (pos = true ∧ c = 48) then none
  else some { setCur m { cur m with num := 10 * u + (c - 48) } with dig := d + 1, state := nx }

def signTo (m : Rd) (v : Nat) (x : Int) (nx : Int) : Rd :=
  { setCur m { cur m with sg := (cur m).sg.set v x } with sign := x, state := nx }

def valueEnd (m : Rd) : Rd := { setCur m { cur m with num := m.sign * (cur m).num } with state := 115 }

def valueStep (m : Rd) (c : Int) : Option Rd :=
  if m.state = 118 then
    (if c = 42 then some { setCur m { cur m with star := true } with state := 59 }
     else if c = 45 then some { m with sign := -1, state := 86 }
     else if 97 ≤ c ∧ c ≤ 100 then some (signTo m (c - 97).toNat 1 120)
     else digitStep { m with sign := 1 } c false 110)
  else if m.state = 86 then
    (if 97 ≤ c ∧ c ≤ 100 then some (signTo m (c - 97).toNat m.sign 120)
     else digitStep m c true 110)
  else if m.state = 120 then
    (if c = 43 then some { m with sign := 1, state := 121 }
     else if c = 45 then some { m with sign := -1, state := 121 }
     else if c = 59 then some (valueEnd m)
     else none)
  else if m.state = 121 then digitStep m c false 110
  else (if c = 59 then some (valueEnd m) else digitStep m c false 110)

def plainStep (m : Rd) (c : Int) : Option Rd :=
  if m.state = 59 then (if c = 59 then some { m with state := 115 } else none)
  else if c ≠ 123 ∨ m.op.length = 4 then none
  else some { m with op := m.op ++ [⟨m.st.length - 1, false⟩], state := 115 }

def condStep (m : Rd) (c : Int) : Option Rd :=
  if m.state = 99 then
    (if c = 42 then some { setCur m { cur m with star := true } with state := behindOf m }
     else if c = 45 then some { m with sign := -1, state := 67 }
     else if 97 ≤ c ∧ c ≤ 100 then some (signTo m (c - 97).toNat 1 100)
     else none)
  else if m.state = 67 then
    (if 97 ≤ c ∧ c ≤ 100 then some (signTo m (c - 97).toNat m.sign 100) else none)
  else if m.state = 100 then
    (if c = 43 then some { m with sign := 1, state := 101 }
     else if c = 45 then some { m with sign := -1, state := 101 }
     else if c = 60 then some { m with state := 60 }
     else none)
  else if m.state = 101 then
    (if 97 ≤ c ∧ c ≤ 100 then (if (cur m).sg.getD (c - 97).toNat 0 = 0 then some (signTo m (c - 97).toNat m.sign 102) else none) else none)
  else if m.state = 102 then (if c = 60 then some { m with state := 60 } else none)
  else if m.state = 60 then (if c = 61 then some { m with neg := false, state := 98 } else none)
  else if m.state = 98 then (if c = 45 then some { m with neg := true, state := 66 } else digitStep m c false 109)
  else if m.state = 66 then digitStep m c true 109
  else if m.state = 109 then
    (if c = 59 ∨ c = 123 then plainStep { setCur m { cur m with num := if m.neg then -(cur m).num else (cur m).num } with state := behindOf m } c
     else digitStep m c false 109)
  else (if c = 123 then some { m with op := m.op.set (m.op.length - 1) { top m with second := true }, state := 115 } else none)

def byteStep (m : Rd) (c : Int) : Option Rd :=
  if m.state = 115 then startStep m c
  else if m.state = 61 then (if c = 61 then some { m with state := 118 } else none)
  else if m.state = 118 ∨ m.state = 86 ∨ m.state = 120 ∨ m.state = 121 ∨ m.state = 110 then valueStep m c
  else if m.state = 59 ∨ m.state = 123 then plainStep m c
  else condStep m c

/-- What the reader keeps to. -/
structure Ok (m : Rd) : Prop where
  states : m.state = 115 ∨ m.state = 61 ∨ (m.state = 118 ∨ m.state = 86 ∨ m.state = 120 ∨ m.state = 121 ∨ m.state = 110) ∨ (m.state = 59 ∨ m.state = 123) ∨
    (m.state = 99 ∨ m.state = 67 ∨ m.state = 100 ∨ m.state = 101 ∨ m.state = 102 ∨ m.state = 60 ∨ m.state = 98 ∨ m.state = 66 ∨ m.state = 109 ∨ m.state = 125)
  some_ : m.state ≠ 115 → 0 < m.st.length
  len : m.st.length ≤ 20
  oplen : m.op.length ≤ 4
  ofs : ∀ b, b ∈ m.op → b.of_ < m.st.length
  sgn : -1 ≤ m.sign ∧ m.sign ≤ 1
  digs : 0 ≤ m.dig ∧ m.dig ≤ 2
  nums : ∀ s, s ∈ m.st → -99 ≤ s.num ∧ s.num ≤ 99
  sgl : ∀ s, s ∈ m.st → s.sg.length = 4
  inNum : m.state = 110 ∨ m.state = 109 → (m.dig = 1 ∧ 0 ≤ (cur m).num ∧ (cur m).num ≤ 9) ∨ (m.dig = 2 ∧ 0 ≤ (cur m).num ∧ (cur m).num ≤ 99)
  open_ : m.state = 125 → 0 < m.op.length

end Go.Proofs.YtffajooegiempaaDoor

/- What the machine keeps to. No Go in here. -/
namespace Go.Proofs.YtffajooegiempaaDoor
variable {m m' : Rd}

theorem setCur_len (m : Rd) (s : St) : (setCur m s).st.length = m.st.length := by simp [setCur]
theorem mem_setCur {s t : St} (h : t ∈ (setCur m s).st) : t ∈ m.st ∨ t = s := List.mem_or_eq_of_mem_set h
theorem curs' (hn : 0 < m.st.length) : m.st[m.st.length - 1]? = some (cur m) := by
  unfold cur
  rw [List.getD_eq_getElem?_getD, List.getElem?_eq_getElem (by omega)]; rfl
theorem cur_mem (hn : 0 < m.st.length) : cur m ∈ m.st := List.mem_of_getElem? (curs' hn)
theorem cur_setCur' (hn : 0 < m.st.length) (s : St) : cur (setCur m s) = s := by
  have h : (setCur m s).st[m.st.length - 1]? = some s := by simp [setCur, List.getElem?_set]; omega
  unfold cur
  rw [List.getD_eq_getElem?_getD, setCur_len, h]; rfl

/-- The states in which a statement is being read and a block is not yet awaited. -/
def inSt (x : Int) : Prop := x = 115 ∨ x = 61 ∨ (x = 118 ∨ x = 86 ∨ x = 120 ∨ x = 121 ∨ x = 110) ∨ (x = 59 ∨ x = 123) ∨ (x = 99 ∨ x = 67 ∨ x = 100 ∨ x = 101 ∨ x = 102 ∨ x = 60 ∨ x = 98 ∨ x = 66 ∨ x = 109)

theorem Ok.fields (ok : Ok m) (hn : 0 < m.st.length) (x sg : Int) (ng : Bool) (d : Int) (hs : inSt x) (h1 : -1 ≤ sg ∧ sg ≤ 1) (h2 : 0 ≤ d ∧ d ≤ 2)
    (h5 : x = 110 ∨ x = 109 → (d = 1 ∧ 0 ≤ (cur m).num ∧ (cur m).num ≤ 9) ∨ (d = 2 ∧ 0 ≤ (cur m).num ∧ (cur m).num ≤ 99)) : Ok { m with state := x, sign := sg, neg := ng, dig := d } where
  states := by unfold inSt at hs; show x = _ ∨ _; simp only; omega
  some_ := fun _ => hn
  len := ok.len
  oplen := ok.oplen
  ofs := ok.ofs
  sgn := h1
  digs := h2
  nums := ok.nums
  sgl := ok.sgl
  inNum := h5
  open_ := fun h => by exfalso; have h' : x = 125 := h; unfold inSt at hs; omega

theorem Ok.setC (ok : Ok m) (hn : 0 < m.st.length) (hx : m.state ≠ 110 ∧ m.state ≠ 109) (s : St) (h3 : -99 ≤ s.num ∧ s.num ≤ 99) (h4 : s.sg.length = 4) : Ok (setCur m s) where
  states := ok.states
  some_ := fun _ => by rw [setCur_len]; exact hn
  len := by rw [setCur_len]; exact ok.len
  oplen := ok.oplen
  ofs := fun b hb => by rw [setCur_len]; exact ok.ofs b hb
  sgn := ok.sgn
  digs := ok.digs
  nums := fun t ht => (mem_setCur ht).elim (fun h => ok.nums t h) (fun h => by rw [h]; exact h3)
  sgl := fun t ht => (mem_setCur ht).elim (fun h => ok.sgl t h) (fun h => by rw [h]; exact h4)
  inNum := fun h => by exfalso; have h' : m.state = 110 ∨ m.state = 109 := h; omega
  open_ := ok.open_

/-- The same, whatever the state was: it becomes x. -/
theorem Ok.put (ok : Ok m) (hn : 0 < m.st.length) (s : St) (x sg : Int) (ng : Bool) (d : Int) (hs : inSt x) (h1 : -1 ≤ sg ∧ sg ≤ 1) (h2 : 0 ≤ d ∧ d ≤ 2) (h3 : -99 ≤ s.num ∧ s.num ≤ 99) (h4 : s.sg.length = 4)
    (h5 : x = 110 ∨ x = 109 → (d = 1 ∧ 0 ≤ s.num ∧ s.num ≤ 9) ∨ (d = 2 ∧ 0 ≤ s.num ∧ s.num ≤ 99)) : Ok { setCur m s with state := x, sign := sg, neg := ng, dig := d } := by
  have o1 : Ok { m with state := 115 } := ok.fields hn 115 m.sign m.neg m.dig (.inl rfl) ok.sgn ok.digs (fun h => by omega)
  have o2 := o1.setC hn ⟨(by decide : (115 : Int) ≠ 110), (by decide : (115 : Int) ≠ 109)⟩ s h3 h4
  have hl : 0 < (setCur { m with state := 115 } s).st.length := by rw [setCur_len]; exact hn
  exact o2.fields hl x sg ng d hs h1 h2 (by rw [cur_setCur' (m := { m with state := 115 }) hn]; exact h5)

theorem Ok.push (ok : Ok m) (hl : m.st.length ≠ 20) (s : St) (x : Int) (hx : x = 61 ∨ x = 99) (h3 : -99 ≤ s.num ∧ s.num ≤ 99) (h4 : s.sg.length = 4) : Ok { m with st := m.st ++ [s], state := x } where
  states := by show x = _ ∨ _; simp only; omega
  some_ := fun _ => by simp
  len := by have := ok.len; simp; omega
  oplen := ok.oplen
  ofs := fun b hb => by have := ok.ofs b hb; simp; omega
  sgn := ok.sgn
  digs := ok.digs
  nums := fun t ht => by
    rcases List.mem_append.1 ht with h | h
    · exact ok.nums t h
    · rw [List.mem_singleton.1 h]; exact h3
  sgl := fun t ht => by
    rcases List.mem_append.1 ht with h | h
    · exact ok.sgl t h
    · rw [List.mem_singleton.1 h]; exact h4
  inNum := fun h => by exfalso; have h' : x = 110 ∨ x = 109 := h; omega
  open_ := fun h => by exfalso; have h' : x = 125 := h; omega

theorem Ok.begin_ (ok : Ok m) {k v x : Int} (hx : x = 61 ∨ x = 99) (h : beginStep m k v x = some m') : Ok m' := by
  unfold beginStep at h
  split at h
  · cases h
  · rename_i hl
    cases h
    exact ok.push hl _ x hx ⟨(by decide : (-99 : Int) ≤ 0), (by decide : (0 : Int) ≤ 99)⟩ rfl

theorem digit_inv {c x : Int} {pos : Bool} (h : digitStep m c pos x = some m') : ∃ d u, ((m.state = x ∧ d = m.dig ∧ u = (cur m).num) ∨ (m.state ≠ x ∧ d = 0 ∧ u = 0)) ∧
    ¬ (c < 48 ∨ 57 < c ∨ d = 2 ∨ (d = 1 ∧ u = 0) ∨ (pos = true ∧ c = 48)) ∧ m' = { setCur m { cur m with num := 10 * u + (c - 48) } with dig := d + 1, state := x } := by
  simp only [digitStep] at h
  by_cases e : m.state = x
  · rw [if_pos e, if_pos e] at h
    by_cases hc : c < 48 ∨ 57 < c ∨ m.dig = 2 ∨ (m.dig = 1 ∧ (cur m).num = 0) ∨ (pos = true ∧ c = 48)
    · rw [if_pos hc] at h; cases h
    · rw [if_neg hc] at h
      exact ⟨_, _, .inl ⟨e, rfl, rfl⟩, hc, (Option.some.inj h).symm⟩
  · rw [if_neg e, if_neg e] at h
    by_cases hc : c < 48 ∨ 57 < c ∨ (0 : Int) = 2 ∨ ((0 : Int) = 1 ∧ (0 : Int) = 0) ∨ (pos = true ∧ c = 48)
    · rw [if_pos hc] at h; cases h
    · rw [if_neg hc] at h
      exact ⟨_, _, .inr ⟨e, rfl, rfl⟩, hc, (Option.some.inj h).symm⟩

theorem Ok.digit (ok : Ok m) (hn : 0 < m.st.length) {c x : Int} {pos : Bool} (hx : x = 110 ∨ x = 109) (h : digitStep m c pos x = some m') : Ok m' := by
  obtain ⟨d, u, hdu, hc, rfl⟩ := digit_inv h
  have hin := ok.inNum
  have hnum := ok.nums (Go.Proofs.YtffajooegiempaaDoor.cur m) (cur_mem hn)
  have hsg := ok.sgl (Go.Proofs.YtffajooegiempaaDoor.cur m) (cur_mem hn)
  have hd := ok.digs
  have key : 0 ≤ d ∧ d ≤ 1 ∧ 0 ≤ u ∧ (d = 0 → u = 0) ∧ u ≤ 9 := by
    rcases hdu with ⟨e, rfl, rfl⟩ | ⟨_, rfl, rfl⟩
    · have := hin (by omega); omega
    · omega
  refine ok.put hn _ x m.sign m.neg (d + 1) (by unfold inSt; omega) ok.sgn (by omega) ?_ hsg ?_
  · show -99 ≤ 10 * u + (c - 48) ∧ 10 * u + (c - 48) ≤ 99
    omega
  · intro _
    show (d + 1 = 1 ∧ 0 ≤ 10 * u + (c - 48) ∧ 10 * u + (c - 48) ≤ 9) ∨ (d + 1 = 2 ∧ 0 ≤ 10 * u + (c - 48) ∧ 10 * u + (c - 48) ≤ 99)
    omega

theorem Ok.shut (ok : Ok m) (hs : m.state = 115) (ho : 0 < m.op.length) (h : shutStep m = some m') : Ok m' := by
  have htop : m.op[m.op.length - 1]? = some (top m) := by
    unfold top
    rw [List.getD_eq_getElem?_getD, List.getElem?_eq_getElem (by omega)]; rfl
  have hof : (top m).of_ < m.st.length := ok.ofs _ (List.mem_of_getElem? htop)
  have hmem : m.st.getD (top m).of_ noSt ∈ m.st := by rw [List.getD_eq_getElem?_getD, List.getElem?_eq_getElem hof]; exact List.getElem_mem hof
  have hn := ok.nums _ hmem
  have hg := ok.sgl _ hmem
  simp only [shutStep] at h
  split at h
  · cases h
    exact {
      states := .inr (.inr (.inr (.inr (.inr (.inr (.inr (.inr (.inr (.inr (.inr (.inr (.inr rfl))))))))))))
      some_ := fun _ => by show 0 < (m.st.set _ _).length; rw [List.length_set]; omega
      len := by show (m.st.set _ _).length ≤ 20; rw [List.length_set]; exact ok.len
      oplen := ok.oplen
      ofs := fun b hb => by show b.of_ < (m.st.set _ _).length; rw [List.length_set]; exact ok.ofs b hb
      sgn := ok.sgn
      digs := ok.digs
      nums := fun t ht => (List.mem_or_eq_of_mem_set ht).elim (fun h => ok.nums t h) (fun h => by rw [h]; exact hn)
      sgl := fun t ht => (List.mem_or_eq_of_mem_set ht).elim (fun h => ok.sgl t h) (fun h => by rw [h]; exact hg)
      inNum := fun h => by exfalso; have h' : (125 : Int) = 110 ∨ (125 : Int) = 109 := h; omega
      open_ := fun _ => ho }
  · cases h
    exact {
      states := .inl hs
      some_ := fun h => absurd hs h
      len := by show (m.st.set _ _).length ≤ 20; rw [List.length_set]; exact ok.len
      oplen := by show (m.op.take _).length ≤ 4; have := ok.oplen; simp; omega
      ofs := fun b hb => by show b.of_ < (m.st.set _ _).length; rw [List.length_set]; exact ok.ofs b (List.mem_of_mem_take hb)
      sgn := ok.sgn
      digs := ok.digs
      nums := fun t ht => (List.mem_or_eq_of_mem_set ht).elim (fun h => ok.nums t h) (fun h => by rw [h]; exact hn)
      sgl := fun t ht => (List.mem_or_eq_of_mem_set ht).elim (fun h => ok.sgl t h) (fun h => by rw [h]; exact hg)
      inNum := fun h => by exfalso; have h' : m.state = 110 ∨ m.state = 109 := h; omega
      open_ := fun h => by exfalso; have h' : m.state = 125 := h; omega }

theorem Ok.plain (ok : Ok m) (hn : 0 < m.st.length) {c : Int} (h : plainStep m c = some m') : Ok m' := by
  unfold plainStep at h
  split at h
  · split at h
    · cases h; exact ok.fields hn 115 m.sign m.neg m.dig (.inl rfl) ok.sgn ok.digs (fun h => by omega)
    · cases h
  · split at h
    · cases h
    · rename_i hc
      cases h
      have o := ok.fields hn 115 m.sign m.neg m.dig (.inl rfl) ok.sgn ok.digs (fun h => by omega)
      exact { o with
        oplen := by have := ok.oplen; simp; omega
        ofs := fun b hb => by
          rcases List.mem_append.1 hb with h | h
          · exact ok.ofs b h
          · rw [List.mem_singleton.1 h]; show m.st.length - 1 < m.st.length; omega
        open_ := fun h => by exfalso; have h' : (115 : Int) = 125 := h; omega }

theorem Ok.signTo (ok : Ok m) (hn : 0 < m.st.length) (v : Nat) (y x : Int) (hy : -1 ≤ y ∧ y ≤ 1) (hx : inSt x) (h5 : x ≠ 110 ∧ x ≠ 109) : Ok (signTo m v y x) :=
  ok.put hn _ x y m.neg m.dig hx hy ok.digs (ok.nums (Go.Proofs.YtffajooegiempaaDoor.cur m) (cur_mem hn)) (by show ((cur m).sg.set v y).length = 4; rw [List.length_set]; exact ok.sgl _ (cur_mem hn)) (fun h => by omega)

theorem Ok.value (ok : Ok m) (hn : 0 < m.st.length) {c : Int} (_hx : m.state = 118 ∨ m.state = 86 ∨ m.state = 120 ∨ m.state = 121 ∨ m.state = 110) (h : valueStep m c = some m') : Ok m' := by
  have hnum := ok.nums _ (cur_mem hn)
  have hsg := ok.sgl _ (cur_mem hn)
  have hs := ok.sgn
  have hd := ok.digs
  have ve : Ok (valueEnd m) := by
    refine ok.put hn _ 115 m.sign m.neg m.dig (.inl rfl) hs hd ?_ hsg (fun h => by omega)
    show -99 ≤ m.sign * (Go.Proofs.YtffajooegiempaaDoor.cur m).num ∧ m.sign * (Go.Proofs.YtffajooegiempaaDoor.cur m).num ≤ 99
    generalize (Go.Proofs.YtffajooegiempaaDoor.cur m).num = u at *
    rcases (show m.sign = -1 ∨ m.sign = 0 ∨ m.sign = 1 by omega) with e | e | e <;> rw [e] <;> omega
  unfold valueStep at h
  split at h
  · split at h
    · cases h; exact ok.put hn _ 59 m.sign m.neg m.dig (by unfold inSt; omega) hs hd hnum hsg (fun h => by omega)
    split at h
    · cases h; exact ok.fields hn 86 (-1) m.neg m.dig (by unfold inSt; omega) (by omega) hd (fun h => by omega)
    split at h
    · cases h; exact ok.signTo hn _ 1 120 (by omega) (by unfold inSt; omega) (by omega)
    · rename_i e _ _ _
      exact Ok.digit (ok.fields hn m.state 1 m.neg m.dig (by unfold inSt; omega) (by omega) hd (fun h => by omega)) hn (.inl rfl) h
  split at h
  · split at h
    · cases h; exact ok.signTo hn _ m.sign 120 hs (by unfold inSt; omega) (by omega)
    · exact ok.digit hn (.inl rfl) h
  split at h
  · split at h
    · cases h; exact ok.fields hn 121 1 m.neg m.dig (by unfold inSt; omega) (by omega) hd (fun h => by omega)
    split at h
    · cases h; exact ok.fields hn 121 (-1) m.neg m.dig (by unfold inSt; omega) (by omega) hd (fun h => by omega)
    split at h
    · cases h; exact ve
    · cases h
  split at h
  · exact ok.digit hn (.inl rfl) h
  · split at h
    · cases h; exact ve
    · exact ok.digit hn (.inl rfl) h

theorem behind_in (m : Rd) : inSt (behindOf m) ∧ behindOf m ≠ 110 ∧ behindOf m ≠ 109 := by
  unfold behindOf inSt
  split <;> omega

theorem Ok.cond (ok : Ok m) (hn : 0 < m.st.length) {c : Int} (h : condStep m c = some m') (hx : m.state = 99 ∨ m.state = 67 ∨ m.state = 100 ∨ m.state = 101 ∨ m.state = 102 ∨ m.state = 60 ∨ m.state = 98 ∨ m.state = 66 ∨ m.state = 109 ∨ m.state = 125) : Ok m' := by
  have hnum := ok.nums _ (cur_mem hn)
  have hsg := ok.sgl _ (cur_mem hn)
  have hs := ok.sgn
  have hd := ok.digs
  have hbi := behind_in m
  unfold condStep at h
  rcases hx with hx | hx | hx | hx | hx | hx | hx | hx | hx | hx
  · rw [hx, if_pos rfl] at h
    split at h
    · cases h; exact ok.put hn _ (behindOf m) m.sign m.neg m.dig hbi.1 hs hd hnum hsg (fun h => by omega)
    split at h
    · cases h; exact ok.fields hn 67 (-1) m.neg m.dig (by unfold inSt; omega) (by omega) hd (fun h => by omega)
    split at h
    · cases h; exact ok.signTo hn _ 1 100 (by omega) (by unfold inSt; omega) (by omega)
    · cases h
  · rw [hx, if_neg (by decide), if_pos rfl] at h
    split at h
    · cases h; exact ok.signTo hn _ m.sign 100 hs (by unfold inSt; omega) (by omega)
    · cases h
  · rw [hx, if_neg (by decide), if_neg (by decide), if_pos rfl] at h
    split at h
    · cases h; exact ok.fields hn 101 1 m.neg m.dig (by unfold inSt; omega) (by omega) hd (fun h => by omega)
    split at h
    · cases h; exact ok.fields hn 101 (-1) m.neg m.dig (by unfold inSt; omega) (by omega) hd (fun h => by omega)
    split at h
    · cases h; exact ok.fields hn 60 m.sign m.neg m.dig (by unfold inSt; omega) hs hd (fun h => by omega)
    · cases h
  · rw [hx, if_neg (by decide), if_neg (by decide), if_neg (by decide), if_pos rfl] at h
    split at h
    · split at h
      · cases h; exact ok.signTo hn _ m.sign 102 hs (by unfold inSt; omega) (by omega)
      · cases h
    · cases h
  · rw [hx, if_neg (by decide), if_neg (by decide), if_neg (by decide), if_neg (by decide), if_pos rfl] at h
    split at h
    · cases h; exact ok.fields hn 60 m.sign m.neg m.dig (by unfold inSt; omega) hs hd (fun h => by omega)
    · cases h
  · rw [hx, if_neg (by decide), if_neg (by decide), if_neg (by decide), if_neg (by decide), if_neg (by decide), if_pos rfl] at h
    split at h
    · cases h; exact ok.fields hn 98 m.sign false m.dig (by unfold inSt; omega) hs hd (fun h => by omega)
    · cases h
  · rw [hx, if_neg (by decide), if_neg (by decide), if_neg (by decide), if_neg (by decide), if_neg (by decide), if_neg (by decide), if_pos rfl] at h
    split at h
    · cases h; exact ok.fields hn 66 m.sign true m.dig (by unfold inSt; omega) hs hd (fun h => by omega)
    · exact ok.digit hn (.inr rfl) h
  · rw [hx, if_neg (by decide), if_neg (by decide), if_neg (by decide), if_neg (by decide), if_neg (by decide), if_neg (by decide), if_neg (by decide), if_pos rfl] at h
    exact ok.digit hn (.inr rfl) h
  · rw [hx, if_neg (by decide), if_neg (by decide), if_neg (by decide), if_neg (by decide), if_neg (by decide), if_neg (by decide), if_neg (by decide), if_neg (by decide), if_pos rfl] at h
    split at h
    · refine Ok.plain (m := { setCur m { Go.Proofs.YtffajooegiempaaDoor.cur m with num := if m.neg then -(Go.Proofs.YtffajooegiempaaDoor.cur m).num else (Go.Proofs.YtffajooegiempaaDoor.cur m).num } with state := behindOf m }) ?_ (by show 0 < (setCur _ _).st.length; rw [setCur_len]; exact hn) h
      refine ok.put hn _ (behindOf m) m.sign m.neg m.dig hbi.1 hs hd ?_ hsg (fun h => by omega)
      show -99 ≤ (if m.neg then _ else _) ∧ (if m.neg then _ else _) ≤ 99
      split <;> omega
    · exact ok.digit hn (.inr rfl) h
  · rw [hx, if_neg (by decide), if_neg (by decide), if_neg (by decide), if_neg (by decide), if_neg (by decide), if_neg (by decide), if_neg (by decide), if_neg (by decide), if_neg (by decide)] at h
    split at h
    · cases h
      have o := ok.fields hn 115 m.sign m.neg m.dig (.inl rfl) hs hd (fun h => by omega)
      have hop : 0 < m.op.length := ok.open_ hx
      have htop : m.op[m.op.length - 1]? = some (top m) := by
        unfold top
        rw [List.getD_eq_getElem?_getD, List.getElem?_eq_getElem (by omega)]; rfl
      exact { o with
        oplen := by show (m.op.set _ _).length ≤ 4; rw [List.length_set]; exact ok.oplen
        ofs := fun b hb => by
          rcases List.mem_or_eq_of_mem_set hb with h | h
          · exact ok.ofs b h
          · rw [h]; exact ok.ofs (top m) (List.mem_of_getElem? htop)
        open_ := fun h => by exfalso; have h' : (115 : Int) = 125 := h; omega }
    · cases h

theorem Ok.byte (ok : Ok m) {c : Int} (h : byteStep m c = some m') : Ok m' := by
  have hst := ok.states
  unfold byteStep at h
  split at h
  · rename_i hs
    unfold startStep at h
    split at h
    · exact ok.begin_ (.inl rfl) h
    split at h
    · split at h
      · exact ok.begin_ (.inr rfl) h
      · cases h
    split at h
    · exact ok.begin_ (.inr rfl) h
    split at h
    · rename_i ho
      exact ok.shut hs ho.2 h
    · cases h
  rename_i h115
  have hn := ok.some_ h115
  split at h
  · split at h
    · cases h; exact ok.fields hn 118 m.sign m.neg m.dig (by unfold inSt; omega) ok.sgn ok.digs (fun h => by omega)
    · cases h
  split at h
  · rename_i hv
    exact ok.value hn hv h
  split at h
  · exact ok.plain hn h
  · exact ok.cond hn h (by omega)

def init : Rd := ⟨115, [], [], 0, false, 0⟩
theorem Ok.init : Ok init where
  states := .inl rfl
  some_ := fun h => absurd rfl h
  len := by decide
  oplen := by decide
  ofs := fun b hb => by cases hb
  sgn := ⟨by decide, by decide⟩
  digs := ⟨by decide, by decide⟩
  nums := fun b hb => by cases hb
  sgl := fun b hb => by cases hb
  inNum := fun h => by exfalso; have h' : (115 : Int) = 110 ∨ (115 : Int) = 109 := h; omega
  open_ := fun h => by exfalso; have h' : (115 : Int) = 125 := h; omega

/-- All bytes of a list, one behind the other. -/
def feed : Rd → List Int → Option Rd
  | m, [] => some m
  | m, c :: l => match byteStep m c with
    | none => none
    | some m' => feed m' l

theorem feed_snoc (m : Rd) (l : List Int) (c : Int) : feed m (l ++ [c]) = (feed m l).bind fun m' => byteStep m' c := by
  induction l generalizing m with
  | nil =>
    simp only [List.nil_append, feed, Option.bind_some]
    cases h : byteStep m c <;> simp
  | cons a l ih =>
    simp only [List.cons_append, feed]
    cases h : byteStep m a with
    | none => simp
    | some m' => simpa using ih m'

theorem Ok.feed (ok : Ok m) {l : List Int} (h : Go.Proofs.YtffajooegiempaaDoor.feed m l = some m') : Ok m' := by
  induction l generalizing m with
  | nil => simp only [Go.Proofs.YtffajooegiempaaDoor.feed] at h; cases h; exact ok
  | cons a l ih =>
    simp only [Go.Proofs.YtffajooegiempaaDoor.feed] at h
    split at h
    · cases h
    · rename_i m1 e
      exact ih (ok.byte e) h

end Go.Proofs.YtffajooegiempaaDoor

/- The bytes of a text as numbers. -/
namespace Go.Proofs.YtffajooegiempaaDoor

def bytesOf (s : ByteArray) : List Int := s.data.toList.map fun b => (b.toNat : Int)
theorem bytesOf_len (s : ByteArray) : (bytesOf s).length = s.size := by simp [bytesOf]
theorem bytesOf_take (s : ByteArray) (k : Nat) (h : k < s.size) : (bytesOf s).take (k + 1) = (bytesOf s).take k ++ [((s[k]).toNat : Int)] := by
  rw [List.take_succ_eq_append_getElem (by rw [bytesOf_len]; exact h)]
  simp [bytesOf]; rfl
theorem bytesOf_get (s : ByteArray) (k : Nat) (h : k < s.size) : (bytesOf s)[k]? = some ((s[k]).toNat : Int) := by
  rw [List.getElem?_eq_getElem (by rw [bytesOf_len]; exact h)]
  simp [bytesOf]; rfl

end Go.Proofs.YtffajooegiempaaDoor

namespace Go.Proofs.YtffajooegiempaaDoor
variable {m m' : Rd}


/-- How many bytes can be read, and what the reader is behind them (none: it met one that cannot stand there). -/
def readFrom : Rd → List Int → Nat → Nat × Option Rd
  | m, [], n => (n, some m)
  | m, c :: l, n => match byteStep m c with
    | none => (n, none)
    | some m' => readFrom m' l (n + 1)

theorem readFrom_none {m0 m : Rd} {l : List Int} {k n : Nat} {c : Int} (h : feed m0 (l.take k) = some m) (hc : l[k]? = some c) (hb : byteStep m c = none) : readFrom m0 l n = (n + k, none) := by
  induction l generalizing m0 k n with
  | nil => simp at hc
  | cons a l ih =>
    cases k with
    | zero =>
      simp [feed] at h hc
      subst h; subst hc
      simp [readFrom, hb]
    | succ k =>
      simp only [List.take_succ_cons, feed] at h
      simp only [List.getElem?_cons_succ] at hc
      simp only [readFrom]
      split at h
      · cases h
      · rename_i m1 e
        try rw [e]
        try simp only
        rw [ih h hc]; congr 1; omega

theorem readFrom_some {m0 m : Rd} {l : List Int} {n : Nat} (h : feed m0 l = some m) : readFrom m0 l n = (n + l.length, some m) := by
  induction l generalizing m0 n with
  | nil => simp only [feed] at h; cases h; rfl
  | cons a l ih =>
    simp only [feed] at h
    simp only [readFrom]
    split at h
    · cases h
    · rename_i m1 e
      try rw [e]
      try simp only
      rw [ih h]; simp only [List.length_cons]; congr 1; omega

def isDone (m : Rd) : Bool := decide (m.state = 115) && decide (m.op.length = 0)

/-- The document's Scan, as numbers. -/
def scanOf (l : List Int) : Int × Int × Int :=
  if 160 < l.length then (0, 1, 0) else match readFrom init l 0 with
    | (n, none) => (0, 1, n)
    | (n, some m) => if isDone m then ((m.st.length : Int) + 1, 0, 0) else (0, 1, n)

theorem byte_value (hx : m.state = 118 ∨ m.state = 86 ∨ m.state = 120 ∨ m.state = 121 ∨ m.state = 110) (c : Int) : byteStep m c = valueStep m c := by
  unfold byteStep; rw [if_neg (by omega), if_neg (by omega), if_pos hx]
theorem byte_plain (hx : m.state = 59 ∨ m.state = 123) (c : Int) : byteStep m c = plainStep m c := by
  unfold byteStep; rw [if_neg (by omega), if_neg (by omega), if_neg (by omega), if_pos hx]
theorem byte_cond (hx : m.state = 99 ∨ m.state = 67 ∨ m.state = 100 ∨ m.state = 101 ∨ m.state = 102 ∨ m.state = 60 ∨ m.state = 98 ∨ m.state = 66 ∨ m.state = 109 ∨ m.state = 125) (c : Int) : byteStep m c = condStep m c := by
  unfold byteStep; rw [if_neg (by omega), if_neg (by omega), if_neg (by omega), if_neg (by omega)]

theorem behind_or (m : Rd) : behindOf m = 59 ∨ behindOf m = 123 := by
  unfold behindOf
  split
  · exact .inl rfl
  · exact .inr rfl

theorem setCur_cur (hn : 0 < m.st.length) : setCur m (cur m) = m := by
  have h := curs' hn
  unfold setCur
  have : m.st.set (m.st.length - 1) (cur m) = m.st := by
    apply List.ext_getElem?
    intro i
    rw [List.getElem?_set]
    split
    · rename_i e; subst e; rw [if_pos (by omega), h]
    · rfl
  rw [this]


end Go.Proofs.YtffajooegiempaaDoor

/- What every statement of a program keeps to: its variable, its signs. No Go in here. -/
namespace Go.Proofs.YtffajooegiempaaDoor
variable {m m' : Rd}

def Gd (s : St) : Prop := 0 ≤ s.var ∧ s.var ≤ 3 ∧ ∀ x, x ∈ s.sg → -1 ≤ x ∧ x ≤ 1
def AllGd (m : Rd) : Prop := ∀ s, s ∈ m.st → Gd s
theorem gd_no : Gd noSt := ⟨by decide, by decide, fun x hx => by simp [noSt] at hx; omega⟩
theorem AllGd.get (h : AllGd m) (k : Nat) : Gd (m.st.getD k noSt) := by
  rw [List.getD_eq_getElem?_getD]
  cases e : m.st[k]? with
  | none => exact gd_no
  | some s => exact h s (List.mem_of_getElem? e)
theorem AllGd.cur (h : AllGd m) : Gd (cur m) := h.get _
theorem AllGd.setC (h : AllGd m) {s : St} (hs : Gd s) : AllGd (setCur m s) := fun t ht => (mem_setCur ht).elim (h t) (fun e => e ▸ hs)
theorem AllGd.of {m1 : Rd} (h : AllGd m1) (e : m'.st = m1.st) : AllGd m' := fun s hs => h s (e ▸ hs)

theorem AllGd.begin_ (h : AllGd m) {k v x : Int} (h0 : 0 ≤ v) (h3 : v ≤ 3) (e : beginStep m k v x = some m') : AllGd m' := by
  unfold beginStep at e
  split at e
  · cases e
  · cases e
    intro s hs
    rcases List.mem_append.1 hs with hs | hs
    · exact h s hs
    · rw [List.mem_singleton.1 hs]
      exact ⟨h0, h3, fun x hx => by simp at hx; omega⟩
theorem AllGd.shut (h : AllGd m) (e : shutStep m = some m') : AllGd m' := by
  have hg := h.get (top m).of_
  simp only [shutStep] at e
  split at e
  · cases e; exact fun t ht => (List.mem_or_eq_of_mem_set ht).elim (h t) (fun e => e ▸ hg)
  · cases e; exact fun t ht => (List.mem_or_eq_of_mem_set ht).elim (h t) (fun e => e ▸ hg)
theorem AllGd.digit (h : AllGd m) {c x : Int} {pos : Bool} (e : digitStep m c pos x = some m') : AllGd m' := by
  obtain ⟨d, u, _, _, rfl⟩ := digit_inv e
  exact (h.setC (s := { Go.Proofs.YtffajooegiempaaDoor.cur m with num := 10 * u + (c - 48) }) h.cur).of rfl
theorem AllGd.signTo (h : AllGd m) (v : Nat) (y x : Int) (hy : -1 ≤ y ∧ y ≤ 1) : AllGd (signTo m v y x) := by
  have hc := h.cur
  refine (h.setC (s := { Go.Proofs.YtffajooegiempaaDoor.cur m with sg := (Go.Proofs.YtffajooegiempaaDoor.cur m).sg.set v y }) ⟨hc.1, hc.2.1, fun z hz => ?_⟩).of rfl
  rcases List.mem_or_eq_of_mem_set hz with hz | hz
  · exact hc.2.2 z hz
  · rw [hz]; exact hy
theorem AllGd.plain (h : AllGd m) {c : Int} (e : plainStep m c = some m') : AllGd m' := by
  unfold plainStep at e
  split at e
  · split at e
    · cases e; exact h.of rfl
    · cases e
  · split at e
    · cases e
    · cases e; exact h.of rfl

theorem AllGd.value (h : AllGd m) (ok : Ok m) {c : Int} (e : valueStep m c = some m') : AllGd m' := by
  have hs := ok.sgn
  have ve : AllGd (valueEnd m) := (h.setC (s := { Go.Proofs.YtffajooegiempaaDoor.cur m with num := m.sign * (Go.Proofs.YtffajooegiempaaDoor.cur m).num }) h.cur).of rfl
  unfold valueStep at e
  split at e
  · split at e
    · cases e; exact (h.setC (s := { Go.Proofs.YtffajooegiempaaDoor.cur m with star := true }) h.cur).of rfl
    split at e
    · cases e; exact h.of rfl
    split at e
    · cases e; exact h.signTo _ 1 120 (by omega)
    · exact AllGd.digit (m := { m with sign := 1 }) (h.of rfl) e
  split at e
  · split at e
    · cases e; exact h.signTo _ m.sign 120 hs
    · exact h.digit e
  split at e
  · split at e
    · cases e; exact h.of rfl
    split at e
    · cases e; exact h.of rfl
    split at e
    · cases e; exact ve
    · cases e
  split at e
  · exact h.digit e
  · split at e
    · cases e; exact ve
    · exact h.digit e

theorem AllGd.cond (h : AllGd m) (ok : Ok m) {c : Int} (e : condStep m c = some m') : AllGd m' := by
  have hs := ok.sgn
  unfold condStep at e
  by_cases x1 : m.state = 99
  · rw [if_pos x1] at e
    split at e
    · cases e; exact (h.setC (s := { Go.Proofs.YtffajooegiempaaDoor.cur m with star := true }) h.cur).of rfl
    split at e
    · cases e; exact h.of rfl
    split at e
    · cases e; exact h.signTo _ 1 100 (by omega)
    · cases e
  rw [if_neg x1] at e
  by_cases x2 : m.state = 67
  · rw [if_pos x2] at e
    split at e
    · cases e; exact h.signTo _ m.sign 100 hs
    · cases e
  rw [if_neg x2] at e
  by_cases x3 : m.state = 100
  · rw [if_pos x3] at e
    split at e
    · cases e; exact h.of rfl
    split at e
    · cases e; exact h.of rfl
    split at e
    · cases e; exact h.of rfl
    · cases e
  rw [if_neg x3] at e
  by_cases x4 : m.state = 101
  · rw [if_pos x4] at e
    split at e
    · split at e
      · cases e; exact h.signTo _ m.sign 102 hs
      · cases e
    · cases e
  rw [if_neg x4] at e
  by_cases x5 : m.state = 102
  · rw [if_pos x5] at e
    split at e
    · cases e; exact h.of rfl
    · cases e
  rw [if_neg x5] at e
  by_cases x6 : m.state = 60
  · rw [if_pos x6] at e
    split at e
    · cases e; exact h.of rfl
    · cases e
  rw [if_neg x6] at e
  by_cases x7 : m.state = 98
  · rw [if_pos x7] at e
    split at e
    · cases e; exact h.of rfl
    · exact h.digit e
  rw [if_neg x7] at e
  by_cases x8 : m.state = 66
  · rw [if_pos x8] at e
    exact h.digit e
  rw [if_neg x8] at e
  by_cases x9 : m.state = 109
  · rw [if_pos x9] at e
    split at e
    · exact AllGd.plain (m := { setCur m { Go.Proofs.YtffajooegiempaaDoor.cur m with num := if m.neg then -(Go.Proofs.YtffajooegiempaaDoor.cur m).num else (Go.Proofs.YtffajooegiempaaDoor.cur m).num } with state := behindOf m }) ((h.setC (s := { Go.Proofs.YtffajooegiempaaDoor.cur m with num := if m.neg then -(Go.Proofs.YtffajooegiempaaDoor.cur m).num else (Go.Proofs.YtffajooegiempaaDoor.cur m).num }) h.cur).of rfl) e
    · exact h.digit e
  rw [if_neg x9] at e
  split at e
  · cases e; exact h.of rfl
  · cases e

theorem AllGd.byte (h : AllGd m) (ok : Ok m) {c : Int} (e : byteStep m c = some m') : AllGd m' := by
  unfold byteStep at e
  split at e
  · unfold startStep at e
    split at e
    · exact h.begin_ (by omega) (by omega) e
    split at e
    · split at e
      · exact h.begin_ (by omega) (by omega) e
      · cases e
    split at e
    · exact h.begin_ (by omega) (by omega) e
    split at e
    · exact h.shut e
    · cases e
  split at e
  · split at e
    · cases e; exact h.of rfl
    · cases e
  split at e
  · exact h.value ok e
  split at e
  · exact h.plain e
  · exact h.cond ok e

theorem gd_from {l : List Int} : ∀ {m : Rd} {n k : Nat}, AllGd m → Ok m → readFrom m l n = (k, some m') → AllGd m' ∧ Ok m' := by
  induction l with
  | nil => intro m n k h ok e; simp [readFrom] at e; rw [← e.2]; exact ⟨h, ok⟩
  | cons c l ih =>
    intro m n k h ok e
    simp only [readFrom] at e
    split at e
    · cases e
    · rename_i m1 e1
      exact ih (h.byte ok e1) (ok.byte e1) e

end Go.Proofs.YtffajooegiempaaDoor

/- How many variables stand in a statement. No Go in here. -/
namespace Go.Proofs.YtffajooegiempaaDoor
variable {m m' : Rd}

/-- How many signs are not 0. -/
def nz (l : List Int) : Nat := l.countP fun x => decide (x ≠ 0)
theorem nz_cons (a : Int) (l : List Int) : nz (a :: l) = nz l + if a = 0 then 0 else 1 := by
  unfold nz
  rw [List.countP_cons]
  by_cases h : a = 0
  · rw [if_pos h, if_neg (by simpa using h)]
  · rw [if_neg h, if_pos (by simpa using h)]
theorem nz_set : ∀ (l : List Int) (v : Nat) (x : Int), nz (l.set v x) ≤ nz l + 1 := by
  intro l
  induction l with
  | nil => intro v x; simp
  | cons a l ih =>
    intro v x
    cases v with
    | zero =>
      rw [List.set_cons_zero, nz_cons, nz_cons]
      split <;> split <;> omega
    | succ v =>
      rw [List.set_cons_succ, nz_cons, nz_cons]
      have := ih v x
      omega
/-- How many may stand in the statement that is being read. -/
def lim (x : Int) : Nat := if x = 61 ∨ x = 118 ∨ x = 86 ∨ x = 99 ∨ x = 67 then 0 else if x = 100 ∨ x = 101 then 1 else 2
structure Cn (m : Rd) : Prop where
  all : ∀ s, s ∈ m.st → nz s.sg ≤ 2
  cur : nz (cur m).sg ≤ lim m.state
theorem lim_le (x : Int) : lim x ≤ 2 := by unfold lim; split <;> (try split) <;> omega
theorem cur_set (m : Rd) (s : St) (x : Int) (dg : Int) (sn : Int) (ng : Bool) (op : List Bk) (h : 0 < m.st.length) : Go.Proofs.YtffajooegiempaaDoor.cur { setCur m s with state := x, dig := dg, sign := sn, neg := ng, op := op } = s := by
  unfold Go.Proofs.YtffajooegiempaaDoor.cur setCur
  simp [List.getD, show m.st.length - 1 < m.st.length by omega]
theorem Cn.of (h : Cn m) (e : m'.st = m.st) (hl : lim m.state ≤ lim m'.state) : Cn m' := by
  refine ⟨fun s hs => h.all s (e ▸ hs), ?_⟩
  have : Go.Proofs.YtffajooegiempaaDoor.cur m' = Go.Proofs.YtffajooegiempaaDoor.cur m := by unfold Go.Proofs.YtffajooegiempaaDoor.cur; rw [e]
  rw [this]
  exact Nat.le_trans h.cur hl
/-- The statement that is being read is turned. -/
theorem Cn.setC (h : Cn m) {s : St} {n : Nat} (hs : nz s.sg ≤ n) (hn : n ≤ 2) (ok : m.state ≠ 115) (ok' : Ok m) (e : m'.st = (setCur m s).st) (hl : n ≤ lim m'.state) : Cn m' := by
  have hp := ok'.some_ ok
  refine ⟨fun t ht => ?_, ?_⟩
  · rw [e] at ht
    rcases mem_setCur ht with q | q
    · exact h.all t q
    · rw [q]; omega
  · have : Go.Proofs.YtffajooegiempaaDoor.cur m' = s := by
      unfold Go.Proofs.YtffajooegiempaaDoor.cur
      rw [e]
      unfold setCur
      simp [List.getD, show m.st.length - 1 < m.st.length by omega]
    rw [this]
    omega
theorem Cn.begin_ (h : Cn m) {k v x : Int} (hx : lim x = 0) (e : beginStep m k v x = some m') : Cn m' := by
  unfold beginStep at e
  split at e
  · cases e
  · cases e
    refine ⟨fun s hs => ?_, ?_⟩
    · rcases List.mem_append.1 hs with hs | hs
      · exact h.all s hs
      · rw [List.mem_singleton.1 hs]; show nz [0, 0, 0, 0] ≤ 2; decide
    · show nz (Go.Proofs.YtffajooegiempaaDoor.cur _).sg ≤ lim x
      rw [hx]
      unfold Go.Proofs.YtffajooegiempaaDoor.cur
      simp [List.getD]
      decide
theorem Cn.shut (h : Cn m) (hs : m.state = 115) (e : shutStep m = some m') : Cn m' := by
  have key : ∀ (s : St), s.sg = (m.st.getD (top m).of_ noSt).sg → ∀ t, t ∈ m.st.set (top m).of_ s → nz t.sg ≤ 2 := by
    intro s hsg t ht
    rcases List.mem_or_eq_of_mem_set ht with q | q
    · exact h.all t q
    · rw [q, hsg, List.getD_eq_getElem?_getD]
      cases e : m.st[(top m).of_]? with
      | none => decide
      | some u => exact h.all u (List.mem_of_getElem? e)
  have cu : ∀ (s : St) (m2 : Rd), m2.st = m.st.set (top m).of_ s → s.sg = (m.st.getD (top m).of_ noSt).sg → nz (Go.Proofs.YtffajooegiempaaDoor.cur m2).sg ≤ 2 := by
    intro s m2 e2 hsg
    unfold Go.Proofs.YtffajooegiempaaDoor.cur
    rw [e2, List.getD_eq_getElem?_getD]
    cases e3 : (m.st.set (top m).of_ s)[(m.st.set (top m).of_ s).length - 1]? with
    | none => decide
    | some u => exact key s hsg u (List.mem_of_getElem? e3)
  simp only [shutStep] at e
  split at e
  · cases e
    exact ⟨key _ rfl, cu _ _ rfl rfl⟩
  · cases e
    refine ⟨key _ rfl, ?_⟩
    show _ ≤ lim m.state
    rw [hs]
    exact cu _ _ rfl rfl
theorem Cn.digit (h : Cn m) (ok : Ok m) (h0 : m.state ≠ 115) {c x : Int} {pos : Bool} (e : digitStep m c pos x = some m') (hl : lim m.state ≤ lim x) : Cn m' := by
  obtain ⟨d, u, _, _, rfl⟩ := digit_inv e
  exact h.setC (s := { Go.Proofs.YtffajooegiempaaDoor.cur m with num := 10 * u + (c - 48) }) (n := lim m.state) h.cur (lim_le _) h0 ok rfl hl
theorem Cn.signTo (h : Cn m) (ok : Ok m) (h0 : m.state ≠ 115) (v : Nat) (y x : Int) (hl : lim m.state + 1 ≤ lim x) : Cn (signTo m v y x) := by
  have := lim_le x
  have hc := h.cur
  have hn := nz_set (Go.Proofs.YtffajooegiempaaDoor.cur m).sg v y
  exact h.setC (s := { Go.Proofs.YtffajooegiempaaDoor.cur m with sg := (Go.Proofs.YtffajooegiempaaDoor.cur m).sg.set v y }) (n := lim m.state + 1) (by show nz ((Go.Proofs.YtffajooegiempaaDoor.cur m).sg.set v y) ≤ _; omega) (by omega) h0 ok rfl hl
theorem Cn.plain (h : Cn m) (hl : lim m.state ≤ 2) {c : Int} (e : plainStep m c = some m') : Cn m' := by
  unfold plainStep at e
  split at e
  · split at e
    · cases e; exact h.of rfl hl
    · cases e
  · split at e
    · cases e
    · cases e; exact h.of rfl hl
theorem Cn.value (h : Cn m) (ok : Ok m) {c : Int} (hst : m.state = 118 ∨ m.state = 86 ∨ m.state = 120 ∨ m.state = 121 ∨ m.state = 110) (e : valueStep m c = some m') : Cn m' := by
  have h0 : m.state ≠ 115 := by omega
  have l2 := lim_le m.state
  have ve : Cn (valueEnd m) := h.setC (s := { Go.Proofs.YtffajooegiempaaDoor.cur m with num := m.sign * (Go.Proofs.YtffajooegiempaaDoor.cur m).num }) (n := lim m.state) h.cur l2 h0 ok rfl l2
  unfold valueStep at e
  split at e
  · rename_i x1
    have hz : lim m.state = 0 := by rw [x1]; rfl
    split at e
    · cases e; exact h.setC (s := { Go.Proofs.YtffajooegiempaaDoor.cur m with star := true }) (n := lim m.state) h.cur l2 h0 ok rfl l2
    split at e
    · cases e; exact h.of rfl (by omega)
    split at e
    · cases e; exact h.signTo ok h0 _ 1 120 (by rw [hz]; decide)
    · exact Cn.digit (m := { m with sign := 1 }) (h.of rfl (Nat.le_refl _)) ⟨ok.states, ok.some_, ok.len, ok.oplen, ok.ofs, by show -1 ≤ (1 : Int) ∧ (1 : Int) ≤ 1; omega, ok.digs, ok.nums, ok.sgl, ok.inNum, ok.open_⟩ h0 e l2
  split at e
  · rename_i x1 x2
    have hz : lim m.state = 0 := by rw [x2]; rfl
    split at e
    · cases e; exact h.signTo ok h0 _ m.sign 120 (by rw [hz]; decide)
    · exact h.digit ok h0 e l2
  split at e
  · split at e
    · cases e; exact h.of rfl l2
    split at e
    · cases e; exact h.of rfl l2
    split at e
    · cases e; exact ve
    · cases e
  split at e
  · exact h.digit ok h0 e l2
  · split at e
    · cases e; exact ve
    · exact h.digit ok h0 e l2
theorem lim_beh (m : Rd) : lim (behindOf m) = 2 := by unfold behindOf; split <;> rfl
theorem Cn.cond (h : Cn m) (ok : Ok m) (h0 : m.state ≠ 115) {c : Int} (e : condStep m c = some m') : Cn m' := by
  have l2 := lim_le m.state
  unfold condStep at e
  by_cases x1 : m.state = 99
  · rw [if_pos x1] at e
    have hz : lim m.state = 0 := by rw [x1]; rfl
    split at e
    · cases e; exact h.setC (s := { Go.Proofs.YtffajooegiempaaDoor.cur m with star := true }) (n := lim m.state) h.cur l2 h0 ok rfl (by show _ ≤ lim (behindOf m); rw [lim_beh]; exact l2)
    split at e
    · cases e; exact h.of rfl (by omega)
    split at e
    · cases e; exact h.signTo ok h0 _ 1 100 (by rw [hz]; decide)
    · cases e
  rw [if_neg x1] at e
  by_cases x2 : m.state = 67
  · rw [if_pos x2] at e
    have hz : lim m.state = 0 := by rw [x2]; rfl
    split at e
    · cases e; exact h.signTo ok h0 _ m.sign 100 (by rw [hz]; decide)
    · cases e
  rw [if_neg x2] at e
  by_cases x3 : m.state = 100
  · rw [if_pos x3] at e
    have hz : lim m.state = 1 := by rw [x3]; rfl
    split at e
    · cases e; exact h.of rfl (by rw [hz]; show 1 ≤ lim 101; decide)
    split at e
    · cases e; exact h.of rfl (by rw [hz]; show 1 ≤ lim 101; decide)
    split at e
    · cases e; exact h.of rfl (by rw [hz]; show 1 ≤ lim 60; decide)
    · cases e
  rw [if_neg x3] at e
  by_cases x4 : m.state = 101
  · rw [if_pos x4] at e
    have hz : lim m.state = 1 := by rw [x4]; rfl
    split at e
    · split at e
      · cases e; exact h.signTo ok h0 _ m.sign 102 (by rw [hz]; decide)
      · cases e
    · cases e
  rw [if_neg x4] at e
  by_cases x5 : m.state = 102
  · rw [if_pos x5] at e
    split at e
    · cases e; exact h.of rfl l2
    · cases e
  rw [if_neg x5] at e
  by_cases x6 : m.state = 60
  · rw [if_pos x6] at e
    split at e
    · cases e; exact h.of rfl l2
    · cases e
  rw [if_neg x6] at e
  by_cases x7 : m.state = 98
  · rw [if_pos x7] at e
    split at e
    · cases e; exact h.of rfl l2
    · exact h.digit ok h0 e l2
  rw [if_neg x7] at e
  by_cases x8 : m.state = 66
  · rw [if_pos x8] at e
    exact h.digit ok h0 e l2
  rw [if_neg x8] at e
  by_cases x9 : m.state = 109
  · rw [if_pos x9] at e
    split at e
    · refine Cn.plain (m := { setCur m { Go.Proofs.YtffajooegiempaaDoor.cur m with num := if m.neg then -(Go.Proofs.YtffajooegiempaaDoor.cur m).num else (Go.Proofs.YtffajooegiempaaDoor.cur m).num } with state := behindOf m }) ?_ (lim_le _) e
      exact h.setC (s := { Go.Proofs.YtffajooegiempaaDoor.cur m with num := if m.neg then -(Go.Proofs.YtffajooegiempaaDoor.cur m).num else (Go.Proofs.YtffajooegiempaaDoor.cur m).num }) (n := lim m.state) h.cur l2 h0 ok rfl (by show _ ≤ lim (behindOf m); rw [lim_beh]; exact l2)
    · exact h.digit ok h0 e l2
  rw [if_neg x9] at e
  split at e
  · cases e; exact h.of rfl l2
  · cases e
theorem Cn.byte (h : Cn m) (ok : Ok m) {c : Int} (e : byteStep m c = some m') : Cn m' := by
  unfold byteStep at e
  split at e
  · rename_i hs
    unfold startStep at e
    split at e
    · exact h.begin_ rfl e
    split at e
    · split at e
      · exact h.begin_ rfl e
      · cases e
    split at e
    · exact h.begin_ rfl e
    split at e
    · exact h.shut hs e
    · cases e
  split at e
  · rename_i h1 h2
    split at e
    · cases e; exact h.of rfl (by rw [h2]; show lim 61 ≤ lim 118; decide)
    · cases e
  split at e
  · rename_i hv; exact h.value ok hv e
  split at e
  · exact h.plain (lim_le _) e
  · rename_i h1 _ _ _; exact h.cond ok h1 e
theorem cn_from {l : List Int} : ∀ {m : Rd} {n k : Nat}, Cn m → Ok m → readFrom m l n = (k, some m') → Cn m' := by
  induction l with
  | nil => intro m n k h ok e; simp [readFrom] at e; rw [← e.2]; exact h
  | cons c l ih =>
    intro m n k h ok e
    simp only [readFrom] at e
    split at e
    · cases e
    · rename_i m1 e1
      exact ih (h.byte ok e1) (ok.byte e1) e

end Go.Proofs.YtffajooegiempaaDoor

namespace Go.Proofs.YtffajooegiempaaDoor
open Go.RowKit
variable {w : World}

/- The signs of a sum of at most two: its number by the document, its sides by the program. -/
def sg3 : List Int := [-1, 0, 1]
def tabS (l : List Int) : Bool := decide (2 < nz l) || (if nz l = 0 then decide (numV l = -1) && decide (sd1 l = 0) && decide (sd2 l = 1)
  else decide (0 ≤ numV l) && decide (numV l < 32) && decide (sd1 l = fs (numV l).toNat) && decide (sd2 l = ss (numV l).toNat))
theorem tabS_all : (sg3.all fun a => sg3.all fun b => sg3.all fun c => sg3.all fun d => tabS [a, b, c, d]) = true := by decide +kernel
theorem mem_sg3 {a : Int} (h : -1 ≤ a ∧ a ≤ 1) : a ∈ sg3 := by
  rcases (show a = -1 ∨ a = 0 ∨ a = 1 by omega) with rfl | rfl | rfl <;> decide
theorem tabS_of {l : List Int} (hl : l.length = 4) (h : ∀ i, -1 ≤ gAt l i ∧ gAt l i ≤ 1) : tabS l = true := by
  obtain ⟨a, b, c, d, rfl⟩ := four_of hl
  have t := tabS_all
  simp only [List.all_eq_true] at t
  exact t a (mem_sg3 (h 0)) b (mem_sg3 (h 1)) c (mem_sg3 (h 2)) d (mem_sg3 (h 3))
/-- The greatest of a sum, by the document. -/
def grD (C : Nat → Int) (l : List Int) : Int := if nz l = 0 then 0 else bd C (numV l).toNat
theorem grP_grD {C : Nat → Int} (hC : C (0 * 8 + 1) = 0) {l : List Int} (hl : l.length = 4) (h : ∀ i, -1 ≤ gAt l i ∧ gAt l i ≤ 1) (h2 : nz l ≤ 2) :
    mo C (sd1 l) (sd2 l) = grD C l ∧ (nz l = 0 → numV l = -1) ∧ (nz l ≠ 0 → ∃ f : Nat, f < 32 ∧ numV l = (f : Int) ∧ grD C l = bd C f) := by
  have t := tabS_of hl h
  unfold tabS at t
  rw [decide_eq_false (by omega : ¬ 2 < nz l), Bool.false_or] at t
  by_cases e : nz l = 0
  · rw [if_pos e] at t
    simp only [Bool.and_eq_true, decide_eq_true_eq] at t
    refine ⟨?_, fun _ => t.1.1, fun q => absurd e q⟩
    unfold grD
    rw [if_pos e, t.1.2, t.2]
    unfold mo
    rw [if_neg (fun z => absurd z.1 (by decide))]
    exact hC
  · rw [if_neg e] at t
    simp only [Bool.and_eq_true, decide_eq_true_eq] at t
    refine ⟨?_, fun q => absurd q e, fun _ => ⟨(numV l).toNat, by omega, by omega, ?_⟩⟩
    · unfold grD
      rw [if_neg e, t.1.2, t.2]
      rfl
    · unfold grD
      rw [if_neg e]
theorem nz_four (a b c d : Int) : nz [a, b, c, d] = (if a = 0 then 0 else 1) + (if b = 0 then 0 else 1) + (if c = 0 then 0 else 1) + (if d = 0 then 0 else 1) := by
  rw [nz_cons, nz_cons, nz_cons, nz_cons]
  have : nz [] = 0 := rfl
  omega
theorem nz_ngL {l : List Int} (hl : l.length = 4) : nz (ngL l) = nz l := by
  obtain ⟨a, b, c, d, rfl⟩ := four_of hl
  show nz [-a, -b, -c, -d] = _
  rw [nz_four, nz_four]
  have h : ∀ x : Int, (if -x = 0 then 0 else 1 : Nat) = if x = 0 then 0 else 1 := fun x => by
    by_cases e : x = 0
    · rw [if_pos e, if_pos (by omega)]
    · rw [if_neg e, if_neg (by omega)]
  rw [h, h, h, h]

theorem nz_zero {l : List Int} (hl : l.length = 4) (h : nz l = 0) : ∀ i, i < 4 → gAt l i = 0 := by
  obtain ⟨a, b, c, d, rfl⟩ := four_of hl
  rw [nz_four] at h
  intro i hi
  have z : ∀ x : Int, (if x = 0 then 0 else 1 : Nat) = 0 → x = 0 := fun x hx => by
    by_cases e : x = 0
    · exact e
    · rw [if_neg e] at hx; cases hx
  rcases (show i = 0 ∨ i = 1 ∨ i = 2 ∨ i = 3 by omega) with rfl | rfl | rfl | rfl
  · exact z a (by omega)
  · exact z b (by omega)
  · exact z c (by omega)
  · exact z d (by omega)
theorem z4_set : ∀ j : Nat, j < 4 → ([0, 0, 0, 0] : List Int).set j 0 = [0, 0, 0, 0] := by decide

set_option maxRecDepth 100000 in
set_option maxHeartbeats 3200000 in
theorem r_greatest (C : Nat → Int) (u v : Value) (l : List Int) (hl : l.length = 4) (hv : ∀ i, -1 ≤ gAt l i ∧ gAt l i ≤ 1) (h2 : nz l ≤ 2) (hC0 : C (0 * 8 + 1) = 0) (hu : Reads w u (bdL C)) (hr : Reads w v l) :
    Calls Tryd.prog 65 #[u, v] w fun e w' => e = .returned (.int .i64 (grD C l)) ∧ Below w.heap.size w w' := by
  have hmk : ∀ w, (Instr.makeSlice 22 (.int .i64 4) (.int .i64 4)).run Tryd.prog w = .ok (.slice (some ⟨w.heap.size, 0, none⟩) 4 4) (w.alloc (.cells #[.int .i64 0, .int .i64 0, .int .i64 0, .int .i64 0] tNk)) := fun _ => by kernel_rfl
  obtain ⟨_, hz, hnz⟩ := grP_grD hC0 hl hv h2
  have hn := r_number v l hl hr (fun i _ => by have := hv i; omega)
  have hbl : (bdL C).length = 32 := by simp [bdL]
  have HL : Hid (l.length = 4) := hl
  obtain ⟨bu, cu, rfl, -, h0u⟩ := hu
  obtain ⟨q, ofq, rfl, hq, hcq⟩ := h0u (by omega)
  obtain ⟨au, ca, rfl, -, h0⟩ := id hr
  obtain ⟨p, off, rfl, hp, hcell⟩ := h0 (by omega)
  have HC : Hid (∀ i, i < 4 → w.cell? ⟨p, off + i, none⟩ = some (.int .i64 (gAt l i))) := fun i hi => hcell i (by omega)
  have HCq : Hid (∀ i, i < 32 → w.cell? ⟨q, ofq + i, none⟩ = some (.int .i64 (bd C i))) := fun i hi => by rw [hcq i (by omega)]; exact congrArg (fun z => some (Value.int .i64 z)) (bdL_get C i hi)
  rw [hbl]
  rw [hl] at hn ⊢
  clear h0 h0u hcell hcq hr
  by_cases e : nz l = 0
  · have HE : Hid (grD C l = 0) := if_pos e
    rw [hz e] at hn
    have HZ : Hid (∀ i, i < 4 → w.cell? ⟨p, off + i, none⟩ = some (.int .i64 0)) := fun i hi => by rw [HC.out i hi, nz_zero HL.out e i hi]
    clear hz hnz hC0 e HCq HC
    go_enter Tryd.func65, Tryd.ntmps65
    go_wp2_with fail
    refine hn.mono ?_
    rintro e w1 ⟨rfl, hb1⟩
    have HB1 : Hid (Below w.heap.size w w1) := hb1
    have hs1 := hb1.size
    have HA : Hid (At (w1.alloc (.cells #[.int .i64 0, .int .i64 0, .int .i64 0, .int .i64 0] tNk)) w1.heap.size (ic [0, 0, 0, 0]) tNk ∧ Below w.heap.size w (w1.alloc (.cells #[.int .i64 0, .int .i64 0, .int .i64 0, .int .i64 0] tNk))) := ⟨At.new _ _ _, hb1.alloc hb1.size _⟩
    clear hb1 hn
    go_wp2_with fail
    go_loopw [7, 8] (fun zv iv wr => ∃ (j : Nat), j ≤ 4 ∧ iv = .int .i64 j ∧ zv = .bool true ∧ Hid (At wr w1.heap.size (ic [0, 0, 0, 0]) tNk ∧ Below w.heap.size w wr)) (fun _ iv _ => 4 - (intOf iv).toNat)
    case atStart => exact ⟨0, by omega, rfl, rfl, HA.out⟩
    case round =>
      obtain ⟨j, hj, rfl, rfl, HR⟩ := hrel
      by_cases hlt : j < 4
      · have hji : (j : Int) < 4 := by omega
        have ca : wr.cell? ⟨p, off + j, none⟩ = some (.int .i64 0) := (HR.out.2.cell (p := ⟨p, off + j, none⟩) hp).trans (HZ.out j hlt)
        have cb : wr.cell? ⟨w1.heap.size, j, none⟩ = some (.int .i64 0) := by
          rw [HR.out.1.cell, ic_get _ _ (by exact hlt)]
          rcases (show j = 0 ∨ j = 1 ∨ j = 2 ∨ j = 3 by omega) with rfl | rfl | rfl | rfl <;> rfl
        have cf := HR.out.1.free
        have hbl := HR.out.1.lt
        have ne1 : p ≠ w1.heap.size := by omega
        go_wp2_with fail
        go_roundw
        case rel =>
          refine ⟨j + 1, by omega, by go_num, rfl, ?_, HR.out.2.setCell hs1 _⟩
          have := HR.out.1.put j (.int .i64 0)
          rw [ic_set, z4_set j hlt] at this
          exact this
        case measure => simp [intOf]; omega
      · have hj4 : j = 4 := by omega
        subst hj4
        go_wp2_with fail
        go_ret
        exact ⟨by rw [HE.out]; rfl, HR.out.2⟩
  · obtain ⟨f, hf, hnf, hg⟩ := hnz e
    rw [hnf] at hn
    have HE : Hid (grD C l = bd C f) := hg
    have hfi : (f : Int) < 32 := by omega
    have HCf : Hid (w.cell? ⟨q, ofq + f, none⟩ = some (.int .i64 (bd C f))) := HCq.out f hf
    clear hz hnz hg hnf hC0 e
    generalize bd C f = g at *
    go_enter Tryd.func65, Tryd.ntmps65
    go_wp2_with fail
    refine hn.mono ?_
    rintro e w1 ⟨rfl, hb1⟩
    have cq : w1.cell? ⟨q, ofq + f, none⟩ = some (.int .i64 g) := (hb1.cell (p := ⟨q, ofq + f, none⟩) hq).trans HCf.out
    have HB1 : Hid (Below w.heap.size w w1) := hb1
    clear hb1 hn
    go_wp2_with fail
    go_ret
    exact ⟨by rw [HE.out]; rfl, HB1.out⟩

end Go.Proofs.YtffajooegiempaaDoor

namespace Go.Proofs.YtffajooegiempaaDoor
open Go.RowKit

abbrev tD : TypeId := 85
abbrev tDs : TypeId := 58

/-- The program's reader: the text, the place, is it stuck, what was found. -/
def Dat (w : World) (r : Nat) (s : ByteArray) (d : Nat × Bool) (vf : Value) : Prop := At w r #[.string s, .int .i64 d.1, .bool d.2, vf] tD

/-- Nothing but block r has turned, and no block has come. -/
structure Tch (r : Nat) (w w' : World) : Prop where
  os : w'.os = w.os
  tape : w'.tape = w.tape
  output : w'.output = w.output
  size : w'.heap.size = w.heap.size
  block : ∀ k, k ≠ r → w'.heap[k]? = w.heap[k]?

theorem Tch.refl (r : Nat) (w : World) : Tch r w w := ⟨rfl, rfl, rfl, rfl, fun _ _ => rfl⟩
theorem Tch.trans {r : Nat} {a b c : World} (h : Tch r a b) (k : Tch r b c) : Tch r a c := ⟨k.os.trans h.os, k.tape.trans h.tape, k.output.trans h.output, k.size.trans h.size, fun i hi => (k.block i hi).trans (h.block i hi)⟩
theorem Tch.drewN {r : Nat} {a w : World} (h : Tch r a w) (n : Nat) : Tch r a (w.drewN n) := ⟨h.os, h.tape, h.output, h.size, h.block⟩
theorem Tch.setCell {r : Nat} {a w : World} (h : Tch r a w) (o : Nat) (u : Value) : Tch r a (w.setCell ⟨r, o, none⟩ u) :=
  h.trans ⟨rfl, rfl, rfl, by simp [World.setCell], fun k hk => Below.heap_setCell _ _ _ _ hk⟩
theorem Tch.below {r B : Nat} {w w' : World} (h : Tch r w w') (hB : B ≤ r) : Below B w w' := ⟨h.os, h.tape, h.output, by have := h.size; omega, fun k hk => h.block k (by omega)⟩
theorem Tch.at_ {r q : Nat} {w w' : World} {c : Array Value} {t : TypeId} (h : Tch r w w') (ha : At w q c t) (hn : q ≠ r) : At w' q c t := ha.same (h.block q hn)

theorem Dat.cells {w : World} {r : Nat} {s : ByteArray} {d : Nat × Bool} {vf : Value} (h : Dat w r s d vf) : w.cell? ⟨r, 0, none⟩ = some (.string s) ∧ w.cell? ⟨r, 1, none⟩ = some (.int .i64 d.1) ∧ w.cell? ⟨r, 2, none⟩ = some (.bool d.2) ∧ w.cell? ⟨r, 3, none⟩ = some vf ∧ ∀ i, w.frozen? ⟨r, i, none⟩ = false :=
  ⟨h.cell 0, h.cell 1, h.cell 2, h.cell 3, h.free⟩
theorem Dat.drewN {w : World} {r : Nat} {s : ByteArray} {d : Nat × Bool} {vf : Value} (h : Dat w r s d vf) (k : Nat) : Dat (w.drewN k) r s d vf := h
theorem Dat.step {w : World} {r : Nat} {s : ByteArray} {d : Nat × Bool} {vf : Value} (h : Dat w r s d vf) : Dat (w.setCell ⟨r, 1, none⟩ (.int .i64 ((d.1 : Int) + 1))) r s (d.1 + 1, d.2) vf := by
  have := At.put h 1 (.int .i64 ((d.1 : Int) + 1))
  exact this
theorem Dat.stick {w : World} {r : Nat} {s : ByteArray} {d : Nat × Bool} {vf : Value} (h : Dat w r s d vf) : Dat (w.setCell ⟨r, 2, none⟩ (.bool true)) r s (d.1, true) vf := by
  have := At.put h 2 (.bool true)
  exact this

/-- The next byte; 0 where there is none. -/
def pk (s : ByteArray) (d : Nat × Bool) : Int := if d.2 then 0 else (bytesOf s).getD d.1 0
theorem pk_range (s : ByteArray) (d : Nat × Bool) : 0 ≤ pk s d ∧ pk s d ≤ 255 := by
  unfold pk
  split
  · omega
  · by_cases h : d.1 < s.size
    · rw [List.getD_eq_getElem?_getD, bytesOf_get s d.1 h]
      have := (s[d.1]).toNat_lt
      simp only [Option.getD_some]
      omega
    · rw [List.getD_eq_getElem?_getD, List.getElem?_eq_none (by rw [bytesOf_len]; omega)]
      simp

/-- Three numbers that come out. -/
def three (x : Int × Int × Int) : Ending := .returned (.tuple #[.int .i64 x.1, .int .i64 x.2.1, .int .i64 x.2.2])

variable {w : World} {r : Nat} {s : ByteArray} {d : Nat × Bool} {vf : Value}

set_option maxRecDepth 100000 in
set_option maxHeartbeats 800000 in
theorem d_peek (h : Dat w r s d vf) (_hs : s.size ≤ 160) (hd : d.1 ≤ 160) :
    Calls Tryd.prog 84 #[.pointer (some ⟨r, 0, none⟩)] w fun e w' => e = .returned (.int .u8 (pk s d)) ∧ ∃ k, w' = w.drewN k := by
  obtain ⟨c0, c1, c2, c3, cf⟩ := h.cells
  obtain ⟨a, b⟩ := d
  simp only at c0 c1 c2 c3 hd
  have a0 : decide (((a : Nat) : Int) < 0) = false := decide_eq_false (by omega)
  cases b
  · by_cases hl : a < s.size
    · have HP : Hid (pk s (a, false) = ((s[a]).toNat : Int)) := by show pk s (a, false) = _; unfold pk; simp only [Bool.false_eq_true, if_false]; rw [List.getD_eq_getElem?_getD, bytesOf_get s a hl]; rfl
      have a1 : decide (((s.size : Nat) : Int) ≤ (a : Int)) = false := decide_eq_false (by omega)
      have i1 : ((a : Nat) : Int) < ((s.size : Nat) : Int) := by omega
      clear h
      go_enter Tryd.func84, Tryd.ntmps84
      go_wp2
      go_quiet (fail)
      go_wp2
      go_quiet (fail)
      go_wp2
      go_ret
      exact ⟨by rw [HP.out]; rfl, _, World.drewN_drewN _ _ _⟩
    · have HP : Hid (pk s (a, false) = 0) := by show pk s (a, false) = _; unfold pk; simp only [Bool.false_eq_true, if_false]; rw [List.getD_eq_getElem?_getD, List.getElem?_eq_none (by rw [bytesOf_len]; omega)]; rfl
      have a1 : decide (((s.size : Nat) : Int) ≤ (a : Int)) = true := decide_eq_true (by omega)
      clear h
      go_enter Tryd.func84, Tryd.ntmps84
      go_wp2
      go_quiet (fail)
      go_wp2
      go_ret
      exact ⟨by rw [HP.out]; rfl, _, rfl⟩
  · clear h
    go_enter Tryd.func84, Tryd.ntmps84
    go_wp2
    go_quiet (fail)
    go_wp2
    go_ret
    exact ⟨rfl, _, rfl⟩

/-- What a small step leaves. -/
def DPost (w : World) (r : Nat) (s : ByteArray) (vf : Value) (d' : Nat × Bool) (v : Value) : Ending → World → Prop := fun e w' => e = .returned v ∧ Dat w' r s d' vf ∧ Tch r w w'

def tk (s : ByteArray) (d : Nat × Bool) (c : Int) : Bool × (Nat × Bool) := if pk s d = c then (true, (d.1 + 1, d.2)) else (false, d)
def nd (s : ByteArray) (d : Nat × Bool) (c : Int) : Nat × Bool := if pk s d = c then (d.1 + 1, d.2) else (d.1, true)

set_option maxRecDepth 100000 in
set_option maxHeartbeats 800000 in
theorem d_take (h : Dat w r s d vf) (hs : s.size ≤ 160) (hd : d.1 ≤ 160) (c : Int) :
    Calls Tryd.prog 121 #[.pointer (some ⟨r, 0, none⟩), .int .u8 c] w (DPost w r s vf (tk s d c).2 (.bool (tk s d c).1)) := by
  have hp := d_peek h hs hd
  obtain ⟨c0, c1, c2, c3, cf⟩ := h.cells
  have HD : Hid (Dat _ _ _ _ _) := h
  clear h
  by_cases hc : pk s d = c
  · have HT : Hid (tk s d c = (true, (d.1 + 1, d.2))) := if_pos hc
    subst hc
    go_enter Tryd.func121, Tryd.ntmps121
    go_wp2_with (go_at_call 84; refine hp.mono ?_; rintro e w' ⟨rfl, k, rfl⟩)
    go_ret
    rw [HT.out]
    exact ⟨rfl, (HD.out.drewN k).step, ((Tch.refl _ _).drewN _).setCell _ _⟩
  · have HT : Hid (tk s d c = (false, d)) := if_neg hc
    have bc : (pk s d != c) = true := by simpa using hc
    clear hc
    go_enter Tryd.func121, Tryd.ntmps121
    go_wp2_with (go_at_call 84; refine hp.mono ?_; rintro e w' ⟨rfl, k, rfl⟩)
    go_ret
    rw [HT.out]
    exact ⟨rfl, HD.out.drewN k, (Tch.refl _ _).drewN _⟩

set_option maxRecDepth 100000 in
set_option maxHeartbeats 800000 in
theorem d_need (h : Dat w r s d vf) (hs : s.size ≤ 160) (hd : d.1 ≤ 160) (c : Int) :
    Calls Tryd.prog 114 #[.pointer (some ⟨r, 0, none⟩), .int .u8 c] w (DPost w r s vf (nd s d c) (.tuple #[])) := by
  have hp := d_take h hs hd c
  clear h
  by_cases hc : pk s d = c
  · have HT : Hid (nd s d c = (d.1 + 1, d.2)) := if_pos hc
    have hk : tk s d c = (true, (d.1 + 1, d.2)) := if_pos hc
    rw [hk] at hp
    clear hc hk
    go_enter Tryd.func114, Tryd.ntmps114
    go_wp2_with (go_at_call 121; refine hp.mono ?_; rintro e w' ⟨rfl, hD, hT⟩)
    go_end0
    rw [HT.out]
    exact ⟨rfl, hD, hT⟩
  · have HT : Hid (nd s d c = (d.1, true)) := if_neg hc
    have hk : tk s d c = (false, d) := if_neg hc
    rw [hk] at hp
    clear hc hk
    go_enter Tryd.func114, Tryd.ntmps114
    go_wp2_with (go_at_call 121; refine hp.mono ?_; rintro e w' ⟨rfl, hD, hT⟩; obtain ⟨c0, c1, c2, c3, cf⟩ := hD.cells; have HD : Hid (Dat _ _ _ _ _) := hD; clear hD)
    go_end0
    rw [HT.out]
    exact ⟨rfl, HD.out.stick, hT.setCell _ _⟩

end Go.Proofs.YtffajooegiempaaDoor

namespace Go.Proofs.YtffajooegiempaaDoor
open Go.RowKit
variable {w : World} {r : Nat} {s : ByteArray} {d : Nat × Bool} {vf : Value}

theorem pk_lt {c : Int} (h : pk s d = c) (hc : c ≠ 0) : d.1 < s.size ∧ d.2 = false := by
  unfold pk at h
  split at h
  · exact absurd h.symm hc
  · rename_i hb
    refine ⟨?_, by simpa using hb⟩
    rcases Nat.lt_or_ge d.1 s.size with h' | h'
    · exact h'
    · rw [List.getD_eq_getElem?_getD, List.getElem?_eq_none (by rw [bytesOf_len]; omega)] at h
      exact absurd h.symm hc

def adv (d : Nat × Bool) : Nat × Bool := (d.1 + 1, d.2)
def stk (d : Nat × Bool) : Nat × Bool := (d.1, true)

def rSign (s : ByteArray) (d : Nat × Bool) : Int × (Nat × Bool) := if pk s d = 45 then (-1, adv d) else (1, d)
def rVar (s : ByteArray) (d : Nat × Bool) (not : Int) : Int × (Nat × Bool) := if varOf (pk s d) = -1 ∨ varOf (pk s d) = not then (0, stk d) else (varOf (pk s d), adv d)
def rNum (s : ByteArray) (d : Nat × Bool) (sg : Int) : Int × (Nat × Bool) :=
  if pk s d = 48 ∧ 0 < sg then (0, adv d)
  else if pk s d < 49 ∨ 57 < pk s d then (0, stk d)
  else if 48 ≤ pk s (adv d) ∧ pk s (adv d) ≤ 57 then (sg * (10 * (pk s d - 48) + (pk s (adv d) - 48)), adv (adv d))
  else (sg * (pk s d - 48), adv d)
def rSummand (s : ByteArray) (d : Nat × Bool) : Int × (Nat × Bool) :=
  if pk s d = 43 then rNum s (adv d) 1
  else if pk s d = 45 then (-(rNum s (adv d) 1).1, (rNum s (adv d) 1).2)
  else (0, d)

theorem rSign_le (hd : d.1 ≤ s.size) : (rSign s d).2.1 ≤ s.size := by
  unfold rSign
  split
  · rename_i h; have := (pk_lt h (by decide)).1; show d.1 + 1 ≤ _; omega
  · exact hd
theorem varOf_ne {c : Int} (h : varOf c ≠ -1) : 97 ≤ c ∧ c ≤ 100 := by
  unfold varOf at h
  split at h
  · assumption
  · exact absurd rfl h
theorem rVar_le (hd : d.1 ≤ s.size) (x : Int) : (rVar s d x).2.1 ≤ s.size := by
  unfold rVar
  split
  · exact hd
  · rename_i h
    have h1 := varOf_ne (fun e => h (.inl e))
    have := (pk_lt (s := s) (d := d) rfl (by omega)).1
    show d.1 + 1 ≤ _; omega
theorem rVar_range (x : Int) : 0 ≤ (rVar s d x).1 ∧ (rVar s d x).1 ≤ 3 := by
  unfold rVar
  split
  · exact ⟨by simp, by simp⟩
  · rename_i h
    have h1 := varOf_ne (fun e => h (.inl e))
    show 0 ≤ varOf _ ∧ varOf _ ≤ 3
    unfold varOf
    rw [if_pos h1]; omega
theorem rNum_le (hd : d.1 ≤ s.size) (x : Int) : (rNum s d x).2.1 ≤ s.size := by
  unfold rNum
  split
  · rename_i h; have := (pk_lt h.1 (by decide)).1; show d.1 + 1 ≤ _; omega
  split
  · exact hd
  rename_i h1
  have h2 := (pk_lt (s := s) (d := d) rfl (by omega)).1
  split
  · rename_i h3
    have := (pk_lt (s := s) (d := adv d) rfl (by omega)).1
    show (adv d).1 + 1 ≤ _; omega
  · show d.1 + 1 ≤ _; omega
theorem rNum_range (x : Int) (hx : x = 1 ∨ x = -1) : -99 ≤ (rNum s d x).1 ∧ (rNum s d x).1 ≤ 99 := by
  have p1 := pk_range s d
  have p2 := pk_range s (adv d)
  unfold rNum
  split
  · exact ⟨by simp, by simp⟩
  split
  · exact ⟨by simp, by simp⟩
  split
  · show -99 ≤ x * _ ∧ x * _ ≤ 99
    rcases hx with rfl | rfl <;> omega
  · show -99 ≤ x * _ ∧ x * _ ≤ 99
    rcases hx with rfl | rfl <;> omega

set_option maxRecDepth 100000 in
set_option maxHeartbeats 800000 in
theorem d_readSign (h : Dat w r s d vf) (hs : s.size ≤ 160) (hd : d.1 ≤ s.size) :
    Calls Tryd.prog 122 #[.pointer (some ⟨r, 0, none⟩)] w (DPost w r s vf (rSign s d).2 (.int .i64 (rSign s d).1)) := by
  have hp := d_take h hs (by omega) 45
  clear h
  by_cases hc : pk s d = 45
  · have HT : Hid (rSign s d = (-1, adv d)) := if_pos hc
    have hk : tk s d 45 = (true, adv d) := if_pos hc
    rw [hk] at hp
    clear hc hk
    go_enter Tryd.func122, Tryd.ntmps122
    go_wp2_with (go_at_call 121; refine hp.mono ?_; rintro e w' ⟨rfl, hD, hT⟩)
    go_ret
    rw [HT.out]
    exact ⟨rfl, hD, hT⟩
  · have HT : Hid (rSign s d = (1, d)) := if_neg hc
    have hk : tk s d 45 = (false, d) := if_neg hc
    rw [hk] at hp
    clear hc hk
    go_enter Tryd.func122, Tryd.ntmps122
    go_wp2_with (go_at_call 121; refine hp.mono ?_; rintro e w' ⟨rfl, hD, hT⟩)
    go_ret
    rw [HT.out]
    exact ⟨rfl, hD, hT⟩

set_option maxHeartbeats 400000 in
theorem d_variableOf (c : Int) (w : World) (h0 : 0 ≤ c) (h1 : c ≤ 255) :
    Calls Tryd.prog 123 #[.int .u8 c] w fun e w' => e = .returned (.int .i64 (varOf c)) ∧ w' = w := by
  unfold varOf
  by_cases ha : 97 ≤ c
  · by_cases hb : c ≤ 100
    · go_enter Tryd.func123, Tryd.ntmps123
      go_wp2
      go_ret
      exact ⟨rfl, rfl⟩
    · go_enter Tryd.func123, Tryd.ntmps123
      go_wp2
      go_ret
      exact ⟨rfl, rfl⟩
  · go_enter Tryd.func123, Tryd.ntmps123
    go_wp2
    go_ret
    exact ⟨rfl, rfl⟩

set_option maxRecDepth 100000 in
set_option maxHeartbeats 800000 in
theorem d_readVariable (h : Dat w r s d vf) (hs : s.size ≤ 160) (hd : d.1 ≤ s.size) (x : Int) :
    Calls Tryd.prog 120 #[.pointer (some ⟨r, 0, none⟩), .int .i64 x] w (DPost w r s vf (rVar s d x).2 (.int .i64 (rVar s d x).1)) := by
  have hp := d_peek h hs (by omega)
  obtain ⟨p0, p1⟩ := pk_range s d
  obtain ⟨c0, c1, c2, c3, cf⟩ := h.cells
  have HD : Hid (Dat _ _ _ _ _) := h
  clear h
  by_cases hv : varOf (pk s d) = -1
  · have HT : Hid (rVar s d x = (0, stk d)) := if_pos (.inl hv)
    have hvo := fun w => d_variableOf (pk s d) w p0 p1
    rw [hv] at hvo
    clear hv
    go_enter Tryd.func120, Tryd.ntmps120
    go_wp2_with (first | (go_at_call 84; refine hp.mono ?_; rintro e w' ⟨rfl, k, rfl⟩) | (go_at_call 123; refine (hvo _).mono ?_; rintro e w' ⟨rfl, rfl⟩))
    go_ret
    rw [HT.out]
    exact ⟨rfl, (HD.out.drewN k).stick, ((Tch.refl _ _).drewN _).setCell _ _⟩
  · have bv : (varOf (pk s d) == -1) = false := by simpa using hv
    have hvo := fun w => d_variableOf (pk s d) w p0 p1
    by_cases hx : varOf (pk s d) = x
    · have HT : Hid (rVar s d x = (0, stk d)) := if_pos (.inr hx)
      have bx : (varOf (pk s d) == x) = true := by simpa using hx
      clear hv hx
      generalize varOf (pk s d) = v at *
      go_enter Tryd.func120, Tryd.ntmps120
      go_wp2_with (first | (go_at_call 84; refine hp.mono ?_; rintro e w' ⟨rfl, k, rfl⟩) | (go_at_call 123; refine (hvo _).mono ?_; rintro e w' ⟨rfl, rfl⟩))
      go_ret
      rw [HT.out]
      exact ⟨rfl, (HD.out.drewN k).stick, ((Tch.refl _ _).drewN _).setCell _ _⟩
    · have HT : Hid (rVar s d x = (varOf (pk s d), adv d)) := if_neg (fun e => e.elim hv hx)
      have bx : (varOf (pk s d) == x) = false := by simpa using hx
      clear hv hx
      generalize varOf (pk s d) = v at *
      go_enter Tryd.func120, Tryd.ntmps120
      go_wp2_with (first | (go_at_call 84; refine hp.mono ?_; rintro e w' ⟨rfl, k, rfl⟩) | (go_at_call 123; refine (hvo _).mono ?_; rintro e w' ⟨rfl, rfl⟩))
      go_ret
      rw [HT.out]
      exact ⟨rfl, (HD.out.drewN k).step, ((Tch.refl _ _).drewN _).setCell _ _⟩

end Go.Proofs.YtffajooegiempaaDoor

namespace Go.Proofs.YtffajooegiempaaDoor
open Go.RowKit
variable {w : World} {r : Nat} {s : ByteArray} {d : Nat × Bool} {vf : Value}

theorem Dat.steps (h : Dat w r s d vf) : Dat (w.setCell ⟨r, 1, none⟩ (.int .i64 ((d.1 : Int) + 1))) r s (adv d) vf := h.step

set_option maxRecDepth 100000 in
set_option maxHeartbeats 1600000 in
theorem d_readNumber (h : Dat w r s d vf) (hs : s.size ≤ 160) (hd : d.1 ≤ s.size) (x : Int) (hx : x = 1 ∨ x = -1) :
    Calls Tryd.prog 124 #[.pointer (some ⟨r, 0, none⟩), .int .i64 x] w (DPost w r s vf (rNum s d x).2 (.int .i64 (rNum s d x).1)) := by
  have hp := d_peek h hs (by omega)
  obtain ⟨p0, p1⟩ := pk_range s d
  obtain ⟨q0, q1⟩ := pk_range s (adv d)
  obtain ⟨c0, c1, c2, c3, cf⟩ := h.cells
  have x0 : -1 ≤ x := by omega
  have x1 : x ≤ 1 := by omega
  have HD : Hid (Dat _ _ _ _ _) := h
  clear h
  by_cases hz : pk s d = 48 ∧ 0 < x
  · have HT : Hid (rNum s d x = (0, adv d)) := if_pos hz
    obtain ⟨hz, hx0⟩ := hz
    rw [hz] at hp
    clear hz hx
    go_enter Tryd.func124, Tryd.ntmps124
    go_wp2_with (go_at_call 84; refine hp.mono ?_; rintro e w' ⟨rfl, k, rfl⟩)
    go_ret
    rw [HT.out]
    exact ⟨rfl, (HD.out.drewN k).step, ((Tch.refl _ _).drewN _).setCell _ _⟩
  by_cases hn : pk s d < 49 ∨ 57 < pk s d
  · have HT : Hid (rNum s d x = (0, stk d)) := by show rNum s d x = _; unfold rNum; rw [if_neg hz, if_pos hn]
    by_cases h48 : pk s d = 48
    · have hx1 : x = -1 := by
        rcases hx with e | e
        · exact absurd ⟨h48, by omega⟩ hz
        · exact e
      subst hx1
      rw [h48] at hp
      clear hz hn h48 hx
      go_enter Tryd.func124, Tryd.ntmps124
      go_wp2_with (go_at_call 84; refine hp.mono ?_; rintro e w' ⟨rfl, k, rfl⟩)
      go_ret
      rw [HT.out]
      exact ⟨rfl, (HD.out.drewN k).stick, ((Tch.refl _ _).drewN _).setCell _ _⟩
    · have b48 : (pk s d == 48) = false := by simpa using h48
      clear hz h48 hx
      generalize pk s d = c at *
      rcases hn with hn | hn
      · go_enter Tryd.func124, Tryd.ntmps124
        go_wp2_with (go_at_call 84; refine hp.mono ?_; rintro e w' ⟨rfl, k, rfl⟩)
        go_ret
        rw [HT.out]
        exact ⟨rfl, (HD.out.drewN k).stick, ((Tch.refl _ _).drewN _).setCell _ _⟩
      · go_enter Tryd.func124, Tryd.ntmps124
        go_wp2_with (go_at_call 84; refine hp.mono ?_; rintro e w' ⟨rfl, k, rfl⟩)
        go_ret
        rw [HT.out]
        exact ⟨rfl, (HD.out.drewN k).stick, ((Tch.refl _ _).drewN _).setCell _ _⟩
  · have n49 : 49 ≤ pk s d := by omega
    have n57 : pk s d ≤ 57 := by omega
    have b48 : (pk s d == 48) = false := by simp; omega
    have hlt := (pk_lt (s := s) (d := d) rfl (by omega)).1
    by_cases h2 : 48 ≤ pk s (adv d) ∧ pk s (adv d) ≤ 57
    · have HT : Hid (rNum s d x = (x * (10 * (pk s d - 48) + (pk s (adv d) - 48)), adv (adv d))) := by show rNum s d x = _; unfold rNum; rw [if_neg hz, if_neg hn, if_pos h2]
      obtain ⟨m0, m1⟩ := h2
      have HW : Hid (_ = _) := (show wrap64 (x * (10 * (pk s d - 48) + (pk s (adv d) - 48))) = x * (10 * (pk s d - 48) + (pk s (adv d) - 48)) from mul_wrap _ _ x0 x1 (by omega) (by omega))
      have hp2 := fun k => d_peek (d := adv d) (HD.out.drewN k).steps hs (by show d.1 + 1 ≤ 160; omega)
      clear hz hn hx
      generalize pk s (adv d) = c2 at *
      generalize pk s d = c at *
      go_enter Tryd.func124, Tryd.ntmps124
      go_wp2_with fail
      refine hp.mono ?_
      rintro e w' ⟨rfl, k, rfl⟩
      go_wp2_with fail
      refine (hp2 k).mono ?_
      rintro e w' ⟨rfl, k2, rfl⟩
      go_wp2
      go_ret
      rw [HT.out]
      exact ⟨congrArg (fun z => Ending.returned (Value.int IntKind.i64 z)) HW.out, (((HD.out.drewN k).steps).drewN k2).step, ((((Tch.refl _ _).drewN _).setCell _ _).drewN _).setCell _ _⟩
    · have HT : Hid (rNum s d x = (x * (pk s d - 48), adv d)) := by show rNum s d x = _; unfold rNum; rw [if_neg hz, if_neg hn, if_neg h2]
      have HW : Hid (_ = _) := (show wrap64 (x * (pk s d - 48)) = x * (pk s d - 48) from mul_wrap _ _ x0 x1 (by omega) (by omega))
      have hp2 := fun k => d_peek (d := adv d) (HD.out.drewN k).steps hs (by show d.1 + 1 ≤ 160; omega)
      clear hz hn hx
      generalize pk s (adv d) = c2 at *
      generalize pk s d = c at *
      by_cases m0 : 48 ≤ c2
      · have m1 : 57 < c2 := by omega
        go_enter Tryd.func124, Tryd.ntmps124
        go_wp2_with fail
        refine hp.mono ?_
        rintro e w' ⟨rfl, k, rfl⟩
        go_wp2_with fail
        refine (hp2 k).mono ?_
        rintro e w' ⟨rfl, k2, rfl⟩
        go_wp2
        go_ret
        rw [HT.out]
        exact ⟨congrArg (fun z => Ending.returned (Value.int IntKind.i64 z)) HW.out, ((HD.out.drewN k).steps).drewN k2, (((Tch.refl _ _).drewN _).setCell _ _).drewN _⟩
      · go_enter Tryd.func124, Tryd.ntmps124
        go_wp2_with fail
        refine hp.mono ?_
        rintro e w' ⟨rfl, k, rfl⟩
        go_wp2_with fail
        refine (hp2 k).mono ?_
        rintro e w' ⟨rfl, k2, rfl⟩
        go_wp2
        go_ret
        rw [HT.out]
        exact ⟨congrArg (fun z => Ending.returned (Value.int IntKind.i64 z)) HW.out, ((HD.out.drewN k).steps).drewN k2, (((Tch.refl _ _).drewN _).setCell _ _).drewN _⟩

end Go.Proofs.YtffajooegiempaaDoor

namespace Go.Proofs.YtffajooegiempaaDoor
open Go.RowKit
variable {w : World} {r q : Nat} {s : ByteArray} {d : Nat × Bool} {vf : Value}

/-- A statement of the program's. -/
structure Ds where
  kind : Int
  target : Int
  any : Bool
  sg : List Int
  num : Int
  parent : Int
  block : Int

/-- The sign of a variable. -/
def sgAt (l : List Int) (i : Nat) : Int := l.getD i 0
def dsCells (x : Ds) : Array Value := #[.int .i64 x.kind, .int .i64 x.target, .bool x.any, .int .i64 (sgAt x.sg 0), .int .i64 (sgAt x.sg 1), .int .i64 (sgAt x.sg 2), .int .i64 (sgAt x.sg 3), .int .i64 x.num, .int .i64 x.parent, .int .i64 x.block]
def DsAt (w : World) (q : Nat) (x : Ds) : Prop := At w q (dsCells x) tDs

structure Tch2 (r q : Nat) (w w' : World) : Prop where
  os : w'.os = w.os
  tape : w'.tape = w.tape
  output : w'.output = w.output
  size : w'.heap.size = w.heap.size
  block : ∀ k, k ≠ r → k ≠ q → w'.heap[k]? = w.heap[k]?
theorem Tch2.refl (r q : Nat) (w : World) : Tch2 r q w w := ⟨rfl, rfl, rfl, rfl, fun _ _ _ => rfl⟩
theorem Tch2.trans {a b c : World} (h : Tch2 r q a b) (k : Tch2 r q b c) : Tch2 r q a c := ⟨k.os.trans h.os, k.tape.trans h.tape, k.output.trans h.output, k.size.trans h.size, fun i h1 h2 => (k.block i h1 h2).trans (h.block i h1 h2)⟩
theorem Tch.two {a b : World} (h : Tch r a b) (q : Nat) : Tch2 r q a b := ⟨h.os, h.tape, h.output, h.size, fun i h1 _ => h.block i h1⟩
theorem Tch2.setCell {a w : World} (h : Tch2 r q a w) (o : Nat) (u : Value) : Tch2 r q a (w.setCell ⟨q, o, none⟩ u) :=
  h.trans ⟨rfl, rfl, rfl, by simp [World.setCell], fun k _ hk => Below.heap_setCell _ _ _ _ hk⟩
theorem Tch2.below {B : Nat} {w w' : World} (h : Tch2 r q w w') (hB : B ≤ r) (hq : B ≤ q) : Below B w w' := ⟨h.os, h.tape, h.output, by have := h.size; omega, fun k hk => h.block k (by omega) (by omega)⟩
theorem Tch2.drewN {a w : World} (h : Tch2 r q a w) (n : Nat) : Tch2 r q a (w.drewN n) := ⟨h.os, h.tape, h.output, h.size, h.block⟩

theorem DsAt.cells {x : Ds} (h : DsAt w q x) : w.cell? ⟨q, 0, none⟩ = some (.int .i64 x.kind) ∧ w.cell? ⟨q, 1, none⟩ = some (.int .i64 x.target) ∧ w.cell? ⟨q, 2, none⟩ = some (.bool x.any) ∧ w.cell? ⟨q, 3, none⟩ = some (.int .i64 (sgAt x.sg 0)) ∧ w.cell? ⟨q, 4, none⟩ = some (.int .i64 (sgAt x.sg 1)) ∧ w.cell? ⟨q, 5, none⟩ = some (.int .i64 (sgAt x.sg 2)) ∧ w.cell? ⟨q, 6, none⟩ = some (.int .i64 (sgAt x.sg 3)) ∧ w.cell? ⟨q, 7, none⟩ = some (.int .i64 x.num) ∧ w.cell? ⟨q, 8, none⟩ = some (.int .i64 x.parent) ∧ w.cell? ⟨q, 9, none⟩ = some (.int .i64 x.block) ∧ ∀ i, w.frozen? ⟨q, i, none⟩ = false :=
  ⟨h.cell 0, h.cell 1, h.cell 2, h.cell 3, h.cell 4, h.cell 5, h.cell 6, h.cell 7, h.cell 8, h.cell 9, h.free⟩
theorem DsAt.drewN {x : Ds} (h : DsAt w q x) (k : Nat) : DsAt (w.drewN k) q x := h
theorem DsAt.setAny {x : Ds} (h : DsAt w q x) (b : Bool) : DsAt (w.setCell ⟨q, 2, none⟩ (.bool b)) q { x with any := b } := At.put h 2 (.bool b)
theorem DsAt.setNum {x : Ds} (h : DsAt w q x) (n : Int) : DsAt (w.setCell ⟨q, 7, none⟩ (.int .i64 n)) q { x with num := n } := At.put h 7 (.int .i64 n)
theorem DsAt.setKind {x : Ds} (h : DsAt w q x) (n : Int) : DsAt (w.setCell ⟨q, 0, none⟩ (.int .i64 n)) q { x with kind := n } := At.put h 0 (.int .i64 n)
theorem DsAt.setTarget {x : Ds} (h : DsAt w q x) (n : Int) : DsAt (w.setCell ⟨q, 1, none⟩ (.int .i64 n)) q { x with target := n } := At.put h 1 (.int .i64 n)
theorem DsAt.setSg {x : Ds} (h : DsAt w q x) (hl : x.sg.length = 4) (v : Nat) (hv : v < 4) (n : Int) : DsAt (w.setCell ⟨q, 3 + v, none⟩ (.int .i64 n)) q { x with sg := x.sg.set v n } := by
  have := At.put h (3 + v) (.int .i64 n)
  unfold DsAt
  have e : dsCells { x with sg := x.sg.set v n } = (dsCells x).setIfInBounds (3 + v) (.int .i64 n) := by
    obtain ⟨kd, tg, an, sg, nm, pa, bl⟩ := x
    match sg, hl with
    | [a, b, c, e], _ =>
      match v, hv with
      | 0, _ => rfl
      | 1, _ => rfl
      | 2, _ => rfl
      | 3, _ => rfl
  rw [e]; exact this
theorem DsAt.ne {x : Ds} (h : DsAt w q x) (k : Dat w r s d vf) : q ≠ r := At.ne h k (by decide)
theorem DsAt.keep {x : Ds} {w' : World} (h : DsAt w q x) (t : Tch r w w') (hn : q ≠ r) : DsAt w' q x := t.at_ h hn
theorem Dat.keepq {u : Value} (h : Dat w r s d vf) (o : Nat) (hn : q ≠ r) : Dat (w.setCell ⟨q, o, none⟩ u) r s d vf := At.other h o u (fun e => hn e.symm)

set_option maxRecDepth 100000 in
set_option maxHeartbeats 800000 in
theorem d_setSign {x : Ds} (h : DsAt w q x) (_hl : x.sg.length = 4) (v : Int) (hv0 : 0 ≤ v) (hv3 : v ≤ 3) (n : Int) :
    Calls Tryd.prog 125 #[.pointer (some ⟨q, 0, none⟩), .int .i64 v, .int .i64 n] w fun e w' => e = .returned (.tuple #[]) ∧ w' = w.setCell ⟨q, 3 + v.toNat, none⟩ (.int .i64 n) := by
  obtain ⟨c0, c1, c2, c3, c4, c5, c6, c7, c8, c9, cf⟩ := h.cells
  clear h
  rcases (show v = 0 ∨ v = 1 ∨ v = 2 ∨ v = 3 by omega) with rfl | rfl | rfl | rfl
  all_goals
    go_enter Tryd.func125, Tryd.ntmps125
    go_wp2
    go_end0
    exact ⟨rfl, rfl⟩

set_option maxRecDepth 100000 in
set_option maxHeartbeats 800000 in
theorem d_readSummand (h : Dat w r s d vf) (hs : s.size ≤ 160) (hd : d.1 ≤ s.size) :
    Calls Tryd.prog 126 #[.pointer (some ⟨r, 0, none⟩)] w (DPost w r s vf (rSummand s d).2 (.int .i64 (rSummand s d).1)) := by
  have hp := d_take h hs (by omega) 43
  have HD : Hid (Dat _ _ _ _ _) := h
  clear h
  by_cases hc : pk s d = 43
  · have HT : Hid (rSummand s d = rNum s (adv d) 1) := if_pos hc
    have hk : tk s d 43 = (true, adv d) := if_pos hc
    have hlt := (pk_lt hc (by decide)).1
    rw [hk] at hp
    clear hc hk
    go_enter Tryd.func126, Tryd.ntmps126
    go_wp2_with (go_at_call 121; refine hp.mono ?_; rintro e w' ⟨rfl, hD, hT⟩)
    refine (d_readNumber hD hs (by show d.1 + 1 ≤ s.size; omega) 1 (.inl rfl)).mono ?_
    rintro e w2 ⟨rfl, hD2, hT2⟩
    go_wp2
    go_ret
    rw [HT.out]
    exact ⟨rfl, hD2, hT.trans hT2⟩
  · have hk : tk s d 43 = (false, d) := if_neg hc
    rw [hk] at hp
    clear hk
    by_cases hm : pk s d = 45
    · have HT : Hid (rSummand s d = (-(rNum s (adv d) 1).1, (rNum s (adv d) 1).2)) := by show rSummand s d = _; unfold rSummand; rw [if_neg hc, if_pos hm]
      have hk2 : tk s d 45 = (true, adv d) := if_pos hm
      have hlt := (pk_lt hm (by decide)).1
      obtain ⟨g0, g1⟩ := rNum_range (s := s) (d := adv d) 1 (.inl rfl)
      have HK : Hid (_ = _) := hk2
      clear hc hm hk2
      go_enter Tryd.func126, Tryd.ntmps126
      go_wp2_with fail
      refine hp.mono ?_
      rintro e w' ⟨rfl, hD, hT⟩
      go_wp2_with fail
      have hq := d_take hD hs (by omega) 45
      rw [HK.out] at hq
      refine hq.mono ?_
      rintro e w2 ⟨rfl, hD2, hT2⟩
      go_wp2_with fail
      refine (d_readNumber hD2 hs (by show d.1 + 1 ≤ s.size; omega) 1 (.inl rfl)).mono ?_
      rintro e w3 ⟨rfl, hD3, hT3⟩
      go_wp2
      go_ret
      rw [HT.out]
      exact ⟨rfl, hD3, (hT.trans hT2).trans hT3⟩
    · have HT : Hid (rSummand s d = (0, d)) := by show rSummand s d = _; unfold rSummand; rw [if_neg hc, if_neg hm]
      have hk2 : tk s d 45 = (false, d) := if_neg hm
      have HK : Hid (_ = _) := hk2
      clear hc hm hk2
      go_enter Tryd.func126, Tryd.ntmps126
      go_wp2_with fail
      refine hp.mono ?_
      rintro e w' ⟨rfl, hD, hT⟩
      go_wp2_with fail
      have hq := d_take hD hs (by omega) 45
      rw [HK.out] at hq
      refine hq.mono ?_
      rintro e w2 ⟨rfl, hD2, hT2⟩
      go_wp2
      go_ret
      rw [HT.out]
      exact ⟨rfl, hD2, hT.trans hT2⟩

end Go.Proofs.YtffajooegiempaaDoor

namespace Go.Proofs.YtffajooegiempaaDoor
open Go.RowKit
variable {w : World} {r q : Nat} {s : ByteArray} {d : Nat × Bool} {vf : Value} {x : Ds}

def rValue (s : ByteArray) (d : Nat × Bool) (x : Ds) : Ds × (Nat × Bool) :=
  if pk s d = 42 then ({ x with any := true }, adv d)
  else if varOf (pk s (rSign s d).2) = -1 then ({ x with any := false, num := (rNum s (rSign s d).2 (rSign s d).1).1 }, (rNum s (rSign s d).2 (rSign s d).1).2)
  else ({ x with any := false, sg := x.sg.set (rVar s (rSign s d).2 (-1)).1.toNat (rSign s d).1, num := (rSummand s (rVar s (rSign s d).2 (-1)).2).1 }, (rSummand s (rVar s (rSign s d).2 (-1)).2).2)

def rSecond (s : ByteArray) (d : Nat × Bool) (x : Ds) (first : Int) : Ds × (Nat × Bool) :=
  if pk s d = 43 ∨ pk s d = 45 then ({ x with sg := x.sg.set (rVar s (adv d) first).1.toNat (if pk s d = 45 then -1 else 1) }, (rVar s (adv d) first).2)
  else (x, d)

def rCond (s : ByteArray) (d : Nat × Bool) (x : Ds) : Ds × (Nat × Bool) :=
  if pk s d = 42 then ({ x with any := true }, adv d)
  else
    let g := rSign s d
    let v := rVar s g.2 (-1)
    let y := rSecond s v.2 { x with any := false, sg := x.sg.set v.1.toNat g.1 } v.1
    let h := rSign s (nd s (nd s y.2 60) 61)
    let n := rNum s h.2 h.1
    ({ y.1 with num := n.1 }, n.2)

theorem rSign_or (s : ByteArray) (d : Nat × Bool) : (rSign s d).1 = 1 ∨ (rSign s d).1 = -1 := by
  unfold rSign; split
  · exact .inr rfl
  · exact .inl rfl
theorem nd_le (hd : d.1 ≤ s.size) {c : Int} (hc : c ≠ 0) : (nd s d c).1 ≤ s.size := by
  unfold nd; split
  · rename_i h; have := (pk_lt h hc).1; show d.1 + 1 ≤ _; omega
  · exact hd
theorem rSummand_le (hd : d.1 ≤ s.size) : (rSummand s d).2.1 ≤ s.size := by
  unfold rSummand; split
  · rename_i h; have := (pk_lt h (by decide)).1; exact rNum_le (by show d.1 + 1 ≤ _; omega) 1
  split
  · rename_i h; have := (pk_lt h (by decide)).1; exact rNum_le (d := adv d) (by show d.1 + 1 ≤ _; omega) 1
  · exact hd
theorem rSecond_le (hd : d.1 ≤ s.size) (f : Int) : (rSecond s d x f).2.1 ≤ s.size := by
  unfold rSecond; split
  · rename_i h
    have : d.1 < s.size := by
      rcases h with h | h
      · exact (pk_lt h (by decide)).1
      · exact (pk_lt h (by decide)).1
    exact rVar_le (d := adv d) (by show d.1 + 1 ≤ _; omega) f
  · exact hd
theorem rSecond_sgl (hl : x.sg.length = 4) (f : Int) : (rSecond s d x f).1.sg.length = 4 := by
  unfold rSecond; split
  · show (x.sg.set _ _).length = 4; rw [List.length_set]; exact hl
  · exact hl

/-- What a step over a statement leaves. -/
def SPost (w : World) (r q : Nat) (s : ByteArray) (vf : Value) (y : Ds × (Nat × Bool)) : Ending → World → Prop := fun e w' => e = .returned (.tuple #[]) ∧ Dat w' r s y.2 vf ∧ DsAt w' q y.1 ∧ Tch2 r q w w'


set_option maxRecDepth 100000 in
set_option maxHeartbeats 800000 in
theorem d_readValue (h : Dat w r s d vf) (hq : DsAt w q x) (hl : x.sg.length = 4) (hs : s.size ≤ 160) (hd : d.1 ≤ s.size) :
    Calls Tryd.prog 115 #[.pointer (some ⟨r, 0, none⟩), .pointer (some ⟨q, 0, none⟩)] w (SPost w r q s vf (rValue s d x)) := by
  have hp := d_take h hs (by omega) 42
  have hn := hq.ne h
  have HD : Hid (Dat _ _ _ _ _) := h
  have HQ : Hid (DsAt _ _ _) := hq
  clear h hq
  by_cases hc : pk s d = 42
  · have HT : Hid (rValue s d x = ({ x with any := true }, adv d)) := if_pos hc
    have hk : tk s d 42 = (true, adv d) := if_pos hc
    rw [hk] at hp
    clear hc hk
    go_enter Tryd.func115, Tryd.ntmps115
    go_wp2_with fail
    refine (hp).mono ?_
    rintro e w1 ⟨rfl, hD1, hT1⟩
    have hq1 := HQ.out.keep hT1 hn
    obtain ⟨c0, c1, c2, c3, c4, c5, c6, c7, c8, c9, cf⟩ := hq1.cells
    have HQ1 : Hid (DsAt _ _ _) := hq1
    clear hq1
    go_wp2
    go_end0
    rw [HT.out]
    exact ⟨rfl, hD1.keepq 2 hn, HQ1.out.setAny true, (hT1.two q).setCell _ _⟩
  · have hk : tk s d 42 = (false, d) := if_neg hc
    rw [hk] at hp
    clear hk
    have hg := rSign_or s d
    have hgl := rSign_le (s := s) (d := d) hd
    obtain ⟨p0, p1⟩ := pk_range s (rSign s d).2
    have hvr := rVar_range (s := s) (d := (rSign s d).2) (-1)
    have hvl := rVar_le (s := s) (d := (rSign s d).2) hgl (-1)
    by_cases hv : varOf (pk s (rSign s d).2) = -1
    · have HT : Hid (rValue s d x = ({ x with any := false, num := (rNum s (rSign s d).2 (rSign s d).1).1 }, (rNum s (rSign s d).2 (rSign s d).1).2)) := by show rValue s d x = _; unfold rValue; rw [if_neg hc, if_pos hv]
      have HV : Hid (_ = _) := hv
      clear hc hv
      go_enter Tryd.func115, Tryd.ntmps115
      go_wp2_with fail
      refine (hp).mono ?_
      rintro e w1 ⟨rfl, hD1, hT1⟩
      have hq1 := HQ.out.keep hT1 hn
      obtain ⟨c0, c1, c2, c3, c4, c5, c6, c7, c8, c9, cf⟩ := hq1.cells
      have HQ1 : Hid (DsAt _ _ _) := hq1.setAny false
      have HD1 : Hid (Dat _ _ _ _ _) := hD1.keepq (u := .bool false) 2 hn
      clear hq1 hD1
      go_wp2_with fail
      refine (d_readSign HD1.out hs hd).mono ?_
      rintro e w2 ⟨rfl, hD2, hT2⟩
      go_wp2_with fail
      refine (d_peek hD2 hs (by omega)).mono ?_
      rintro e w3 ⟨rfl, k3, rfl⟩
      have hvo := d_variableOf (pk s (rSign s d).2) (w2.drewN k3) p0 p1
      rw [HV.out] at hvo
      go_wp2_with fail
      refine hvo.mono ?_
      rintro e w4 ⟨rfl, rfl⟩
      go_wp2_with fail
      refine (d_readNumber (hD2.drewN k3) hs hgl (rSign s d).1 hg).mono ?_
      rintro e w5 ⟨rfl, hD5, hT5⟩
      have hq5 := ((HQ1.out.keep hT2 hn).drewN k3).keep hT5 hn
      obtain ⟨c0, c1, c2, c3, c4, c5, c6, c7, c8, c9, cf⟩ := hq5.cells
      have HQ5 : Hid (DsAt _ _ _) := hq5
      clear hq5
      go_wp2
      go_end0
      rw [HT.out]
      exact ⟨rfl, hD5.keepq 7 hn, HQ5.out.setNum _, ((((((hT1.two q).setCell _ _).trans (hT2.two q)).drewN _).trans (hT5.two q))).setCell _ _⟩
    · have HT : Hid (rValue s d x = ({ x with any := false, sg := x.sg.set (rVar s (rSign s d).2 (-1)).1.toNat (rSign s d).1, num := (rSummand s (rVar s (rSign s d).2 (-1)).2).1 }, (rSummand s (rVar s (rSign s d).2 (-1)).2).2)) := by show rValue s d x = _; unfold rValue; rw [if_neg hc, if_neg hv]
      have bv : (varOf (pk s (rSign s d).2) == -1) = false := by simpa using hv
      clear hc hv
      go_enter Tryd.func115, Tryd.ntmps115
      go_wp2_with fail
      refine (hp).mono ?_
      rintro e w1 ⟨rfl, hD1, hT1⟩
      have hq1 := HQ.out.keep hT1 hn
      obtain ⟨c0, c1, c2, c3, c4, c5, c6, c7, c8, c9, cf⟩ := hq1.cells
      have HQ1 : Hid (DsAt _ _ _) := hq1.setAny false
      have HD1 : Hid (Dat _ _ _ _ _) := hD1.keepq (u := .bool false) 2 hn
      clear hq1 hD1
      go_wp2_with fail
      refine (d_readSign HD1.out hs hd).mono ?_
      rintro e w2 ⟨rfl, hD2, hT2⟩
      go_wp2_with fail
      refine (d_peek hD2 hs (by omega)).mono ?_
      rintro e w3 ⟨rfl, k3, rfl⟩
      go_wp2_with fail
      refine (d_variableOf (pk s (rSign s d).2) (w2.drewN k3) p0 p1).mono ?_
      rintro e w4 ⟨rfl, rfl⟩
      go_wp2_with fail
      refine (d_readVariable (hD2.drewN k3) hs hgl (-1)).mono ?_
      rintro e w5 ⟨rfl, hD5, hT5⟩
      have hq5 := ((HQ1.out.keep hT2 hn).drewN k3).keep hT5 hn
      have HQ5 : Hid (DsAt _ _ _) := hq5
      clear hq5
      go_wp2_with fail
      refine (d_setSign HQ5.out hl _ hvr.1 hvr.2 _).mono ?_
      rintro e w6 ⟨rfl, rfl⟩
      have HQ6 : Hid (DsAt _ _ _) := HQ5.out.setSg hl (rVar s (rSign s d).2 (-1)).1.toNat (by omega) (rSign s d).1
      have HD6 : Hid (Dat _ _ _ _ _) := hD5.keepq (u := .int .i64 (rSign s d).1) (3 + (rVar s (rSign s d).2 (-1)).1.toNat) hn
      go_wp2_with fail
      refine (d_readSummand HD6.out hs hvl).mono ?_
      rintro e w7 ⟨rfl, hD7, hT7⟩
      have hq7 := HQ6.out.keep hT7 hn
      obtain ⟨c0, c1, c2, c3, c4, c5, c6, c7, c8, c9, cf⟩ := hq7.cells
      have HQ7 : Hid (DsAt _ _ _) := hq7
      clear hq7
      go_wp2
      go_end0
      rw [HT.out]
      exact ⟨rfl, hD7.keepq 7 hn, HQ7.out.setNum _, ((((((((hT1.two q).setCell _ _).trans (hT2.two q)).drewN _).trans (hT5.two q)).setCell _ _).trans (hT7.two q))).setCell _ _⟩

set_option maxRecDepth 100000 in
set_option maxHeartbeats 800000 in
theorem d_readSecond (h : Dat w r s d vf) (hq : DsAt w q x) (hl : x.sg.length = 4) (hs : s.size ≤ 160) (hd : d.1 ≤ s.size) (f : Int) :
    Calls Tryd.prog 127 #[.pointer (some ⟨r, 0, none⟩), .pointer (some ⟨q, 0, none⟩), .int .i64 f] w (SPost w r q s vf (rSecond s d x f)) := by
  have hp := d_peek h hs (by omega)
  obtain ⟨p0, p1⟩ := pk_range s d
  have hn := hq.ne h
  have HD : Hid (Dat _ _ _ _ _) := h
  have HQ : Hid (DsAt _ _ _) := hq
  clear h hq
  by_cases hc : pk s d = 43 ∨ pk s d = 45
  · have hlt : d.1 < s.size := by
      rcases hc with h | h
      · exact (pk_lt h (by decide)).1
      · exact (pk_lt h (by decide)).1
    have hnd : ∀ c, pk s d = c → nd s d c = adv d := fun c h => if_pos h
    have hvr := rVar_range (s := s) (d := adv d) f
    have hvl := rVar_le (s := s) (d := adv d) (by show d.1 + 1 ≤ _; omega) f
    have HT : Hid (rSecond s d x f = ({ x with sg := x.sg.set (rVar s (adv d) f).1.toNat (if pk s d = 45 then -1 else 1) }, (rVar s (adv d) f).2)) := if_pos hc
    rcases hc with hc | hc
    · rw [hc] at hp
      have HT2 : Hid (rSecond s d x f = ({ x with sg := x.sg.set (rVar s (adv d) f).1.toNat 1 }, (rVar s (adv d) f).2)) := HT.out.trans (by rw [hc]; rfl)
      have HN : Hid (nd s d 43 = adv d) := hnd 43 hc
      clear hc hnd HT
      go_enter Tryd.func127, Tryd.ntmps127
      go_wp2_with fail
      refine hp.mono ?_
      rintro e w1 ⟨rfl, k, rfl⟩
      have hne := d_need (HD.out.drewN k) hs (by omega) 43
      rw [HN.out] at hne
      go_wp2_with fail
      refine (hne).mono ?_
      rintro e w2 ⟨rfl, hD2, hT2⟩
      go_wp2_with fail
      refine (d_readVariable hD2 hs (by show d.1 + 1 ≤ _; omega) f).mono ?_
      rintro e w3 ⟨rfl, hD3, hT3⟩
      have HQ3 : Hid (DsAt _ _ _) := ((HQ.out.drewN k).keep hT2 hn).keep hT3 hn
      go_wp2_with fail
      refine (d_setSign HQ3.out hl _ hvr.1 hvr.2 _).mono ?_
      rintro e w4 ⟨rfl, rfl⟩
      go_wp2
      go_end0
      rw [HT2.out]
      exact ⟨rfl, hD3.keepq _ hn, HQ3.out.setSg hl _ (by omega) _, ((((((Tch2.refl r q _).drewN _).trans (hT2.two q)).trans (hT3.two q)))).setCell _ _⟩
    · rw [hc] at hp
      have HT2 : Hid (rSecond s d x f = ({ x with sg := x.sg.set (rVar s (adv d) f).1.toNat (-1) }, (rVar s (adv d) f).2)) := HT.out.trans (by rw [hc]; rfl)
      have HN : Hid (nd s d 45 = adv d) := hnd 45 hc
      clear hc hnd HT
      go_enter Tryd.func127, Tryd.ntmps127
      go_wp2_with fail
      refine hp.mono ?_
      rintro e w1 ⟨rfl, k, rfl⟩
      have hne := d_need (HD.out.drewN k) hs (by omega) 45
      rw [HN.out] at hne
      go_wp2_with fail
      refine (hne).mono ?_
      rintro e w2 ⟨rfl, hD2, hT2⟩
      go_wp2_with fail
      refine (d_readVariable hD2 hs (by show d.1 + 1 ≤ _; omega) f).mono ?_
      rintro e w3 ⟨rfl, hD3, hT3⟩
      have HQ3 : Hid (DsAt _ _ _) := ((HQ.out.drewN k).keep hT2 hn).keep hT3 hn
      go_wp2_with fail
      refine (d_setSign HQ3.out hl _ hvr.1 hvr.2 _).mono ?_
      rintro e w4 ⟨rfl, rfl⟩
      go_wp2
      go_end0
      rw [HT2.out]
      exact ⟨rfl, hD3.keepq _ hn, HQ3.out.setSg hl _ (by omega) _, ((((((Tch2.refl r q _).drewN _).trans (hT2.two q)).trans (hT3.two q)))).setCell _ _⟩
  · have HT : Hid (rSecond s d x f = (x, d)) := if_neg hc
    have b1 : (pk s d != 43) = true := by rw [bne_iff_ne]; exact fun e => hc (.inl e)
    have b2 : (pk s d != 45) = true := by rw [bne_iff_ne]; exact fun e => hc (.inr e)
    clear hc
    generalize pk s d = c at *
    go_enter Tryd.func127, Tryd.ntmps127
    go_wp2_with fail
    refine hp.mono ?_
    rintro e w1 ⟨rfl, k, rfl⟩
    go_wp2
    go_end0
    rw [HT.out]
    exact ⟨rfl, HD.out.drewN k, HQ.out.drewN k, (Tch2.refl r q _).drewN _⟩

set_option maxRecDepth 100000 in
set_option maxHeartbeats 800000 in
theorem d_readCondition (h : Dat w r s d vf) (hq : DsAt w q x) (hl : x.sg.length = 4) (hs : s.size ≤ 160) (hd : d.1 ≤ s.size) :
    Calls Tryd.prog 116 #[.pointer (some ⟨r, 0, none⟩), .pointer (some ⟨q, 0, none⟩)] w (SPost w r q s vf (rCond s d x)) := by
  have hp := d_take h hs (by omega) 42
  have hn := hq.ne h
  have HD : Hid (Dat _ _ _ _ _) := h
  have HQ : Hid (DsAt _ _ _) := hq
  clear h hq
  by_cases hc : pk s d = 42
  · have HT : Hid (rCond s d x = ({ x with any := true }, adv d)) := if_pos hc
    have hk : tk s d 42 = (true, adv d) := if_pos hc
    rw [hk] at hp
    clear hc hk
    go_enter Tryd.func116, Tryd.ntmps116
    go_wp2_with fail
    refine (hp).mono ?_
    rintro e w1 ⟨rfl, hD1, hT1⟩
    have hq1 := HQ.out.keep hT1 hn
    obtain ⟨c0, c1, c2, c3, c4, c5, c6, c7, c8, c9, cf⟩ := hq1.cells
    have HQ1 : Hid (DsAt _ _ _) := hq1
    clear hq1
    go_wp2
    go_end0
    rw [HT.out]
    exact ⟨rfl, hD1.keepq 2 hn, HQ1.out.setAny true, (hT1.two q).setCell _ _⟩
  · have hk : tk s d 42 = (false, d) := if_neg hc
    rw [hk] at hp
    clear hk
    obtain ⟨g, hG⟩ : ∃ g, g = rSign s d := ⟨_, rfl⟩
    obtain ⟨v, hV⟩ : ∃ v, v = rVar s g.2 (-1) := ⟨_, rfl⟩
    obtain ⟨y, hY⟩ : ∃ y, y = rSecond s v.2 { x with any := false, sg := x.sg.set v.1.toNat g.1 } v.1 := ⟨_, rfl⟩
    obtain ⟨z, hZ⟩ : ∃ z, z = rSign s (nd s (nd s y.2 60) 61) := ⟨_, rfl⟩
    have HT : Hid (rCond s d x = ({ y.1 with num := (rNum s z.2 z.1).1 }, (rNum s z.2 z.1).2)) := by
      show rCond s d x = _; unfold rCond; rw [if_neg hc, hZ, hY, hV, hG]
    have hg : g.1 = 1 ∨ g.1 = -1 := by rw [hG]; exact rSign_or s d
    have hgl : g.2.1 ≤ s.size := by rw [hG]; exact rSign_le hd
    have hvr : 0 ≤ v.1 ∧ v.1 ≤ 3 := by rw [hV]; exact rVar_range (-1)
    have hvl : v.2.1 ≤ s.size := by rw [hV]; exact rVar_le hgl (-1)
    have hyl : y.2.1 ≤ s.size := by rw [hY]; exact rSecond_le hvl v.1
    have h60 : (nd s y.2 60).1 ≤ s.size := nd_le hyl (by decide)
    have h61 : (nd s (nd s y.2 60) 61).1 ≤ s.size := nd_le h60 (by decide)
    have hz : z.1 = 1 ∨ z.1 = -1 := by rw [hZ]; exact rSign_or s _
    have hzl : z.2.1 ≤ s.size := by rw [hZ]; exact rSign_le h61
    have HG : Hid (g = rSign s d) := hG
    have HV : Hid (v = rVar s g.2 (-1)) := hV
    have HY : Hid (y = rSecond s v.2 { x with any := false, sg := x.sg.set v.1.toNat g.1 } v.1) := hY
    have HZ : Hid (z = rSign s (nd s (nd s y.2 60) 61)) := hZ
    clear hc hG hV hY hZ
    go_enter Tryd.func116, Tryd.ntmps116
    go_wp2_with fail
    refine (hp).mono ?_
    rintro e w1 ⟨rfl, hD1, hT1⟩
    have hq1 := HQ.out.keep hT1 hn
    obtain ⟨c0, c1, c2, c3, c4, c5, c6, c7, c8, c9, cf⟩ := hq1.cells
    have HQ1 : Hid (DsAt _ _ _) := hq1.setAny false
    have HD1 : Hid (Dat _ _ _ _ _) := hD1.keepq (u := .bool false) 2 hn
    clear hq1 hD1
    have k2 := d_readSign HD1.out hs hd
    rw [← HG.out] at k2
    go_wp2_with fail
    refine (k2).mono ?_
    rintro e w2 ⟨rfl, hD2, hT2⟩
    have k3 := d_readVariable hD2 hs hgl (-1)
    rw [← HV.out] at k3
    go_wp2_with fail
    refine (k3).mono ?_
    rintro e w3 ⟨rfl, hD3, hT3⟩
    have HQ3 : Hid (DsAt _ _ _) := (HQ1.out.keep hT2 hn).keep hT3 hn
    go_wp2_with fail
    refine (d_setSign HQ3.out hl _ hvr.1 hvr.2 _).mono ?_
    rintro e w4 ⟨rfl, rfl⟩
    have HQ4 : Hid (DsAt _ _ _) := HQ3.out.setSg hl v.1.toNat (by omega) g.1
    have HD4 : Hid (Dat _ _ _ _ _) := hD3.keepq (u := .int .i64 g.1) (3 + v.1.toNat) hn
    have k5 := d_readSecond HD4.out HQ4.out (by show (x.sg.set _ _).length = 4; rw [List.length_set]; exact hl) hs hvl v.1
    rw [show rSecond s v.2 { x with any := false, sg := x.sg.set v.1.toNat g.1 } v.1 = y from HY.out.symm] at k5
    go_wp2_with fail
    refine k5.mono ?_
    rintro e w5 ⟨rfl, hD5, hQ5, hT5⟩
    have HQ5 : Hid (DsAt _ _ _) := hQ5
    clear hQ5
    go_wp2_with fail
    refine (d_need hD5 hs (by omega) 60).mono ?_
    rintro e w6 ⟨rfl, hD6, hT6⟩
    go_wp2_with fail
    refine (d_need hD6 hs (by omega) 61).mono ?_
    rintro e w7 ⟨rfl, hD7, hT7⟩
    have k8 := d_readSign hD7 hs h61
    rw [← HZ.out] at k8
    go_wp2_with fail
    refine (k8).mono ?_
    rintro e w8 ⟨rfl, hD8, hT8⟩
    go_wp2_with fail
    refine (d_readNumber hD8 hs hzl z.1 hz).mono ?_
    rintro e w9 ⟨rfl, hD9, hT9⟩
    have hq9 := (((HQ5.out.keep hT6 hn).keep hT7 hn).keep hT8 hn).keep hT9 hn
    obtain ⟨c0, c1, c2, c3, c4, c5, c6, c7, c8, c9, cf⟩ := hq9.cells
    have HQ9 : Hid (DsAt _ _ _) := hq9
    clear hq9
    go_wp2
    go_end0
    rw [HT.out]
    exact ⟨rfl, hD9.keepq 7 hn, HQ9.out.setNum _, (((((((((((hT1.two q).setCell _ _).trans (hT2.two q)).trans (hT3.two q)).setCell _ _).trans hT5).trans (hT6.two q)).trans (hT7.two q)).trans (hT8.two q)).trans (hT9.two q))).setCell _ _⟩

end Go.Proofs.YtffajooegiempaaDoor

namespace Go.Proofs.YtffajooegiempaaDoor
open Go.RowKit
variable {w : World} {r q : Nat} {s : ByteArray} {d : Nat × Bool} {vf : Value} {x : Ds}

def blocksOf (k : Int) : Int := if k = 2 then 2 else if k = 3 then 1 else 0

set_option maxRecDepth 100000 in
set_option maxHeartbeats 800000 in
theorem d_blocks (k t : Int) (an : Bool) (g0 g1 g2 g3 n p b : Int) (w : World) :
    Calls Tryd.prog 101 #[.agg #[.int .i64 k, .int .i64 t, .bool an, .int .i64 g0, .int .i64 g1, .int .i64 g2, .int .i64 g3, .int .i64 n, .int .i64 p, .int .i64 b]] w fun e w' => e = .returned (.int .i64 (blocksOf k)) ∧ ∃ o, w' = w.alloc o := by
  unfold blocksOf
  by_cases h2 : k = 2
  · subst h2
    go_enter Tryd.func101, Tryd.ntmps101
    go_wp2
    go_ret
    exact ⟨rfl, _, rfl⟩
  · have b2 : (k == 2) = false := by simpa using h2
    by_cases h3 : k = 3
    · subst h3
      clear h2 b2
      go_enter Tryd.func101, Tryd.ntmps101
      go_wp2
      go_ret
      exact ⟨rfl, _, rfl⟩
    · have b3 : (k == 3) = false := by simpa using h3
      rw [if_neg h2, if_neg h3]
      clear h2 h3
      go_enter Tryd.func101, Tryd.ntmps101
      go_wp2
      go_ret
      exact ⟨rfl, _, rfl⟩

/-- Of what was there nothing but blocks r and q has turned. -/
structure Fr2 (r q : Nat) (w w' : World) : Prop where
  os : w'.os = w.os
  tape : w'.tape = w.tape
  output : w'.output = w.output
  size : w.heap.size ≤ w'.heap.size
  block : ∀ k, k < w.heap.size → k ≠ r → k ≠ q → w'.heap[k]? = w.heap[k]?
theorem Fr2.refl (r q : Nat) (w : World) : Fr2 r q w w := ⟨rfl, rfl, rfl, Nat.le_refl _, fun _ _ _ _ => rfl⟩
theorem Fr2.trans {a b c : World} (h : Fr2 r q a b) (k : Fr2 r q b c) : Fr2 r q a c := ⟨k.os.trans h.os, k.tape.trans h.tape, k.output.trans h.output, Nat.le_trans h.size k.size, fun i h0 h1 h2 => (k.block i (Nat.lt_of_lt_of_le h0 h.size) h1 h2).trans (h.block i h0 h1 h2)⟩
theorem Tch2.fr {a b : World} (h : Tch2 r q a b) : Fr2 r q a b := ⟨h.os, h.tape, h.output, by have := h.size; omega, fun i _ h1 h2 => h.block i h1 h2⟩
theorem Fr2.alloc {a w : World} (h : Fr2 r q a w) (o : Obj) : Fr2 r q a (w.alloc o) :=
  h.trans ⟨rfl, rfl, rfl, by simp, fun k hk _ _ => Below.heap_alloc _ _ _ hk⟩
theorem Fr2.below {B : Nat} {w w' : World} (h : Fr2 r q w w') (hB : B ≤ r) (hq : B ≤ q) (hw : B ≤ w.heap.size) : Below B w w' := ⟨h.os, h.tape, h.output, h.size, fun k hk => h.block k (by omega) (by omega) (by omega)⟩
theorem At.alloc {b : Nat} {c : Array Value} {t : TypeId} (h : At w b c t) (o : Obj) : At (w.alloc o) b c t := h.same (Below.heap_alloc _ _ _ h.lt)
theorem Dat.alloc (h : Dat w r s d vf) (o : Obj) : Dat (w.alloc o) r s d vf := At.alloc h o
theorem DsAt.alloc (h : DsAt w q x) (o : Obj) : DsAt (w.alloc o) q x := At.alloc h o

def FPost (w : World) (r q : Nat) (s : ByteArray) (vf : Value) (y : Ds × (Nat × Bool)) : Ending → World → Prop := fun e w' => e = .returned (.tuple #[]) ∧ Dat w' r s y.2 vf ∧ DsAt w' q y.1 ∧ Fr2 r q w w'

def rKind (s : ByteArray) (d : Nat × Bool) (x : Ds) (dp : Int) : Ds × (Nat × Bool) :=
  if pk s d = 33 then ({ x with kind := 1 }, adv d)
  else if pk s d = 63 then ({ x with kind := 2 }, if 4 ≤ dp then stk d else adv d)
  else if pk s d = 64 then ({ x with kind := 3 }, if 4 ≤ dp then stk d else adv d)
  else ({ x with kind := 0, target := (rVar s d (-1)).1 }, (rVar s d (-1)).2)


set_option maxRecDepth 100000 in
set_option maxHeartbeats 1600000 in
theorem d_readKind (h : Dat w r s d vf) (hq : DsAt w q x) (hs : s.size ≤ 160) (hd : d.1 ≤ s.size) (dp : Int) :
    Calls Tryd.prog 113 #[.pointer (some ⟨r, 0, none⟩), .pointer (some ⟨q, 0, none⟩), .int .i64 dp] w (FPost w r q s vf (rKind s d x dp)) := by
  have hp := d_peek h hs (by omega)
  obtain ⟨p0, p1⟩ := pk_range s d
  have hn := hq.ne h
  have hlr : r < w.heap.size := At.lt h
  have hlq : q < w.heap.size := At.lt hq
  have nrq : r ≠ q := fun e => hn e.symm
  obtain ⟨c0, c1, c2, c3, c4, c5, c6, c7, c8, c9, cf⟩ := hq.cells
  obtain ⟨r0, r1, r2, r3, rf⟩ := h.cells
  have HD : Hid (Dat _ _ _ _ _) := h
  have HQ : Hid (DsAt _ _ _) := hq
  clear h hq
  generalize sgAt x.sg 0 = g0 at *
  generalize sgAt x.sg 1 = g1 at *
  generalize sgAt x.sg 2 = g2 at *
  generalize sgAt x.sg 3 = g3 at *
  by_cases h33 : pk s d = 33
  · have HT : Hid (rKind s d x dp = ({ x with kind := 1 }, adv d)) := if_pos h33
    have HN : Hid (nd s d 33 = adv d) := if_pos h33
    rw [h33] at hp
    clear h33
    go_enter Tryd.func113, Tryd.ntmps113
    go_wp2_with fail
    refine hp.mono ?_
    rintro e w1 ⟨rfl, k, rfl⟩
    go_wp2_with fail
    refine (d_blocks _ _ _ _ _ _ _ _ _ _ _).mono ?_
    rintro e w2 ⟨rfl, o, rfl⟩
    have hne := d_need (((HD.out.drewN k).keepq (u := .int .i64 1) 0 hn).alloc o) hs (by omega) 33
    rw [HN.out] at hne
    go_wp2_with fail
    refine hne.mono ?_
    rintro e w3 ⟨rfl, hD3, hT3⟩
    go_wp2
    go_end0
    rw [HT.out]
    exact ⟨rfl, hD3, (((HQ.out.drewN k).setKind 1).alloc o).keep hT3 hn, ((((Tch2.refl r q _).drewN k).setCell _ _).fr.alloc o).trans (hT3.two q).fr⟩
  have b33 : (pk s d == 33) = false := by simpa using h33
  by_cases h63 : pk s d = 63
  · have HN : Hid (nd s d 63 = adv d) := if_pos h63
    by_cases h4 : 4 ≤ dp
    · have HT : Hid (rKind s d x dp = ({ x with kind := 2 }, stk d)) := by show rKind s d x dp = _; unfold rKind; rw [if_neg h33, if_pos h63, if_pos h4]
      rw [h63] at hp
      clear h33 b33 h63
      go_enter Tryd.func113, Tryd.ntmps113
      go_wp2_with fail
      refine hp.mono ?_
      rintro e w1 ⟨rfl, k, rfl⟩
      go_wp2_with fail
      refine (d_blocks _ _ _ _ _ _ _ _ _ _ _).mono ?_
      rintro e w2 ⟨rfl, o, rfl⟩
      go_wp2
      go_end0
      rw [HT.out]
      exact ⟨rfl, (((HD.out.drewN k).keepq 0 hn).stick).alloc o, (((HQ.out.drewN k).setKind 2).keep ((Tch.refl r _).setCell _ _) hn).alloc o, ((((Tch2.refl r q _).drewN k).setCell _ _).trans (((Tch.refl r _).setCell _ _).two q)).fr.alloc o⟩
    · have HT : Hid (rKind s d x dp = ({ x with kind := 2 }, adv d)) := by show rKind s d x dp = _; unfold rKind; rw [if_neg h33, if_pos h63, if_neg h4]
      rw [h63] at hp
      clear h33 b33 h63
      go_enter Tryd.func113, Tryd.ntmps113
      go_wp2_with fail
      refine hp.mono ?_
      rintro e w1 ⟨rfl, k, rfl⟩
      go_wp2_with fail
      refine (d_blocks _ _ _ _ _ _ _ _ _ _ _).mono ?_
      rintro e w2 ⟨rfl, o, rfl⟩
      have hne := d_need (((HD.out.drewN k).keepq (u := .int .i64 2) 0 hn).alloc o) hs (by omega) 63
      rw [HN.out] at hne
      go_wp2_with fail
      refine hne.mono ?_
      rintro e w3 ⟨rfl, hD3, hT3⟩
      go_wp2
      go_end0
      rw [HT.out]
      exact ⟨rfl, hD3, (((HQ.out.drewN k).setKind 2).alloc o).keep hT3 hn, ((((Tch2.refl r q _).drewN k).setCell _ _).fr.alloc o).trans (hT3.two q).fr⟩
  have b63 : (pk s d == 63) = false := by simpa using h63
  by_cases h64 : pk s d = 64
  · have HN : Hid (nd s d 64 = adv d) := if_pos h64
    by_cases h4 : 4 ≤ dp
    · have HT : Hid (rKind s d x dp = ({ x with kind := 3 }, stk d)) := by show rKind s d x dp = _; unfold rKind; rw [if_neg h33, if_neg h63, if_pos h64, if_pos h4]
      rw [h64] at hp
      clear h33 b33 h63 b63 h64
      go_enter Tryd.func113, Tryd.ntmps113
      go_wp2_with fail
      refine hp.mono ?_
      rintro e w1 ⟨rfl, k, rfl⟩
      go_wp2_with fail
      refine (d_blocks _ _ _ _ _ _ _ _ _ _ _).mono ?_
      rintro e w2 ⟨rfl, o, rfl⟩
      go_wp2
      go_end0
      rw [HT.out]
      exact ⟨rfl, (((HD.out.drewN k).keepq 0 hn).stick).alloc o, (((HQ.out.drewN k).setKind 3).keep ((Tch.refl r _).setCell _ _) hn).alloc o, ((((Tch2.refl r q _).drewN k).setCell _ _).trans (((Tch.refl r _).setCell _ _).two q)).fr.alloc o⟩
    · have HT : Hid (rKind s d x dp = ({ x with kind := 3 }, adv d)) := by show rKind s d x dp = _; unfold rKind; rw [if_neg h33, if_neg h63, if_pos h64, if_neg h4]
      rw [h64] at hp
      clear h33 b33 h63 b63 h64
      go_enter Tryd.func113, Tryd.ntmps113
      go_wp2_with fail
      refine hp.mono ?_
      rintro e w1 ⟨rfl, k, rfl⟩
      go_wp2_with fail
      refine (d_blocks _ _ _ _ _ _ _ _ _ _ _).mono ?_
      rintro e w2 ⟨rfl, o, rfl⟩
      have hne := d_need (((HD.out.drewN k).keepq (u := .int .i64 3) 0 hn).alloc o) hs (by omega) 64
      rw [HN.out] at hne
      go_wp2_with fail
      refine hne.mono ?_
      rintro e w3 ⟨rfl, hD3, hT3⟩
      go_wp2
      go_end0
      rw [HT.out]
      exact ⟨rfl, hD3, (((HQ.out.drewN k).setKind 3).alloc o).keep hT3 hn, ((((Tch2.refl r q _).drewN k).setCell _ _).fr.alloc o).trans (hT3.two q).fr⟩
  have b64 : (pk s d == 64) = false := by simpa using h64
  have HT : Hid (rKind s d x dp = ({ x with kind := 0, target := (rVar s d (-1)).1 }, (rVar s d (-1)).2)) := by show rKind s d x dp = _; unfold rKind; rw [if_neg h33, if_neg h63, if_neg h64]
  clear h33 h63 h64
  generalize pk s d = c at *
  go_enter Tryd.func113, Tryd.ntmps113
  go_wp2_with fail
  refine hp.mono ?_
  rintro e w1 ⟨rfl, k, rfl⟩
  go_wp2_with fail
  refine (d_readVariable ((HD.out.drewN k).keepq (u := .int .i64 0) 0 hn) hs hd (-1)).mono ?_
  rintro e w3 ⟨rfl, hD3, hT3⟩
  have hq3 := ((HQ.out.drewN k).setKind 0).keep hT3 hn
  obtain ⟨c0, c1, c2, c3, c4, c5, c6, c7, c8, c9, cf⟩ := hq3.cells
  have HQ3 : Hid (DsAt _ _ _) := hq3
  clear hq3
  go_wp2
  go_end0
  rw [HT.out]
  exact ⟨rfl, hD3.keepq 1 hn, HQ3.out.setTarget _, ((((Tch2.refl r q _).drewN k).setCell _ _).trans (hT3.two q)).setCell _ _ |>.fr⟩

end Go.Proofs.YtffajooegiempaaDoor

namespace Go.Proofs.YtffajooegiempaaDoor
open Go.RowKit
variable {w : World} {r q : Nat} {s : ByteArray} {d : Nat × Bool} {vf : Value} {x : Ds}

/-- A statement up to its blocks. -/
def rHead (s : ByteArray) (d : Nat × Bool) (x : Ds) (dp : Int) : Ds × (Nat × Bool) :=
  let k := rKind s d x dp
  let v := if k.1.kind = 0 then rValue s (nd s k.2 61) k.1 else rCond s k.2 k.1
  if blocksOf v.1.kind = 0 then (v.1, nd s v.2 59) else v

theorem rKind_le (hd : d.1 ≤ s.size) (dp : Int) : (rKind s d x dp).2.1 ≤ s.size := by
  unfold rKind
  split
  · rename_i h; have := (pk_lt h (by decide)).1; show d.1 + 1 ≤ _; omega
  split
  · rename_i h; have := (pk_lt h (by decide)).1
    show (if 4 ≤ dp then stk d else adv d).1 ≤ _
    split
    · exact hd
    · show d.1 + 1 ≤ _; omega
  split
  · rename_i h; have := (pk_lt h (by decide)).1
    show (if 4 ≤ dp then stk d else adv d).1 ≤ _
    split
    · exact hd
    · show d.1 + 1 ≤ _; omega
  · exact rVar_le hd (-1)
theorem rKind_sg (dp : Int) : (rKind s d x dp).1.sg = x.sg := by
  unfold rKind
  split
  · rfl
  split
  · rfl
  split
  · rfl
  · rfl
theorem rValue_le (hd : d.1 ≤ s.size) : (rValue s d x).2.1 ≤ s.size := by
  unfold rValue
  split
  · rename_i h; have := (pk_lt h (by decide)).1; show d.1 + 1 ≤ _; omega
  split
  · exact rNum_le (rSign_le hd) _
  · exact rSummand_le (rVar_le (rSign_le hd) (-1))
theorem rCond_le (hd : d.1 ≤ s.size) : (rCond s d x).2.1 ≤ s.size := by
  unfold rCond
  split
  · rename_i h; have := (pk_lt h (by decide)).1; show d.1 + 1 ≤ _; omega
  · exact rNum_le (rSign_le (nd_le (nd_le (rSecond_le (rVar_le (rSign_le hd) (-1)) _) (by decide)) (by decide))) _
theorem rValue_sgl (hl : x.sg.length = 4) : (rValue s d x).1.sg.length = 4 := by
  unfold rValue
  split
  · exact hl
  split
  · exact hl
  · show (x.sg.set _ _).length = 4; rw [List.length_set]; exact hl
theorem rCond_sgl (hl : x.sg.length = 4) : (rCond s d x).1.sg.length = 4 := by
  unfold rCond
  split
  · exact hl
  · exact rSecond_sgl (by show (x.sg.set _ _).length = 4; rw [List.length_set]; exact hl) _
theorem rValue_kind : (rValue s d x).1.kind = x.kind := by
  unfold rValue
  split
  · rfl
  split
  · rfl
  · rfl
theorem rSecond_kind (f : Int) : (rSecond s d x f).1.kind = x.kind := by
  unfold rSecond
  split
  · rfl
  · rfl
theorem rCond_kind : (rCond s d x).1.kind = x.kind := by
  unfold rCond
  split
  · rfl
  · exact rSecond_kind _
theorem rHead_le (hd : d.1 ≤ s.size) (dp : Int) : (rHead s d x dp).2.1 ≤ s.size := by
  unfold rHead
  have hk := rKind_le (x := x) hd dp
  have hv : (if (rKind s d x dp).1.kind = 0 then rValue s (nd s (rKind s d x dp).2 61) (rKind s d x dp).1 else rCond s (rKind s d x dp).2 (rKind s d x dp).1).2.1 ≤ s.size := by
    split
    · exact rValue_le (nd_le hk (by decide))
    · exact rCond_le hk
  simp only
  generalize (if (rKind s d x dp).1.kind = 0 then rValue s (nd s (rKind s d x dp).2 61) (rKind s d x dp).1 else rCond s (rKind s d x dp).2 (rKind s d x dp).1) = y at hv ⊢
  split
  · exact nd_le (c := 59) hv (by decide)
  · exact hv
theorem rHead_sgl (hl : x.sg.length = 4) (dp : Int) : (rHead s d x dp).1.sg.length = 4 := by
  unfold rHead
  have hk : (rKind s d x dp).1.sg.length = 4 := by rw [rKind_sg]; exact hl
  have hv : (if (rKind s d x dp).1.kind = 0 then rValue s (nd s (rKind s d x dp).2 61) (rKind s d x dp).1 else rCond s (rKind s d x dp).2 (rKind s d x dp).1).1.sg.length = 4 := by
    split
    · exact rValue_sgl hk
    · exact rCond_sgl hk
  simp only
  generalize (if (rKind s d x dp).1.kind = 0 then rValue s (nd s (rKind s d x dp).2 61) (rKind s d x dp).1 else rCond s (rKind s d x dp).2 (rKind s d x dp).1) = y at hv ⊢
  split
  · exact hv
  · exact hv


set_option maxRecDepth 100000 in
set_option maxHeartbeats 1600000 in
theorem d_readHead (h : Dat w r s d vf) (hq : DsAt w q x) (hl : x.sg.length = 4) (hs : s.size ≤ 160) (hd : d.1 ≤ s.size) (dp : Int) :
    Calls Tryd.prog 100 #[.pointer (some ⟨r, 0, none⟩), .pointer (some ⟨q, 0, none⟩), .int .i64 dp] w (FPost w r q s vf (rHead s d x dp)) := by
  have hk := d_readKind h hq hs hd dp
  have hn := hq.ne h
  obtain ⟨k, hK⟩ : ∃ k, k = rKind s d x dp := ⟨_, rfl⟩
  obtain ⟨y, hY⟩ : ∃ y, y = if k.1.kind = 0 then rValue s (nd s k.2 61) k.1 else rCond s k.2 k.1 := ⟨_, rfl⟩
  have HT : Hid (rHead s d x dp = if blocksOf y.1.kind = 0 then (y.1, nd s y.2 59) else y) := by show rHead s d x dp = _; unfold rHead; rw [hY, hK]
  have hkl : k.2.1 ≤ s.size := by rw [hK]; exact rKind_le hd dp
  have hks : k.1.sg.length = 4 := by rw [hK, rKind_sg]; exact hl
  have h61 : (nd s k.2 61).1 ≤ s.size := nd_le hkl (by decide)
  rw [← hK] at hk
  clear h hq hK
  by_cases h0 : k.1.kind = 0
  · rw [if_pos h0] at hY
    have hyl : y.2.1 ≤ s.size := by rw [hY]; exact rValue_le h61
    have HY : Hid (_ = _) := hY
    have HK0 : Hid (_ = _) := h0
    clear hY h0
    go_enter Tryd.func100, Tryd.ntmps100
    go_wp2_with fail
    refine hk.mono ?_
    rintro e w1 ⟨rfl, hD1, hQ1, hF1⟩
    obtain ⟨c0, c1, c2, c3, c4, c5, c6, c7, c8, c9, cf⟩ := hQ1.cells
    rw [HK0.out] at c0
    have HQ1 : Hid (DsAt _ _ _) := hQ1
    clear hQ1
    go_wp2_with fail
    refine (d_need hD1 hs (by omega) 61).mono ?_
    rintro e w2 ⟨rfl, hD2, hT2⟩
    have k3 := d_readValue hD2 (HQ1.out.keep hT2 hn) hks hs h61
    rw [← HY.out] at k3
    go_wp2_with fail
    refine k3.mono ?_
    rintro e w4 ⟨rfl, hD4, hQ4, hT4⟩
    clear c0 c1 c2 c3 c4 c5 c6 c7 c8 c9 cf
    have hq4 := hQ4
    obtain ⟨c0, c1, c2, c3, c4, c5, c6, c7, c8, c9, cf⟩ := hq4.cells
    have HQ4 : Hid (DsAt _ _ _) := hq4
    clear hq4
    by_cases hb : blocksOf y.1.kind = 0
    · have HT2 : Hid (rHead s d x dp = (y.1, nd s y.2 59)) := HT.out.trans (if_pos hb)
      have kb := fun (t : Int) (an : Bool) (g0 g1 g2 g3 n p b : Int) (w : World) => d_blocks y.1.kind t an g0 g1 g2 g3 n p b w
      rw [hb] at kb
      generalize sgAt y.1.sg 0 = g0 at *
      generalize sgAt y.1.sg 1 = g1 at *
      generalize sgAt y.1.sg 2 = g2 at *
      generalize sgAt y.1.sg 3 = g3 at *
      clear hb
      go_wp2_with fail
      refine (kb _ _ _ _ _ _ _ _ _ _).mono ?_
      rintro e w6 ⟨rfl, o, rfl⟩
      go_wp2_with fail
      refine (d_need (hD4.alloc o) hs (by omega) 59).mono ?_
      rintro e w7 ⟨rfl, hD7, hT7⟩
      go_wp2
      go_end0
      rw [HT2.out]
      exact ⟨rfl, hD7, (HQ4.out.alloc o).keep hT7 hn, (((hF1.trans (hT2.two q).fr).trans hT4.fr).alloc o).trans (hT7.two q).fr⟩
    · have HT2 : Hid (rHead s d x dp = y) := HT.out.trans (if_neg hb)
      have bb : (blocksOf y.1.kind == 0) = false := by simpa using hb
      generalize sgAt y.1.sg 0 = g0 at *
      generalize sgAt y.1.sg 1 = g1 at *
      generalize sgAt y.1.sg 2 = g2 at *
      generalize sgAt y.1.sg 3 = g3 at *
      clear hb
      go_wp2_with fail
      refine (d_blocks _ _ _ _ _ _ _ _ _ _ _).mono ?_
      rintro e w6 ⟨rfl, o, rfl⟩
      go_wp2
      go_end0
      rw [HT2.out]
      exact ⟨rfl, hD4.alloc o, HQ4.out.alloc o, ((hF1.trans (hT2.two q).fr).trans hT4.fr).alloc o⟩
  · rw [if_neg h0] at hY
    have hyl : y.2.1 ≤ s.size := by rw [hY]; exact rCond_le hkl
    have HY : Hid (_ = _) := hY
    have b0 : (k.1.kind == 0) = false := by simpa using h0
    clear hY h0
    go_enter Tryd.func100, Tryd.ntmps100
    go_wp2_with fail
    refine hk.mono ?_
    rintro e w1 ⟨rfl, hD1, hQ1, hF1⟩
    obtain ⟨c0, c1, c2, c3, c4, c5, c6, c7, c8, c9, cf⟩ := hQ1.cells
    have k3 := d_readCondition hD1 hQ1 hks hs hkl
    rw [← HY.out] at k3
    have HQ1 : Hid (DsAt _ _ _) := hQ1
    clear hQ1
    go_wp2_with fail
    refine k3.mono ?_
    rintro e w4 ⟨rfl, hD4, hQ4, hT4⟩
    clear c0 c1 c2 c3 c4 c5 c6 c7 c8 c9 cf
    have hq4 := hQ4
    obtain ⟨c0, c1, c2, c3, c4, c5, c6, c7, c8, c9, cf⟩ := hq4.cells
    have HQ4 : Hid (DsAt _ _ _) := hq4
    clear hq4
    by_cases hb : blocksOf y.1.kind = 0
    · have HT2 : Hid (rHead s d x dp = (y.1, nd s y.2 59)) := HT.out.trans (if_pos hb)
      have kb := fun (t : Int) (an : Bool) (g0 g1 g2 g3 n p b : Int) (w : World) => d_blocks y.1.kind t an g0 g1 g2 g3 n p b w
      rw [hb] at kb
      generalize sgAt y.1.sg 0 = g0 at *
      generalize sgAt y.1.sg 1 = g1 at *
      generalize sgAt y.1.sg 2 = g2 at *
      generalize sgAt y.1.sg 3 = g3 at *
      clear hb
      go_wp2_with fail
      refine (kb _ _ _ _ _ _ _ _ _ _).mono ?_
      rintro e w6 ⟨rfl, o, rfl⟩
      go_wp2_with fail
      refine (d_need (hD4.alloc o) hs (by omega) 59).mono ?_
      rintro e w7 ⟨rfl, hD7, hT7⟩
      go_wp2
      go_end0
      rw [HT2.out]
      exact ⟨rfl, hD7, (HQ4.out.alloc o).keep hT7 hn, ((hF1.trans hT4.fr).alloc o).trans (hT7.two q).fr⟩
    · have HT2 : Hid (rHead s d x dp = y) := HT.out.trans (if_neg hb)
      have bb : (blocksOf y.1.kind == 0) = false := by simpa using hb
      generalize sgAt y.1.sg 0 = g0 at *
      generalize sgAt y.1.sg 1 = g1 at *
      generalize sgAt y.1.sg 2 = g2 at *
      generalize sgAt y.1.sg 3 = g3 at *
      clear hb
      go_wp2_with fail
      refine (d_blocks _ _ _ _ _ _ _ _ _ _ _).mono ?_
      rintro e w6 ⟨rfl, o, rfl⟩
      go_wp2
      go_end0
      rw [HT2.out]
      exact ⟨rfl, hD4.alloc o, HQ4.out.alloc o, (hF1.trans hT4.fr).alloc o⟩

end Go.Proofs.YtffajooegiempaaDoor

namespace Go.Proofs.YtffajooegiempaaDoor
open Go.RowKit
variable {B : Nat} {w w' : World} {r q : Nat} {s : ByteArray} {vf : Value}

abbrev Zt : Type := (Nat × Bool) × List Ds

def rBlockWith (s : ByteArray) (f : Int → Int → Int → Zt → Zt) (p b dp : Int) (z : Zt) : Zt :=
  (nd s (f p b dp (nd s z.1 123, z.2)).1 125, (f p b dp (nd s z.1 123, z.2)).2)
def aft (s : ByteArray) (f : Int → Int → Int → Zt → Zt) (p dp : Int) (z : Zt) : Nat → Zt
  | 0 => z
  | b + 1 => rBlockWith s f p b dp (aft s f p dp z b)
def newDs (p b : Int) : Ds := ⟨0, 0, false, [0, 0, 0, 0], 0, p, b⟩
def rStmtWith (s : ByteArray) (f : Int → Int → Int → Zt → Zt) (p b dp : Int) (z : Zt) : Zt :=
  if 20 ≤ z.2.length then (stk z.1, z.2)
  else if (rHead s z.1 (newDs p b) dp).2.2 = true then ((rHead s z.1 (newDs p b) dp).2, z.2)
  else aft s f z.2.length (dp + 1) ((rHead s z.1 (newDs p b) dp).2, z.2 ++ [(rHead s z.1 (newDs p b) dp).1]) (blocksOf (rHead s z.1 (newDs p b) dp).1.kind).toNat
def rStmts (s : ByteArray) : Nat → Int → Int → Int → Zt → Zt
  | 0, _, _, _, z => z
  | n + 1, p, b, dp, z => if pk s z.1 = 0 ∨ pk s z.1 = 125 then z else rStmts s n p b dp (rStmtWith s (rStmts s n) p b dp z)

/-- The place is in the text, and not too much was found. -/
structure Zok (s : ByteArray) (z : Zt) : Prop where
  at_ : z.1.1 ≤ s.size
  len : z.2.length ≤ 20
/-- z' comes behind z: what was found is still there. -/
structure Zle (s : ByteArray) (z z' : Zt) : Prop where
  ok : Zok s z'
  len : z.2.length ≤ z'.2.length

theorem Zle.refl {z : Zt} (h : Zok s z) : Zle s z z := ⟨h, Nat.le_refl _⟩
theorem Zle.trans {a b c : Zt} (h : Zle s a b) (k : Zle s b c) : Zle s a c := ⟨k.ok, Nat.le_trans h.len k.len⟩
def Goes (s : ByteArray) (f : Int → Int → Int → Zt → Zt) : Prop := ∀ p b dp z, Zok s z → Zle s z (f p b dp z)

theorem Goes.block {f : Int → Int → Int → Zt → Zt} (h : Goes s f) (p b dp : Int) {z : Zt} (hz : Zok s z) : Zle s z (rBlockWith s f p b dp z) := by
  have h1 := h p b dp (nd s z.1 123, z.2) ⟨nd_le hz.at_ (by decide), hz.len⟩
  exact ⟨⟨nd_le h1.ok.at_ (by decide), h1.ok.len⟩, h1.len⟩
theorem Goes.aft {f : Int → Int → Int → Zt → Zt} (h : Goes s f) (p dp : Int) {z : Zt} (hz : Zok s z) (n : Nat) : Zle s z (Go.Proofs.YtffajooegiempaaDoor.aft s f p dp z n) := by
  induction n with
  | zero => exact Zle.refl hz
  | succ n ih => exact ih.trans (h.block p n dp ih.ok)
theorem Goes.stmt {f : Int → Int → Int → Zt → Zt} (h : Goes s f) (p b dp : Int) {z : Zt} (hz : Zok s z) : Zle s z (rStmtWith s f p b dp z) := by
  unfold rStmtWith
  split
  · exact ⟨⟨hz.at_, hz.len⟩, Nat.le_refl _⟩
  split
  · exact ⟨⟨rHead_le hz.at_ dp, hz.len⟩, Nat.le_refl _⟩
  · have h1 := h.aft z.2.length (dp + 1) (z := ((rHead s z.1 (newDs p b) dp).2, z.2 ++ [(rHead s z.1 (newDs p b) dp).1])) ⟨rHead_le hz.at_ dp, by simp; omega⟩ (blocksOf (rHead s z.1 (newDs p b) dp).1.kind).toNat
    exact ⟨h1.ok, by have := h1.len; simp at this; omega⟩
theorem rStmts_goes (s : ByteArray) (n : Nat) : Goes s (rStmts s n) := by
  induction n with
  | zero => intro p b dp z hz; exact Zle.refl hz
  | succ n ih =>
    intro p b dp z hz
    unfold rStmts
    split
    · exact Zle.refl hz
    · have h1 := ih.stmt p b dp hz
      exact h1.trans (ih p b dp _ h1.ok)

def Mz (z : Zt) : Nat := if z.1.2 then 0 else 21 - z.2.length
theorem Mz_stmt (f : Int → Int → Int → Zt → Zt) (h : Goes s f) (p b dp : Int) {z : Zt} (hz : Zok s z) (hs : z.1.2 = false) : Mz (rStmtWith s f p b dp z) < Mz z := by
  have hl := hz.len
  have h1 : Mz z = 21 - z.2.length := by unfold Mz; rw [hs]; rfl
  rw [h1]
  unfold rStmtWith
  split
  · show (if true then 0 else _) < _; simp; omega
  split
  · rename_i h2
    show (if (rHead s z.1 (newDs p b) dp).2.2 then 0 else _) < _
    rw [h2]; simp; omega
  · have h3 := h.aft z.2.length (dp + 1) (z := ((rHead s z.1 (newDs p b) dp).2, z.2 ++ [(rHead s z.1 (newDs p b) dp).1])) ⟨rHead_le hz.at_ dp, by simp; omega⟩ (blocksOf (rHead s z.1 (newDs p b) dp).1.kind).toNat
    have h4 := h3.len
    have h5 := h3.ok.len
    generalize Go.Proofs.YtffajooegiempaaDoor.aft s f z.2.length (dp + 1) ((rHead s z.1 (newDs p b) dp).2, z.2 ++ [(rHead s z.1 (newDs p b) dp).1]) (blocksOf (rHead s z.1 (newDs p b) dp).1.kind).toNat = y at *
    simp at h4
    unfold Mz
    split <;> omega

def flat (F : List Ds) : List Value := F.flatMap fun x => (dsCells x).toList
theorem flat_len (F : List Ds) : (flat F).length = F.length * 10 := by
  induction F with
  | nil => rfl
  | cons a F ih =>
    show ((dsCells a).toList ++ flat F).length = _
    rw [List.length_append, ih]; simp [dsCells]; omega
theorem flat_snoc (F : List Ds) (x : Ds) : flat (F ++ [x]) = flat F ++ (dsCells x).toList := by simp [flat]

/-- The reader's memory. -/
structure DRep (B : Nat) (w : World) (r : Nat) (s : ByteArray) (z : Zt) (vf : Value) : Prop where
  dat : Dat w r s z.1 vf
  row : w.ownsRow B tDs 10 vf z.2.length (flat z.2)
  geR : B ≤ r
  geW : B ≤ w.heap.size

/-- Of what was there nothing but the reader's block and its row has turned; the row is the same, or new. -/
structure ZFr (r : Nat) (vf vf' : Value) (w w' : World) : Prop where
  os : w'.os = w.os
  tape : w'.tape = w.tape
  output : w'.output = w.output
  size : w.heap.size ≤ w'.heap.size
  block : ∀ k, k < w.heap.size → k ≠ r → vf.ownBlock ≠ some k → w'.heap[k]? = w.heap[k]?
  row : vf'.ownBlock = vf.ownBlock ∨ ∀ g, vf'.ownBlock = some g → w.heap.size ≤ g
theorem ZFr.refl (r : Nat) (vf : Value) (w : World) : ZFr r vf vf w w := ⟨rfl, rfl, rfl, Nat.le_refl _, fun _ _ _ _ => rfl, .inl rfl⟩
theorem ZFr.trans {v1 v2 v3 : Value} {a b c : World} (h : ZFr r v1 v2 a b) (k : ZFr r v2 v3 b c) : ZFr r v1 v3 a c where
  os := k.os.trans h.os
  tape := k.tape.trans h.tape
  output := k.output.trans h.output
  size := Nat.le_trans h.size k.size
  block := fun i h0 h1 h2 => (k.block i (Nat.lt_of_lt_of_le h0 h.size) h1 (by
    rcases h.row with e | e
    · rw [e]; exact h2
    · intro e2; have := e i e2; omega)).trans (h.block i h0 h1 h2)
  row := by
    rcases k.row with e | e
    · rw [e]; exact h.row
    · exact .inr fun g hg => Nat.le_trans h.size (e g hg)
theorem Tch.zfr {a b : World} (h : Tch r a b) (vf : Value) : ZFr r vf vf a b := ⟨h.os, h.tape, h.output, by have := h.size; omega, fun k _ h1 _ => h.block k h1, .inl rfl⟩
theorem ZFr.below {vf' : Value} {z : Zt} (h : ZFr r vf vf' w w') (hd : DRep B w r s z vf) : Below B w w' := ⟨h.os, h.tape, h.output, h.size, fun k hk => h.block k (by have := hd.geW; omega) (by have := hd.geR; omega) (fun e => by have := (hd.row.lt k e).1; omega)⟩

def ZPost (B : Nat) (w : World) (r : Nat) (s : ByteArray) (vf : Value) (z : Zt) : Ending → World → Prop := fun e w' => e = .returned (.tuple #[]) ∧ ∃ vf', DRep B w' r s z vf' ∧ ZFr r vf vf' w w'

/-- What is said of readStatements. -/
def SP (s : ByteArray) (n : Nat) : Prop := ∀ (B r : Nat) (vf : Value) (w : World) (z : Zt) (p b dp : Int), DRep B w r s z vf → Zok s z → 0 ≤ dp → dp ≤ z.2.length → Mz z < n →
  Calls Tryd.prog 55 #[.pointer (some ⟨r, 0, none⟩), .int .i64 p, .int .i64 b, .int .i64 dp] w (ZPost B w r s vf (rStmts s n p b dp z))

theorem ownsRow_keep {e : TypeId} {size : Nat} {v : Value} {n : Nat} {xs : List Value} (h : w.ownsRow B e size v n xs) (k : ∀ g, v.ownBlock = some g → w'.heap[g]? = w.heap[g]?) : w'.ownsRow B e size v n xs := by
  obtain ⟨h1, h2⟩ := h
  refine ⟨h1, ?_⟩
  rcases h2 with h2 | ⟨g, cap, c, hv, hg, hh, r⟩
  · exact .inl h2
  · subst hv; exact .inr ⟨g, cap, c, rfl, hg, by rw [k g rfl]; exact hh, r⟩
theorem ownsRow_not {e : TypeId} {size : Nat} {v : Value} {n : Nat} {xs : List Value} (h : w.ownsRow B e size v n xs) {b : Nat} {c : Array Value} {t : TypeId} (k : At w b c t) (hn : e ≠ t) : v.ownBlock ≠ some b := by
  obtain ⟨h1, h2⟩ := h
  rcases h2 with ⟨rfl, _⟩ | ⟨g, cap, c', rfl, hg, hh, r⟩
  · simp [Value.ownBlock]
  · intro e'
    simp [Value.ownBlock] at e'
    exact (At.ne (show At w g c' e from hh) k hn) e'

/-- Behind a step that writes the reader's block alone. -/
theorem DRep.tch {z : Zt} (h : DRep B w r s z vf) (t : Tch r w w') {d' : Nat × Bool} (hd : Dat w' r s d' vf) : DRep B w' r s (d', z.2) vf where
  dat := hd
  row := ownsRow_keep h.row fun g hg => t.block g (fun e => ownsRow_not h.row h.dat (by decide) (by rw [hg, e]))
  geR := h.geR
  geW := by rw [t.size]; exact h.geW

set_option maxRecDepth 100000 in
set_option maxHeartbeats 800000 in
theorem d_readBlock {n : Nat} (H : SP s n) (hs : s.size ≤ 160) {z : Zt} (h : DRep B w r s z vf) (hz : Zok s z) (p b dp : Int) (h0 : 0 ≤ dp) (h1 : dp ≤ z.2.length) (hm : Mz z < n) :
    Calls Tryd.prog 102 #[.pointer (some ⟨r, 0, none⟩), .int .i64 p, .int .i64 b, .int .i64 dp] w (ZPost B w r s vf (rBlockWith s (rStmts s n) p b dp z)) := by
  have hat := hz.at_
  have hm2 : Mz (nd s z.1 123, z.2) < n := by
    have : Mz (nd s z.1 123, z.2) ≤ Mz z := by
      unfold Mz nd
      split <;> split <;> simp_all
    omega
  have hz2 : Zok s (nd s z.1 123, z.2) := ⟨nd_le hat (by decide), hz.len⟩
  have hz3 := rStmts_goes s n p b dp _ hz2
  obtain ⟨y, hY⟩ : ∃ y, y = rStmts s n p b dp (nd s z.1 123, z.2) := ⟨_, rfl⟩
  have HT : Hid (rBlockWith s (rStmts s n) p b dp z = (nd s y.1 125, y.2)) := by show rBlockWith _ _ _ _ _ _ = _; rw [hY]; rfl
  rw [← hY] at hz3
  have hyat := hz3.ok.at_
  have HY : Hid (_ = _) := hY
  have HD : Hid (DRep _ _ _ _ _ _) := h
  clear hY h
  go_enter Tryd.func102, Tryd.ntmps102
  go_wp2_with fail
  refine (d_need HD.out.dat hs (by omega) 123).mono ?_
  rintro e w1 ⟨rfl, hD1, hT1⟩
  have k2 := H B r vf w1 (nd s z.1 123, z.2) p b dp (HD.out.tch hT1 hD1) hz2 h0 h1 hm2
  rw [← HY.out] at k2
  go_wp2_with fail
  refine k2.mono ?_
  rintro e w2 ⟨rfl, vf2, hD2, hZ2⟩
  have HD2 : Hid (DRep _ _ _ _ _ _) := hD2
  clear hD2
  go_wp2_with fail
  refine (d_need HD2.out.dat hs (by omega) 125).mono ?_
  rintro e w3 ⟨rfl, hD3, hT3⟩
  go_wp2
  go_end0
  rw [HT.out]
  exact ⟨rfl, vf2, HD2.out.tch hT3 hD3, ((hT1.zfr vf).trans hZ2).trans (hT3.zfr vf2)⟩

end Go.Proofs.YtffajooegiempaaDoor

namespace Go.Proofs.YtffajooegiempaaDoor
open Go.RowKit

theorem ownsRow_base {w : World} {B B' : Nat} {e : TypeId} {size : Nat} {v : Value} {n : Nat} {xs : List Value} (h : w.ownsRow B e size v n xs) (hB : B' ≤ B) : w.ownsRow B' e size v n xs := by
  obtain ⟨h1, h2⟩ := h
  refine ⟨h1, ?_⟩
  rcases h2 with h2 | ⟨g, cap, c, hv, hg, rest⟩
  · exact .inl h2
  · exact .inr ⟨g, cap, c, hv, by omega, rest⟩

/-- append to a row of the call's own: the row is the same, or a new one. -/
theorem run_append_own2 {P : Program} (w : World) (base : Nat) (t ty e : TypeId) (i : TypeInfo) (z : Value) (size bytes : Nat) (ht : P.underlying t = some (.slice e)) (hi : P.info? e = some i) (hz : i.zero = some z)
    (hsize : i.size = size) (hby : i.bytes = bytes) (hzs : z.cells.size = size) (hsz : 0 < size)
    (v : Value) (n : Nat) (xs : List Value) (hown : w.ownsRow base e size v n xs)
    (a : Addr) (m c : Nat) (news : List Value) (hl : news.length = m * size) (hnews : ∀ j u, news[j]? = some u → w.cell? (a.add j) = some u) (h1 : ∀ u ∈ news, u.oneCell' = true)
    (h63 : n + m ≤ maxLen) (hbytes : (n + m) * bytes ≤ 140737488355328) (hbase : base ≤ w.heap.size) :
    ∃ v' w', (Builtin.append_ #[t, t] ty #[v, .slice (some a) m c]).run P w = .ok v' w' ∧ w'.ownsRow base e size v' (n + m) (xs ++ news) ∧ w.grownBy w' v.ownBlock ∧
      (v'.ownBlock = v.ownBlock ∨ ∀ g, v'.ownBlock = some g → w.heap.size ≤ g) := by
  rcases hown.2 with ⟨rfl, rfl⟩ | ⟨g, cap, cur, rfl, hbg, hg, hnc, hcm, hcs, htake⟩
  · have hx : xs = [] := List.eq_nil_of_length_eq_zero (by simpa using hown.1)
    subst hx
    obtain ⟨v', w', h2, h3, h4, _⟩ := run_append_own (P := P) w w.heap.size t ty e i z size bytes ht hi hz hsize hby hzs hsz (.slice none 0 0) 0 [] (World.ownsRow_nil w _ e size) a m c news hl hnews h1 h63 hbytes (Nat.le_refl _)
    exact ⟨v', w', h2, ownsRow_base h3 hbase, h4, .inr fun g hg => (h3.lt g hg).1⟩
  · by_cases hroom : n + m ≤ cap
    · obtain ⟨w', h2, h3, h4⟩ := run_append_fits (P := P) w base t ty e i size ht hi hsize g n cap xs hown a m c news hl hnews h1 hroom
      exact ⟨_, w', h2, h3, h4, .inl rfl⟩
    · obtain ⟨v', w', h2, h3, h4⟩ := run_append_arg_grows (P := P) w t ty e i z size bytes ht hi hz hsize hby hzs hsz ⟨g, 0, none⟩ n cap xs hown.1 (hown.cells (g := g) rfl) a m c news hl hnews (by omega) h63 hbytes
      exact ⟨v', w', h2, ownsRow_base h3 hbase, ⟨h4.os, h4.tape, h4.output, h4.size, fun k hk _ => h4.block k hk (by simp)⟩, .inr fun g hg => (h3.lt g hg).1⟩

theorem wpList_append_own2 {P : Program} {w : World} {ops : Array Oper} {rest : List Oper} {o : Oper} {a : Act} {Q : Exit → Act → World → Prop} (hgd : o.guard = none) (s x : Operand) (t : TypeId)
    (ho : o.op = .call { callee := .builtin .append, args := #[s, x], argTypes := #[t, t] })
    (base : Nat) (e : TypeId) (i : TypeInfo) (z : Value) (size bytes : Nat) (ht : P.underlying t = some (.slice e)) (hi : P.info? e = some i) (hz : i.zero = some z)
    (hsize : i.size = size) (hby : i.bytes = bytes) (hzs : z.cells.size = size) (hsz : 0 < size)
    (v : Value) (n : Nat) (xs : List Value) (hs : a.eval s = v) (hown : w.ownsRow base e size v n xs)
    (ad : Addr) (m c : Nat) (news : List Value) (hx : a.eval x = .slice (some ad) m c) (hl : news.length = m * size) (hnews : ∀ j u, news[j]? = some u → w.cell? (ad.add j) = some u) (h1 : ∀ u ∈ news, u.oneCell' = true)
    (h63 : n + m ≤ maxLen) (hbytes : (n + m) * bytes ≤ 140737488355328) (hbase : base ≤ w.heap.size)
    (h : ∀ v' w', w'.ownsRow base e size v' (n + m) (xs ++ news) → w.grownBy w' v.ownBlock → (v'.ownBlock = v.ownBlock ∨ ∀ g, v'.ownBlock = some g → w.heap.size ≤ g) → wpList P ops Q rest (a.put o.dst v') w') : wpList P ops Q (o :: rest) a w := by
  refine wpList_plain hgd fun _ hK => ?_
  obtain ⟨v', w', hr, h2, h3, h4⟩ := run_append_own2 (P := P) w base t o.type e i z size bytes ht hi hz hsize hby hzs hsz v n xs hown ad m c news hl hnews h1 h63 hbytes hbase
  unfold Oper.wp execOp
  simp only [ho, resolve, invoke, builtin, Sem.run_bind, Sem.run_pure, Result.andThen_ok, List.map_toArray, List.map_cons, List.map_nil, hs, hx, hr]
  exact hK _ _ (h v' w' h2 h3 h4)

end Go.Proofs.YtffajooegiempaaDoor

namespace Go.Proofs.YtffajooegiempaaDoor
open Go.RowKit
variable {B : Nat} {w w' : World} {r q : Nat} {s : ByteArray} {vf : Value}

theorem Tryd.infoDs : (Tryd.prog.info? tDs).map (fun i => (i.zero, i.size, i.bytes)) = some (some (.agg #[.int .i64 0, .int .i64 0, .bool false, .int .i64 0, .int .i64 0, .int .i64 0, .int .i64 0, .int .i64 0, .int .i64 0, .int .i64 0]), 10, 80) := by kernel_rfl

theorem DRep.vlen {z : Zt} (h : DRep B w r s z vf) : ∃ ao cap, vf = .slice ao z.2.length cap := by
  obtain ⟨_, h2⟩ := h.row
  rcases h2 with ⟨rfl, e⟩ | ⟨g, cap, c, rfl, _⟩
  · exact ⟨none, 0, by rw [e]⟩
  · exact ⟨_, cap, rfl⟩

theorem step_append_own2 {P : Program} {ops : Array Oper} {o : Oper} {a : Act} {w : World} {K : Act → World → Prop} {Q : Exit → Act → World → Prop} {E : Prop}
    (hg : o.guard = none) (s x : Operand) (t : TypeId) (hop : o.op = Op.call { callee := Callee.builtin Builtin.append, args := #[s, x], argTypes := #[t, t] })
    (base : Nat) (e : TypeId) (i : TypeInfo) (z : Value) (size bytes : Nat) (h1 : P.underlying t = some (.slice e)) (h2 : P.info? e = some i) (h3 : i.zero = some z) (h4 : i.size = size) (h5 : i.bytes = bytes) (h6 : z.cells.size = size) (h7 : 0 < size)
    (v : Value) (n : Nat) (xs : List Value) (hs : a.eval s = v) (hown : w.ownsRow base e size v n xs)
    (ad : Addr) (m c : Nat) (news : List Value) (hx : a.eval x = .slice (some ad) m c) (hn : news.length = m * size) (hc : ∀ j u, news[j]? = some u → w.cell? (ad.add j) = some u) (h1c : ∀ u ∈ news, u.oneCell' = true)
    (b1 : n + m ≤ maxLen) (b2 : (n + m) * bytes ≤ 140737488355328) (hbase : base ≤ w.heap.size)
    (hK : ∀ v' w', w'.ownsRow base e size v' (n + m) (xs ++ news) → w.grownBy w' v.ownBlock → (v'.ownBlock = v.ownBlock ∨ ∀ g, v'.ownBlock = some g → w.heap.size ≤ g) → K (a.put o.dst v') w') :
    if Region.wanted o (yielded ops a.tmps) = true then Oper.wp P o a w K Q else E := by
  have hw : Region.wanted o (yielded ops a.tmps) = true := by simp [Region.wanted, hg]
  rw [if_pos hw]
  obtain ⟨v', w', hr, r2, r3, r4⟩ := run_append_own2 (P := P) w base t o.type e i z size bytes h1 h2 h3 h4 h5 h6 h7 v n xs hown ad m c news hn hc h1c b1 b2 hbase
  unfold Oper.wp execOp
  simp only [hop, resolve, invoke, builtin, Sem.run_bind, Sem.run_pure, Result.andThen_ok, List.map_toArray, List.map_cons, List.map_nil, hs, hx, hr]
  exact hK v' w' r2 r3 r4

/-- Behind the head of a statement: the reader as it stands. -/
theorem DRep.fr {z : Zt} {o : Obj} (h : DRep B w r s z vf) (f : Fr2 r w.heap.size (w.alloc o) w') {d' : Nat × Bool} (hd : Dat w' r s d' vf) : DRep B w' r s (d', z.2) vf ∧ ZFr r vf vf w w' := by
  have same : ∀ k, k < w.heap.size → k ≠ r → w'.heap[k]? = w.heap[k]? := fun k hk hr => (f.block k (by simp; omega) hr (by omega)).trans (Below.heap_alloc _ _ _ hk)
  have hsz : w.heap.size ≤ w'.heap.size := by have := f.size; simp at this; omega
  exact ⟨⟨hd, ownsRow_keep h.row fun g hg => same g (h.row.lt g hg).2 (fun e => ownsRow_not h.row h.dat (by decide) (by rw [hg, e])), h.geR, by have := h.geW; omega⟩,
    ⟨f.os, f.tape, f.output, hsz, fun k hk hr _ => same k hk hr, .inl rfl⟩⟩

/-- The world ahead of the append of a statement. -/
def laidDs (w : World) (x : Ds) : World := (w.alloc (.cells (dsCells x) tDs)).drew
theorem laidDs_old (x : Ds) (k : Nat) (hk : k < w.heap.size) : (laidDs w x).heap[k]? = w.heap[k]? := by
  show (w.heap.push _)[k]? = _
  rw [Array.getElem?_push, if_neg (by omega)]
theorem laidDs_size (x : Ds) : (laidDs w x).heap.size = w.heap.size + 1 := by show (w.heap.push _).size = _; simp
theorem laidDs_lit (x : Ds) : ∀ (j : Nat) (u : Value), (dsCells x).toList[j]? = some u → (laidDs w x).cell? ((⟨w.heap.size, 0, none⟩ : Addr).add j) = some u := by
  intro j u hj
  have ha : At (laidDs w x) w.heap.size (dsCells x) tDs := by
    show (w.heap.push _)[w.heap.size]? = _
    rw [Array.getElem?_push, if_pos rfl]
  have e : (⟨w.heap.size, 0, none⟩ : Addr).add j = ⟨w.heap.size, j, none⟩ := by cases j <;> simp [Addr.add]
  rw [e, ha.cell j]
  simpa using hj

/-- Behind the append. -/
theorem DRep.push {z : Zt} (h : DRep B w r s z vf) (x : Ds) {w3 : World} {v' : Value} (hg : (laidDs w x).grownBy w3 vf.ownBlock)
    (hown : w3.ownsRow B tDs 10 v' (z.2.length + 1) (flat z.2 ++ (dsCells x).toList)) (hr : v'.ownBlock = vf.ownBlock ∨ ∀ g, v'.ownBlock = some g → (laidDs w x).heap.size ≤ g) :
    DRep B (w3.setCell ⟨r, 3, none⟩ v') r s (z.1, z.2 ++ [x]) v' ∧ ZFr r vf v' w (w3.setCell ⟨r, 3, none⟩ v') := by
  have hlr : r < w.heap.size := At.lt h.dat
  have nr := ownsRow_not h.row h.dat (by decide)
  have same : ∀ k, k < w.heap.size → vf.ownBlock ≠ some k → w3.heap[k]? = w.heap[k]? := fun k hk hn => (hg.block k (by rw [laidDs_size]; omega) (fun e => hn e.symm)).trans (laidDs_old x k hk)
  have hd3 : Dat w3 r s z.1 vf := At.same h.dat (same r hlr nr)
  have hsz : w.heap.size ≤ w3.heap.size := by have := hg.size; rw [laidDs_size] at this; omega
  have nr' : v'.ownBlock ≠ some r := by
    rcases hr with e | e
    · rw [e]; exact nr
    · intro e2; have := e r e2; rw [laidDs_size] at this; omega
  refine ⟨⟨At.put hd3 3 v', ?_, h.geR, by have := h.geW; simp [World.setCell]; omega⟩, ⟨hg.os, hg.tape, hg.output, by simp [World.setCell]; omega, fun k hk h1 h2 => ?_, ?_⟩⟩
  · show (w3.setCell ⟨r, 3, none⟩ v').ownsRow B tDs 10 v' (z.2 ++ [x]).length (flat (z.2 ++ [x]))
    rw [flat_snoc, List.length_append, List.length_singleton]
    exact ownsRow_setCell_other hown nr' _
  · rw [Below.heap_setCell _ _ _ _ h1]; exact same k hk h2
  · rcases hr with e | e
    · exact .inl e
    · exact .inr fun g hg => by have := e g hg; rw [laidDs_size] at this; omega

theorem blocksOf_range (k : Int) : 0 ≤ blocksOf k ∧ blocksOf k ≤ 2 := by
  unfold blocksOf
  split
  · omega
  split
  · omega
  · omega
theorem DsAt.zkeep {x : Ds} {v v' : Value} (h : DsAt w q x) (z : ZFr r v v' w w') (hl : q < w.heap.size) (hr : q ≠ r) (hv : v.ownBlock ≠ some q) : DsAt w' q x := At.same h (z.block q hl hr hv)
theorem zrow {v v' : Value} (z : ZFr r v v' w w') (hv : v.ownBlock ≠ some q) (hq : q < w.heap.size) : v'.ownBlock ≠ some q := by
  rcases z.row with e | e
  · rw [e]; exact hv
  · intro e2; have := e q e2; omega
theorem ZFr.alloc {v v' : Value} (h : ZFr r v v' w w') (o : Obj) : ZFr r v v' w (w'.alloc o) :=
  h.trans ⟨rfl, rfl, rfl, by simp, fun k hk _ _ => Below.heap_alloc _ _ _ hk, .inl rfl⟩
theorem DRep.alloc {z : Zt} (h : DRep B w r s z vf) (o : Obj) : DRep B (w.alloc o) r s z vf := ⟨h.dat.alloc o, h.row.alloc o, h.geR, by have := h.geW; simp; omega⟩
theorem push_same {z : Zt} (h : DRep B w r s z vf) {x : Ds} {w3 : World} (hg : (laidDs w x).grownBy w3 vf.ownBlock) : w3.heap[r]? = w.heap[r]? :=
  (hg.block r (by rw [laidDs_size]; have := At.lt h.dat; omega) (fun e => ownsRow_not h.row h.dat (by decide) e.symm)).trans (laidDs_old x r (At.lt h.dat))
theorem ownsRow_form {e : TypeId} {size : Nat} {v : Value} {n : Nat} {xs : List Value} (h : w.ownsRow B e size v (n + 1) xs) : ∃ g cap, v = .slice (some ⟨g, 0, none⟩) (n + 1) cap := by
  obtain ⟨_, h2⟩ := h
  rcases h2 with ⟨_, e⟩ | ⟨g, cap, c, rfl, _⟩
  · omega
  · exact ⟨g, cap, rfl⟩

set_option maxRecDepth 100000 in
set_option maxHeartbeats 1600000 in
theorem d_readStatement {n : Nat} (H : SP s n) (hs : s.size ≤ 160) {z : Zt} (h : DRep B w r s z vf) (hz : Zok s z) (hst : z.1.2 = false) (p b dp : Int) (h0 : 0 ≤ dp) (h1 : dp ≤ z.2.length) (hm : Mz z ≤ n) :
    Calls Tryd.prog 85 #[.pointer (some ⟨r, 0, none⟩), .int .i64 p, .int .i64 b, .int .i64 dp] w (ZPost B w r s vf (rStmtWith s (rStmts s n) p b dp z)) := by
  obtain ⟨ao, cap, hvf⟩ := h.vlen
  obtain ⟨r0, r1, r2, r3, rf⟩ := h.dat.cells
  have hlr : r < w.heap.size := At.lt h.dat
  have hlen := hz.len
  have hat := hz.at_
  have HD : Hid (DRep _ _ _ _ _ _) := h
  clear h
  by_cases h20 : 20 ≤ z.2.length
  · have HT : Hid (rStmtWith s (rStmts s n) p b dp z = (stk z.1, z.2)) := if_pos h20
    have e20 : z.2.length = 20 := by omega
    rw [hvf, e20] at r3
    clear hvf e20 h20
    go_enter Tryd.func85, Tryd.ntmps85
    go_wp2_with fail
    go_end0
    rw [HT.out]
    exact ⟨rfl, vf, HD.out.tch ((Tch.refl r _).setCell _ _) HD.out.dat.stick, ((Tch.refl r _).setCell _ _).zfr vf⟩
  have b20 : decide ((20 : Int) ≤ (z.2.length : Int)) = false := decide_eq_false (by omega)
  have hdn : Dat (w.alloc (.cells (dsCells (newDs p b)) tDs)) r s z.1 vf := HD.out.dat.alloc _
  have hqn : DsAt (w.alloc (.cells (dsCells (newDs p b)) tDs)) w.heap.size (newDs p b) := by
    show (w.heap.push _)[w.heap.size]? = _
    rw [Array.getElem?_push, if_pos rfl]
  have hh := d_readHead hdn hqn rfl hs hat dp
  obtain ⟨y, hY⟩ : ∃ y, y = rHead s z.1 (newDs p b) dp := ⟨_, rfl⟩
  rw [← hY] at hh
  have hyat : y.2.1 ≤ s.size := by rw [hY]; exact rHead_le hat dp
  have hysg : y.1.sg.length = 4 := by rw [hY]; exact rHead_sgl rfl dp
  subst hvf
  clear hdn hqn
  by_cases hys : y.2.2 = true
  · have HT : Hid (rStmtWith s (rStmts s n) p b dp z = (y.2, z.2)) := by show rStmtWith _ _ _ _ _ _ = _; unfold rStmtWith; rw [if_neg h20, ← hY, if_pos hys]
    have HYS : Hid (_ = _) := hys
    clear hys hY h20
    go_enter Tryd.func85, Tryd.ntmps85
    go_wp2_with fail
    refine hh.mono ?_
    rintro e w2 ⟨rfl, hD2, hQ2, hF2⟩
    have hD2c := hD2.cells.2.2.1
    rw [HYS.out] at hD2c
    have HDR : Hid (_ ∧ _) := HD.out.fr hF2 hD2
    clear hD2 hQ2 hF2
    go_wp2
    go_end0
    rw [HT.out]
    exact ⟨rfl, _, HDR.out.1, HDR.out.2⟩
  · have HT : Hid (rStmtWith s (rStmts s n) p b dp z = aft s (rStmts s n) z.2.length (dp + 1) (y.2, z.2 ++ [y.1]) (blocksOf y.1.kind).toNat) := by show rStmtWith _ _ _ _ _ _ = _; unfold rStmtWith; rw [if_neg h20, ← hY, if_neg hys]
    have hysf : y.2.2 = false := by simpa using hys
    have HYS : Hid (_ = _) := hysf
    obtain ⟨i0, hi, hz0, hz1, hz2⟩ := info_parts Tryd.infoDs
    have hzok : Zok s (y.2, z.2 ++ [y.1]) := ⟨hyat, by simp; omega⟩
    have hMz : Mz z = 21 - z.2.length := by unfold Mz; rw [hst]; rfl
    rw [hMz] at hm
    have hqr : w.heap.size ≠ r := by omega
    have hrowq : (Value.slice ao z.2.length cap).ownBlock ≠ some w.heap.size := fun e => by have := (HD.out.row.lt _ e).2; omega
    clear hys hysf hY
    go_enter Tryd.func85, Tryd.ntmps85
    go_wp2_with fail
    refine hh.mono ?_
    rintro e w2 ⟨rfl, hD2, hQ2, hF2⟩
    obtain ⟨r0, r1, r2, r3, rf⟩ := hD2.cells
    rw [HYS.out] at r2
    obtain ⟨c0, c1, c2, c3, c4, c5, c6, c7, c8, c9, cf⟩ := hQ2.cells
    have HDR : Hid (_ ∧ _) := HD.out.fr hF2 hD2
    have HQ2 : Hid (DsAt _ _ _) := hQ2
    have hlr2 : r < w2.heap.size := At.lt hD2
    have hlq2 : w.heap.size < w2.heap.size := At.lt hQ2
    clear hD2 hQ2 hF2
    go_wp2_with fail
    go_region_law (refine step_append_own2 rfl (.tmp 39) (.tmp 41) 51 rfl B tDs i0 _ 10 80 Tryd.underlying51 hi hz0 hz1 hz2 rfl (by decide) _ _ _ rfl ((HDR.out.1.row.alloc _).drew) ⟨w2.heap.size, 0, none⟩ 1 1 (dsCells y.1).toList rfl rfl (laidDs_lit y.1) (by intro u hu; simp [dsCells] at hu; rcases hu with rfl | rfl | rfl | rfl | rfl | rfl | rfl | rfl | rfl | rfl <;> rfl) (by unfold maxLen; show z.2.length + 1 ≤ _; omega) (by show (z.2.length + 1) * 80 ≤ _; omega) (by have := HDR.out.1.geW; simp; omega) ?_; intro v' w3 hown' hgrow hrow; have HP : Hid (_ ∧ _) := HDR.out.1.push y.1 hgrow hown' hrow; have hsame : w3.heap[r]? = w2.heap[r]? := push_same HDR.out.1 hgrow; have k1 : ∀ i, w3.cell? ⟨r, i, none⟩ = w2.cell? ⟨r, i, none⟩ := fun i => World.cell?_of_block (a := ⟨r, i, none⟩) hsame; have k2 : ∀ i, w3.frozen? ⟨r, i, none⟩ = w2.frozen? ⟨r, i, none⟩ := fun i => World.frozen?_of_block (a := ⟨r, i, none⟩) hsame; obtain ⟨g', cap', rfl⟩ := ownsRow_form hown'; clear hown' hgrow hsame hrow)
    all_goals
      have HQ4 : Hid (DsAt _ _ _) := HQ2.out.zkeep HP.out.2 hlq2 hqr hrowq
      generalize hW4 : w3.setCell ⟨r, 3, none⟩ (.slice (some ⟨g', 0, none⟩) (z.2.length + 1) cap') = W4
      have HP4 : Hid (DRep B W4 r s (y.2, z.2 ++ [y.1]) (.slice (some ⟨g', 0, none⟩) (z.2.length + 1) cap') ∧ ZFr r (.slice ao z.2.length cap) (.slice (some ⟨g', 0, none⟩) (z.2.length + 1) cap') w2 W4 ∧ DsAt W4 w.heap.size y.1) := by
        show _ ∧ _ ∧ _
        rw [← hW4]; exact ⟨HP.out.1, HP.out.2, HQ4.out⟩
      clear HP HQ4 hW4 k1 k2 r0 r1 r2 r3 rf c0 c1 c2 c3 c4 c5 c6 c7 c8 c9 cf
      go_wp2_with fail
      go_loopw [10] (fun i wr => ∃ j : Nat, j ≤ (blocksOf y.1.kind).toNat ∧ i = .int .i64 j ∧ DsAt wr w.heap.size y.1 ∧ ∃ v, DRep B wr r s (aft s (rStmts s n) z.2.length (dp + 1) (y.2, z.2 ++ [y.1]) j) v ∧ ZFr r (.slice ao z.2.length cap) v w2 wr) (fun i _ => (blocksOf y.1.kind).toNat - (intOf i).toNat)
      case atStart => exact ⟨0, Nat.zero_le _, rfl, HP4.out.2.2, _, HP4.out.1, HP4.out.2.1⟩
      case round =>
        obtain ⟨j, hj, rfl, hqj, v, hdj, hzj⟩ := hrel
        obtain ⟨c0, c1, c2, c3, c4, c5, c6, c7, c8, c9, cf⟩ := hqj.cells
        have HQJ : Hid (DsAt _ _ _) := hqj
        have HDJ : Hid (DRep _ _ _ _ _ _) := hdj
        clear hqj hdj
        have kb := fun (t : Int) (an : Bool) (g0 g1 g2 g3 n p b : Int) (w : World) => d_blocks y.1.kind t an g0 g1 g2 g3 n p b w
        have hbl := blocksOf_range y.1.kind
        generalize blocksOf y.1.kind = bl at *
        by_cases hlt : (j : Int) < bl
        · go_wp2_with fail
          refine (kb _ _ _ _ _ _ _ _ _ _).mono ?_
          rintro e w5 ⟨rfl, o, rfl⟩
          go_wp2_with fail
          have hgo := (rStmts_goes s n).aft (z.2.length : Int) (dp + 1) hzok j
          have hlen1 := hgo.len
          simp at hlen1
          have hrb := d_readBlock H hs (HDJ.out.alloc o) hgo.ok (z.2.length : Int) j (dp + 1) (by omega) (by omega) (by
            have h5 := hgo.ok.len
            have h6 : Mz (aft s (rStmts s n) z.2.length (dp + 1) (y.2, z.2 ++ [y.1]) j) ≤ 21 - (z.2.length + 1) := by unfold Mz; split <;> omega
            omega)
          refine hrb.mono ?_
          rintro e w6 ⟨rfl, v6, hd6, hz6⟩
          have HD6 : Hid (DRep _ _ _ _ _ _ ∧ ZFr _ _ _ _ _) := ⟨hd6, hz6⟩
          clear hrb hgo hlen1 hd6 hz6
          go_wp2
          go_roundw
          case rel => exact ⟨j + 1, by omega, by go_num, ((HQJ.out.alloc o).zkeep HD6.out.2 (by have := hzj.size; simp; omega) hqr (zrow hzj hrowq hlq2)), v6, HD6.out.1, (hzj.alloc o).trans HD6.out.2⟩
          case measure => simp [intOf]; omega
        · go_wp2_with fail
          refine (kb _ _ _ _ _ _ _ _ _ _).mono ?_
          rintro e w5 ⟨rfl, o, rfl⟩
          go_wp2
          go_end0
          have hje : j = bl.toNat := by omega
          rw [HT.out, ← hje]
          exact ⟨rfl, v, HDJ.out.alloc o, HDR.out.2.trans (hzj.alloc o)⟩

end Go.Proofs.YtffajooegiempaaDoor

namespace Go.Proofs.YtffajooegiempaaDoor
open Go.RowKit
variable {B : Nat} {w w' : World} {r q : Nat} {s : ByteArray} {vf : Value}

/-- How far the reading of statements can still go, off the reader's memory. -/
def mOf (r : Nat) (w : World) : Nat :=
  match w.cell? ⟨r, 2, none⟩, w.cell? ⟨r, 3, none⟩ with
  | some (.bool b), some (.slice _ n _) => if b then 0 else 21 - n
  | _, _ => 0
theorem mOf_eq {z : Zt} (h : DRep B w r s z vf) : mOf r w = Mz z := by
  obtain ⟨ao, cap, rfl⟩ := h.vlen
  obtain ⟨r0, r1, r2, r3, rf⟩ := h.dat.cells
  unfold mOf Mz
  rw [r2, r3]
theorem DRep.drewN {z : Zt} (h : DRep B w r s z vf) (k : Nat) : DRep B (w.drewN k) r s z vf := ⟨h.dat, h.row, h.geR, h.geW⟩
theorem ZFr.drewN {v v' : Value} (h : ZFr r v v' w w') (k : Nat) : ZFr r v v' w (w'.drewN k) := ⟨h.os, h.tape, h.output, h.size, h.block, h.row⟩

set_option maxRecDepth 100000 in
set_option maxHeartbeats 1600000 in
theorem d_readStatements (hs : s.size ≤ 160) (n : Nat) : SP s n := by
  induction n using Nat.strongRecOn with
  | ind n ih =>
    intro B r vf w z p b dp h hz h0 h1 hm
    have HI : Hid (∀ m, m < n → SP s m) := ih
    have hp := d_peek h.dat hs (by have := hz.at_; omega)
    have HD : Hid (DRep _ _ _ _ _ _) := h
    clear ih h
    go_enter Tryd.func55, Tryd.ntmps55
    go_wp2_with fail
    refine hp.mono ?_
    rintro e w1 ⟨rfl, k, rfl⟩
    clear hp
    go_wp2_with fail
    go_loopw [8] (fun c wr => ∃ (z' : Zt) (m : Nat) (v : Value), m ≤ n ∧ Mz z' < m ∧ rStmts s n p b dp z = rStmts s m p b dp z' ∧ c = .int .u8 (pk s z'.1) ∧ Zok s z' ∧ dp ≤ z'.2.length ∧ DRep B wr r s z' v ∧ ZFr r vf v w wr) (fun _ wr => mOf r wr)
    case atStart => exact ⟨z, n, vf, Nat.le_refl _, hm, rfl, rfl, hz, h1, HD.out.drewN k, (ZFr.refl r vf w).drewN k⟩
    case round =>
      obtain ⟨z', m, v, hmn, hmz, he, rfl, hzk, hdp, hd, hzf⟩ := hrel
      have HE : Hid (_ = _) := he
      have HDJ : Hid (DRep _ _ _ _ _ _) := hd
      have hmo := mOf_eq hd
      have HMO : Hid (_ = _) := hmo
      clear he hd hmo
      obtain ⟨m', rfl⟩ : ∃ m', m = m' + 1 := ⟨m - 1, by omega⟩
      obtain ⟨p0, p1⟩ := pk_range s z'.1
      by_cases hc0 : pk s z'.1 = 0
      · have HX : Hid (rStmts s n p b dp z = z') := HE.out.trans (by unfold rStmts; rw [if_pos (.inl hc0)])
        rw [hc0]
        clear hc0
        go_wp2_with fail
        go_end0
        rw [HX.out]
        exact ⟨rfl, v, HDJ.out, hzf⟩
      have b0 : (pk s z'.1 != 0) = true := by rw [bne_iff_ne]; exact hc0
      by_cases hc1 : pk s z'.1 = 125
      · have HX : Hid (rStmts s n p b dp z = z') := HE.out.trans (by unfold rStmts; rw [if_pos (.inr hc1)])
        rw [hc1]
        clear hc0 hc1 b0
        go_wp2_with fail
        go_end0
        rw [HX.out]
        exact ⟨rfl, v, HDJ.out, hzf⟩
      · have b1 : (pk s z'.1 != 125) = true := by rw [bne_iff_ne]; exact hc1
        have HX : Hid (rStmts s n p b dp z = rStmts s m' p b dp (rStmtWith s (rStmts s m') p b dp z')) := HE.out.trans (by rw [rStmts, if_neg (fun e => e.elim hc0 hc1)])
        have hns : z'.1.2 = false := (pk_lt rfl hc0).2
        have hg := (rStmts_goes s m').stmt p b dp hzk
        have hMd := Mz_stmt (rStmts s m') (rStmts_goes s m') p b dp hzk hns
        have hst := d_readStatement (HI.out m' (by omega)) hs HDJ.out hzk hns p b dp h0 hdp (by omega)
        obtain ⟨z2, hZ2⟩ : ∃ z2, z2 = rStmtWith s (rStmts s m') p b dp z' := ⟨_, rfl⟩
        rw [← hZ2] at hst hg hMd HX
        have hz2a := hg.ok.at_
        have hz2l := hg.len
        have HN : Hid (_ = _) := hns
        clear hZ2 hc0 hc1 hns
        generalize pk s z'.1 = c at *
        go_wp2_with fail
        refine hst.mono ?_
        rintro e w2 ⟨rfl, v2, hd2, hz2⟩
        have HD2 : Hid (DRep _ _ _ _ _ _ ∧ ZFr _ _ _ _ _) := ⟨hd2, hz2⟩
        clear hst hd2 hz2
        go_wp2_with fail
        refine (d_peek HD2.out.1.dat hs (by omega)).mono ?_
        rintro e w3 ⟨rfl, k3, rfl⟩
        go_wp2
        go_roundw
        case rel => exact ⟨z2, m', v2, by omega, by omega, HX.out, rfl, hg.ok, by omega, HD2.out.1.drewN k3, (hzf.trans HD2.out.2).drewN k3⟩
        case measure =>
          have e1 := mOf_eq (HD2.out.1.drewN k3)
          rw [e1, HMO.out]
          exact hMd

end Go.Proofs.YtffajooegiempaaDoor

namespace Go.Proofs.YtffajooegiempaaDoor
open Go.RowKit
variable {w w' : World} {s : ByteArray}

/-- What is read of a text. -/
def readZ (s : ByteArray) : Zt := rStmts s 22 (-1) 0 0 ((0, false), [])
def readGood (s : ByteArray) : Bool := !(readZ s).1.2 && decide (s.size ≤ (readZ s).1.1)

def DReadPost (w : World) (s : ByteArray) : Ending → World → Prop := fun e w' => Below w.heap.size w w' ∧
  ((160 < s.size ∧ e = .returned (.tuple #[.agg #[.slice none 0 0], .int .i64 1, .int .i64 0])) ∨
   (s.size ≤ 160 ∧ readGood s = false ∧ e = .returned (.tuple #[.agg #[.slice none 0 0], .int .i64 1, .int .i64 (readZ s).1.1])) ∨
   (s.size ≤ 160 ∧ readGood s = true ∧ ∃ v, e = .returned (.tuple #[.agg #[v], .int .i64 0, .int .i64 0]) ∧ w'.ownsRow w.heap.size tDs 10 v (readZ s).2.length (flat (readZ s).2)))

theorem drep_init (s : ByteArray) (w : World) (o : Obj) : DRep w.heap.size ((w.alloc o).alloc (.cells #[.string s, .int .i64 0, .bool false, .slice none 0 0] tD)) (w.heap.size + 1) s ((0, false), []) (.slice none 0 0) where
  dat := by
    show ((w.heap.push _).push _)[w.heap.size + 1]? = _
    rw [Array.getElem?_push, if_pos (by simp)]; rfl
  row := World.ownsRow_nil _ _ _ _
  geR := by omega
  geW := by simp; omega

theorem readZ_row {z : Zt} {w2 : World} {r B : Nat} {v : Value} {u : Value} (h : DRep B w2 r s z v) (hn : v.ownBlock ≠ some w.heap.size) : (w2.setCell ⟨w.heap.size, 0, none⟩ u).ownsRow B tDs 10 v z.2.length (flat z.2) :=
  ownsRow_setCell_other h.row hn _
theorem prog_cell (w : World) (o o' : Obj) : ((w.alloc o).alloc o').heap[w.heap.size]? = some o := by
  show ((w.heap.push _).push _)[w.heap.size]? = _
  rw [Array.getElem?_push, if_neg (by simp), Array.getElem?_push, if_pos rfl]

set_option maxRecDepth 100000 in
set_option maxHeartbeats 1600000 in
theorem d_read (s : ByteArray) (w : World) (hm : s.size ≤ maxLen) :
    Calls Tryd.prog 34 #[.string s] w (DReadPost w s) := by
  unfold maxLen at hm
  by_cases h : 160 < s.size
  · go_enter Tryd.func34, Tryd.ntmps34
    go_wp2_with fail
    exact bodyPost_ret (v := .tuple #[.agg #[.slice none 0 0], .int .i64 1, .int .i64 0]) (by simp [results, Tryd.results34, go_sem]) rfl ⟨(Below.refl _ _).alloc (Nat.le_refl _) _, .inl ⟨h, rfl⟩⟩
  · have hsz : s.size ≤ 160 := by omega
    have b160 : decide ((160 : Int) < (s.size : Int)) = false := decide_eq_false (by omega)
    have HI : Hid (DRep _ _ _ _ _ _) := drep_init s w (.cells #[.slice none 0 0] 53)
    have hst := d_readStatements hsz 22 _ _ _ _ _ (-1) 0 0 HI.out ⟨Nat.zero_le _, Nat.zero_le _⟩ (Int.le_refl _) (Int.le_refl _) (by decide)
    have hgo := (rStmts_goes s 22 (-1) 0 0 ((0, false), []) ⟨Nat.zero_le _, Nat.zero_le _⟩).ok.at_
    have HG : Hid (readGood s = (!(readZ s).1.2 && decide (s.size ≤ (readZ s).1.1))) := rfl
    obtain ⟨z, hZ⟩ : ∃ z, z = readZ s := ⟨_, rfl⟩
    rw [show rStmts s 22 (-1) 0 0 ((0, false), []) = z from hZ.symm] at hst hgo
    have HZ : Hid (z = readZ s) := hZ
    clear hZ
    obtain ⟨⟨za, zb⟩, zf⟩ := z
    simp only at hgo
    cases zb
    · by_cases hl : za < s.size
      · have hGood : readGood s = false := by rw [HG.out, ← HZ.out]; simp; omega
        have HGD : Hid (_ = _) := hGood
        have bl : decide ((za : Int) < (s.size : Int)) = true := decide_eq_true (by omega)
        clear hGood
        go_enter Tryd.func34, Tryd.ntmps34
        go_wp2_with fail
        refine hst.mono ?_
        rintro e w2 ⟨rfl, v, hd, hzf⟩
        obtain ⟨r0, r1, r2, r3, rf⟩ := hd.dat.cells
        have hb2 : Below w.heap.size w w2 := (((Below.refl _ _).alloc (Nat.le_refl _) _).alloc (by simp) _).trans (hzf.below HI.out)
        have hp0 : w2.heap[w.heap.size]? = some (.cells #[.slice none 0 0] 53) := (hzf.block w.heap.size (by simp; omega) (by omega) (by simp [Value.ownBlock])).trans (prog_cell w _ _)
        have p1 : w2.cell? ⟨w.heap.size, 0, none⟩ = some (.slice none 0 0) := by simp [World.cell?, hp0]
        have p2 : w2.frozen? ⟨w.heap.size, 0, none⟩ = false := by simp [World.frozen?, hp0]
        have HDF : Hid (DRep _ _ _ _ _ _) := hd
        have HB2 : Hid (Below _ _ _) := hb2
        have hnv : Hid (v.ownBlock ≠ some w.heap.size) := ownsRow_not hd.row (show At w2 w.heap.size _ _ from hp0) (by decide)
        obtain ⟨ao, cap, hv⟩ := hd.vlen
        subst hv
        clear hd hzf hp0 hb2
        go_wp2_with fail
        go_region
        all_goals
          go_wp2
          exact bodyPost_ret (v := .tuple #[.agg #[.slice none 0 0], .int .i64 1, .int .i64 za]) (by simp [results, Tryd.results34, go_sem, p1]) rfl ⟨Below.setCell (Below.drew HB2.out) (Nat.le_refl _) _, .inr (.inl ⟨hsz, HGD.out, by rw [← HZ.out]⟩)⟩
      · have hGood : readGood s = true := by rw [HG.out, ← HZ.out]; simp; omega
        have HGD : Hid (_ = _) := hGood
        have bl : decide ((za : Int) < (s.size : Int)) = false := decide_eq_false (by omega)
        clear hGood
        go_enter Tryd.func34, Tryd.ntmps34
        go_wp2_with fail
        refine hst.mono ?_
        rintro e w2 ⟨rfl, v, hd, hzf⟩
        obtain ⟨r0, r1, r2, r3, rf⟩ := hd.dat.cells
        have hb2 : Below w.heap.size w w2 := (((Below.refl _ _).alloc (Nat.le_refl _) _).alloc (by simp) _).trans (hzf.below HI.out)
        have hp0 : w2.heap[w.heap.size]? = some (.cells #[.slice none 0 0] 53) := (hzf.block w.heap.size (by simp; omega) (by omega) (by simp [Value.ownBlock])).trans (prog_cell w _ _)
        have p1 : w2.cell? ⟨w.heap.size, 0, none⟩ = some (.slice none 0 0) := by simp [World.cell?, hp0]
        have p2 : w2.frozen? ⟨w.heap.size, 0, none⟩ = false := by simp [World.frozen?, hp0]
        have HDF : Hid (DRep _ _ _ _ _ _) := hd
        have HB2 : Hid (Below _ _ _) := hb2
        have hnv : Hid (v.ownBlock ≠ some w.heap.size) := ownsRow_not hd.row (show At w2 w.heap.size _ _ from hp0) (by decide)
        obtain ⟨ao, cap, hv⟩ := hd.vlen
        subst hv
        clear hd hzf hp0 hb2
        go_wp2_with fail
        exact bodyPost_ret (v := .tuple #[.agg #[.slice ao zf.length cap], .int .i64 0, .int .i64 0]) (by simp [results, Tryd.results34, go_sem, p1]) rfl ⟨Below.setCell HB2.out (Nat.le_refl _) _, .inr (.inr ⟨hsz, HGD.out, _, rfl, by rw [← HZ.out]; exact readZ_row HDF.out hnv.out⟩)⟩
    · have hGood : readGood s = false := by rw [HG.out, ← HZ.out]; rfl
      have HGD : Hid (_ = _) := hGood
      clear hGood
      go_enter Tryd.func34, Tryd.ntmps34
      go_wp2_with fail
      refine hst.mono ?_
      rintro e w2 ⟨rfl, v, hd, hzf⟩
      obtain ⟨r0, r1, r2, r3, rf⟩ := hd.dat.cells
      have hb2 : Below w.heap.size w w2 := (((Below.refl _ _).alloc (Nat.le_refl _) _).alloc (by simp) _).trans (hzf.below HI.out)
      have hp0 : w2.heap[w.heap.size]? = some (.cells #[.slice none 0 0] 53) := (hzf.block w.heap.size (by simp; omega) (by omega) (by simp [Value.ownBlock])).trans (prog_cell w _ _)
      have p1 : w2.cell? ⟨w.heap.size, 0, none⟩ = some (.slice none 0 0) := by simp [World.cell?, hp0]
      have p2 : w2.frozen? ⟨w.heap.size, 0, none⟩ = false := by simp [World.frozen?, hp0]
      have HDF : Hid (DRep _ _ _ _ _ _) := hd
      have HB2 : Hid (Below _ _ _) := hb2
      have hnv : Hid (v.ownBlock ≠ some w.heap.size) := ownsRow_not hd.row (show At w2 w.heap.size _ _ from hp0) (by decide)
      obtain ⟨ao, cap, hv⟩ := hd.vlen
      subst hv
      clear hd hzf hp0 hb2
      go_wp2_with fail
      go_region
      all_goals
        go_wp2
        exact bodyPost_ret (v := .tuple #[.agg #[.slice none 0 0], .int .i64 1, .int .i64 za]) (by simp [results, Tryd.results34, go_sem, p1]) rfl ⟨Below.setCell (Below.drew HB2.out) (Nat.le_refl _) _, .inr (.inl ⟨hsz, HGD.out, by rw [← HZ.out]⟩)⟩

end Go.Proofs.YtffajooegiempaaDoor

namespace Go.Proofs.YtffajooegiempaaDoor

def scanD (s : ByteArray) : Int × Int × Int :=
  if 160 < s.size then (0, 1, 0) else if readGood s = true then (((readZ s).2.length : Int) + 1, 0, 0) else (0, 1, (readZ s).1.1)

end Go.Proofs.YtffajooegiempaaDoor

/- The program's ways, plain. -/
namespace Go.Proofs.YtffajooegiempaaDoor

/-- The first statement of a block from a point on. -/
def firstGo (p b fr : Int) : List Ds → Nat → Int
  | [], _ => -1
  | x :: l, i => if fr ≤ i ∧ x.parent = p ∧ x.block = b then (i : Int) else firstGo p b fr l (i + 1)
def firstP (F : List Ds) (p b fr : Int) : Int := firstGo p b fr F 0
def isRepP (F : List Ds) (p : Int) : Bool := decide (0 ≤ p) && decide (p < F.length) && decide ((F.getD p.toNat (newDs 0 0)).kind = 3)
def followP (F : List Ds) : Nat → Int → Int
  | 0, _ => F.length
  | n + 1, pt => if pt < 0 ∨ (F.length : Int) ≤ pt then F.length else
    if firstP F (F.getD pt.toNat (newDs 0 0)).parent (F.getD pt.toNat (newDs 0 0)).block (pt + 1) ≠ -1 then firstP F (F.getD pt.toNat (newDs 0 0)).parent (F.getD pt.toNat (newDs 0 0)).block (pt + 1)
    else if isRepP F (F.getD pt.toNat (newDs 0 0)).parent = true then (F.getD pt.toNat (newDs 0 0)).parent
    else followP F n (F.getD pt.toNat (newDs 0 0)).parent

def waysP (k : Int) : Int := if k = 2 ∨ k = 3 then 2 else 1
/-- Where a way leads, and the error. -/
def nextP (F : List Ds) (pt way : Int) : Int × Int :=
  if pt < 0 ∨ (F.length : Int) ≤ pt then (0, 2)
  else if way < 0 ∨ waysP (F.getD pt.toNat (newDs 0 0)).kind ≤ way then (0, 2)
  else if blocksOf (F.getD pt.toNat (newDs 0 0)).kind ≤ way then (followP F 21 pt, 0)
  else if firstP F pt way (pt + 1) ≠ -1 then (firstP F pt way (pt + 1), 0)
  else if (F.getD pt.toNat (newDs 0 0)).kind = 3 then (pt, 0)
  else (followP F 21 pt, 0)

theorem firstGo_drop {p b fr : Int} {F : List Ds} {k : Nat} (hk : k < F.length) : firstGo p b fr (F.drop k) k = if fr ≤ k ∧ (F.getD k (newDs 0 0)).parent = p ∧ (F.getD k (newDs 0 0)).block = b then (k : Int) else firstGo p b fr (F.drop (k + 1)) (k + 1) := by
  have e : F.drop k = F.getD k (newDs 0 0) :: F.drop (k + 1) := by
    rw [List.drop_eq_getElem_cons hk, List.getD_eq_getElem?_getD, List.getElem?_eq_getElem hk]; rfl
  rw [e, firstGo]

end Go.Proofs.YtffajooegiempaaDoor

namespace Go.Proofs.YtffajooegiempaaDoor
open Go.RowKit
variable {w w' : World} {g cap b : Nat} {F : List Ds}

/-- A statement as a value. -/
def dsv (x : Ds) : Value := .agg #[.int .i64 x.kind, .int .i64 x.target, .bool x.any, .int .i64 (sgAt x.sg 0), .int .i64 (sgAt x.sg 1), .int .i64 (sgAt x.sg 2), .int .i64 (sgAt x.sg 3), .int .i64 x.num, .int .i64 x.parent, .int .i64 x.block]
theorem ds_loadVar {x : Ds} (h : At w b (dsCells x) tDs) : (loadVar tDs ⟨b, 0, none⟩).run Tryd.prog w = .ok (dsv x) w :=
  run_loadVar_row w b tDs tDs (dsCells x) (0, 0) _ h Tryd.underlying58 rfl (by kernel_rfl)
theorem results_dc {fn : Func} {t u : Tmp} {x : Ds} (h : fn.results = #[.cell t tDs, .tmp u]) (tmps : Array Value) (hp : tmps.getD t undef = .pointer (some ⟨b, 0, none⟩)) (hat : At w b (dsCells x) tDs) :
    (results fn tmps).run Tryd.prog w = .ok (.tuple #[dsv x, tmps.getD u undef]) w := by
  have hp' : tmps[t]?.getD undef = .pointer (some ⟨b, 0, none⟩) := by simpa using hp
  simp [results, h, hp', asAddr, ds_loadVar hat]

/-- The statements of a program, as they lie in memory. -/
def PRow (w : World) (g : Nat) (F : List Ds) : Prop := g < w.heap.size ∧ ∀ j x, F[j]? = some x → w.cell? ⟨g, j * 10, none⟩ = some (.int .i64 x.kind) ∧ w.cell? ⟨g, j * 10 + 1, none⟩ = some (.int .i64 x.target) ∧ w.cell? ⟨g, j * 10 + 2, none⟩ = some (.bool x.any) ∧
  w.cell? ⟨g, j * 10 + 3, none⟩ = some (.int .i64 (sgAt x.sg 0)) ∧ w.cell? ⟨g, j * 10 + 4, none⟩ = some (.int .i64 (sgAt x.sg 1)) ∧ w.cell? ⟨g, j * 10 + 5, none⟩ = some (.int .i64 (sgAt x.sg 2)) ∧ w.cell? ⟨g, j * 10 + 6, none⟩ = some (.int .i64 (sgAt x.sg 3)) ∧
  w.cell? ⟨g, j * 10 + 7, none⟩ = some (.int .i64 x.num) ∧ w.cell? ⟨g, j * 10 + 8, none⟩ = some (.int .i64 x.parent) ∧ w.cell? ⟨g, j * 10 + 9, none⟩ = some (.int .i64 x.block)
theorem PRow.keep (h : PRow w g F) (hb : Below w.heap.size w w') : PRow w' g F := by
  refine ⟨Nat.lt_of_lt_of_le h.1 hb.size, fun j x hx => ?_⟩
  have hc : ∀ o, w'.cell? ⟨g, o, none⟩ = w.cell? ⟨g, o, none⟩ := fun o => hb.cell (p := ⟨g, o, none⟩) h.1
  simp only [hc]
  exact h.2 j x hx
theorem gets' {j : Nat} (hj : j < F.length) : F[j]? = some (F.getD j (newDs 0 0)) := by rw [List.getD_eq_getElem?_getD, List.getElem?_eq_getElem hj]; rfl

set_option maxRecDepth 100000 in
set_option maxHeartbeats 800000 in
theorem d_ways (k t : Int) (an : Bool) (g0 g1 g2 g3 n p b : Int) (w : World) :
    Calls Tryd.prog 56 #[.agg #[.int .i64 k, .int .i64 t, .bool an, .int .i64 g0, .int .i64 g1, .int .i64 g2, .int .i64 g3, .int .i64 n, .int .i64 p, .int .i64 b]] w fun e w' => e = .returned (.int .i64 (waysP k)) ∧ ∃ o, w' = w.alloc o := by
  unfold waysP
  by_cases h2 : k = 2
  · subst h2
    go_enter Tryd.func56, Tryd.ntmps56
    go_wp2
    go_ret
    exact ⟨rfl, _, rfl⟩
  · have b2 : (k == 2) = false := by simpa using h2
    by_cases h3 : k = 3
    · subst h3
      clear h2 b2
      go_enter Tryd.func56, Tryd.ntmps56
      go_wp2
      go_ret
      exact ⟨rfl, _, rfl⟩
    · have b3 : (k == 3) = false := by simpa using h3
      rw [if_neg (fun e => e.elim h2 h3)]
      clear h2 h3
      go_enter Tryd.func56, Tryd.ntmps56
      go_wp2
      go_ret
      exact ⟨rfl, _, rfl⟩

/-- No statement. -/
def zDs : Ds := newDs 0 0
set_option maxRecDepth 100000 in
set_option maxHeartbeats 1600000 in
theorem d_at_in (h : PRow w g F) (k : Nat) (hk : k < F.length) :
    Calls Tryd.prog 39 #[.agg #[.slice (some ⟨g, 0, none⟩) F.length cap], .int .i64 (k : Int)] w fun e w' => e = .returned (.tuple #[dsv (F.getD k (newDs 0 0)), .int .i64 0]) ∧ Below w.heap.size w w' := by
  have hg := h.1
  have hki : (k : Int) < (F.length : Int) := by omega
  have hge : ¬ (F.length : Int) ≤ (k : Int) := by omega
  obtain ⟨c0, c1, c2, c3, c4, c5, c6, c7, c8, c9⟩ := h.2 k _ (gets' hk)
  have HB : Hid (∀ o1 o2, Below w.heap.size w ((w.alloc o1).alloc o2)) := fun o1 o2 => ((Below.refl _ _).alloc (Nat.le_refl _) _).alloc (by simp) _
  generalize F.getD k (newDs 0 0) = x at *
  clear h
  go_enter Tryd.func39, Tryd.ntmps39
  go_wp2_with fail
  try simp only [Exit.inBlock, Exit.then]
  refine bodyPost_ret (results_dc (b := w.heap.size + 1) (x := x) rfl _ rfl ?_) rfl ?_
  · have := At.new (w.alloc (.cells #[.slice (some ⟨g, 0, none⟩) F.length cap] 53)) (dsCells x) tDs
    rw [show (w.alloc (.cells #[.slice (some ⟨g, 0, none⟩) F.length cap] 53)).heap.size = w.heap.size + 1 by simp] at this
    exact this
  · exact ⟨rfl, HB.out _ _⟩
set_option maxRecDepth 100000 in
set_option maxHeartbeats 1600000 in
theorem d_at_out (ao : Option Addr) (n : Nat) (_hn : n ≤ 20) (p : Int) (hp : p < 0 ∨ (n : Int) ≤ p) :
    Calls Tryd.prog 39 #[.agg #[.slice ao n cap], .int .i64 p] w fun e w' => e = .returned (.tuple #[dsv zDs, .int .i64 2]) ∧ Below w.heap.size w w' := by
  have HB : Hid (∀ o1 o2, Below w.heap.size w ((w.alloc o1).alloc o2)) := fun o1 o2 => ((Below.refl _ _).alloc (Nat.le_refl _) _).alloc (by simp) _
  by_cases h0 : p < 0
  · clear hp
    go_enter Tryd.func39, Tryd.ntmps39
    go_wp2_with fail
    try simp only [Exit.inBlock, Exit.then]
    refine bodyPost_ret (results_dc (b := w.heap.size + 1) (x := zDs) rfl _ rfl ?_) rfl ?_
    · have := At.new (w.alloc (.cells #[.slice ao n cap] 53)) (dsCells zDs) tDs
      rw [show (w.alloc (.cells #[.slice ao n cap] 53)).heap.size = w.heap.size + 1 by simp] at this
      exact this
    · exact ⟨rfl, HB.out _ _⟩
  · have h1 : (n : Int) ≤ p := hp.elim (fun e => absurd e h0) id
    clear hp
    go_enter Tryd.func39, Tryd.ntmps39
    go_wp2_with fail
    try simp only [Exit.inBlock, Exit.then]
    refine bodyPost_ret (results_dc (b := w.heap.size + 1) (x := zDs) rfl _ rfl ?_) rfl ?_
    · have := At.new (w.alloc (.cells #[.slice ao n cap] 53)) (dsCells zDs) tDs
      rw [show (w.alloc (.cells #[.slice ao n cap] 53)).heap.size = w.heap.size + 1 by simp] at this
      exact this
    · exact ⟨rfl, HB.out _ _⟩

end Go.Proofs.YtffajooegiempaaDoor

namespace Go.Proofs.YtffajooegiempaaDoor
open Go.RowKit
variable {w : World} {e0 : Bool} {M : Nat → Int} {b : Nat}

theorem wpList_load_ow {ops : Array Oper} {rest : List Oper} {o : Oper} {a : Act} {Q : Exit → Act → World → Prop} (hw : Region.wanted o (yielded ops a.tmps) = true) (p : Operand) (hop : o.op = Op.load tO p) (hp : a.eval p = .pointer (some ⟨b, 0, none⟩)) (hat : OAt w b e0 M)
    (hK : wpList Tryd.prog ops Q rest (a.put o.dst (.agg (oc e0 M))) w) : wpList Tryd.prog ops Q (o :: rest) a w := by
  refine wpList_step fun K hK' => ?_
  rw [if_pos hw]
  unfold Oper.wp
  simp [execOp, hop, hp, o_loadAt hat, Result.andThen]
  exact hK' _ _ hK
theorem step_load_ow {ops : Array Oper} {o : Oper} {a : Act} {K : Act → World → Prop} {Q : Exit → Act → World → Prop} {E : Prop} (hw : Region.wanted o (yielded ops a.tmps) = true) (p : Operand) (hop : o.op = Op.load tO p) (hp : a.eval p = .pointer (some ⟨b, 0, none⟩)) (hat : OAt w b e0 M)
    (hK : K (a.put o.dst (.agg (oc e0 M))) w) : if Region.wanted o (yielded ops a.tmps) = true then Oper.wp Tryd.prog o a w K Q else E := by
  rw [if_pos hw]
  unfold Oper.wp
  simp [execOp, hop, hp, o_loadAt hat, Result.andThen]
  exact hK
theorem mo_rng (hS : Sm M) {i j : Nat} (hi : i < 8) (hj : j < 8) : -200000000000000000 ≤ mo M i j ∧ mo M i j ≤ 1000000000000 := by
  have := hS (i * 8 + j) (by omega)
  have t := tdiv2_le (M (i * 8 + j))
  unfold mo
  split <;> omega
/-- The greatest of a sum, as the program tells it. -/
def grP (M : Nat → Int) (l : List Int) : Int := mo M (sd1 l) (sd2 l)
theorem grP_rng (hS : Sm M) (l : List Int) : -200000000000000000 ≤ grP M l ∧ grP M l ≤ 1000000000000 := mo_rng hS (sdS_lt l 4 (Nat.le_refl _)).1 (sdS_lt l 4 (Nat.le_refl _)).2
def ftB (M : Nat → Int) (l : List Int) (n : Int) : Bool := decide (grP M l ≠ NB ∧ grP M (ngL l) ≠ NB ∧ grP M l + n ≤ 999 ∧ grP M (ngL l) - n ≤ 999)
theorem ret_b' {a b : Bool} (h : a = b) : Ending.returned (.bool b) = .returned (.bool a) := by rw [h]
/-- A statement keeps to what it may. -/
structure DsG (x : Ds) : Prop where
  sg : ∀ i, -1 ≤ gAt x.sg i ∧ gAt x.sg i ≤ 1
  num : -99 ≤ x.num ∧ x.num ≤ 99
theorem ngL_rng {l : List Int} (h : ∀ i, -1 ≤ gAt l i ∧ gAt l i ≤ 1) : ∀ i, -1 ≤ gAt (ngL l) i ∧ gAt (ngL l) i ≤ 1 := by
  intro i
  rcases (show i = 0 ∨ i = 1 ∨ i = 2 ∨ i = 3 ∨ 4 ≤ i by omega) with rfl | rfl | rfl | rfl | h4
  · have := h 0; show -1 ≤ -gAt l 0 ∧ -gAt l 0 ≤ 1; omega
  · have := h 1; show -1 ≤ -gAt l 1 ∧ -gAt l 1 ≤ 1; omega
  · have := h 2; show -1 ≤ -gAt l 2 ∧ -gAt l 2 ≤ 1; omega
  · have := h 3; show -1 ≤ -gAt l 3 ∧ -gAt l 3 ≤ 1; omega
  · have : gAt (ngL l) i = 0 := by unfold gAt ngL; rw [List.getD_eq_getElem?_getD, List.getElem?_eq_none (by simp; omega)]; rfl
    omega

set_option maxRecDepth 100000 in
set_option maxHeartbeats 3200000 in
theorem e_fits (x : Ds) (hx : DsG x) (hS : Sm M) :
    Calls Tryd.prog 63 #[dsv x, .agg (oc e0 M)] w fun e w' => e = .returned (.bool (ftB M x.sg x.num)) ∧ Below w.heap.size w w' := by
  have HGr : Hid (∀ w1, Calls Tryd.prog 64 #[.agg (oc e0 M), v4 x.sg] w1 fun e w' => e = .returned (.int .i64 (grP M x.sg)) ∧ Below w1.heap.size w1 w') := fun w1 => o_greatest x.sg hx.sg hS
  have HGr2 : Hid (∀ w1, Calls Tryd.prog 64 #[.agg (oc e0 M), v4 (ngL x.sg)] w1 fun e w' => e = .returned (.int .i64 (grP M (ngL x.sg))) ∧ Below w1.heap.size w1 w') := fun w1 => o_greatest (ngL x.sg) (ngL_rng hx.sg) hS
  have HTu : Hid (∀ w1, Calls Tryd.prog 59 #[v4 x.sg] w1 fun e w' => e = .returned (v4 (ngL x.sg)) ∧ Below w1.heap.size w1 w') := fun w1 => e_turned x.sg hx.sg
  have HF : Hid (ftB M x.sg x.num = decide (grP M x.sg ≠ NB ∧ grP M (ngL x.sg) ≠ NB ∧ grP M x.sg + x.num ≤ 999 ∧ grP M (ngL x.sg) - x.num ≤ 999)) := rfl
  obtain ⟨r1, r2⟩ := grP_rng hS x.sg
  obtain ⟨r3, r4⟩ := grP_rng hS (ngL x.sg)
  obtain ⟨n1, n2⟩ := hx.num
  obtain ⟨w0, hw0⟩ : ∃ w0, w0 = (w.alloc (.cells (dsCells x) tDs)).alloc (.cells (oc e0 M) tO) := ⟨_, rfl⟩
  have H0 : Hid (At w0 w.heap.size (dsCells x) tDs ∧ OAt w0 (w.heap.size + 1) e0 M ∧ Below w.heap.size w w0 ∧ w0.heap.size = w.heap.size + 2) := by
    refine ⟨by rw [hw0]; exact At.allocH (At.new _ _ _) _, ?_, by rw [hw0]; exact ((Below.refl _ _).alloc (Nat.le_refl _) _).alloc (by simp) _, by rw [hw0]; simp⟩
    have := At.new (w.alloc (.cells (dsCells x) tDs)) (oc e0 M) tO
    rw [show (w.alloc (.cells (dsCells x) tDs)).heap.size = w.heap.size + 1 by simp] at this
    rw [hw0]; exact this
  generalize hn : x.num = n at *
  generalize grP M x.sg = hi at *
  generalize grP M (ngL x.sg) = lo at *
  obtain ⟨BW, hBW⟩ : ∃ BW : World → Prop, BW = fun w' => Below w0.heap.size w0 w' := ⟨_, rfl⟩
  have hg1 : Calls Tryd.prog 64 #[.agg (oc e0 M), v4 x.sg] w0 fun e w' => e = .returned (.int .i64 hi) ∧ BW w' := by rw [hBW]; exact HGr.out w0
  have HA := H0.out.2.1
  rw [hw0] at hg1 HA
  clear hS hx HGr
  unfold dsCells at hg1 HA
  unfold v4 at hg1
  unfold dsv
  rw [hn] at hg1 HA ⊢
  go_enter Tryd.func63, Tryd.ntmps63
  go_wp2_with (refine wpList_load_o rfl (.tmp 3) rfl rfl HA ?_)
  refine hg1.mono ?_
  rintro e w1 ⟨rfl, hb1⟩
  rw [hBW] at hb1
  have H1 : Hid (At w1 w.heap.size (dsCells x) tDs ∧ OAt w1 (w.heap.size + 1) e0 M ∧ Below w.heap.size w w1) := by
    have s0 := H0.out.2.2.2
    exact ⟨At.keep H0.out.1 hb1 (by omega), At.keep H0.out.2.1 hb1 (by omega), H0.out.2.2.1.trans (hb1.mono H0.out.2.2.1.size)⟩
  clear hb1 hg1 HA hBW hw0 H0
  have HEo : Hid (∀ b : Bool, decide (hi ≠ NB ∧ lo ≠ NB ∧ hi + n ≤ 999 ∧ lo - n ≤ 999) = b → ftB M x.sg n = b) := fun b h => HF.out.trans h
  by_cases q1 : hi = NB
  · have HE : Hid (ftB M x.sg n = false) := HEo.out false (decide_eq_false (fun z => z.1 q1))
    have b1 : (hi == 1000000) = true := by rw [q1]; rfl
    clear HF HEo q1
    go_wp2_with fail
    refine wp_region_any (by kernel_rfl) ?_
    change wpAny _ _ _ _ _ _ _ (World.drew _)
    have H2 : Hid (At w1.drew w.heap.size (dsCells x) tDs ∧ OAt w1.drew (w.heap.size + 1) e0 M ∧ Below w.heap.size w w1.drew) := ⟨H1.out.1, H1.out.2.1, H1.out.2.2.drew⟩
    generalize w1.drew = w2 at *
    have d3 : w2.cell? ⟨w.heap.size, 3, none⟩ = some (.int .i64 (gAt x.sg 0)) := H2.out.1.cell 3
    have d4 : w2.cell? ⟨w.heap.size, 4, none⟩ = some (.int .i64 (gAt x.sg 1)) := H2.out.1.cell 4
    have d5 : w2.cell? ⟨w.heap.size, 5, none⟩ = some (.int .i64 (gAt x.sg 2)) := H2.out.1.cell 5
    have d6 : w2.cell? ⟨w.heap.size, 6, none⟩ = some (.int .i64 (gAt x.sg 3)) := H2.out.1.cell 6
    have hl2 : w.heap.size < w2.heap.size := H2.out.1.lt
    refine wpAny_take (i := 1) (v := .pointer (some ⟨w.heap.size, 3, none⟩)) rfl (by kernel_rfl) (by kernel_rfl) (by kernel_rfl) (fun _ _ _ h => h) (Or.inl ⟨by rfl, by intro w; go_simp⟩) ?_
    refine wpAny_ready (rs := [0, 2]) (by kernel_rfl) (by simp) ?_
    refine AllReady.cons rfl (fun K hK => ?_) (AllReady.cons rfl (fun K hK => ?_) AllReady.nil)
    · refine step_load_o rfl (.tmp 3) rfl rfl H2.out.2.1 ?_
      refine hK _ _ ?_
      clear hK K
      refine wpAny_ready (rs := [2]) (by kernel_rfl) (by simp) ?_
      refine AllReady.cons rfl (fun K hK => ?_) AllReady.nil
      go_simp
      refine hK _ _ ?_
      clear hK K
      refine wpAny_ready (rs := [3]) (by kernel_rfl) (by simp) ?_
      refine AllReady.cons rfl (fun K hK => ?_) AllReady.nil
      go_simp
      go_wp2_with (go_at_call 59; refine (HTu.out _).mono ?_; rintro e w3 ⟨rfl, hb3⟩)
      have H3 : Hid (At w3 w.heap.size (dsCells x) tDs ∧ OAt w3 (w.heap.size + 1) e0 M ∧ Below w.heap.size w w3) := ⟨At.keep H2.out.1 hb3 H2.out.1.lt, At.keep H2.out.2.1 hb3 (At.lt H2.out.2.1), H2.out.2.2.trans (hb3.mono H2.out.2.2.size)⟩
      clear hb3
      refine wpAny_ready (rs := [4]) (by kernel_rfl) (by simp) ?_
      refine AllReady.cons rfl (fun K hK => ?_) AllReady.nil
      go_simp
      go_wp2_with (go_at_call 64; refine (HGr2.out _).mono ?_; rintro e w4 ⟨rfl, hb4⟩)
      have H4 : Hid (At w4 w.heap.size (dsCells x) tDs ∧ Below w.heap.size w w4) := ⟨At.keep H3.out.1 hb4 H3.out.1.lt, H3.out.2.2.trans (hb4.mono H3.out.2.2.size)⟩
      have f7 : w4.cell? ⟨w.heap.size, 7, none⟩ = some (.int .i64 n) := by rw [H4.out.1.cell, ← hn]; rfl
      have hl4 : w.heap.size < w4.heap.size := H4.out.1.lt
      clear hb4
      refine wpAny_take (i := 5) (v := .int .i64 lo) rfl (by kernel_rfl) (by kernel_rfl) (by kernel_rfl) (fun _ _ _ h => h) (Or.inl ⟨by rfl, by intro w; go_simp⟩) ?_
      refine wpAny_done (by kernel_rfl) ?_ _
      go_wp2_with fail
      go_ret
      exact ⟨ret_b' HE.out, H4.out.2⟩
    · go_simp
      refine hK _ _ ?_
      clear hK K
      refine wpAny_ready (rs := [0, 3]) (by kernel_rfl) (by simp) ?_
      refine AllReady.cons rfl (fun K hK => ?_) (AllReady.cons rfl (fun K hK => ?_) AllReady.nil)
      · refine step_load_o rfl (.tmp 3) rfl rfl H2.out.2.1 ?_
        refine hK _ _ ?_
        clear hK K
        refine wpAny_ready (rs := [3]) (by kernel_rfl) (by simp) ?_
        refine AllReady.cons rfl (fun K hK => ?_) AllReady.nil
        go_simp
        go_wp2_with (go_at_call 59; refine (HTu.out _).mono ?_; rintro e w3 ⟨rfl, hb3⟩)
        have H3 : Hid (At w3 w.heap.size (dsCells x) tDs ∧ OAt w3 (w.heap.size + 1) e0 M ∧ Below w.heap.size w w3) := ⟨At.keep H2.out.1 hb3 H2.out.1.lt, At.keep H2.out.2.1 hb3 (At.lt H2.out.2.1), H2.out.2.2.trans (hb3.mono H2.out.2.2.size)⟩
        clear hb3
        refine wpAny_ready (rs := [4]) (by kernel_rfl) (by simp) ?_
        refine AllReady.cons rfl (fun K hK => ?_) AllReady.nil
        go_simp
        go_wp2_with (go_at_call 64; refine (HGr2.out _).mono ?_; rintro e w4 ⟨rfl, hb4⟩)
        have H4 : Hid (At w4 w.heap.size (dsCells x) tDs ∧ Below w.heap.size w w4) := ⟨At.keep H3.out.1 hb4 H3.out.1.lt, H3.out.2.2.trans (hb4.mono H3.out.2.2.size)⟩
        have f7 : w4.cell? ⟨w.heap.size, 7, none⟩ = some (.int .i64 n) := by rw [H4.out.1.cell, ← hn]; rfl
        have hl4 : w.heap.size < w4.heap.size := H4.out.1.lt
        clear hb4
        refine wpAny_take (i := 5) (v := .int .i64 lo) rfl (by kernel_rfl) (by kernel_rfl) (by kernel_rfl) (fun _ _ _ h => h) (Or.inl ⟨by rfl, by intro w; go_simp⟩) ?_
        refine wpAny_done (by kernel_rfl) ?_ _
        go_wp2_with fail
        go_ret
        exact ⟨ret_b' HE.out, H4.out.2⟩
      · go_simp
        go_wp2_with (go_at_call 59; refine (HTu.out _).mono ?_; rintro e w3 ⟨rfl, hb3⟩)
        have H3 : Hid (At w3 w.heap.size (dsCells x) tDs ∧ OAt w3 (w.heap.size + 1) e0 M ∧ Below w.heap.size w w3) := ⟨At.keep H2.out.1 hb3 H2.out.1.lt, At.keep H2.out.2.1 hb3 (At.lt H2.out.2.1), H2.out.2.2.trans (hb3.mono H2.out.2.2.size)⟩
        clear hb3
        refine wpAny_ready (rs := [0]) (by kernel_rfl) (by simp) ?_
        refine AllReady.cons rfl (fun K hK => ?_) AllReady.nil
        refine step_load_o rfl (.tmp 3) rfl rfl H3.out.2.1 ?_
        refine hK _ _ ?_
        clear hK K
        refine wpAny_ready (rs := [4]) (by kernel_rfl) (by simp) ?_
        refine AllReady.cons rfl (fun K hK => ?_) AllReady.nil
        go_simp
        go_wp2_with (go_at_call 64; refine (HGr2.out _).mono ?_; rintro e w4 ⟨rfl, hb4⟩)
        have H4 : Hid (At w4 w.heap.size (dsCells x) tDs ∧ Below w.heap.size w w4) := ⟨At.keep H3.out.1 hb4 H3.out.1.lt, H3.out.2.2.trans (hb4.mono H3.out.2.2.size)⟩
        have f7 : w4.cell? ⟨w.heap.size, 7, none⟩ = some (.int .i64 n) := by rw [H4.out.1.cell, ← hn]; rfl
        have hl4 : w.heap.size < w4.heap.size := H4.out.1.lt
        clear hb4
        refine wpAny_take (i := 5) (v := .int .i64 lo) rfl (by kernel_rfl) (by kernel_rfl) (by kernel_rfl) (fun _ _ _ h => h) (Or.inl ⟨by rfl, by intro w; go_simp⟩) ?_
        refine wpAny_done (by kernel_rfl) ?_ _
        go_wp2_with fail
        go_ret
        exact ⟨ret_b' HE.out, H4.out.2⟩
  have b1 : (hi == 1000000) = false := by rw [beq_eq_false_iff_ne]; exact q1
  by_cases q2 : lo = NB
  · have HE : Hid (ftB M x.sg n = false) := HEo.out false (decide_eq_false (fun z => z.2.1 q2))
    have b2 : (lo == 1000000) = true := by rw [q2]; rfl
    clear HF HEo q1 q2
    go_wp2_with fail
    refine wp_region_any (by kernel_rfl) ?_
    change wpAny _ _ _ _ _ _ _ (World.drew _)
    have H2 : Hid (At w1.drew w.heap.size (dsCells x) tDs ∧ OAt w1.drew (w.heap.size + 1) e0 M ∧ Below w.heap.size w w1.drew) := ⟨H1.out.1, H1.out.2.1, H1.out.2.2.drew⟩
    generalize w1.drew = w2 at *
    have d3 : w2.cell? ⟨w.heap.size, 3, none⟩ = some (.int .i64 (gAt x.sg 0)) := H2.out.1.cell 3
    have d4 : w2.cell? ⟨w.heap.size, 4, none⟩ = some (.int .i64 (gAt x.sg 1)) := H2.out.1.cell 4
    have d5 : w2.cell? ⟨w.heap.size, 5, none⟩ = some (.int .i64 (gAt x.sg 2)) := H2.out.1.cell 5
    have d6 : w2.cell? ⟨w.heap.size, 6, none⟩ = some (.int .i64 (gAt x.sg 3)) := H2.out.1.cell 6
    have hl2 : w.heap.size < w2.heap.size := H2.out.1.lt
    refine wpAny_take (i := 1) (v := .pointer (some ⟨w.heap.size, 3, none⟩)) rfl (by kernel_rfl) (by kernel_rfl) (by kernel_rfl) (fun _ _ _ h => h) (Or.inl ⟨by rfl, by intro w; go_simp⟩) ?_
    refine wpAny_ready (rs := [0, 2]) (by kernel_rfl) (by simp) ?_
    refine AllReady.cons rfl (fun K hK => ?_) (AllReady.cons rfl (fun K hK => ?_) AllReady.nil)
    · refine step_load_o rfl (.tmp 3) rfl rfl H2.out.2.1 ?_
      refine hK _ _ ?_
      clear hK K
      refine wpAny_ready (rs := [2]) (by kernel_rfl) (by simp) ?_
      refine AllReady.cons rfl (fun K hK => ?_) AllReady.nil
      go_simp
      refine hK _ _ ?_
      clear hK K
      refine wpAny_ready (rs := [3]) (by kernel_rfl) (by simp) ?_
      refine AllReady.cons rfl (fun K hK => ?_) AllReady.nil
      go_simp
      go_wp2_with (go_at_call 59; refine (HTu.out _).mono ?_; rintro e w3 ⟨rfl, hb3⟩)
      have H3 : Hid (At w3 w.heap.size (dsCells x) tDs ∧ OAt w3 (w.heap.size + 1) e0 M ∧ Below w.heap.size w w3) := ⟨At.keep H2.out.1 hb3 H2.out.1.lt, At.keep H2.out.2.1 hb3 (At.lt H2.out.2.1), H2.out.2.2.trans (hb3.mono H2.out.2.2.size)⟩
      clear hb3
      refine wpAny_ready (rs := [4]) (by kernel_rfl) (by simp) ?_
      refine AllReady.cons rfl (fun K hK => ?_) AllReady.nil
      go_simp
      go_wp2_with (go_at_call 64; refine (HGr2.out _).mono ?_; rintro e w4 ⟨rfl, hb4⟩)
      have H4 : Hid (At w4 w.heap.size (dsCells x) tDs ∧ Below w.heap.size w w4) := ⟨At.keep H3.out.1 hb4 H3.out.1.lt, H3.out.2.2.trans (hb4.mono H3.out.2.2.size)⟩
      have f7 : w4.cell? ⟨w.heap.size, 7, none⟩ = some (.int .i64 n) := by rw [H4.out.1.cell, ← hn]; rfl
      have hl4 : w.heap.size < w4.heap.size := H4.out.1.lt
      clear hb4
      refine wpAny_take (i := 5) (v := .int .i64 lo) rfl (by kernel_rfl) (by kernel_rfl) (by kernel_rfl) (fun _ _ _ h => h) (Or.inl ⟨by rfl, by intro w; go_simp⟩) ?_
      refine wpAny_done (by kernel_rfl) ?_ _
      go_wp2_with fail
      go_ret
      exact ⟨ret_b' HE.out, H4.out.2⟩
    · go_simp
      refine hK _ _ ?_
      clear hK K
      refine wpAny_ready (rs := [0, 3]) (by kernel_rfl) (by simp) ?_
      refine AllReady.cons rfl (fun K hK => ?_) (AllReady.cons rfl (fun K hK => ?_) AllReady.nil)
      · refine step_load_o rfl (.tmp 3) rfl rfl H2.out.2.1 ?_
        refine hK _ _ ?_
        clear hK K
        refine wpAny_ready (rs := [3]) (by kernel_rfl) (by simp) ?_
        refine AllReady.cons rfl (fun K hK => ?_) AllReady.nil
        go_simp
        go_wp2_with (go_at_call 59; refine (HTu.out _).mono ?_; rintro e w3 ⟨rfl, hb3⟩)
        have H3 : Hid (At w3 w.heap.size (dsCells x) tDs ∧ OAt w3 (w.heap.size + 1) e0 M ∧ Below w.heap.size w w3) := ⟨At.keep H2.out.1 hb3 H2.out.1.lt, At.keep H2.out.2.1 hb3 (At.lt H2.out.2.1), H2.out.2.2.trans (hb3.mono H2.out.2.2.size)⟩
        clear hb3
        refine wpAny_ready (rs := [4]) (by kernel_rfl) (by simp) ?_
        refine AllReady.cons rfl (fun K hK => ?_) AllReady.nil
        go_simp
        go_wp2_with (go_at_call 64; refine (HGr2.out _).mono ?_; rintro e w4 ⟨rfl, hb4⟩)
        have H4 : Hid (At w4 w.heap.size (dsCells x) tDs ∧ Below w.heap.size w w4) := ⟨At.keep H3.out.1 hb4 H3.out.1.lt, H3.out.2.2.trans (hb4.mono H3.out.2.2.size)⟩
        have f7 : w4.cell? ⟨w.heap.size, 7, none⟩ = some (.int .i64 n) := by rw [H4.out.1.cell, ← hn]; rfl
        have hl4 : w.heap.size < w4.heap.size := H4.out.1.lt
        clear hb4
        refine wpAny_take (i := 5) (v := .int .i64 lo) rfl (by kernel_rfl) (by kernel_rfl) (by kernel_rfl) (fun _ _ _ h => h) (Or.inl ⟨by rfl, by intro w; go_simp⟩) ?_
        refine wpAny_done (by kernel_rfl) ?_ _
        go_wp2_with fail
        go_ret
        exact ⟨ret_b' HE.out, H4.out.2⟩
      · go_simp
        go_wp2_with (go_at_call 59; refine (HTu.out _).mono ?_; rintro e w3 ⟨rfl, hb3⟩)
        have H3 : Hid (At w3 w.heap.size (dsCells x) tDs ∧ OAt w3 (w.heap.size + 1) e0 M ∧ Below w.heap.size w w3) := ⟨At.keep H2.out.1 hb3 H2.out.1.lt, At.keep H2.out.2.1 hb3 (At.lt H2.out.2.1), H2.out.2.2.trans (hb3.mono H2.out.2.2.size)⟩
        clear hb3
        refine wpAny_ready (rs := [0]) (by kernel_rfl) (by simp) ?_
        refine AllReady.cons rfl (fun K hK => ?_) AllReady.nil
        refine step_load_o rfl (.tmp 3) rfl rfl H3.out.2.1 ?_
        refine hK _ _ ?_
        clear hK K
        refine wpAny_ready (rs := [4]) (by kernel_rfl) (by simp) ?_
        refine AllReady.cons rfl (fun K hK => ?_) AllReady.nil
        go_simp
        go_wp2_with (go_at_call 64; refine (HGr2.out _).mono ?_; rintro e w4 ⟨rfl, hb4⟩)
        have H4 : Hid (At w4 w.heap.size (dsCells x) tDs ∧ Below w.heap.size w w4) := ⟨At.keep H3.out.1 hb4 H3.out.1.lt, H3.out.2.2.trans (hb4.mono H3.out.2.2.size)⟩
        have f7 : w4.cell? ⟨w.heap.size, 7, none⟩ = some (.int .i64 n) := by rw [H4.out.1.cell, ← hn]; rfl
        have hl4 : w.heap.size < w4.heap.size := H4.out.1.lt
        clear hb4
        refine wpAny_take (i := 5) (v := .int .i64 lo) rfl (by kernel_rfl) (by kernel_rfl) (by kernel_rfl) (fun _ _ _ h => h) (Or.inl ⟨by rfl, by intro w; go_simp⟩) ?_
        refine wpAny_done (by kernel_rfl) ?_ _
        go_wp2_with fail
        go_ret
        exact ⟨ret_b' HE.out, H4.out.2⟩
  have b2 : (lo == 1000000) = false := by rw [beq_eq_false_iff_ne]; exact q2
  by_cases q3 : hi + n ≤ 999
  · by_cases q4 : lo - n ≤ 999
    · have HE : Hid (ftB M x.sg n = true) := HEo.out true (decide_eq_true ⟨q1, q2, q3, q4⟩)
      clear HF HEo q1 q2
      go_wp2_with fail
      refine wp_region_any (by kernel_rfl) ?_
      change wpAny _ _ _ _ _ _ _ (World.drew _)
      have H2 : Hid (At w1.drew w.heap.size (dsCells x) tDs ∧ OAt w1.drew (w.heap.size + 1) e0 M ∧ Below w.heap.size w w1.drew) := ⟨H1.out.1, H1.out.2.1, H1.out.2.2.drew⟩
      generalize w1.drew = w2 at *
      have d3 : w2.cell? ⟨w.heap.size, 3, none⟩ = some (.int .i64 (gAt x.sg 0)) := H2.out.1.cell 3
      have d4 : w2.cell? ⟨w.heap.size, 4, none⟩ = some (.int .i64 (gAt x.sg 1)) := H2.out.1.cell 4
      have d5 : w2.cell? ⟨w.heap.size, 5, none⟩ = some (.int .i64 (gAt x.sg 2)) := H2.out.1.cell 5
      have d6 : w2.cell? ⟨w.heap.size, 6, none⟩ = some (.int .i64 (gAt x.sg 3)) := H2.out.1.cell 6
      have hl2 : w.heap.size < w2.heap.size := H2.out.1.lt
      refine wpAny_take (i := 1) (v := .pointer (some ⟨w.heap.size, 3, none⟩)) rfl (by kernel_rfl) (by kernel_rfl) (by kernel_rfl) (fun _ _ _ h => h) (Or.inl ⟨by rfl, by intro w; go_simp⟩) ?_
      refine wpAny_ready (rs := [0, 2]) (by kernel_rfl) (by simp) ?_
      refine AllReady.cons rfl (fun K hK => ?_) (AllReady.cons rfl (fun K hK => ?_) AllReady.nil)
      · refine step_load_o rfl (.tmp 3) rfl rfl H2.out.2.1 ?_
        refine hK _ _ ?_
        clear hK K
        refine wpAny_ready (rs := [2]) (by kernel_rfl) (by simp) ?_
        refine AllReady.cons rfl (fun K hK => ?_) AllReady.nil
        go_simp
        refine hK _ _ ?_
        clear hK K
        refine wpAny_ready (rs := [3]) (by kernel_rfl) (by simp) ?_
        refine AllReady.cons rfl (fun K hK => ?_) AllReady.nil
        go_simp
        go_wp2_with (go_at_call 59; refine (HTu.out _).mono ?_; rintro e w3 ⟨rfl, hb3⟩)
        have H3 : Hid (At w3 w.heap.size (dsCells x) tDs ∧ OAt w3 (w.heap.size + 1) e0 M ∧ Below w.heap.size w w3) := ⟨At.keep H2.out.1 hb3 H2.out.1.lt, At.keep H2.out.2.1 hb3 (At.lt H2.out.2.1), H2.out.2.2.trans (hb3.mono H2.out.2.2.size)⟩
        clear hb3
        refine wpAny_ready (rs := [4]) (by kernel_rfl) (by simp) ?_
        refine AllReady.cons rfl (fun K hK => ?_) AllReady.nil
        go_simp
        go_wp2_with (go_at_call 64; refine (HGr2.out _).mono ?_; rintro e w4 ⟨rfl, hb4⟩)
        have H4 : Hid (At w4 w.heap.size (dsCells x) tDs ∧ Below w.heap.size w w4) := ⟨At.keep H3.out.1 hb4 H3.out.1.lt, H3.out.2.2.trans (hb4.mono H3.out.2.2.size)⟩
        have f7 : w4.cell? ⟨w.heap.size, 7, none⟩ = some (.int .i64 n) := by rw [H4.out.1.cell, ← hn]; rfl
        have hl4 : w.heap.size < w4.heap.size := H4.out.1.lt
        clear hb4
        refine wpAny_take (i := 5) (v := .int .i64 lo) rfl (by kernel_rfl) (by kernel_rfl) (by kernel_rfl) (fun _ _ _ h => h) (Or.inl ⟨by rfl, by intro w; go_simp⟩) ?_
        refine wpAny_done (by kernel_rfl) ?_ _
        go_wp2_with fail
        go_ret
        exact ⟨ret_b' HE.out, H4.out.2⟩
      · go_simp
        refine hK _ _ ?_
        clear hK K
        refine wpAny_ready (rs := [0, 3]) (by kernel_rfl) (by simp) ?_
        refine AllReady.cons rfl (fun K hK => ?_) (AllReady.cons rfl (fun K hK => ?_) AllReady.nil)
        · refine step_load_o rfl (.tmp 3) rfl rfl H2.out.2.1 ?_
          refine hK _ _ ?_
          clear hK K
          refine wpAny_ready (rs := [3]) (by kernel_rfl) (by simp) ?_
          refine AllReady.cons rfl (fun K hK => ?_) AllReady.nil
          go_simp
          go_wp2_with (go_at_call 59; refine (HTu.out _).mono ?_; rintro e w3 ⟨rfl, hb3⟩)
          have H3 : Hid (At w3 w.heap.size (dsCells x) tDs ∧ OAt w3 (w.heap.size + 1) e0 M ∧ Below w.heap.size w w3) := ⟨At.keep H2.out.1 hb3 H2.out.1.lt, At.keep H2.out.2.1 hb3 (At.lt H2.out.2.1), H2.out.2.2.trans (hb3.mono H2.out.2.2.size)⟩
          clear hb3
          refine wpAny_ready (rs := [4]) (by kernel_rfl) (by simp) ?_
          refine AllReady.cons rfl (fun K hK => ?_) AllReady.nil
          go_simp
          go_wp2_with (go_at_call 64; refine (HGr2.out _).mono ?_; rintro e w4 ⟨rfl, hb4⟩)
          have H4 : Hid (At w4 w.heap.size (dsCells x) tDs ∧ Below w.heap.size w w4) := ⟨At.keep H3.out.1 hb4 H3.out.1.lt, H3.out.2.2.trans (hb4.mono H3.out.2.2.size)⟩
          have f7 : w4.cell? ⟨w.heap.size, 7, none⟩ = some (.int .i64 n) := by rw [H4.out.1.cell, ← hn]; rfl
          have hl4 : w.heap.size < w4.heap.size := H4.out.1.lt
          clear hb4
          refine wpAny_take (i := 5) (v := .int .i64 lo) rfl (by kernel_rfl) (by kernel_rfl) (by kernel_rfl) (fun _ _ _ h => h) (Or.inl ⟨by rfl, by intro w; go_simp⟩) ?_
          refine wpAny_done (by kernel_rfl) ?_ _
          go_wp2_with fail
          go_ret
          exact ⟨ret_b' HE.out, H4.out.2⟩
        · go_simp
          go_wp2_with (go_at_call 59; refine (HTu.out _).mono ?_; rintro e w3 ⟨rfl, hb3⟩)
          have H3 : Hid (At w3 w.heap.size (dsCells x) tDs ∧ OAt w3 (w.heap.size + 1) e0 M ∧ Below w.heap.size w w3) := ⟨At.keep H2.out.1 hb3 H2.out.1.lt, At.keep H2.out.2.1 hb3 (At.lt H2.out.2.1), H2.out.2.2.trans (hb3.mono H2.out.2.2.size)⟩
          clear hb3
          refine wpAny_ready (rs := [0]) (by kernel_rfl) (by simp) ?_
          refine AllReady.cons rfl (fun K hK => ?_) AllReady.nil
          refine step_load_o rfl (.tmp 3) rfl rfl H3.out.2.1 ?_
          refine hK _ _ ?_
          clear hK K
          refine wpAny_ready (rs := [4]) (by kernel_rfl) (by simp) ?_
          refine AllReady.cons rfl (fun K hK => ?_) AllReady.nil
          go_simp
          go_wp2_with (go_at_call 64; refine (HGr2.out _).mono ?_; rintro e w4 ⟨rfl, hb4⟩)
          have H4 : Hid (At w4 w.heap.size (dsCells x) tDs ∧ Below w.heap.size w w4) := ⟨At.keep H3.out.1 hb4 H3.out.1.lt, H3.out.2.2.trans (hb4.mono H3.out.2.2.size)⟩
          have f7 : w4.cell? ⟨w.heap.size, 7, none⟩ = some (.int .i64 n) := by rw [H4.out.1.cell, ← hn]; rfl
          have hl4 : w.heap.size < w4.heap.size := H4.out.1.lt
          clear hb4
          refine wpAny_take (i := 5) (v := .int .i64 lo) rfl (by kernel_rfl) (by kernel_rfl) (by kernel_rfl) (fun _ _ _ h => h) (Or.inl ⟨by rfl, by intro w; go_simp⟩) ?_
          refine wpAny_done (by kernel_rfl) ?_ _
          go_wp2_with fail
          go_ret
          exact ⟨ret_b' HE.out, H4.out.2⟩
    · have HE : Hid (ftB M x.sg n = decide (lo - n ≤ 999)) := (HEo.out false (decide_eq_false (fun z => q4 z.2.2.2))).trans (decide_eq_false q4).symm
      clear HF HEo q1 q2
      go_wp2_with fail
      refine wp_region_any (by kernel_rfl) ?_
      change wpAny _ _ _ _ _ _ _ (World.drew _)
      have H2 : Hid (At w1.drew w.heap.size (dsCells x) tDs ∧ OAt w1.drew (w.heap.size + 1) e0 M ∧ Below w.heap.size w w1.drew) := ⟨H1.out.1, H1.out.2.1, H1.out.2.2.drew⟩
      generalize w1.drew = w2 at *
      have d3 : w2.cell? ⟨w.heap.size, 3, none⟩ = some (.int .i64 (gAt x.sg 0)) := H2.out.1.cell 3
      have d4 : w2.cell? ⟨w.heap.size, 4, none⟩ = some (.int .i64 (gAt x.sg 1)) := H2.out.1.cell 4
      have d5 : w2.cell? ⟨w.heap.size, 5, none⟩ = some (.int .i64 (gAt x.sg 2)) := H2.out.1.cell 5
      have d6 : w2.cell? ⟨w.heap.size, 6, none⟩ = some (.int .i64 (gAt x.sg 3)) := H2.out.1.cell 6
      have hl2 : w.heap.size < w2.heap.size := H2.out.1.lt
      refine wpAny_take (i := 1) (v := .pointer (some ⟨w.heap.size, 3, none⟩)) rfl (by kernel_rfl) (by kernel_rfl) (by kernel_rfl) (fun _ _ _ h => h) (Or.inl ⟨by rfl, by intro w; go_simp⟩) ?_
      refine wpAny_ready (rs := [0, 2]) (by kernel_rfl) (by simp) ?_
      refine AllReady.cons rfl (fun K hK => ?_) (AllReady.cons rfl (fun K hK => ?_) AllReady.nil)
      · refine step_load_o rfl (.tmp 3) rfl rfl H2.out.2.1 ?_
        refine hK _ _ ?_
        clear hK K
        refine wpAny_ready (rs := [2]) (by kernel_rfl) (by simp) ?_
        refine AllReady.cons rfl (fun K hK => ?_) AllReady.nil
        go_simp
        refine hK _ _ ?_
        clear hK K
        refine wpAny_ready (rs := [3]) (by kernel_rfl) (by simp) ?_
        refine AllReady.cons rfl (fun K hK => ?_) AllReady.nil
        go_simp
        go_wp2_with (go_at_call 59; refine (HTu.out _).mono ?_; rintro e w3 ⟨rfl, hb3⟩)
        have H3 : Hid (At w3 w.heap.size (dsCells x) tDs ∧ OAt w3 (w.heap.size + 1) e0 M ∧ Below w.heap.size w w3) := ⟨At.keep H2.out.1 hb3 H2.out.1.lt, At.keep H2.out.2.1 hb3 (At.lt H2.out.2.1), H2.out.2.2.trans (hb3.mono H2.out.2.2.size)⟩
        clear hb3
        refine wpAny_ready (rs := [4]) (by kernel_rfl) (by simp) ?_
        refine AllReady.cons rfl (fun K hK => ?_) AllReady.nil
        go_simp
        go_wp2_with (go_at_call 64; refine (HGr2.out _).mono ?_; rintro e w4 ⟨rfl, hb4⟩)
        have H4 : Hid (At w4 w.heap.size (dsCells x) tDs ∧ Below w.heap.size w w4) := ⟨At.keep H3.out.1 hb4 H3.out.1.lt, H3.out.2.2.trans (hb4.mono H3.out.2.2.size)⟩
        have f7 : w4.cell? ⟨w.heap.size, 7, none⟩ = some (.int .i64 n) := by rw [H4.out.1.cell, ← hn]; rfl
        have hl4 : w.heap.size < w4.heap.size := H4.out.1.lt
        clear hb4
        refine wpAny_take (i := 5) (v := .int .i64 lo) rfl (by kernel_rfl) (by kernel_rfl) (by kernel_rfl) (fun _ _ _ h => h) (Or.inl ⟨by rfl, by intro w; go_simp⟩) ?_
        refine wpAny_done (by kernel_rfl) ?_ _
        go_wp2_with fail
        go_ret
        exact ⟨ret_b' HE.out, H4.out.2⟩
      · go_simp
        refine hK _ _ ?_
        clear hK K
        refine wpAny_ready (rs := [0, 3]) (by kernel_rfl) (by simp) ?_
        refine AllReady.cons rfl (fun K hK => ?_) (AllReady.cons rfl (fun K hK => ?_) AllReady.nil)
        · refine step_load_o rfl (.tmp 3) rfl rfl H2.out.2.1 ?_
          refine hK _ _ ?_
          clear hK K
          refine wpAny_ready (rs := [3]) (by kernel_rfl) (by simp) ?_
          refine AllReady.cons rfl (fun K hK => ?_) AllReady.nil
          go_simp
          go_wp2_with (go_at_call 59; refine (HTu.out _).mono ?_; rintro e w3 ⟨rfl, hb3⟩)
          have H3 : Hid (At w3 w.heap.size (dsCells x) tDs ∧ OAt w3 (w.heap.size + 1) e0 M ∧ Below w.heap.size w w3) := ⟨At.keep H2.out.1 hb3 H2.out.1.lt, At.keep H2.out.2.1 hb3 (At.lt H2.out.2.1), H2.out.2.2.trans (hb3.mono H2.out.2.2.size)⟩
          clear hb3
          refine wpAny_ready (rs := [4]) (by kernel_rfl) (by simp) ?_
          refine AllReady.cons rfl (fun K hK => ?_) AllReady.nil
          go_simp
          go_wp2_with (go_at_call 64; refine (HGr2.out _).mono ?_; rintro e w4 ⟨rfl, hb4⟩)
          have H4 : Hid (At w4 w.heap.size (dsCells x) tDs ∧ Below w.heap.size w w4) := ⟨At.keep H3.out.1 hb4 H3.out.1.lt, H3.out.2.2.trans (hb4.mono H3.out.2.2.size)⟩
          have f7 : w4.cell? ⟨w.heap.size, 7, none⟩ = some (.int .i64 n) := by rw [H4.out.1.cell, ← hn]; rfl
          have hl4 : w.heap.size < w4.heap.size := H4.out.1.lt
          clear hb4
          refine wpAny_take (i := 5) (v := .int .i64 lo) rfl (by kernel_rfl) (by kernel_rfl) (by kernel_rfl) (fun _ _ _ h => h) (Or.inl ⟨by rfl, by intro w; go_simp⟩) ?_
          refine wpAny_done (by kernel_rfl) ?_ _
          go_wp2_with fail
          go_ret
          exact ⟨ret_b' HE.out, H4.out.2⟩
        · go_simp
          go_wp2_with (go_at_call 59; refine (HTu.out _).mono ?_; rintro e w3 ⟨rfl, hb3⟩)
          have H3 : Hid (At w3 w.heap.size (dsCells x) tDs ∧ OAt w3 (w.heap.size + 1) e0 M ∧ Below w.heap.size w w3) := ⟨At.keep H2.out.1 hb3 H2.out.1.lt, At.keep H2.out.2.1 hb3 (At.lt H2.out.2.1), H2.out.2.2.trans (hb3.mono H2.out.2.2.size)⟩
          clear hb3
          refine wpAny_ready (rs := [0]) (by kernel_rfl) (by simp) ?_
          refine AllReady.cons rfl (fun K hK => ?_) AllReady.nil
          refine step_load_o rfl (.tmp 3) rfl rfl H3.out.2.1 ?_
          refine hK _ _ ?_
          clear hK K
          refine wpAny_ready (rs := [4]) (by kernel_rfl) (by simp) ?_
          refine AllReady.cons rfl (fun K hK => ?_) AllReady.nil
          go_simp
          go_wp2_with (go_at_call 64; refine (HGr2.out _).mono ?_; rintro e w4 ⟨rfl, hb4⟩)
          have H4 : Hid (At w4 w.heap.size (dsCells x) tDs ∧ Below w.heap.size w w4) := ⟨At.keep H3.out.1 hb4 H3.out.1.lt, H3.out.2.2.trans (hb4.mono H3.out.2.2.size)⟩
          have f7 : w4.cell? ⟨w.heap.size, 7, none⟩ = some (.int .i64 n) := by rw [H4.out.1.cell, ← hn]; rfl
          have hl4 : w.heap.size < w4.heap.size := H4.out.1.lt
          clear hb4
          refine wpAny_take (i := 5) (v := .int .i64 lo) rfl (by kernel_rfl) (by kernel_rfl) (by kernel_rfl) (fun _ _ _ h => h) (Or.inl ⟨by rfl, by intro w; go_simp⟩) ?_
          refine wpAny_done (by kernel_rfl) ?_ _
          go_wp2_with fail
          go_ret
          exact ⟨ret_b' HE.out, H4.out.2⟩
  · have HE : Hid (ftB M x.sg n = false) := HEo.out false (decide_eq_false (fun z => q3 z.2.2.1))
    clear HF HEo q1 q2
    go_wp2_with fail
    refine wp_region_any (by kernel_rfl) ?_
    change wpAny _ _ _ _ _ _ _ (World.drew _)
    have H2 : Hid (At w1.drew w.heap.size (dsCells x) tDs ∧ OAt w1.drew (w.heap.size + 1) e0 M ∧ Below w.heap.size w w1.drew) := ⟨H1.out.1, H1.out.2.1, H1.out.2.2.drew⟩
    generalize w1.drew = w2 at *
    have d3 : w2.cell? ⟨w.heap.size, 3, none⟩ = some (.int .i64 (gAt x.sg 0)) := H2.out.1.cell 3
    have d4 : w2.cell? ⟨w.heap.size, 4, none⟩ = some (.int .i64 (gAt x.sg 1)) := H2.out.1.cell 4
    have d5 : w2.cell? ⟨w.heap.size, 5, none⟩ = some (.int .i64 (gAt x.sg 2)) := H2.out.1.cell 5
    have d6 : w2.cell? ⟨w.heap.size, 6, none⟩ = some (.int .i64 (gAt x.sg 3)) := H2.out.1.cell 6
    have hl2 : w.heap.size < w2.heap.size := H2.out.1.lt
    refine wpAny_take (i := 1) (v := .pointer (some ⟨w.heap.size, 3, none⟩)) rfl (by kernel_rfl) (by kernel_rfl) (by kernel_rfl) (fun _ _ _ h => h) (Or.inl ⟨by rfl, by intro w; go_simp⟩) ?_
    refine wpAny_ready (rs := [0, 2]) (by kernel_rfl) (by simp) ?_
    refine AllReady.cons rfl (fun K hK => ?_) (AllReady.cons rfl (fun K hK => ?_) AllReady.nil)
    · refine step_load_o rfl (.tmp 3) rfl rfl H2.out.2.1 ?_
      refine hK _ _ ?_
      clear hK K
      refine wpAny_ready (rs := [2]) (by kernel_rfl) (by simp) ?_
      refine AllReady.cons rfl (fun K hK => ?_) AllReady.nil
      go_simp
      refine hK _ _ ?_
      clear hK K
      refine wpAny_ready (rs := [3]) (by kernel_rfl) (by simp) ?_
      refine AllReady.cons rfl (fun K hK => ?_) AllReady.nil
      go_simp
      go_wp2_with (go_at_call 59; refine (HTu.out _).mono ?_; rintro e w3 ⟨rfl, hb3⟩)
      have H3 : Hid (At w3 w.heap.size (dsCells x) tDs ∧ OAt w3 (w.heap.size + 1) e0 M ∧ Below w.heap.size w w3) := ⟨At.keep H2.out.1 hb3 H2.out.1.lt, At.keep H2.out.2.1 hb3 (At.lt H2.out.2.1), H2.out.2.2.trans (hb3.mono H2.out.2.2.size)⟩
      clear hb3
      refine wpAny_ready (rs := [4]) (by kernel_rfl) (by simp) ?_
      refine AllReady.cons rfl (fun K hK => ?_) AllReady.nil
      go_simp
      go_wp2_with (go_at_call 64; refine (HGr2.out _).mono ?_; rintro e w4 ⟨rfl, hb4⟩)
      have H4 : Hid (At w4 w.heap.size (dsCells x) tDs ∧ Below w.heap.size w w4) := ⟨At.keep H3.out.1 hb4 H3.out.1.lt, H3.out.2.2.trans (hb4.mono H3.out.2.2.size)⟩
      have f7 : w4.cell? ⟨w.heap.size, 7, none⟩ = some (.int .i64 n) := by rw [H4.out.1.cell, ← hn]; rfl
      have hl4 : w.heap.size < w4.heap.size := H4.out.1.lt
      clear hb4
      refine wpAny_take (i := 5) (v := .int .i64 lo) rfl (by kernel_rfl) (by kernel_rfl) (by kernel_rfl) (fun _ _ _ h => h) (Or.inl ⟨by rfl, by intro w; go_simp⟩) ?_
      refine wpAny_done (by kernel_rfl) ?_ _
      go_wp2_with fail
      go_ret
      exact ⟨ret_b' HE.out, H4.out.2⟩
    · go_simp
      refine hK _ _ ?_
      clear hK K
      refine wpAny_ready (rs := [0, 3]) (by kernel_rfl) (by simp) ?_
      refine AllReady.cons rfl (fun K hK => ?_) (AllReady.cons rfl (fun K hK => ?_) AllReady.nil)
      · refine step_load_o rfl (.tmp 3) rfl rfl H2.out.2.1 ?_
        refine hK _ _ ?_
        clear hK K
        refine wpAny_ready (rs := [3]) (by kernel_rfl) (by simp) ?_
        refine AllReady.cons rfl (fun K hK => ?_) AllReady.nil
        go_simp
        go_wp2_with (go_at_call 59; refine (HTu.out _).mono ?_; rintro e w3 ⟨rfl, hb3⟩)
        have H3 : Hid (At w3 w.heap.size (dsCells x) tDs ∧ OAt w3 (w.heap.size + 1) e0 M ∧ Below w.heap.size w w3) := ⟨At.keep H2.out.1 hb3 H2.out.1.lt, At.keep H2.out.2.1 hb3 (At.lt H2.out.2.1), H2.out.2.2.trans (hb3.mono H2.out.2.2.size)⟩
        clear hb3
        refine wpAny_ready (rs := [4]) (by kernel_rfl) (by simp) ?_
        refine AllReady.cons rfl (fun K hK => ?_) AllReady.nil
        go_simp
        go_wp2_with (go_at_call 64; refine (HGr2.out _).mono ?_; rintro e w4 ⟨rfl, hb4⟩)
        have H4 : Hid (At w4 w.heap.size (dsCells x) tDs ∧ Below w.heap.size w w4) := ⟨At.keep H3.out.1 hb4 H3.out.1.lt, H3.out.2.2.trans (hb4.mono H3.out.2.2.size)⟩
        have f7 : w4.cell? ⟨w.heap.size, 7, none⟩ = some (.int .i64 n) := by rw [H4.out.1.cell, ← hn]; rfl
        have hl4 : w.heap.size < w4.heap.size := H4.out.1.lt
        clear hb4
        refine wpAny_take (i := 5) (v := .int .i64 lo) rfl (by kernel_rfl) (by kernel_rfl) (by kernel_rfl) (fun _ _ _ h => h) (Or.inl ⟨by rfl, by intro w; go_simp⟩) ?_
        refine wpAny_done (by kernel_rfl) ?_ _
        go_wp2_with fail
        go_ret
        exact ⟨ret_b' HE.out, H4.out.2⟩
      · go_simp
        go_wp2_with (go_at_call 59; refine (HTu.out _).mono ?_; rintro e w3 ⟨rfl, hb3⟩)
        have H3 : Hid (At w3 w.heap.size (dsCells x) tDs ∧ OAt w3 (w.heap.size + 1) e0 M ∧ Below w.heap.size w w3) := ⟨At.keep H2.out.1 hb3 H2.out.1.lt, At.keep H2.out.2.1 hb3 (At.lt H2.out.2.1), H2.out.2.2.trans (hb3.mono H2.out.2.2.size)⟩
        clear hb3
        refine wpAny_ready (rs := [0]) (by kernel_rfl) (by simp) ?_
        refine AllReady.cons rfl (fun K hK => ?_) AllReady.nil
        refine step_load_o rfl (.tmp 3) rfl rfl H3.out.2.1 ?_
        refine hK _ _ ?_
        clear hK K
        refine wpAny_ready (rs := [4]) (by kernel_rfl) (by simp) ?_
        refine AllReady.cons rfl (fun K hK => ?_) AllReady.nil
        go_simp
        go_wp2_with (go_at_call 64; refine (HGr2.out _).mono ?_; rintro e w4 ⟨rfl, hb4⟩)
        have H4 : Hid (At w4 w.heap.size (dsCells x) tDs ∧ Below w.heap.size w w4) := ⟨At.keep H3.out.1 hb4 H3.out.1.lt, H3.out.2.2.trans (hb4.mono H3.out.2.2.size)⟩
        have f7 : w4.cell? ⟨w.heap.size, 7, none⟩ = some (.int .i64 n) := by rw [H4.out.1.cell, ← hn]; rfl
        have hl4 : w.heap.size < w4.heap.size := H4.out.1.lt
        clear hb4
        refine wpAny_take (i := 5) (v := .int .i64 lo) rfl (by kernel_rfl) (by kernel_rfl) (by kernel_rfl) (fun _ _ _ h => h) (Or.inl ⟨by rfl, by intro w; go_simp⟩) ?_
        refine wpAny_done (by kernel_rfl) ?_ _
        go_wp2_with fail
        go_ret
        exact ⟨ret_b' HE.out, H4.out.2⟩

end Go.Proofs.YtffajooegiempaaDoor

namespace Go.Proofs.YtffajooegiempaaDoor
open Go.RowKit

set_option maxHeartbeats 400000 in
theorem variable_any (c : Int) (w : World) (h0 : 0 ≤ c) (h1 : c ≤ 255) :
    Calls Tryd.prog 107 #[.int .u8 c] w fun e w' => e = .returned (.int .i64 (varOf c)) ∧ w' = w := by
  unfold varOf
  by_cases ha : 97 ≤ c
  · by_cases hb : c ≤ 100
    · go_enter Tryd.func107, Tryd.ntmps107
      go_wp2
      go_ret
      exact ⟨rfl, rfl⟩
    · go_enter Tryd.func107, Tryd.ntmps107
      go_wp2
      go_ret
      exact ⟨rfl, rfl⟩
  · go_enter Tryd.func107, Tryd.ntmps107
    go_wp2
    go_ret
    exact ⟨rfl, rfl⟩

set_option maxHeartbeats 400000 in
theorem now_any (r g p : Nat) (n cap : Nat) (w : World) (hn : 0 < n) (hcap : n ≤ 20)
    (hs : w.cell? ⟨r, 1, none⟩ = some (.slice (some ⟨g, 0, none⟩) n cap))
    (hp : w.cell? ⟨g, n - 1, none⟩ = some (.pointer (some ⟨p, 0, none⟩))) :
    Calls Tryd.prog 110 #[.pointer (some ⟨r, 0, none⟩)] w fun e w' => e = .returned (.pointer (some ⟨p, 0, none⟩)) ∧ ∃ k, w' = w.drewN k := by
  go_enter Tryd.func110, Tryd.ntmps110
  go_wp2
  go_quiet (fail)
  go_wp2
  go_ret
  exact ⟨rfl, _, rfl⟩

end Go.Proofs.YtffajooegiempaaDoor

namespace Go.Proofs.YtffajooegiempaaDoor
open Go.RowKit

def ptr (p : Nat) : Value := .pointer (some ⟨p, 0, none⟩)
def stCells (q : Nat) (s : St) : Array Value := #[.int .u8 s.kind, .int .i64 s.var, .bool s.star, .slice (some ⟨q, 0, none⟩) 4 4, .int .i64 s.num, .int .i64 s.mid, .int .i64 s.fin]
def rdCells (m : Rd) (vs vo : Value) : Array Value := #[.int .u8 m.state, vs, vo, .int .i64 m.sign, .bool m.neg, .int .i64 m.dig]
def sgCells (l : List Int) : Array Value := (l.map (Value.int .i64)).toArray
def bkCells (b : Bk) : Array Value := #[.int .i64 b.of_, .bool b.second]

abbrev tR : TypeId := 95
abbrev tS : TypeId := 97
abbrev tB : TypeId := 132
abbrev tPS : TypeId := 91
abbrev tPB : TypeId := 130
abbrev tI : TypeId := 3

/-- The reader's memory: its block, the two rows of pointers, each statement with its signs, each open block. -/
structure Rep (B : Nat) (w : World) (r : Nat) (m : Rd) (vs vo : Value) (P Q O : Nat → Nat) : Prop where
  rd : At w r (rdCells m vs vo) tR
  rs : w.ownsRow B tPS 1 vs m.st.length ((List.range m.st.length).map fun i => ptr (P i))
  ro : w.ownsRow B tPB 1 vo m.op.length ((List.range m.op.length).map fun i => ptr (O i))
  st : ∀ i s, m.st[i]? = some s → At w (P i) (stCells (Q i) s) tS ∧ At w (Q i) (sgCells s.sg) tI
  op : ∀ i b, m.op[i]? = some b → At w (O i) (bkCells b) tB
  injP : ∀ i j, i < m.st.length → j < m.st.length → P i = P j → i = j
  injQ : ∀ i j, i < m.st.length → j < m.st.length → Q i = Q j → i = j
  injO : ∀ i j, i < m.op.length → j < m.op.length → O i = O j → i = j
  geR : B ≤ r
  geP : ∀ i, i < m.st.length → B ≤ P i ∧ B ≤ Q i
  geO : ∀ i, i < m.op.length → B ≤ O i

variable {B : Nat} {w w' : World} {r : Nat} {m : Rd} {vs vo : Value} {P Q O : Nat → Nat}

theorem ownsRow_at {e : TypeId} {v : Value} {n : Nat} {xs : List Value} (h : w.ownsRow B e 1 v n xs) (hn : 0 < n) : ∃ g cap c, v = .slice (some ⟨g, 0, none⟩) n cap ∧ B ≤ g ∧ At w g c e ∧ n ≤ cap := by
  obtain ⟨h1, h2 | ⟨g, cap, c, hv, hg, hh, h3, h4, h5, h6⟩⟩ := h
  · omega
  · exact ⟨g, cap, c, hv, hg, hh, h3⟩

theorem ownsRow_same {e : TypeId} {v : Value} {n : Nat} {xs : List Value} (h : w.ownsRow B e 1 v n xs) (k : ∀ g, v.ownBlock = some g → w'.heap[g]? = w.heap[g]?) : w'.ownsRow B e 1 v n xs := by
  obtain ⟨h1, h2⟩ := h
  refine ⟨h1, ?_⟩
  rcases h2 with h2 | ⟨g, cap, c, hv, hg, hh, r⟩
  · exact .inl h2
  · subst hv; exact .inr ⟨g, cap, c, rfl, hg, by rw [k g rfl]; exact hh, r⟩

theorem ownsRow_type {e : TypeId} {v : Value} {n : Nat} {xs : List Value} (h : w.ownsRow B e 1 v n xs) {b : Nat} {c : Array Value} {t : TypeId} (k : At w b c t) (hn : e ≠ t) : v.ownBlock ≠ some b := by
  obtain ⟨h1, h2⟩ := h
  rcases h2 with ⟨rfl, _⟩ | ⟨g, cap, c', rfl, hg, hh, r⟩
  · simp [Value.ownBlock]
  · intro e'
    simp [Value.ownBlock] at e'
    exact (At.ne (show At w g c' e from hh) k hn) e'

theorem ownsRow_put {e : TypeId} {v : Value} {n : Nat} {xs : List Value} (h : w.ownsRow B e 1 v n xs) {b : Nat} {c : Array Value} {t : TypeId} (k : At w b c t) (hn : e ≠ t) (o : Nat) (u : Value) : (w.setCell ⟨b, o, none⟩ u).ownsRow B e 1 v n xs :=
  ownsRow_setCell_other h (ownsRow_type h k hn) u

theorem Rep.drewN (h : Rep B w r m vs vo P Q O) (k : Nat) : Rep B (w.drewN k) r m vs vo P Q O := ⟨h.rd, h.rs, h.ro, h.st, h.op, h.injP, h.injQ, h.injO, h.geR, h.geP, h.geO⟩

/-- A field of the reader is written. -/
theorem Rep.setRd (h : Rep B w r m vs vo P Q O) (o : Nat) (u : Value) (m' : Rd) (hc : (rdCells m vs vo).setIfInBounds o u = rdCells m' vs vo) (hs : m'.st = m.st) (ho : m'.op = m.op) :
    Rep B (w.setCell ⟨r, o, none⟩ u) r m' vs vo P Q O where
  rd := by rw [← hc]; exact h.rd.put o u
  rs := by rw [hs]; exact ownsRow_put h.rs h.rd (by decide) o u
  ro := by rw [ho]; exact ownsRow_put h.ro h.rd (by decide) o u
  st := by
    intro i s hi; rw [hs] at hi
    obtain ⟨a, b⟩ := h.st i s hi
    exact ⟨a.other o u (a.ne h.rd (by decide)), b.other o u (b.ne h.rd (by decide))⟩
  op := by
    intro i s hi; rw [ho] at hi
    have a := h.op i s hi
    exact a.other o u (a.ne h.rd (by decide))
  injP := by rw [hs]; exact h.injP
  injQ := by rw [hs]; exact h.injQ
  injO := by rw [ho]; exact h.injO
  geR := h.geR
  geP := by rw [hs]; exact h.geP
  geO := by rw [ho]; exact h.geO

/-- A field of a statement is written. -/
theorem Rep.setSt (h : Rep B w r m vs vo P Q O) (k : Nat) (s s' : St) (hk : m.st[k]? = some s) (o : Nat) (u : Value) (m' : Rd) (hc : (stCells (Q k) s).setIfInBounds o u = stCells (Q k) s') (hsg : s'.sg = s.sg) (hm : m' = { m with st := m.st.set k s' }) :
    Rep B (w.setCell ⟨P k, o, none⟩ u) r m' vs vo P Q O := by
  subst hm
  have hlt : k < m.st.length := by
    rcases Nat.lt_or_ge k m.st.length with h' | h'
    · exact h'
    · simp [List.getElem?_eq_none h'] at hk
  obtain ⟨ka, kb⟩ := h.st k s hk
  exact {
    rd := h.rd.other o u (h.rd.ne ka (by decide))
    rs := by simp only [List.length_set]; exact ownsRow_put h.rs ka (by decide) o u
    ro := ownsRow_put h.ro ka (by decide) o u
    st := by
      intro i x hi
      by_cases e : i = k
      · subst e
        simp [hlt] at hi
        subst hi
        exact ⟨by rw [← hc]; exact ka.put o u, by rw [hsg]; exact kb.other o u (kb.ne ka (by decide))⟩
      · simp only [List.getElem?_set, if_neg (Ne.symm e)] at hi
        have hil : i < m.st.length := by
          rcases Nat.lt_or_ge i m.st.length with h' | h'
          · exact h'
          · simp [List.getElem?_eq_none h'] at hi
        obtain ⟨a, b⟩ := h.st i x hi
        exact ⟨a.other o u (fun q => e (h.injP i k hil hlt q)), b.other o u (b.ne ka (by decide))⟩
    op := by
      intro i x hi
      have a := h.op i x hi
      exact a.other o u (a.ne ka (by decide))
    injP := by simp only [List.length_set]; exact h.injP
    injQ := by simp only [List.length_set]; exact h.injQ
    injO := h.injO
    geR := h.geR
    geP := by simp only [List.length_set]; exact h.geP
    geO := h.geO }

/-- A sign of a statement is written. -/
theorem Rep.setSg (h : Rep B w r m vs vo P Q O) (k : Nat) (s : St) (hk : m.st[k]? = some s) (o : Nat) (x : Int) (m' : Rd) (hm : m' = { m with st := m.st.set k { s with sg := s.sg.set o x } }) :
    Rep B (w.setCell ⟨Q k, o, none⟩ (.int .i64 x)) r m' vs vo P Q O := by
  subst hm
  have hlt : k < m.st.length := by
    rcases Nat.lt_or_ge k m.st.length with h' | h'
    · exact h'
    · simp [List.getElem?_eq_none h'] at hk
  obtain ⟨ka, kb⟩ := h.st k s hk
  have hsg : (sgCells s.sg).setIfInBounds o (.int .i64 x) = sgCells (s.sg.set o x) := by simp [sgCells, List.map_set]
  exact {
    rd := h.rd.other o _ (h.rd.ne kb (by decide))
    rs := by simp only [List.length_set]; exact ownsRow_put h.rs kb (by decide) o _
    ro := ownsRow_put h.ro kb (by decide) o _
    st := by
      intro i y hi
      by_cases e : i = k
      · subst e
        simp [hlt] at hi
        subst hi
        exact ⟨ka.other o _ (ka.ne kb (by decide)), by show At _ _ (sgCells (s.sg.set o x)) _; rw [← hsg]; exact kb.put o _⟩
      · simp only [List.getElem?_set, if_neg (Ne.symm e)] at hi
        have hil : i < m.st.length := by
          rcases Nat.lt_or_ge i m.st.length with h' | h'
          · exact h'
          · simp [List.getElem?_eq_none h'] at hi
        obtain ⟨a, b⟩ := h.st i y hi
        exact ⟨a.other o _ (a.ne kb (by decide)), b.other o _ (fun q => e (h.injQ i k hil hlt q))⟩
    op := by
      intro i y hi
      have a := h.op i y hi
      exact a.other o _ (a.ne kb (by decide))
    injP := by simp only [List.length_set]; exact h.injP
    injQ := by simp only [List.length_set]; exact h.injQ
    injO := h.injO
    geR := h.geR
    geP := by simp only [List.length_set]; exact h.geP
    geO := h.geO }

/-- An open block is written. -/
theorem Rep.setBk (h : Rep B w r m vs vo P Q O) (k : Nat) (b b' : Bk) (hk : m.op[k]? = some b) (o : Nat) (u : Value) (m' : Rd) (hc : (bkCells b).setIfInBounds o u = bkCells b') (hm : m' = { m with op := m.op.set k b' }) :
    Rep B (w.setCell ⟨O k, o, none⟩ u) r m' vs vo P Q O := by
  subst hm
  have hlt : k < m.op.length := by
    rcases Nat.lt_or_ge k m.op.length with h' | h'
    · exact h'
    · simp [List.getElem?_eq_none h'] at hk
  have ka := h.op k b hk
  exact {
    rd := h.rd.other o u (h.rd.ne ka (by decide))
    rs := ownsRow_put h.rs ka (by decide) o u
    ro := by simp only [List.length_set]; exact ownsRow_put h.ro ka (by decide) o u
    st := by
      intro i x hi
      obtain ⟨a, b⟩ := h.st i x hi
      exact ⟨a.other o u (a.ne ka (by decide)), b.other o u (b.ne ka (by decide))⟩
    op := by
      intro i x hi
      by_cases e : i = k
      · subst e
        simp [hlt] at hi
        subst hi
        rw [← hc]; exact ka.put o u
      · simp only [List.getElem?_set, if_neg (Ne.symm e)] at hi
        have hil : i < m.op.length := by
          rcases Nat.lt_or_ge i m.op.length with h' | h'
          · exact h'
          · simp [List.getElem?_eq_none h'] at hi
        exact (h.op i x hi).other o u (fun q => e (h.injO i k hil hlt q))
    injP := h.injP
    injQ := h.injQ
    injO := by simp only [List.length_set]; exact h.injO
    geR := h.geR
    geP := h.geP
    geO := by simp only [List.length_set]; exact h.geO }

/-- What a step answers and leaves. -/
def Post (B : Nat) (w : World) (r : Nat) (o : Option Rd) : Ending → World → Prop := fun e w' =>
  e = .returned (.bool o.isSome) ∧ Below B w w' ∧ ∀ m', o = some m' → ∃ vs vo P Q O, Rep B w' r m' vs vo P Q O

end Go.Proofs.YtffajooegiempaaDoor

namespace Go.Proofs.YtffajooegiempaaDoor
open Go.RowKit
variable {B : Nat} {w w' : World} {r : Nat} {m : Rd} {vs vo : Value} {P Q O : Nat → Nat}

theorem Rep.rdc (h : Rep B w r m vs vo P Q O) : w.cell? ⟨r, 0, none⟩ = some (.int .u8 m.state) ∧ w.cell? ⟨r, 1, none⟩ = some vs ∧ w.cell? ⟨r, 2, none⟩ = some vo ∧ w.cell? ⟨r, 3, none⟩ = some (.int .i64 m.sign) ∧ w.cell? ⟨r, 4, none⟩ = some (.bool m.neg) ∧ w.cell? ⟨r, 5, none⟩ = some (.int .i64 m.dig) ∧ ∀ i, w.frozen? ⟨r, i, none⟩ = false :=
  ⟨h.rd.cell 0, h.rd.cell 1, h.rd.cell 2, h.rd.cell 3, h.rd.cell 4, h.rd.cell 5, h.rd.free⟩

theorem Rep.curs (hn : 0 < m.st.length) : m.st[m.st.length - 1]? = some (cur m) := by
  unfold cur
  rw [List.getD_eq_getElem?_getD, List.getElem?_eq_getElem (by omega)]; rfl

theorem Rep.stc (h : Rep B w r m vs vo P Q O) (k : Nat) (s : St) (hk : m.st[k]? = some s) : w.cell? ⟨P k, 0, none⟩ = some (.int .u8 s.kind) ∧ w.cell? ⟨P k, 1, none⟩ = some (.int .i64 s.var) ∧ w.cell? ⟨P k, 2, none⟩ = some (.bool s.star) ∧ w.cell? ⟨P k, 3, none⟩ = some (.slice (some ⟨Q k, 0, none⟩) 4 4) ∧ w.cell? ⟨P k, 4, none⟩ = some (.int .i64 s.num) ∧ w.cell? ⟨P k, 5, none⟩ = some (.int .i64 s.mid) ∧ w.cell? ⟨P k, 6, none⟩ = some (.int .i64 s.fin) ∧ (∀ i, w.frozen? ⟨P k, i, none⟩ = false) ∧ (∀ i, w.frozen? ⟨Q k, i, none⟩ = false) ∧ P k ≠ r ∧ Q k ≠ r ∧ Q k ≠ P k := by
  obtain ⟨a, b⟩ := h.st k s hk
  exact ⟨a.cell 0, a.cell 1, a.cell 2, a.cell 3, a.cell 4, a.cell 5, a.cell 6, a.free, b.free, a.ne h.rd (by decide), b.ne h.rd (by decide), b.ne a (by decide)⟩

/-- The row of the statements' pointers. -/
theorem Rep.row (h : Rep B w r m vs vo P Q O) (hn : 0 < m.st.length) : ∃ g cap, vs = .slice (some ⟨g, 0, none⟩) m.st.length cap ∧ (∀ i, i < m.st.length → w.cell? ⟨g, i, none⟩ = some (ptr (P i))) ∧ g ≠ r ∧ m.st.length ≤ cap ∧ ∀ k s, m.st[k]? = some s → g ≠ P k ∧ g ≠ Q k := by
  obtain ⟨g, cap, c, hv, hg, ha, hc⟩ := ownsRow_at h.rs hn
  refine ⟨g, cap, hv, ?_, ha.ne h.rd (by decide), hc, fun k s hk => ?_⟩
  · intro i hi
    have := h.rs
    rw [hv] at this
    rw [this.cellAt i (by omega)]
    simp [hi]
  · obtain ⟨a, b⟩ := h.st k s hk
    exact ⟨ha.ne a (by decide), ha.ne b (by decide)⟩

theorem Rep.now (h : Rep B w r m vs vo P Q O) (hn : 0 < m.st.length) (hl : m.st.length ≤ 20) :
    Calls Tryd.prog 110 #[.pointer (some ⟨r, 0, none⟩)] w fun e w' => e = .returned (.pointer (some ⟨P (m.st.length - 1), 0, none⟩)) ∧ ∃ k, w' = w.drewN k := by
  obtain ⟨g, cap, rfl, hrow, _⟩ := h.row hn
  exact now_any r g (P (m.st.length - 1)) m.st.length cap w hn hl h.rdc.2.1 (hrow _ (by omega))

set_option maxHeartbeats 400000 in
theorem Rep.behind (h : Rep B w r m vs vo P Q O) (hn : 0 < m.st.length) (hl : m.st.length ≤ 20) :
    Calls Tryd.prog 112 #[.pointer (some ⟨r, 0, none⟩)] w fun e w' => e = .returned (.int .u8 (behindOf m)) ∧ ∃ k, w' = w.drewN k := by
  have hc := h.now hn hl
  obtain ⟨c0, -⟩ := h.stc _ _ (Rep.curs hn)
  unfold behindOf
  generalize P (m.st.length - 1) = p at *
  generalize (cur m).kind = kd at *
  clear h
  by_cases hk : kd = 33
  · subst hk
    go_enter Tryd.func112, Tryd.ntmps112
    go_wp2_with (go_at_call 110; refine hc.mono ?_; rintro e w' ⟨rfl, k, rfl⟩)
    go_ret
    exact ⟨rfl, _, rfl⟩
  · have hk' : (kd == 33) = false := by simpa using hk
    go_enter Tryd.func112, Tryd.ntmps112
    go_wp2_with (go_at_call 110; refine hc.mono ?_; rintro e w' ⟨rfl, k, rfl⟩)
    go_ret
    exact ⟨by simp, _, rfl⟩

end Go.Proofs.YtffajooegiempaaDoor

namespace Go.Proofs.YtffajooegiempaaDoor
open Go.RowKit
variable {B : Nat} {w w' : World} {r : Nat} {m : Rd} {vs vo : Value} {P Q O : Nat → Nat}

theorem Rep.geC (h : Rep B w r m vs vo P Q O) (hn : 0 < m.st.length) : B ≤ P (m.st.length - 1) ∧ B ≤ Q (m.st.length - 1) := h.geP _ (by omega)

theorem setCur_setCur (m : Rd) (s t : St) : setCur (setCur m s) t = setCur m t := by simp [setCur]

/-- A digit that cannot stand there. -/
theorem digit_no {c : Int} {pos : Bool} {nx : Int} (h : c < 48 ∨ 57 < c ∨ (if m.state = nx then m.dig else 0) = 2 ∨ ((if m.state = nx then m.dig else 0) = 1 ∧ (if m.state = nx then (cur m).num else 0) = 0) ∨ (pos = true ∧ c = 48)) : digitStep m c pos nx = none := by
  simp only [digitStep]; rw [if_pos h]

theorem digit_yes {c : Int} {pos : Bool} {nx d u : Int} (hd : (if m.state = nx then m.dig else 0) = d) (hu : (if m.state = nx then (cur m).num else 0) = u) (h : ¬ (c < 48 ∨ 57 < c ∨ d = 2 ∨ (d = 1 ∧ u = 0) ∨ (pos = true ∧ c = 48))) :
    digitStep m c pos nx = some { setCur m { cur m with num := 10 * u + (c - 48) } with dig := d + 1, state := nx } := by
  subst hd; subst hu
  simp only [digitStep]; rw [if_neg h]

theorem post_no {o : Option Rd} {w w' : World} (h : o = none) (hb : Below B w w') : Post B w r o (.returned (.bool false)) w' := by
  subst h; exact ⟨rfl, hb, fun _ e => by cases e⟩
theorem post_yes {o : Option Rd} {m' : Rd} {w w' : World} (h : o = some m') (hb : Below B w w') (hr : Rep B w' r m' vs vo P Q O) : Post B w r o (.returned (.bool true)) w' := by
  subst h; exact ⟨rfl, hb, fun _ e => by cases e; exact ⟨vs, vo, P, Q, O, hr⟩⟩

theorem post_ret {o : Option Rd} {m' m'' : Rd} {w w' : World} {b : Value} (hb' : b = .bool true) (h : o = some m') (hb : Below B w w') (hm : m'' = m') (hr : Rep B w' r m'' vs vo P Q O) : Post B w r o (.returned b) w' := by
  subst hb'; subst hm; exact post_yes h hb hr

theorem curs_setCur (hn : 0 < m.st.length) (s : St) : (setCur m s).st[m.st.length - 1]? = some s := by
  simp [setCur, List.getElem?_set]; omega

theorem Rep.setC (h : Rep B w r m vs vo P Q O) (hn : 0 < m.st.length) (s' : St) (o : Nat) (u : Value) (hc : (stCells (Q (m.st.length - 1)) (cur m)).setIfInBounds o u = stCells (Q (m.st.length - 1)) s') (hsg : s'.sg = (cur m).sg) :
    Rep B (w.setCell ⟨P (m.st.length - 1), o, none⟩ u) r (setCur m s') vs vo P Q O := h.setSt _ _ s' (Rep.curs hn) o u _ hc hsg rfl

theorem cur_setCur (hn : 0 < m.st.length) (s : St) : cur (setCur m s) = s := by
  have := curs_setCur hn s
  unfold cur
  rw [List.getD_eq_getElem?_getD, show (setCur m s).st.length = m.st.length by simp [setCur], this]; rfl

theorem len_setCur (s : St) : (setCur m s).st.length = m.st.length := by simp [setCur]

theorem rep_digitNew (h : Rep B w r m vs vo P Q O) (hn : 0 < m.st.length) (x nx : Int) (k : Nat) :
    Rep B ((((((w.drewN k).setCell ⟨r, 5, none⟩ (.int .i64 0)).setCell ⟨P (m.st.length - 1), 4, none⟩ (.int .i64 0)).setCell ⟨P (m.st.length - 1), 4, none⟩ (.int .i64 x)).setCell ⟨r, 5, none⟩ (.int .i64 1)).setCell ⟨r, 0, none⟩ (.int .u8 nx)) r
      { setCur m { cur m with num := x } with dig := 1, state := nx } vs vo P Q O := by
  have e1 := (h.drewN k).setRd 5 (.int .i64 0) { m with dig := 0 } rfl rfl rfl
  have e2 := e1.setC hn { cur m with num := 0 } 4 (.int .i64 0) rfl rfl
  have e3 := e2.setSt (m.st.length - 1) { cur m with num := 0 } { cur m with num := x } (curs_setCur (m := { m with dig := 0 }) hn _) 4 (.int .i64 x) _ rfl rfl rfl
  have e4 := e3.setRd 5 (.int .i64 1) { setCur m { cur m with num := x } with dig := 1 } rfl (by simp [setCur]) rfl
  exact e4.setRd 0 (.int .u8 nx) _ rfl rfl rfl

theorem rep_digitOld (h : Rep B w r m vs vo P Q O) (hn : 0 < m.st.length) (x d nx : Int) (k : Nat) :
    Rep B ((((w.drewN k).setCell ⟨P (m.st.length - 1), 4, none⟩ (.int .i64 x)).setCell ⟨r, 5, none⟩ (.int .i64 d)).setCell ⟨r, 0, none⟩ (.int .u8 nx)) r
      { setCur m { cur m with num := x } with dig := d, state := nx } vs vo P Q O := by
  have e3 := (h.drewN k).setC hn { cur m with num := x } 4 (.int .i64 x) rfl rfl
  have e4 := e3.setRd 5 (.int .i64 d) { setCur m { cur m with num := x } with dig := d } rfl rfl rfl
  exact e4.setRd 0 (.int .u8 nx) _ rfl rfl rfl

set_option maxHeartbeats 1600000 in
theorem Rep.digitNew (h : Rep B w r m vs vo P Q O) (hn : 0 < m.st.length) (hl : m.st.length ≤ 20) (c : Int) (pos : Bool) (nx : Int) (h0 : 0 ≤ c) (h1 : c ≤ 255) (hx : m.state ≠ nx) :
    Calls Tryd.prog 111 #[.pointer (some ⟨r, 0, none⟩), .int .u8 c, .bool pos, .int .u8 nx] w (Post B w r (digitStep m c pos nx)) := by
  have hc := h.now hn hl
  have hcur := Rep.curs hn
  obtain ⟨c0, c1, c2, c3, c4, c5, c6, f7, f8, n9, n10, n11⟩ := h.stc _ _ hcur
  obtain ⟨r0, r1, r2, r3, r4, r5, rf⟩ := h.rdc
  have geR := h.geR
  obtain ⟨geP, geQ⟩ := h.geC hn
  have hxb : (m.state == nx) = false := by simpa using hx
  have hxn : (m.state != nx) = true := by simpa using hx
  have hd : (if m.state = nx then m.dig else 0) = 0 := if_neg hx
  have hu : (if m.state = nx then (cur m).num else 0) = 0 := if_neg hx
  have HD : Hid (_ = _) := hd
  have HU : Hid (_ = _) := hu
  have HC : Hid (_ = _) := hcur
  clear hd hu hcur
  have nrp : r ≠ P (m.st.length - 1) := fun e => n9 e.symm
  have HR : Hid (Rep _ _ _ _ _ _ _ _ _) := h
  clear h
  by_cases hlo : c < 48
  · go_enter Tryd.func111, Tryd.ntmps111
    go_wp2_with (go_at_call 110; refine hc.mono ?_; rintro e w' ⟨rfl, k, rfl⟩)
    go_ret
    exact post_no (digit_no (.inl hlo)) (Below.setCell (Below.setCell (below_drewN (Below.refl _ _) _) geR _) geP _)
  by_cases hhi : 57 < c
  · go_enter Tryd.func111, Tryd.ntmps111
    go_wp2_with (go_at_call 110; refine hc.mono ?_; rintro e w' ⟨rfl, k, rfl⟩)
    go_ret
    exact post_no (digit_no (.inr (.inl hhi))) (Below.setCell (Below.setCell (below_drewN (Below.refl _ _) _) geR _) geP _)
  by_cases hz : pos = true ∧ c = 48
  · obtain ⟨rfl, rfl⟩ := hz
    go_enter Tryd.func111, Tryd.ntmps111
    go_wp2_with (go_at_call 110; refine hc.mono ?_; rintro e w' ⟨rfl, k, rfl⟩)
    go_ret
    exact post_no (digit_no (.inr (.inr (.inr (.inr ⟨rfl, rfl⟩))))) (Below.setCell (Below.setCell (below_drewN (Below.refl _ _) _) geR _) geP _)
  · have hz' : (pos && (c == 48)) = false := by cases pos <;> simp_all
    have HY : Hid (_ = _) := digit_yes (pos := pos) (c := c) HD.out HU.out (by rintro (a | a | a | a | a) <;> first | exact hz a | omega)
    have HZ : Hid (¬ (pos = true ∧ c = 48)) := hz
    clear hz
    cases pos
    · go_enter Tryd.func111, Tryd.ntmps111
      go_wp2_with (go_at_call 110; refine hc.mono ?_; rintro e w' ⟨rfl, k, rfl⟩)
      go_ret
      refine post_ret rfl HY.out (Below.setCell (Below.setCell (Below.setCell (Below.setCell (Below.setCell (below_drewN (Below.refl _ _) _) geR _) geP _) geP _) geR _) geR _) ?_ (rep_digitNew HR.out hn (c - 48) nx k)
      simp
    · have hz2 : (c == 48) = false := by simpa using hz'
      go_enter Tryd.func111, Tryd.ntmps111
      go_wp2_with (go_at_call 110; refine hc.mono ?_; rintro e w' ⟨rfl, k, rfl⟩)
      go_ret
      refine post_ret rfl HY.out (Below.setCell (Below.setCell (Below.setCell (Below.setCell (Below.setCell (below_drewN (Below.refl _ _) _) geR _) geP _) geP _) geR _) geR _) ?_ (rep_digitNew HR.out hn (c - 48) nx k)
      simp



set_option maxHeartbeats 1600000 in
theorem Rep.digitOld (h : Rep B w r m vs vo P Q O) (hn : 0 < m.st.length) (hl : m.st.length ≤ 20) (c : Int) (pos : Bool) (h0 : 0 ≤ c) (h1 : c ≤ 255) (hd0 : 0 ≤ m.dig) (hd2 : m.dig ≤ 2) (hn0 : -99 ≤ (cur m).num) (hn1 : (cur m).num ≤ 99) (nx : Int) (hx : m.state = nx) :
    Calls Tryd.prog 111 #[.pointer (some ⟨r, 0, none⟩), .int .u8 c, .bool pos, .int .u8 nx] w (Post B w r (digitStep m c pos nx)) := by
  have hc := h.now hn hl
  have hcur := Rep.curs hn
  obtain ⟨c0, c1, c2, c3, c4, c5, c6, f7, f8, n9, n10, n11⟩ := h.stc _ _ hcur
  obtain ⟨r0, r1, r2, r3, r4, r5, rf⟩ := h.rdc
  have geR := h.geR
  obtain ⟨geP, geQ⟩ := h.geC hn
  have hd : (if m.state = nx then m.dig else 0) = m.dig := if_pos hx
  have hu : (if m.state = nx then (cur m).num else 0) = (cur m).num := if_pos hx
  have HD : Hid (_ = _) := hd
  have HU : Hid (_ = _) := hu
  have HC : Hid (_ = _) := hcur
  clear hd hu hcur
  rw [hx] at r0
  have HX : Hid (_ = _) := hx
  clear hx
  have nrp : r ≠ P (m.st.length - 1) := fun e => n9 e.symm
  have HR : Hid (Rep _ _ _ _ _ _ _ _ _) := h
  clear h
  by_cases hlo : c < 48
  · go_enter Tryd.func111, Tryd.ntmps111
    go_wp2_with (go_at_call 110; refine hc.mono ?_; rintro e w' ⟨rfl, k, rfl⟩)
    go_ret
    exact post_no (digit_no (.inl hlo)) (below_drewN (Below.refl _ _) _)
  by_cases hhi : 57 < c
  · go_enter Tryd.func111, Tryd.ntmps111
    go_wp2_with (go_at_call 110; refine hc.mono ?_; rintro e w' ⟨rfl, k, rfl⟩)
    go_ret
    exact post_no (digit_no (.inr (.inl hhi))) (below_drewN (Below.refl _ _) _)
  by_cases h2 : m.dig = 2
  · have HN : Hid (digitStep m c pos nx = none) := digit_no (.inr (.inr (.inl (HD.out.trans h2))))
    rw [h2] at r5
    clear h2
    go_enter Tryd.func111, Tryd.ntmps111
    go_wp2_with (go_at_call 110; refine hc.mono ?_; rintro e w' ⟨rfl, k, rfl⟩)
    go_ret
    exact post_no HN.out (below_drewN (Below.refl _ _) _)
  have hb2 : (m.dig == 2) = false := by simpa using h2
  by_cases h3 : m.dig = 1 ∧ (cur m).num = 0
  · obtain ⟨h3, h4⟩ := h3
    have HN : Hid (digitStep m c pos nx = none) := digit_no (.inr (.inr (.inr (.inl ⟨HD.out.trans h3, HU.out.trans h4⟩))))
    rw [h3] at r5
    rw [h4] at c4
    clear h3 h4 h2 hb2
    go_enter Tryd.func111, Tryd.ntmps111
    go_wp2_with (go_at_call 110; refine hc.mono ?_; rintro e w' ⟨rfl, k, rfl⟩)
    go_ret
    exact post_no HN.out (below_drewN (Below.refl _ _) _)
  by_cases hz : pos = true ∧ c = 48
  · have HN : Hid (digitStep m c pos nx = none) := digit_no (.inr (.inr (.inr (.inr hz))))
    obtain ⟨rfl, rfl⟩ := hz
    by_cases h3a : m.dig = 1
    · have h3b : ((cur m).num == 0) = false := by simpa using fun e => h3 ⟨h3a, e⟩
      rw [h3a] at r5
      clear h3 h2 hb2 h3a
      go_enter Tryd.func111, Tryd.ntmps111
      go_wp2_with (go_at_call 110; refine hc.mono ?_; rintro e w' ⟨rfl, k, rfl⟩)
      go_ret
      exact post_no HN.out (below_drewN (Below.refl _ _) _)
    · have h3b : (m.dig == 1) = false := by simpa using h3a
      clear h3 h2 h3a
      go_enter Tryd.func111, Tryd.ntmps111
      go_wp2_with (go_at_call 110; refine hc.mono ?_; rintro e w' ⟨rfl, k, rfl⟩)
      go_ret
      exact post_no HN.out (below_drewN (Below.refl _ _) _)
  · have HY : Hid (_ = _) := digit_yes (pos := pos) (c := c) HD.out HU.out (by rintro (a | a | a | a | a) <;> first | exact hz a | exact h3 a | exact h2 a | omega)
    have hz' : (pos && (c == 48)) = false := by cases pos <;> simp_all
    by_cases h3a : m.dig = 1
    · have h3b : ((cur m).num == 0) = false := by simpa using fun e => h3 ⟨h3a, e⟩
      rw [h3a] at r5 HY
      clear h3 h2 hb2 h3a hz
      cases pos
      · go_enter Tryd.func111, Tryd.ntmps111
        go_wp2_with (go_at_call 110; refine hc.mono ?_; rintro e w' ⟨rfl, k, rfl⟩)
        go_ret
        refine post_ret rfl HY.out (Below.setCell (Below.setCell (Below.setCell (below_drewN (Below.refl _ _) _) geP _) geR _) geR _) ?_ (rep_digitOld HR.out hn _ _ nx k)
        simp
      · have hz2 : (c == 48) = false := by simpa using hz'
        go_enter Tryd.func111, Tryd.ntmps111
        go_wp2_with (go_at_call 110; refine hc.mono ?_; rintro e w' ⟨rfl, k, rfl⟩)
        go_ret
        refine post_ret rfl HY.out (Below.setCell (Below.setCell (Below.setCell (below_drewN (Below.refl _ _) _) geP _) geR _) geR _) ?_ (rep_digitOld HR.out hn _ _ nx k)
        simp
    · have h3b : (m.dig == 1) = false := by simpa using h3a
      clear h3 h2 h3a hz
      cases pos
      · go_enter Tryd.func111, Tryd.ntmps111
        go_wp2_with (go_at_call 110; refine hc.mono ?_; rintro e w' ⟨rfl, k, rfl⟩)
        go_ret
        refine post_ret rfl HY.out (Below.setCell (Below.setCell (Below.setCell (below_drewN (Below.refl _ _) _) geP _) geR _) geR _) ?_ (rep_digitOld HR.out hn _ _ nx k)
        simp
      · have hz2 : (c == 48) = false := by simpa using hz'
        go_enter Tryd.func111, Tryd.ntmps111
        go_wp2_with (go_at_call 110; refine hc.mono ?_; rintro e w' ⟨rfl, k, rfl⟩)
        go_ret
        refine post_ret rfl HY.out (Below.setCell (Below.setCell (Below.setCell (below_drewN (Below.refl _ _) _) geP _) geR _) geR _) ?_ (rep_digitOld HR.out hn _ _ nx k)
        simp

/-- A digit, in whatever state. -/
theorem Rep.digit (h : Rep B w r m vs vo P Q O) (ok : Ok m) (hn : 0 < m.st.length) (c : Int) (pos : Bool) (h0 : 0 ≤ c) (h1 : c ≤ 255) (nx : Int) :
    Calls Tryd.prog 111 #[.pointer (some ⟨r, 0, none⟩), .int .u8 c, .bool pos, .int .u8 nx] w (Post B w r (digitStep m c pos nx)) := by
  by_cases hx : m.state = nx
  · have := ok.nums (cur m) (List.mem_of_getElem? (Rep.curs hn))
    exact h.digitOld hn ok.len c pos h0 h1 ok.digs.1 ok.digs.2 this.1 this.2 nx hx
  · exact h.digitNew hn ok.len c pos nx h0 h1 hx

end Go.Proofs.YtffajooegiempaaDoor

namespace Go.Proofs.YtffajooegiempaaDoor
open Go.RowKit
variable {B : Nat} {w w' : World} {r : Nat} {m : Rd} {vs vo : Value} {P Q O : Nat → Nat}

theorem variable_yes (c : Int) (w : World) (ha : 97 ≤ c) (hb : c ≤ 100) :
    Calls Tryd.prog 107 #[.int .u8 c] w fun e w' => e = .returned (.int .i64 (c - 97)) ∧ w' = w :=
  (variable_any c w (by omega) (by omega)).mono fun e w' ⟨h, k⟩ => ⟨by rw [h]; unfold varOf; rw [if_pos ⟨ha, hb⟩], k⟩
theorem variable_no (c : Int) (w : World) (h0 : 0 ≤ c) (h1 : c ≤ 255) (hv : ¬ (97 ≤ c ∧ c ≤ 100)) :
    Calls Tryd.prog 107 #[.int .u8 c] w fun e w' => e = .returned (.int .i64 (-1)) ∧ w' = w :=
  (variable_any c w h0 h1).mono fun e w' ⟨h, k⟩ => ⟨by rw [h]; unfold varOf; rw [if_neg hv], k⟩

theorem Rep.sgc (h : Rep B w r m vs vo P Q O) (ok : Ok m) (hn : 0 < m.st.length) (v : Nat) (hv : v < 4) : w.cell? ⟨Q (m.st.length - 1), v, none⟩ = some (.int .i64 ((cur m).sg.getD v 0)) := by
  obtain ⟨_, b⟩ := h.st _ _ (Rep.curs hn)
  have hl := ok.sgl (cur m) (List.mem_of_getElem? (Rep.curs hn))
  rw [b.cell v]
  simp [sgCells, List.getD_eq_getElem?_getD, List.getElem?_eq_getElem (show v < (cur m).sg.length by omega)]

theorem rep_sign (h : Rep B w r m vs vo P Q O) (hn : 0 < m.st.length) (v : Nat) (nx : Int) (k : Nat) :
    Rep B (((w.drewN k).setCell ⟨Q (m.st.length - 1), v, none⟩ (.int .i64 m.sign)).setCell ⟨r, 0, none⟩ (.int .u8 nx)) r
      (signTo m v m.sign nx) vs vo P Q O := by
  have e2 := (h.drewN k).setSg (m.st.length - 1) (cur m) (Rep.curs hn) v m.sign _ rfl
  exact e2.setRd 0 (.int .u8 nx) _ rfl rfl rfl
theorem rep_sign1 (h : Rep B w r m vs vo P Q O) (hn : 0 < m.st.length) (v : Nat) (nx : Int) (k : Nat) :
    Rep B ((((w.drewN k).setCell ⟨r, 3, none⟩ (.int .i64 1)).setCell ⟨Q (m.st.length - 1), v, none⟩ (.int .i64 1)).setCell ⟨r, 0, none⟩ (.int .u8 nx)) r
      (signTo m v 1 nx) vs vo P Q O := by
  have e1 := (h.drewN k).setRd 3 (.int .i64 1) { m with sign := 1 } rfl rfl rfl
  have e2 := e1.setSg (m.st.length - 1) (cur m) (Rep.curs hn) v 1 _ rfl
  exact e2.setRd 0 (.int .u8 nx) _ rfl rfl rfl

theorem Rep.drew (h : Rep B w r m vs vo P Q O) : Rep B w.drew r m vs vo P Q O := ⟨h.rd, h.rs, h.ro, h.st, h.op, h.injP, h.injQ, h.injO, h.geR, h.geP, h.geO⟩
theorem Ok.sign1 (ok : Ok m) : Ok { m with sign := 1 } := ⟨ok.states, ok.some_, ok.len, ok.oplen, ok.ofs, ⟨(by decide : (-1 : Int) ≤ 1), (by decide : (1 : Int) ≤ 1)⟩, ok.digs, ok.nums, ok.sgl, ok.inNum, ok.open_⟩
theorem post_via {o o' : Option Rd} {w w1 w' : World} (h : o = o') (h0 : Below B w w1) (hb : Below B w1 w') (hr : ∀ m', o' = some m' → ∃ vs vo P Q O, Rep B w' r m' vs vo P Q O) : Post B w r o (.returned (.bool o'.isSome)) w' := by
  subst h; exact ⟨rfl, h0.trans hb, hr⟩

set_option maxRecDepth 100000 in
set_option maxHeartbeats 1600000 in
theorem Rep.valueV (h : Rep B w r m vs vo P Q O) (ok : Ok m) (hn : 0 < m.st.length) (c : Int) (h0 : 0 ≤ c) (h1 : c ≤ 255) (hx : m.state = 118) :
    Calls Tryd.prog 94 #[.pointer (some ⟨r, 0, none⟩), .int .u8 c] w (Post B w r (valueStep m c)) := by
  have hc := h.now hn ok.len
  have hcur := Rep.curs hn
  obtain ⟨c0, c1, c2, c3, c4, c5, c6, f7, f8, n9, n10, n11⟩ := h.stc _ _ hcur
  obtain ⟨r0, r1, r2, r3, r4, r5, rf⟩ := h.rdc
  have geR := h.geR
  obtain ⟨geP, geQ⟩ := h.geC hn
  obtain ⟨sg0, sg1⟩ := ok.sgn
  obtain ⟨nu0, nu1⟩ := ok.nums (cur m) (List.mem_of_getElem? hcur)
  have HC : Hid (_ = _) := hcur
  clear hcur
  rw [hx] at r0
  have HX : Hid (_ = _) := hx
  clear hx
  have nrp : r ≠ P (m.st.length - 1) := fun e => n9 e.symm
  have nrq : r ≠ Q (m.st.length - 1) := fun e => n10 e.symm
  have npq : P (m.st.length - 1) ≠ Q (m.st.length - 1) := fun e => n11 e.symm
  by_cases h42 : c = 42
  · subst h42
    have HR : Hid (Rep _ _ _ _ _ _ _ _ _) := h
    have OK : Hid (Ok m) := ok
    clear h ok
    go_enter Tryd.func94, Tryd.ntmps94
    go_wp2_with (first | (go_at_call 110; refine hc.mono ?_; rintro e w' ⟨rfl, k, rfl⟩) | (go_at_call 107; refine (variable_no _ _ (by omega) (by omega) (by omega)).mono ?_; rintro e w' ⟨rfl, rfl⟩))
    go_ret
    refine post_yes (m' := { setCur m { cur m with star := true } with state := 59 }) (by unfold valueStep; rw [if_pos HX.out, if_pos rfl]) (Below.setCell (Below.setCell (below_drewN (Below.refl _ _) _) geP _) geR _) (((HR.out.drewN k).setC hn { cur m with star := true } 2 (.bool true) rfl rfl).setRd 0 (.int .u8 59) _ rfl rfl rfl)
  have b42 : (c == 42) = false := by simpa using h42
  by_cases h45 : c = 45
  · subst h45
    clear h42 b42
    have HR : Hid (Rep _ _ _ _ _ _ _ _ _) := h
    have OK : Hid (Ok m) := ok
    clear h ok
    go_enter Tryd.func94, Tryd.ntmps94
    go_wp2_with (first | (go_at_call 110; refine hc.mono ?_; rintro e w' ⟨rfl, k, rfl⟩) | (go_at_call 107; refine (variable_no _ _ (by omega) (by omega) (by omega)).mono ?_; rintro e w' ⟨rfl, rfl⟩))
    go_ret
    refine post_yes (m' := { m with sign := -1, state := 86 }) (by unfold valueStep; rw [if_pos HX.out, if_neg (by decide), if_pos rfl]) (Below.setCell (Below.setCell (below_drewN (Below.refl _ _) _) geR _) geR _) (((HR.out.drewN k).setRd 3 (.int .i64 (-1)) { m with sign := -1 } rfl rfl rfl).setRd 0 (.int .u8 86) _ rfl rfl rfl)
  have b45 : (c == 45) = false := by simpa using h45
  by_cases hv : 97 ≤ c ∧ c ≤ 100
  · have HS2 : Hid (valueStep m c = some (signTo m (c - 97).toNat 1 120)) := by show valueStep m c = _; unfold valueStep; rw [if_pos HX.out, if_neg h42, if_neg h45, if_pos hv]
    obtain ⟨hva, hvb⟩ := hv
    have hq := h.sgc ok hn (c - 97).toNat (by omega)
    have i0 : (0 : Int) ≤ c - 97 := by omega
    have i1 : c - 97 < 4 := by omega
    clear h42 h45
    have HR : Hid (Rep _ _ _ _ _ _ _ _ _) := h
    have OK : Hid (Ok m) := ok
    clear h ok
    go_enter Tryd.func94, Tryd.ntmps94
    go_wp2_with (first | (go_at_call 110; refine hc.mono ?_; rintro e w' ⟨rfl, k, rfl⟩) | (go_at_call 107; refine (variable_yes c _ hva hvb).mono ?_; rintro e w' ⟨rfl, rfl⟩))
    go_region
    go_wp2
    go_ret
    refine post_yes HS2.out (Below.drew (Below.setCell (Below.setCell (Below.setCell (below_drewN (Below.refl _ _) _) geR _) geQ _) geR _)) (rep_sign1 HR.out hn (c - 97).toNat 120 k).drew
  · have HS2 : Hid (valueStep m c = digitStep { m with sign := 1 } c false 110) := by show valueStep m c = _; unfold valueStep; rw [if_pos HX.out, if_neg h42, if_neg h45, if_neg hv]
    clear h42 h45
    have HR : Hid (Rep _ _ _ _ _ _ _ _ _) := h
    have OK : Hid (Ok m) := ok
    clear h ok
    go_enter Tryd.func94, Tryd.ntmps94
    go_wp2_with (first | (go_at_call 110; refine hc.mono ?_; rintro e w' ⟨rfl, k, rfl⟩) | (go_at_call 107; refine (variable_no _ _ (by omega) (by omega) (by omega)).mono ?_; rintro e w' ⟨rfl, rfl⟩))
    refine ((((HR.out.drewN k).setRd 3 (.int .i64 1) { m with sign := 1 } rfl rfl rfl)).digit ?_ hn c false h0 h1 110).mono ?_
    · exact OK.out.sign1
    rintro e w' ⟨rfl, hb, hr⟩
    go_wp2
    go_ret
    exact post_via HS2.out ((Below.setCell (below_drewN (Below.refl _ _) _) geR _)) hb hr

end Go.Proofs.YtffajooegiempaaDoor

namespace Go.Proofs.YtffajooegiempaaDoor
open Go.RowKit
variable {B : Nat} {w w' : World} {r : Nat} {m : Rd} {vs vo : Value} {P Q O : Nat → Nat}


set_option maxRecDepth 100000 in
set_option maxHeartbeats 1600000 in
theorem Rep.valueVV (h : Rep B w r m vs vo P Q O) (ok : Ok m) (hn : 0 < m.st.length) (c : Int) (h0 : 0 ≤ c) (h1 : c ≤ 255) (hx : m.state = 86) :
    Calls Tryd.prog 94 #[.pointer (some ⟨r, 0, none⟩), .int .u8 c] w (Post B w r (valueStep m c)) := by
  have hc := h.now hn ok.len
  have hcur := Rep.curs hn
  obtain ⟨c0, c1, c2, c3, c4, c5, c6, f7, f8, n9, n10, n11⟩ := h.stc _ _ hcur
  obtain ⟨r0, r1, r2, r3, r4, r5, rf⟩ := h.rdc
  have geR := h.geR
  obtain ⟨geP, geQ⟩ := h.geC hn
  obtain ⟨sg0, sg1⟩ := ok.sgn
  obtain ⟨nu0, nu1⟩ := ok.nums (cur m) (List.mem_of_getElem? hcur)
  have HC : Hid (_ = _) := hcur
  clear hcur
  rw [hx] at r0
  have HX : Hid (_ = _) := hx
  clear hx
  have nrp : r ≠ P (m.st.length - 1) := fun e => n9 e.symm
  have nrq : r ≠ Q (m.st.length - 1) := fun e => n10 e.symm
  have npq : P (m.st.length - 1) ≠ Q (m.st.length - 1) := fun e => n11 e.symm
  by_cases hv : 97 ≤ c ∧ c ≤ 100
  · have HS2 : Hid (valueStep m c = some (signTo m (c - 97).toNat m.sign 120)) := by show valueStep m c = _; unfold valueStep; rw [HX.out, if_neg (by decide), if_pos rfl, if_pos hv]
    obtain ⟨hva, hvb⟩ := hv
    have hq := h.sgc ok hn (c - 97).toNat (by omega)
    have i0 : (0 : Int) ≤ c - 97 := by omega
    have i1 : c - 97 < 4 := by omega
    have HR : Hid (Rep _ _ _ _ _ _ _ _ _) := h
    have OK : Hid (Ok m) := ok
    clear h ok
    go_enter Tryd.func94, Tryd.ntmps94
    go_wp2_with (first | (go_at_call 110; refine hc.mono ?_; rintro e w' ⟨rfl, k, rfl⟩) | (go_at_call 107; refine (variable_yes c _ hva hvb).mono ?_; rintro e w' ⟨rfl, rfl⟩))
    go_region
    go_wp2
    go_ret
    exact post_yes HS2.out (Below.setCell (Below.setCell (below_drewN (Below.refl _ _) _) geQ _) geR _) (rep_sign HR.out hn (c - 97).toNat 120 (k + 1))
  · have HS2 : Hid (valueStep m c = digitStep m c true 110) := by show valueStep m c = _; unfold valueStep; rw [HX.out, if_neg (by decide), if_pos rfl, if_neg hv]
    have HR : Hid (Rep _ _ _ _ _ _ _ _ _) := h
    have OK : Hid (Ok m) := ok
    clear h ok
    go_enter Tryd.func94, Tryd.ntmps94
    go_wp2_with (first | (go_at_call 110; refine hc.mono ?_; rintro e w' ⟨rfl, k, rfl⟩) | (go_at_call 107; refine (variable_no _ _ (by omega) (by omega) (by omega)).mono ?_; rintro e w' ⟨rfl, rfl⟩))
    refine ((HR.out.drewN k).digit OK.out hn c true h0 h1 110).mono ?_
    rintro e w' ⟨rfl, hb, hr⟩
    go_wp2
    go_ret
    exact post_via HS2.out ((below_drewN (Below.refl _ _) _)) hb hr

set_option maxRecDepth 100000 in
set_option maxHeartbeats 1600000 in
theorem Rep.valueX (h : Rep B w r m vs vo P Q O) (ok : Ok m) (hn : 0 < m.st.length) (c : Int) (h0 : 0 ≤ c) (h1 : c ≤ 255) (hx : m.state = 120) :
    Calls Tryd.prog 94 #[.pointer (some ⟨r, 0, none⟩), .int .u8 c] w (Post B w r (valueStep m c)) := by
  have hc := h.now hn ok.len
  have hcur := Rep.curs hn
  obtain ⟨c0, c1, c2, c3, c4, c5, c6, f7, f8, n9, n10, n11⟩ := h.stc _ _ hcur
  obtain ⟨r0, r1, r2, r3, r4, r5, rf⟩ := h.rdc
  have geR := h.geR
  obtain ⟨geP, geQ⟩ := h.geC hn
  obtain ⟨sg0, sg1⟩ := ok.sgn
  obtain ⟨nu0, nu1⟩ := ok.nums (cur m) (List.mem_of_getElem? hcur)
  have HC : Hid (_ = _) := hcur
  clear hcur
  rw [hx] at r0
  have HX : Hid (_ = _) := hx
  clear hx
  have nrp : r ≠ P (m.st.length - 1) := fun e => n9 e.symm
  have nrq : r ≠ Q (m.st.length - 1) := fun e => n10 e.symm
  have npq : P (m.st.length - 1) ≠ Q (m.st.length - 1) := fun e => n11 e.symm
  have hmw := mul_wrap _ _ sg0 sg1 nu0 nu1
  by_cases h43 : c = 43
  · subst h43
    have HS2 : Hid (valueStep m 43 = some { m with sign := 1, state := 121 }) := by show valueStep m 43 = _; unfold valueStep; rw [HX.out, if_neg (by decide), if_neg (by decide), if_pos rfl, if_pos rfl]
    have HR : Hid (Rep _ _ _ _ _ _ _ _ _) := h
    have OK : Hid (Ok m) := ok
    clear h ok
    go_enter Tryd.func94, Tryd.ntmps94
    go_wp2_with (first | (go_at_call 110; refine hc.mono ?_; rintro e w' ⟨rfl, k, rfl⟩) | (go_at_call 107; refine (variable_no _ _ (by omega) (by omega) (by omega)).mono ?_; rintro e w' ⟨rfl, rfl⟩))
    go_ret
    exact post_yes HS2.out (Below.setCell (Below.setCell (below_drewN (Below.refl _ _) _) geR _) geR _) (((HR.out.drewN k).setRd 3 (.int .i64 1) { m with sign := 1 } rfl rfl rfl).setRd 0 (.int .u8 121) _ rfl rfl rfl)
  have b43 : (c == 43) = false := by simpa using h43
  by_cases h45 : c = 45
  · subst h45
    have HS2 : Hid (valueStep m 45 = some { m with sign := -1, state := 121 }) := by show valueStep m 45 = _; unfold valueStep; rw [HX.out, if_neg (by decide), if_neg (by decide), if_pos rfl, if_neg (by decide), if_pos rfl]
    clear h43 b43
    have HR : Hid (Rep _ _ _ _ _ _ _ _ _) := h
    have OK : Hid (Ok m) := ok
    clear h ok
    go_enter Tryd.func94, Tryd.ntmps94
    go_wp2_with (first | (go_at_call 110; refine hc.mono ?_; rintro e w' ⟨rfl, k, rfl⟩) | (go_at_call 107; refine (variable_no _ _ (by omega) (by omega) (by omega)).mono ?_; rintro e w' ⟨rfl, rfl⟩))
    go_ret
    exact post_yes HS2.out (Below.setCell (Below.setCell (Below.setCell (below_drewN (Below.refl _ _) _) geR _) geR _) geR _) ((((HR.out.drewN k).setRd 3 (.int .i64 1) { m with sign := 1 } rfl rfl rfl).setRd 3 (.int .i64 (-1)) { m with sign := -1 } rfl rfl rfl).setRd 0 (.int .u8 121) _ rfl rfl rfl)
  have b45 : (c == 45) = false := by simpa using h45
  by_cases h59 : c = 59
  · subst h59
    have HS2 : Hid (valueStep m 59 = some (valueEnd m)) := by show valueStep m 59 = _; unfold valueStep; rw [HX.out, if_neg (by decide), if_neg (by decide), if_pos rfl, if_neg (by decide), if_neg (by decide), if_pos rfl]
    clear h43 b43 h45 b45
    have HR : Hid (Rep _ _ _ _ _ _ _ _ _) := h
    have OK : Hid (Ok m) := ok
    clear h ok
    go_enter Tryd.func94, Tryd.ntmps94
    go_wp2_with (first | (go_at_call 110; refine hc.mono ?_; rintro e w' ⟨rfl, k, rfl⟩) | (go_at_call 107; refine (variable_no _ _ (by omega) (by omega) (by omega)).mono ?_; rintro e w' ⟨rfl, rfl⟩))
    go_region
    go_wp2
    go_ret
    exact post_yes HS2.out (Below.setCell (Below.setCell (below_drewN (Below.refl _ _) _) geP _) geR _) (((HR.out.drewN (k + 1)).setC hn { cur m with num := m.sign * (cur m).num } 4 (.int .i64 (m.sign * (cur m).num)) rfl rfl).setRd 0 (.int .u8 115) (valueEnd m) rfl rfl rfl)
  have b59 : (c == 59) = false := by simpa using h59
  have HS2 : Hid (valueStep m c = none) := by show valueStep m c = _; unfold valueStep; rw [HX.out, if_neg (by decide), if_neg (by decide), if_pos rfl, if_neg h43, if_neg h45, if_neg h59]
  clear h43 h45 h59
  have HR : Hid (Rep _ _ _ _ _ _ _ _ _) := h
  have OK : Hid (Ok m) := ok
  clear h ok
  by_cases hv : 97 ≤ c ∧ c ≤ 100
  · obtain ⟨hva, hvb⟩ := hv
    go_enter Tryd.func94, Tryd.ntmps94
    go_wp2_with (first | (go_at_call 110; refine hc.mono ?_; rintro e w' ⟨rfl, k, rfl⟩) | (go_at_call 107; refine (variable_yes c _ hva hvb).mono ?_; rintro e w' ⟨rfl, rfl⟩))
    go_ret
    exact post_no HS2.out (below_drewN (Below.refl _ _) _)
  · go_enter Tryd.func94, Tryd.ntmps94
    go_wp2_with (first | (go_at_call 110; refine hc.mono ?_; rintro e w' ⟨rfl, k, rfl⟩) | (go_at_call 107; refine (variable_no _ _ (by omega) (by omega) (by omega)).mono ?_; rintro e w' ⟨rfl, rfl⟩))
    go_ret
    exact post_no HS2.out (below_drewN (Below.refl _ _) _)


end Go.Proofs.YtffajooegiempaaDoor

namespace Go.Proofs.YtffajooegiempaaDoor
open Go.RowKit
variable {B : Nat} {w w' : World} {r : Nat} {m : Rd} {vs vo : Value} {P Q O : Nat → Nat}


set_option maxRecDepth 100000 in
set_option maxHeartbeats 1600000 in
theorem Rep.valueY (h : Rep B w r m vs vo P Q O) (ok : Ok m) (hn : 0 < m.st.length) (c : Int) (h0 : 0 ≤ c) (h1 : c ≤ 255) (hx : m.state = 121) :
    Calls Tryd.prog 94 #[.pointer (some ⟨r, 0, none⟩), .int .u8 c] w (Post B w r (valueStep m c)) := by
  have hc := h.now hn ok.len
  have hcur := Rep.curs hn
  obtain ⟨c0, c1, c2, c3, c4, c5, c6, f7, f8, n9, n10, n11⟩ := h.stc _ _ hcur
  obtain ⟨r0, r1, r2, r3, r4, r5, rf⟩ := h.rdc
  have geR := h.geR
  obtain ⟨geP, geQ⟩ := h.geC hn
  obtain ⟨sg0, sg1⟩ := ok.sgn
  obtain ⟨nu0, nu1⟩ := ok.nums (cur m) (List.mem_of_getElem? hcur)
  have HC : Hid (_ = _) := hcur
  clear hcur
  rw [hx] at r0
  have HX : Hid (_ = _) := hx
  clear hx
  have nrp : r ≠ P (m.st.length - 1) := fun e => n9 e.symm
  have nrq : r ≠ Q (m.st.length - 1) := fun e => n10 e.symm
  have npq : P (m.st.length - 1) ≠ Q (m.st.length - 1) := fun e => n11 e.symm
  have HS2 : Hid (valueStep m c = digitStep m c false 110) := by show valueStep m c = _; unfold valueStep; rw [HX.out, if_neg (by decide), if_neg (by decide), if_neg (by decide), if_pos rfl]
  by_cases hv : 97 ≤ c ∧ c ≤ 100
  · obtain ⟨hva, hvb⟩ := hv
    have HR : Hid (Rep _ _ _ _ _ _ _ _ _) := h
    have OK : Hid (Ok m) := ok
    clear h ok
    go_enter Tryd.func94, Tryd.ntmps94
    go_wp2_with (first | (go_at_call 110; refine hc.mono ?_; rintro e w' ⟨rfl, k, rfl⟩) | (go_at_call 107; refine (variable_yes c _ hva hvb).mono ?_; rintro e w' ⟨rfl, rfl⟩))
    refine ((HR.out.drewN k).digit OK.out hn c false h0 h1 110).mono ?_
    rintro e w' ⟨rfl, hb, hr⟩
    go_wp2
    go_ret
    exact post_via HS2.out ((below_drewN (Below.refl _ _) _)) hb hr
  · have HR : Hid (Rep _ _ _ _ _ _ _ _ _) := h
    have OK : Hid (Ok m) := ok
    clear h ok
    go_enter Tryd.func94, Tryd.ntmps94
    go_wp2_with (first | (go_at_call 110; refine hc.mono ?_; rintro e w' ⟨rfl, k, rfl⟩) | (go_at_call 107; refine (variable_no _ _ (by omega) (by omega) (by omega)).mono ?_; rintro e w' ⟨rfl, rfl⟩))
    refine ((HR.out.drewN k).digit OK.out hn c false h0 h1 110).mono ?_
    rintro e w' ⟨rfl, hb, hr⟩
    go_wp2
    go_ret
    exact post_via HS2.out ((below_drewN (Below.refl _ _) _)) hb hr
set_option maxRecDepth 100000 in
set_option maxHeartbeats 1600000 in
theorem Rep.valueN (h : Rep B w r m vs vo P Q O) (ok : Ok m) (hn : 0 < m.st.length) (c : Int) (h0 : 0 ≤ c) (h1 : c ≤ 255) (hx : m.state = 110) :
    Calls Tryd.prog 94 #[.pointer (some ⟨r, 0, none⟩), .int .u8 c] w (Post B w r (valueStep m c)) := by
  have hc := h.now hn ok.len
  have hcur := Rep.curs hn
  obtain ⟨c0, c1, c2, c3, c4, c5, c6, f7, f8, n9, n10, n11⟩ := h.stc _ _ hcur
  obtain ⟨r0, r1, r2, r3, r4, r5, rf⟩ := h.rdc
  have geR := h.geR
  obtain ⟨geP, geQ⟩ := h.geC hn
  obtain ⟨sg0, sg1⟩ := ok.sgn
  obtain ⟨nu0, nu1⟩ := ok.nums (cur m) (List.mem_of_getElem? hcur)
  have HC : Hid (_ = _) := hcur
  clear hcur
  rw [hx] at r0
  have HX : Hid (_ = _) := hx
  clear hx
  have nrp : r ≠ P (m.st.length - 1) := fun e => n9 e.symm
  have nrq : r ≠ Q (m.st.length - 1) := fun e => n10 e.symm
  have npq : P (m.st.length - 1) ≠ Q (m.st.length - 1) := fun e => n11 e.symm
  have hmw := mul_wrap _ _ sg0 sg1 nu0 nu1
  by_cases h59 : c = 59
  · subst h59
    have HS2 : Hid (valueStep m 59 = some (valueEnd m)) := by show valueStep m 59 = _; unfold valueStep; rw [HX.out, if_neg (by decide), if_neg (by decide), if_neg (by decide), if_neg (by decide), if_pos rfl]
    have HR : Hid (Rep _ _ _ _ _ _ _ _ _) := h
    have OK : Hid (Ok m) := ok
    clear h ok
    go_enter Tryd.func94, Tryd.ntmps94
    go_wp2_with (first | (go_at_call 110; refine hc.mono ?_; rintro e w' ⟨rfl, k, rfl⟩) | (go_at_call 107; refine (variable_no _ _ (by omega) (by omega) (by omega)).mono ?_; rintro e w' ⟨rfl, rfl⟩))
    go_region
    go_wp2
    go_ret
    exact post_yes HS2.out (Below.setCell (Below.setCell (below_drewN (Below.refl _ _) _) geP _) geR _) (((HR.out.drewN (k + 1)).setC hn { cur m with num := m.sign * (cur m).num } 4 (.int .i64 (m.sign * (cur m).num)) rfl rfl).setRd 0 (.int .u8 115) (valueEnd m) rfl rfl rfl)
  have b59 : (c == 59) = false := by simpa using h59
  have HS2 : Hid (valueStep m c = digitStep m c false 110) := by show valueStep m c = _; unfold valueStep; rw [HX.out, if_neg (by decide), if_neg (by decide), if_neg (by decide), if_neg (by decide), if_neg h59]
  clear h59 hmw
  by_cases hv : 97 ≤ c ∧ c ≤ 100
  · obtain ⟨hva, hvb⟩ := hv
    have HR : Hid (Rep _ _ _ _ _ _ _ _ _) := h
    have OK : Hid (Ok m) := ok
    clear h ok
    go_enter Tryd.func94, Tryd.ntmps94
    go_wp2_with (first | (go_at_call 110; refine hc.mono ?_; rintro e w' ⟨rfl, k, rfl⟩) | (go_at_call 107; refine (variable_yes c _ hva hvb).mono ?_; rintro e w' ⟨rfl, rfl⟩))
    refine ((HR.out.drewN k).digit OK.out hn c false h0 h1 110).mono ?_
    rintro e w' ⟨rfl, hb, hr⟩
    go_wp2
    go_ret
    exact post_via HS2.out ((below_drewN (Below.refl _ _) _)) hb hr
  · have HR : Hid (Rep _ _ _ _ _ _ _ _ _) := h
    have OK : Hid (Ok m) := ok
    clear h ok
    go_enter Tryd.func94, Tryd.ntmps94
    go_wp2_with (first | (go_at_call 110; refine hc.mono ?_; rintro e w' ⟨rfl, k, rfl⟩) | (go_at_call 107; refine (variable_no _ _ (by omega) (by omega) (by omega)).mono ?_; rintro e w' ⟨rfl, rfl⟩))
    refine ((HR.out.drewN k).digit OK.out hn c false h0 h1 110).mono ?_
    rintro e w' ⟨rfl, hb, hr⟩
    go_wp2
    go_ret
    exact post_via HS2.out ((below_drewN (Below.refl _ _) _)) hb hr

end Go.Proofs.YtffajooegiempaaDoor

namespace Go.Proofs.YtffajooegiempaaDoor
open Go.RowKit
variable {B : Nat} {w w' : World} {r : Nat} {m : Rd} {vs vo : Value} {P Q O : Nat → Nat}


set_option maxRecDepth 100000 in
set_option maxHeartbeats 1600000 in
theorem Rep.condC (h : Rep B w r m vs vo P Q O) (ok : Ok m) (hn : 0 < m.st.length) (_hB : B ≤ w.heap.size) (c : Int) (h0 : 0 ≤ c) (h1 : c ≤ 255) (hx : m.state = 99) :
    Calls Tryd.prog 95 #[.pointer (some ⟨r, 0, none⟩), .int .u8 c] w (Post B w r (condStep m c)) := by
  have hc := h.now hn ok.len
  have hcur := Rep.curs hn
  obtain ⟨c0, c1, c2, c3, c4, c5, c6, f7, f8, n9, n10, n11⟩ := h.stc _ _ hcur
  obtain ⟨r0, r1, r2, r3, r4, r5, rf⟩ := h.rdc
  have geR := h.geR
  obtain ⟨geP, geQ⟩ := h.geC hn
  obtain ⟨sg0, sg1⟩ := ok.sgn
  obtain ⟨nu0, nu1⟩ := ok.nums (cur m) (List.mem_of_getElem? hcur)
  have HC : Hid (_ = _) := hcur
  clear hcur
  rw [hx] at r0
  have HX : Hid (_ = _) := hx
  clear hx
  have nrp : r ≠ P (m.st.length - 1) := fun e => n9 e.symm
  have nrq : r ≠ Q (m.st.length - 1) := fun e => n10 e.symm
  have npq : P (m.st.length - 1) ≠ Q (m.st.length - 1) := fun e => n11 e.symm
  by_cases h42 : c = 42
  · subst h42
    have HY : Hid (condStep m 42 = some { setCur m { cur m with star := true } with state := behindOf m }) := by show condStep m 42 = _; unfold condStep; rw [HX.out, if_pos rfl, if_pos rfl]
    have HR : Hid (Rep _ _ _ _ _ _ _ _ _) := h
    have OK : Hid (Ok m) := ok
    clear h ok
    go_enter Tryd.func95, Tryd.ntmps95
    go_wp2_with (first | (go_at_call 110; refine hc.mono ?_; rintro e w' ⟨rfl, k, rfl⟩) | (go_at_call 107; refine (variable_no _ _ (by omega) (by omega) (by omega)).mono ?_; rintro e w' ⟨rfl, rfl⟩))
    have e1 := (HR.out.drewN k).setC hn { cur m with star := true } 2 (.bool true) rfl rfl
    refine (e1.behind (by rw [len_setCur]; exact hn) (by rw [len_setCur]; exact OK.out.len)).mono ?_
    rintro e w' ⟨rfl, k2, rfl⟩
    have HE : Hid (Rep _ _ _ _ _ _ _ _ _) := e1
    clear e1
    go_wp2
    go_ret
    refine post_yes HY.out (Below.setCell (below_drewN (Below.setCell (below_drewN (Below.refl _ _) _) geP _) _) geR _) ((HE.out.drewN k2).setRd 0 _ _ ?_ rfl rfl)
    simp [rdCells, behindOf, cur_setCur hn]
  have b42 : (c == 42) = false := by simpa using h42
  by_cases h45 : c = 45
  · subst h45
    have HY : Hid (condStep m 45 = some { m with sign := -1, state := 67 }) := by show condStep m 45 = _; unfold condStep; rw [HX.out, if_pos rfl, if_neg (by decide), if_pos rfl]
    clear h42 b42
    have HR : Hid (Rep _ _ _ _ _ _ _ _ _) := h
    have OK : Hid (Ok m) := ok
    clear h ok
    go_enter Tryd.func95, Tryd.ntmps95
    go_wp2_with (first | (go_at_call 110; refine hc.mono ?_; rintro e w' ⟨rfl, k, rfl⟩) | (go_at_call 107; refine (variable_no _ _ (by omega) (by omega) (by omega)).mono ?_; rintro e w' ⟨rfl, rfl⟩))
    go_ret
    exact post_yes HY.out (Below.setCell (Below.setCell (below_drewN (Below.refl _ _) _) geR _) geR _) (((HR.out.drewN k).setRd 3 (.int .i64 (-1)) { m with sign := -1 } rfl rfl rfl).setRd 0 (.int .u8 67) _ rfl rfl rfl)
  have b45 : (c == 45) = false := by simpa using h45
  by_cases hv : 97 ≤ c ∧ c ≤ 100
  · have HY : Hid (condStep m c = some (signTo m (c - 97).toNat 1 100)) := by show condStep m c = _; unfold condStep; rw [HX.out, if_pos rfl, if_neg h42, if_neg h45, if_pos hv]
    obtain ⟨hva, hvb⟩ := hv
    have hq := h.sgc ok hn (c - 97).toNat (by omega)
    have i0 : (0 : Int) ≤ c - 97 := by omega
    have i1 : c - 97 < 4 := by omega
    clear h42 h45
    have HR : Hid (Rep _ _ _ _ _ _ _ _ _) := h
    have OK : Hid (Ok m) := ok
    clear h ok
    go_enter Tryd.func95, Tryd.ntmps95
    go_wp2_with (first | (go_at_call 110; refine hc.mono ?_; rintro e w' ⟨rfl, k, rfl⟩) | (go_at_call 107; refine (variable_yes c _ hva hvb).mono ?_; rintro e w' ⟨rfl, rfl⟩))
    go_region
    go_wp2
    go_ret
    exact post_yes HY.out (Below.drew (Below.setCell (Below.setCell (Below.setCell (below_drewN (Below.refl _ _) _) geR _) geQ _) geR _)) (rep_sign1 HR.out hn (c - 97).toNat 100 k).drew
  have HY : Hid (condStep m c = none) := by show condStep m c = _; unfold condStep; rw [HX.out, if_pos rfl, if_neg h42, if_neg h45, if_neg hv]
  clear h42 h45
  have HR : Hid (Rep _ _ _ _ _ _ _ _ _) := h
  have OK : Hid (Ok m) := ok
  clear h ok
  go_enter Tryd.func95, Tryd.ntmps95
  go_wp2_with (first | (go_at_call 110; refine hc.mono ?_; rintro e w' ⟨rfl, k, rfl⟩) | (go_at_call 107; refine (variable_no _ _ (by omega) (by omega) (by omega)).mono ?_; rintro e w' ⟨rfl, rfl⟩))
  go_ret
  exact post_no HY.out (below_drewN (Below.refl _ _) _)

set_option maxRecDepth 100000 in
set_option maxHeartbeats 1600000 in
theorem Rep.condCC (h : Rep B w r m vs vo P Q O) (ok : Ok m) (hn : 0 < m.st.length) (_hB : B ≤ w.heap.size) (c : Int) (h0 : 0 ≤ c) (h1 : c ≤ 255) (hx : m.state = 67) :
    Calls Tryd.prog 95 #[.pointer (some ⟨r, 0, none⟩), .int .u8 c] w (Post B w r (condStep m c)) := by
  have hc := h.now hn ok.len
  have hcur := Rep.curs hn
  obtain ⟨c0, c1, c2, c3, c4, c5, c6, f7, f8, n9, n10, n11⟩ := h.stc _ _ hcur
  obtain ⟨r0, r1, r2, r3, r4, r5, rf⟩ := h.rdc
  have geR := h.geR
  obtain ⟨geP, geQ⟩ := h.geC hn
  obtain ⟨sg0, sg1⟩ := ok.sgn
  obtain ⟨nu0, nu1⟩ := ok.nums (cur m) (List.mem_of_getElem? hcur)
  have HC : Hid (_ = _) := hcur
  clear hcur
  rw [hx] at r0
  have HX : Hid (_ = _) := hx
  clear hx
  have nrp : r ≠ P (m.st.length - 1) := fun e => n9 e.symm
  have nrq : r ≠ Q (m.st.length - 1) := fun e => n10 e.symm
  have npq : P (m.st.length - 1) ≠ Q (m.st.length - 1) := fun e => n11 e.symm
  by_cases hv : 97 ≤ c ∧ c ≤ 100
  · have HY : Hid (condStep m c = some (signTo m (c - 97).toNat m.sign 100)) := by show condStep m c = _; unfold condStep; rw [HX.out, if_neg (by decide), if_pos rfl, if_pos hv]
    obtain ⟨hva, hvb⟩ := hv
    have hq := h.sgc ok hn (c - 97).toNat (by omega)
    have i0 : (0 : Int) ≤ c - 97 := by omega
    have i1 : c - 97 < 4 := by omega
    have HR : Hid (Rep _ _ _ _ _ _ _ _ _) := h
    have OK : Hid (Ok m) := ok
    clear h ok
    go_enter Tryd.func95, Tryd.ntmps95
    go_wp2_with (first | (go_at_call 110; refine hc.mono ?_; rintro e w' ⟨rfl, k, rfl⟩) | (go_at_call 107; refine (variable_yes c _ hva hvb).mono ?_; rintro e w' ⟨rfl, rfl⟩))
    go_region
    go_wp2
    go_ret
    exact post_yes HY.out (Below.setCell (Below.setCell (below_drewN (Below.refl _ _) _) geQ _) geR _) (rep_sign HR.out hn (c - 97).toNat 100 (k + 1))
  have HY : Hid (condStep m c = none) := by show condStep m c = _; unfold condStep; rw [HX.out, if_neg (by decide), if_pos rfl, if_neg hv]
  have HR : Hid (Rep _ _ _ _ _ _ _ _ _) := h
  have OK : Hid (Ok m) := ok
  clear h ok
  go_enter Tryd.func95, Tryd.ntmps95
  go_wp2_with (first | (go_at_call 110; refine hc.mono ?_; rintro e w' ⟨rfl, k, rfl⟩) | (go_at_call 107; refine (variable_no _ _ (by omega) (by omega) (by omega)).mono ?_; rintro e w' ⟨rfl, rfl⟩))
  go_ret
  exact post_no HY.out (below_drewN (Below.refl _ _) _)

end Go.Proofs.YtffajooegiempaaDoor

namespace Go.Proofs.YtffajooegiempaaDoor
open Go.RowKit
variable {B : Nat} {w w' : World} {r : Nat} {m : Rd} {vs vo : Value} {P Q O : Nat → Nat}


set_option maxRecDepth 100000 in
set_option maxHeartbeats 1600000 in
theorem Rep.condD (h : Rep B w r m vs vo P Q O) (ok : Ok m) (hn : 0 < m.st.length) (_hB : B ≤ w.heap.size) (c : Int) (h0 : 0 ≤ c) (h1 : c ≤ 255) (hx : m.state = 100) :
    Calls Tryd.prog 95 #[.pointer (some ⟨r, 0, none⟩), .int .u8 c] w (Post B w r (condStep m c)) := by
  have hc := h.now hn ok.len
  have hcur := Rep.curs hn
  obtain ⟨c0, c1, c2, c3, c4, c5, c6, f7, f8, n9, n10, n11⟩ := h.stc _ _ hcur
  obtain ⟨r0, r1, r2, r3, r4, r5, rf⟩ := h.rdc
  have geR := h.geR
  obtain ⟨geP, geQ⟩ := h.geC hn
  obtain ⟨sg0, sg1⟩ := ok.sgn
  obtain ⟨nu0, nu1⟩ := ok.nums (cur m) (List.mem_of_getElem? hcur)
  have HC : Hid (_ = _) := hcur
  clear hcur
  rw [hx] at r0
  have HX : Hid (_ = _) := hx
  clear hx
  have nrp : r ≠ P (m.st.length - 1) := fun e => n9 e.symm
  have nrq : r ≠ Q (m.st.length - 1) := fun e => n10 e.symm
  have npq : P (m.st.length - 1) ≠ Q (m.st.length - 1) := fun e => n11 e.symm
  by_cases h43 : c = 43
  · subst h43
    have HY : Hid (condStep m 43 = some { m with sign := 1, state := 101 }) := by show condStep m 43 = _; unfold condStep; rw [HX.out, if_neg (by decide), if_neg (by decide), if_pos rfl, if_pos rfl]
    have HR : Hid (Rep _ _ _ _ _ _ _ _ _) := h
    have OK : Hid (Ok m) := ok
    clear h ok
    go_enter Tryd.func95, Tryd.ntmps95
    go_wp2_with (first | (go_at_call 110; refine hc.mono ?_; rintro e w' ⟨rfl, k, rfl⟩) | (go_at_call 107; refine (variable_no _ _ (by omega) (by omega) (by omega)).mono ?_; rintro e w' ⟨rfl, rfl⟩))
    go_ret
    exact post_yes HY.out (Below.setCell (Below.setCell (below_drewN (Below.refl _ _) _) geR _) geR _) (((HR.out.drewN k).setRd 3 (.int .i64 1) { m with sign := 1 } rfl rfl rfl).setRd 0 (.int .u8 101) _ rfl rfl rfl)
  have b43 : (c == 43) = false := by simpa using h43
  by_cases h45 : c = 45
  · subst h45
    have HY : Hid (condStep m 45 = some { m with sign := -1, state := 101 }) := by show condStep m 45 = _; unfold condStep; rw [HX.out, if_neg (by decide), if_neg (by decide), if_pos rfl, if_neg (by decide), if_pos rfl]
    clear h43 b43
    have HR : Hid (Rep _ _ _ _ _ _ _ _ _) := h
    have OK : Hid (Ok m) := ok
    clear h ok
    go_enter Tryd.func95, Tryd.ntmps95
    go_wp2_with (first | (go_at_call 110; refine hc.mono ?_; rintro e w' ⟨rfl, k, rfl⟩) | (go_at_call 107; refine (variable_no _ _ (by omega) (by omega) (by omega)).mono ?_; rintro e w' ⟨rfl, rfl⟩))
    go_ret
    exact post_yes HY.out (Below.setCell (Below.setCell (Below.setCell (below_drewN (Below.refl _ _) _) geR _) geR _) geR _) ((((HR.out.drewN k).setRd 3 (.int .i64 1) { m with sign := 1 } rfl rfl rfl).setRd 3 (.int .i64 (-1)) { m with sign := -1 } rfl rfl rfl).setRd 0 (.int .u8 101) _ rfl rfl rfl)
  have b45 : (c == 45) = false := by simpa using h45
  by_cases h60 : c = 60
  · subst h60
    have HY : Hid (condStep m 60 = some { m with state := 60 }) := by show condStep m 60 = _; unfold condStep; rw [HX.out, if_neg (by decide), if_neg (by decide), if_pos rfl, if_neg (by decide), if_neg (by decide), if_pos rfl]
    clear h43 b43 h45 b45
    have HR : Hid (Rep _ _ _ _ _ _ _ _ _) := h
    have OK : Hid (Ok m) := ok
    clear h ok
    go_enter Tryd.func95, Tryd.ntmps95
    go_wp2_with (first | (go_at_call 110; refine hc.mono ?_; rintro e w' ⟨rfl, k, rfl⟩) | (go_at_call 107; refine (variable_no _ _ (by omega) (by omega) (by omega)).mono ?_; rintro e w' ⟨rfl, rfl⟩))
    go_ret
    exact post_yes HY.out (Below.setCell (below_drewN (Below.refl _ _) _) geR _) ((HR.out.drewN k).setRd 0 (.int .u8 60) _ rfl rfl rfl)
  have b60 : (c == 60) = false := by simpa using h60
  have HY : Hid (condStep m c = none) := by show condStep m c = _; unfold condStep; rw [HX.out, if_neg (by decide), if_neg (by decide), if_pos rfl, if_neg h43, if_neg h45, if_neg h60]
  clear h43 h45 h60
  have HR : Hid (Rep _ _ _ _ _ _ _ _ _) := h
  have OK : Hid (Ok m) := ok
  clear h ok
  by_cases hv : 97 ≤ c ∧ c ≤ 100
  · obtain ⟨hva, hvb⟩ := hv
    go_enter Tryd.func95, Tryd.ntmps95
    go_wp2_with (first | (go_at_call 110; refine hc.mono ?_; rintro e w' ⟨rfl, k, rfl⟩) | (go_at_call 107; refine (variable_yes c _ hva hvb).mono ?_; rintro e w' ⟨rfl, rfl⟩))
    go_ret
    exact post_no HY.out (below_drewN (Below.refl _ _) _)
  · go_enter Tryd.func95, Tryd.ntmps95
    go_wp2_with (first | (go_at_call 110; refine hc.mono ?_; rintro e w' ⟨rfl, k, rfl⟩) | (go_at_call 107; refine (variable_no _ _ (by omega) (by omega) (by omega)).mono ?_; rintro e w' ⟨rfl, rfl⟩))
    go_ret
    exact post_no HY.out (below_drewN (Below.refl _ _) _)

set_option maxRecDepth 100000 in
set_option maxHeartbeats 1600000 in
theorem Rep.condE (h : Rep B w r m vs vo P Q O) (ok : Ok m) (hn : 0 < m.st.length) (_hB : B ≤ w.heap.size) (c : Int) (h0 : 0 ≤ c) (h1 : c ≤ 255) (hx : m.state = 101) :
    Calls Tryd.prog 95 #[.pointer (some ⟨r, 0, none⟩), .int .u8 c] w (Post B w r (condStep m c)) := by
  have hc := h.now hn ok.len
  have hcur := Rep.curs hn
  obtain ⟨c0, c1, c2, c3, c4, c5, c6, f7, f8, n9, n10, n11⟩ := h.stc _ _ hcur
  obtain ⟨r0, r1, r2, r3, r4, r5, rf⟩ := h.rdc
  have geR := h.geR
  obtain ⟨geP, geQ⟩ := h.geC hn
  obtain ⟨sg0, sg1⟩ := ok.sgn
  obtain ⟨nu0, nu1⟩ := ok.nums (cur m) (List.mem_of_getElem? hcur)
  have HC : Hid (_ = _) := hcur
  clear hcur
  rw [hx] at r0
  have HX : Hid (_ = _) := hx
  clear hx
  have nrp : r ≠ P (m.st.length - 1) := fun e => n9 e.symm
  have nrq : r ≠ Q (m.st.length - 1) := fun e => n10 e.symm
  have npq : P (m.st.length - 1) ≠ Q (m.st.length - 1) := fun e => n11 e.symm
  by_cases hv : 97 ≤ c ∧ c ≤ 100
  · by_cases hz : (cur m).sg.getD (c - 97).toNat 0 = 0
    · have HY : Hid (condStep m c = some (signTo m (c - 97).toNat m.sign 102)) := by show condStep m c = _; unfold condStep; rw [HX.out, if_neg (by decide), if_neg (by decide), if_neg (by decide), if_pos rfl, if_pos hv, if_pos hz]
      obtain ⟨hva, hvb⟩ := hv
      have hq := h.sgc ok hn (c - 97).toNat (by omega)
      rw [hz] at hq
      have i0 : (0 : Int) ≤ c - 97 := by omega
      have i1 : c - 97 < 4 := by omega
      clear hz
      have HR : Hid (Rep _ _ _ _ _ _ _ _ _) := h
      have OK : Hid (Ok m) := ok
      clear h ok
      go_enter Tryd.func95, Tryd.ntmps95
      go_wp2_with (first | (go_at_call 110; refine hc.mono ?_; rintro e w' ⟨rfl, k, rfl⟩) | (go_at_call 107; refine (variable_yes c _ hva hvb).mono ?_; rintro e w' ⟨rfl, rfl⟩))
      go_region
      go_wp2
      go_ret
      exact post_yes HY.out (Below.setCell (Below.setCell (below_drewN (Below.refl _ _) _) geQ _) geR _) (rep_sign HR.out hn (c - 97).toNat 102 (k + 1))
    · have HY : Hid (condStep m c = none) := by show condStep m c = _; unfold condStep; rw [HX.out, if_neg (by decide), if_neg (by decide), if_neg (by decide), if_pos rfl, if_pos hv, if_neg hz]
      obtain ⟨hva, hvb⟩ := hv
      have hq := h.sgc ok hn (c - 97).toNat (by omega)
      have i0 : (0 : Int) ≤ c - 97 := by omega
      have i1 : c - 97 < 4 := by omega
      generalize (cur m).sg.getD (c - 97).toNat 0 = y at *
      have bz : (y != 0) = true := by simpa using hz
      clear hz
      have HR : Hid (Rep _ _ _ _ _ _ _ _ _) := h
      have OK : Hid (Ok m) := ok
      clear h ok
      go_enter Tryd.func95, Tryd.ntmps95
      go_wp2_with (first | (go_at_call 110; refine hc.mono ?_; rintro e w' ⟨rfl, k, rfl⟩) | (go_at_call 107; refine (variable_yes c _ hva hvb).mono ?_; rintro e w' ⟨rfl, rfl⟩))
      go_ret
      exact post_no HY.out (below_drewN (Below.refl _ _) _)
  have HY : Hid (condStep m c = none) := by show condStep m c = _; unfold condStep; rw [HX.out, if_neg (by decide), if_neg (by decide), if_neg (by decide), if_pos rfl, if_neg hv]
  have HR : Hid (Rep _ _ _ _ _ _ _ _ _) := h
  have OK : Hid (Ok m) := ok
  clear h ok
  go_enter Tryd.func95, Tryd.ntmps95
  go_wp2_with (first | (go_at_call 110; refine hc.mono ?_; rintro e w' ⟨rfl, k, rfl⟩) | (go_at_call 107; refine (variable_no _ _ (by omega) (by omega) (by omega)).mono ?_; rintro e w' ⟨rfl, rfl⟩))
  go_ret
  exact post_no HY.out (below_drewN (Below.refl _ _) _)

end Go.Proofs.YtffajooegiempaaDoor

namespace Go.Proofs.YtffajooegiempaaDoor
open Go.RowKit
variable {B : Nat} {w w' : World} {r : Nat} {m : Rd} {vs vo : Value} {P Q O : Nat → Nat}


set_option maxRecDepth 100000 in
set_option maxHeartbeats 1600000 in
theorem Rep.condF (h : Rep B w r m vs vo P Q O) (ok : Ok m) (hn : 0 < m.st.length) (_hB : B ≤ w.heap.size) (c : Int) (h0 : 0 ≤ c) (h1 : c ≤ 255) (hx : m.state = 102) :
    Calls Tryd.prog 95 #[.pointer (some ⟨r, 0, none⟩), .int .u8 c] w (Post B w r (condStep m c)) := by
  have hc := h.now hn ok.len
  have hcur := Rep.curs hn
  obtain ⟨c0, c1, c2, c3, c4, c5, c6, f7, f8, n9, n10, n11⟩ := h.stc _ _ hcur
  obtain ⟨r0, r1, r2, r3, r4, r5, rf⟩ := h.rdc
  have geR := h.geR
  obtain ⟨geP, geQ⟩ := h.geC hn
  obtain ⟨sg0, sg1⟩ := ok.sgn
  obtain ⟨nu0, nu1⟩ := ok.nums (cur m) (List.mem_of_getElem? hcur)
  have HC : Hid (_ = _) := hcur
  clear hcur
  rw [hx] at r0
  have HX : Hid (_ = _) := hx
  clear hx
  have nrp : r ≠ P (m.st.length - 1) := fun e => n9 e.symm
  have nrq : r ≠ Q (m.st.length - 1) := fun e => n10 e.symm
  have npq : P (m.st.length - 1) ≠ Q (m.st.length - 1) := fun e => n11 e.symm
  by_cases h60 : c = 60
  · subst h60
    have HY : Hid (condStep m 60 = some { m with state := 60 }) := by show condStep m 60 = _; unfold condStep; rw [HX.out, if_neg (by decide), if_neg (by decide), if_neg (by decide), if_neg (by decide), if_pos rfl, if_pos rfl]
    have HR : Hid (Rep _ _ _ _ _ _ _ _ _) := h
    have OK : Hid (Ok m) := ok
    clear h ok
    go_enter Tryd.func95, Tryd.ntmps95
    go_wp2_with (first | (go_at_call 110; refine hc.mono ?_; rintro e w' ⟨rfl, k, rfl⟩) | (go_at_call 107; refine (variable_no _ _ (by omega) (by omega) (by omega)).mono ?_; rintro e w' ⟨rfl, rfl⟩))
    go_ret
    exact post_yes HY.out (Below.setCell (below_drewN (Below.refl _ _) _) geR _) ((HR.out.drewN k).setRd 0 (.int .u8 60) _ rfl rfl rfl)
  have b60 : (c == 60) = false := by simpa using h60
  have HY : Hid (condStep m c = none) := by show condStep m c = _; unfold condStep; rw [HX.out, if_neg (by decide), if_neg (by decide), if_neg (by decide), if_neg (by decide), if_pos rfl, if_neg h60]
  clear h60
  have HR : Hid (Rep _ _ _ _ _ _ _ _ _) := h
  have OK : Hid (Ok m) := ok
  clear h ok
  by_cases hv : 97 ≤ c ∧ c ≤ 100
  · obtain ⟨hva, hvb⟩ := hv
    go_enter Tryd.func95, Tryd.ntmps95
    go_wp2_with (first | (go_at_call 110; refine hc.mono ?_; rintro e w' ⟨rfl, k, rfl⟩) | (go_at_call 107; refine (variable_yes c _ hva hvb).mono ?_; rintro e w' ⟨rfl, rfl⟩))
    go_ret
    exact post_no HY.out (below_drewN (Below.refl _ _) _)
  · go_enter Tryd.func95, Tryd.ntmps95
    go_wp2_with (first | (go_at_call 110; refine hc.mono ?_; rintro e w' ⟨rfl, k, rfl⟩) | (go_at_call 107; refine (variable_no _ _ (by omega) (by omega) (by omega)).mono ?_; rintro e w' ⟨rfl, rfl⟩))
    go_ret
    exact post_no HY.out (below_drewN (Below.refl _ _) _)

set_option maxRecDepth 100000 in
set_option maxHeartbeats 1600000 in
theorem Rep.condL (h : Rep B w r m vs vo P Q O) (ok : Ok m) (hn : 0 < m.st.length) (_hB : B ≤ w.heap.size) (c : Int) (h0 : 0 ≤ c) (h1 : c ≤ 255) (hx : m.state = 60) :
    Calls Tryd.prog 95 #[.pointer (some ⟨r, 0, none⟩), .int .u8 c] w (Post B w r (condStep m c)) := by
  have hc := h.now hn ok.len
  have hcur := Rep.curs hn
  obtain ⟨c0, c1, c2, c3, c4, c5, c6, f7, f8, n9, n10, n11⟩ := h.stc _ _ hcur
  obtain ⟨r0, r1, r2, r3, r4, r5, rf⟩ := h.rdc
  have geR := h.geR
  obtain ⟨geP, geQ⟩ := h.geC hn
  obtain ⟨sg0, sg1⟩ := ok.sgn
  obtain ⟨nu0, nu1⟩ := ok.nums (cur m) (List.mem_of_getElem? hcur)
  have HC : Hid (_ = _) := hcur
  clear hcur
  rw [hx] at r0
  have HX : Hid (_ = _) := hx
  clear hx
  have nrp : r ≠ P (m.st.length - 1) := fun e => n9 e.symm
  have nrq : r ≠ Q (m.st.length - 1) := fun e => n10 e.symm
  have npq : P (m.st.length - 1) ≠ Q (m.st.length - 1) := fun e => n11 e.symm
  by_cases h61 : c = 61
  · subst h61
    have HY : Hid (condStep m 61 = some { m with neg := false, state := 98 }) := by show condStep m 61 = _; unfold condStep; rw [HX.out, if_neg (by decide), if_neg (by decide), if_neg (by decide), if_neg (by decide), if_neg (by decide), if_pos rfl, if_pos rfl]
    have HR : Hid (Rep _ _ _ _ _ _ _ _ _) := h
    have OK : Hid (Ok m) := ok
    clear h ok
    go_enter Tryd.func95, Tryd.ntmps95
    go_wp2_with (first | (go_at_call 110; refine hc.mono ?_; rintro e w' ⟨rfl, k, rfl⟩) | (go_at_call 107; refine (variable_no _ _ (by omega) (by omega) (by omega)).mono ?_; rintro e w' ⟨rfl, rfl⟩))
    go_ret
    exact post_yes HY.out (Below.setCell (Below.setCell (below_drewN (Below.refl _ _) _) geR _) geR _) (((HR.out.drewN k).setRd 4 (.bool false) { m with neg := false } rfl rfl rfl).setRd 0 (.int .u8 98) _ rfl rfl rfl)
  have b61 : (c == 61) = false := by simpa using h61
  have HY : Hid (condStep m c = none) := by show condStep m c = _; unfold condStep; rw [HX.out, if_neg (by decide), if_neg (by decide), if_neg (by decide), if_neg (by decide), if_neg (by decide), if_pos rfl, if_neg h61]
  clear h61
  have HR : Hid (Rep _ _ _ _ _ _ _ _ _) := h
  have OK : Hid (Ok m) := ok
  clear h ok
  by_cases hv : 97 ≤ c ∧ c ≤ 100
  · obtain ⟨hva, hvb⟩ := hv
    go_enter Tryd.func95, Tryd.ntmps95
    go_wp2_with (first | (go_at_call 110; refine hc.mono ?_; rintro e w' ⟨rfl, k, rfl⟩) | (go_at_call 107; refine (variable_yes c _ hva hvb).mono ?_; rintro e w' ⟨rfl, rfl⟩))
    go_ret
    exact post_no HY.out (below_drewN (Below.refl _ _) _)
  · go_enter Tryd.func95, Tryd.ntmps95
    go_wp2_with (first | (go_at_call 110; refine hc.mono ?_; rintro e w' ⟨rfl, k, rfl⟩) | (go_at_call 107; refine (variable_no _ _ (by omega) (by omega) (by omega)).mono ?_; rintro e w' ⟨rfl, rfl⟩))
    go_ret
    exact post_no HY.out (below_drewN (Below.refl _ _) _)

set_option maxRecDepth 100000 in
set_option maxHeartbeats 1600000 in
theorem Rep.condB (h : Rep B w r m vs vo P Q O) (ok : Ok m) (hn : 0 < m.st.length) (_hB : B ≤ w.heap.size) (c : Int) (h0 : 0 ≤ c) (h1 : c ≤ 255) (hx : m.state = 98) :
    Calls Tryd.prog 95 #[.pointer (some ⟨r, 0, none⟩), .int .u8 c] w (Post B w r (condStep m c)) := by
  have hc := h.now hn ok.len
  have hcur := Rep.curs hn
  obtain ⟨c0, c1, c2, c3, c4, c5, c6, f7, f8, n9, n10, n11⟩ := h.stc _ _ hcur
  obtain ⟨r0, r1, r2, r3, r4, r5, rf⟩ := h.rdc
  have geR := h.geR
  obtain ⟨geP, geQ⟩ := h.geC hn
  obtain ⟨sg0, sg1⟩ := ok.sgn
  obtain ⟨nu0, nu1⟩ := ok.nums (cur m) (List.mem_of_getElem? hcur)
  have HC : Hid (_ = _) := hcur
  clear hcur
  rw [hx] at r0
  have HX : Hid (_ = _) := hx
  clear hx
  have nrp : r ≠ P (m.st.length - 1) := fun e => n9 e.symm
  have nrq : r ≠ Q (m.st.length - 1) := fun e => n10 e.symm
  have npq : P (m.st.length - 1) ≠ Q (m.st.length - 1) := fun e => n11 e.symm
  by_cases h45 : c = 45
  · subst h45
    have HY : Hid (condStep m 45 = some { m with neg := true, state := 66 }) := by show condStep m 45 = _; unfold condStep; rw [HX.out, if_neg (by decide), if_neg (by decide), if_neg (by decide), if_neg (by decide), if_neg (by decide), if_neg (by decide), if_pos rfl, if_pos rfl]
    have HR : Hid (Rep _ _ _ _ _ _ _ _ _) := h
    have OK : Hid (Ok m) := ok
    clear h ok
    go_enter Tryd.func95, Tryd.ntmps95
    go_wp2_with (first | (go_at_call 110; refine hc.mono ?_; rintro e w' ⟨rfl, k, rfl⟩) | (go_at_call 107; refine (variable_no _ _ (by omega) (by omega) (by omega)).mono ?_; rintro e w' ⟨rfl, rfl⟩))
    go_ret
    exact post_yes HY.out (Below.setCell (Below.setCell (below_drewN (Below.refl _ _) _) geR _) geR _) (((HR.out.drewN k).setRd 4 (.bool true) { m with neg := true } rfl rfl rfl).setRd 0 (.int .u8 66) _ rfl rfl rfl)
  have b45 : (c == 45) = false := by simpa using h45
  have HY : Hid (condStep m c = digitStep m c false 109) := by show condStep m c = _; unfold condStep; rw [HX.out, if_neg (by decide), if_neg (by decide), if_neg (by decide), if_neg (by decide), if_neg (by decide), if_neg (by decide), if_pos rfl, if_neg h45]
  clear h45
  by_cases hv : 97 ≤ c ∧ c ≤ 100
  · obtain ⟨hva, hvb⟩ := hv
    have HR : Hid (Rep _ _ _ _ _ _ _ _ _) := h
    have OK : Hid (Ok m) := ok
    clear h ok
    go_enter Tryd.func95, Tryd.ntmps95
    go_wp2_with (first | (go_at_call 110; refine hc.mono ?_; rintro e w' ⟨rfl, k, rfl⟩) | (go_at_call 107; refine (variable_yes c _ hva hvb).mono ?_; rintro e w' ⟨rfl, rfl⟩))
    refine ((HR.out.drewN k).digit OK.out hn c false h0 h1 109).mono ?_
    rintro e w' ⟨rfl, hb, hr⟩
    go_wp2
    go_ret
    exact post_via HY.out (below_drewN (Below.refl _ _) _) hb hr
  · have HR : Hid (Rep _ _ _ _ _ _ _ _ _) := h
    have OK : Hid (Ok m) := ok
    clear h ok
    go_enter Tryd.func95, Tryd.ntmps95
    go_wp2_with (first | (go_at_call 110; refine hc.mono ?_; rintro e w' ⟨rfl, k, rfl⟩) | (go_at_call 107; refine (variable_no _ _ (by omega) (by omega) (by omega)).mono ?_; rintro e w' ⟨rfl, rfl⟩))
    refine ((HR.out.drewN k).digit OK.out hn c false h0 h1 109).mono ?_
    rintro e w' ⟨rfl, hb, hr⟩
    go_wp2
    go_ret
    exact post_via HY.out (below_drewN (Below.refl _ _) _) hb hr

set_option maxRecDepth 100000 in
set_option maxHeartbeats 1600000 in
theorem Rep.condBB (h : Rep B w r m vs vo P Q O) (ok : Ok m) (hn : 0 < m.st.length) (_hB : B ≤ w.heap.size) (c : Int) (h0 : 0 ≤ c) (h1 : c ≤ 255) (hx : m.state = 66) :
    Calls Tryd.prog 95 #[.pointer (some ⟨r, 0, none⟩), .int .u8 c] w (Post B w r (condStep m c)) := by
  have hc := h.now hn ok.len
  have hcur := Rep.curs hn
  obtain ⟨c0, c1, c2, c3, c4, c5, c6, f7, f8, n9, n10, n11⟩ := h.stc _ _ hcur
  obtain ⟨r0, r1, r2, r3, r4, r5, rf⟩ := h.rdc
  have geR := h.geR
  obtain ⟨geP, geQ⟩ := h.geC hn
  obtain ⟨sg0, sg1⟩ := ok.sgn
  obtain ⟨nu0, nu1⟩ := ok.nums (cur m) (List.mem_of_getElem? hcur)
  have HC : Hid (_ = _) := hcur
  clear hcur
  rw [hx] at r0
  have HX : Hid (_ = _) := hx
  clear hx
  have nrp : r ≠ P (m.st.length - 1) := fun e => n9 e.symm
  have nrq : r ≠ Q (m.st.length - 1) := fun e => n10 e.symm
  have npq : P (m.st.length - 1) ≠ Q (m.st.length - 1) := fun e => n11 e.symm
  have HY : Hid (condStep m c = digitStep m c true 109) := by show condStep m c = _; unfold condStep; rw [HX.out, if_neg (by decide), if_neg (by decide), if_neg (by decide), if_neg (by decide), if_neg (by decide), if_neg (by decide), if_neg (by decide), if_pos rfl]
  by_cases hv : 97 ≤ c ∧ c ≤ 100
  · obtain ⟨hva, hvb⟩ := hv
    have HR : Hid (Rep _ _ _ _ _ _ _ _ _) := h
    have OK : Hid (Ok m) := ok
    clear h ok
    go_enter Tryd.func95, Tryd.ntmps95
    go_wp2_with (first | (go_at_call 110; refine hc.mono ?_; rintro e w' ⟨rfl, k, rfl⟩) | (go_at_call 107; refine (variable_yes c _ hva hvb).mono ?_; rintro e w' ⟨rfl, rfl⟩))
    refine ((HR.out.drewN k).digit OK.out hn c true h0 h1 109).mono ?_
    rintro e w' ⟨rfl, hb, hr⟩
    go_wp2
    go_ret
    exact post_via HY.out (below_drewN (Below.refl _ _) _) hb hr
  · have HR : Hid (Rep _ _ _ _ _ _ _ _ _) := h
    have OK : Hid (Ok m) := ok
    clear h ok
    go_enter Tryd.func95, Tryd.ntmps95
    go_wp2_with (first | (go_at_call 110; refine hc.mono ?_; rintro e w' ⟨rfl, k, rfl⟩) | (go_at_call 107; refine (variable_no _ _ (by omega) (by omega) (by omega)).mono ?_; rintro e w' ⟨rfl, rfl⟩))
    refine ((HR.out.drewN k).digit OK.out hn c true h0 h1 109).mono ?_
    rintro e w' ⟨rfl, hb, hr⟩
    go_wp2
    go_ret
    exact post_via HY.out (below_drewN (Below.refl _ _) _) hb hr

end Go.Proofs.YtffajooegiempaaDoor

namespace Go

theorem step_append_own {P : Program} {ops : Array Oper} {o : Oper} {a : Act} {w : World} {K : Act → World → Prop} {Q : Exit → Act → World → Prop} {E : Prop}
    (hg : o.guard = none) (s x : Operand) (t : TypeId) (hop : o.op = Op.call { callee := Callee.builtin Builtin.append, args := #[s, x], argTypes := #[t, t] })
    (base : Nat) (e : TypeId) (i : TypeInfo) (z : Value) (size bytes : Nat) (h1 : P.underlying t = some (.slice e)) (h2 : P.info? e = some i) (h3 : i.zero = some z) (h4 : i.size = size) (h5 : i.bytes = bytes) (h6 : z.cells.size = size) (h7 : 0 < size)
    (v : Value) (n : Nat) (xs : List Value) (hs : a.eval s = v) (hown : w.ownsRow base e size v n xs)
    (ad : Addr) (m c : Nat) (news : List Value) (hx : a.eval x = .slice (some ad) m c) (hn : news.length = m * size) (hc : ∀ j u, news[j]? = some u → w.cell? (ad.add j) = some u) (h1c : ∀ u ∈ news, u.oneCell' = true)
    (b1 : n + m ≤ maxLen) (b2 : (n + m) * bytes ≤ 140737488355328) (hbase : base ≤ w.heap.size)
    (hK : ∀ v' w', w'.ownsRow base e size v' (n + m) (xs ++ news) → w.grownBy w' v.ownBlock → K (a.put o.dst v') w') :
    if Region.wanted o (yielded ops a.tmps) = true then Oper.wp P o a w K Q else E := by
  have hw : Region.wanted o (yielded ops a.tmps) = true := by simp [Region.wanted, hg]
  rw [if_pos hw]
  exact wp_append_own w s x t hop base e i z size bytes h1 h2 h3 h4 h5 h6 h7 v n xs hs hown ad m c news hx hn hc h1c b1 b2 hbase fun v' w' h2 h3 _ => hK v' w' h2 h3

end Go
namespace Go.Proofs.YtffajooegiempaaDoor
open Go.RowKit
variable {B : Nat} {w w' : World} {r : Nat} {m : Rd} {vs vo : Value} {P Q O : Nat → Nat}

/-- A function of the index, with one more. -/
def updR (f : Nat → Nat) (n x : Nat) : Nat → Nat := fun i => if i = n then x else f i
theorem updR_at (f : Nat → Nat) (n x : Nat) : updR f n x n = x := by simp [updR]
theorem updR_lt (f : Nat → Nat) {n x i : Nat} (h : i < n) : updR f n x i = f i := by unfold updR; rw [if_neg (by omega)]
theorem map_upd (f : Nat → Nat) (n x : Nat) : (List.range (n + 1)).map (fun i => ptr (updR f n x i)) = (List.range n).map (fun i => ptr (f i)) ++ [ptr x] := by
  rw [List.range_succ, List.map_append]
  congr 1
  · apply List.map_congr_left; intro i hi; rw [updR_lt f (by simpa using hi)]
  · simp [updR_at]

/-- All blocks of the reader lie in the heap. -/
theorem Rep.lts (h : Rep B w r m vs vo P Q O) : r < w.heap.size ∧ (∀ i, i < m.st.length → P i < w.heap.size ∧ Q i < w.heap.size) ∧ (∀ i, i < m.op.length → O i < w.heap.size) := by
  refine ⟨h.rd.lt, fun i hi => ?_, fun i hi => ?_⟩
  · obtain ⟨a, b⟩ := h.st i _ (List.getElem?_eq_getElem hi)
    exact ⟨a.lt, b.lt⟩
  · exact (h.op i _ (List.getElem?_eq_getElem hi)).lt

/-- Behind an append to the row of the open blocks: one more. -/
theorem Rep.pushOp (h : Rep B w r m vs vo P Q O) (b : Bk) (v' : Value) (w1 w2 : World) (hlt : w.heap.size < w1.heap.size) (hw1 : ∀ k, k < w.heap.size → w1.heap[k]? = w.heap[k]?)
    (hnew : At w1 w.heap.size (bkCells b) tB) (hg : w1.grownBy w2 vo.ownBlock) (hown : w2.ownsRow B tPB 1 v' (m.op.length + 1) (((List.range m.op.length).map fun i => ptr (O i)) ++ [ptr w.heap.size])) (hB : B ≤ w.heap.size) :
    Rep B (w2.setCell ⟨r, 2, none⟩ v') r { m with op := m.op ++ [b] } vs v' P Q (updR O m.op.length w.heap.size) := by
  obtain ⟨lr, lp, lo⟩ := h.lts
  have same : ∀ k, k < w.heap.size → vo.ownBlock ≠ some k → w2.heap[k]? = w.heap[k]? := fun k hk hn => (hg.block k (by omega) (fun e => hn e.symm)).trans (hw1 k hk)
  have keep : ∀ {k c t}, At w k c t → tPB ≠ t → At w2 k c t := fun {k c t} ha hn => ha.same (same k ha.lt (ownsRow_type h.ro ha hn))
  have rd2 := keep h.rd (by decide)
  have new2 : At w2 w.heap.size (bkCells b) tB := hnew.same (hg.block _ hlt (by
    intro e
    obtain ⟨_, h2⟩ := h.ro.lt _ e.symm
    omega))
  exact {
    rd := rd2.put 2 v'
    rs := by
      refine ownsRow_put ?_ rd2 (by decide) 2 v'
      refine ownsRow_same h.rs fun g hg' => same g (h.rs.lt g hg').2 ?_
      obtain ⟨h1, h2⟩ := h.rs
      rcases h2 with ⟨e, _⟩ | ⟨g', cap, c, e, _, hh, _⟩
      · subst e; simp [Value.ownBlock] at hg'
      · subst e; simp [Value.ownBlock] at hg'; subst hg'; exact ownsRow_type h.ro (show At w g' c tPS from hh) (by decide)
    ro := by
      simp only [List.length_append, List.length_singleton]
      rw [map_upd]
      exact ownsRow_put hown rd2 (by decide) 2 v'
    st := by
      intro i s hi
      obtain ⟨a, b⟩ := h.st i s hi
      exact ⟨(keep a (by decide)).other _ _ (a.ne h.rd (by decide)), (keep b (by decide)).other _ _ (b.ne h.rd (by decide))⟩
    op := by
      intro i x hi
      by_cases e : i = m.op.length
      · subst e
        rw [updR_at]
        simp at hi
        subst hi
        exact new2.other _ _ (by omega)
      · have hil : i < m.op.length := by
          have : i < (m.op ++ [b]).length := by
            rcases Nat.lt_or_ge i (m.op ++ [b]).length with h' | h'
            · exact h'
            · simp [List.getElem?_eq_none h'] at hi
          simp at this; omega
        rw [updR_lt O hil]
        rw [List.getElem?_append_left hil] at hi
        have a := h.op i x hi
        exact (keep a (by decide)).other _ _ (a.ne h.rd (by decide))
    injP := h.injP
    injQ := h.injQ
    injO := by
      intro i j hi hj
      simp only [List.length_append, List.length_singleton] at hi hj
      by_cases ei : i = m.op.length <;> by_cases ej : j = m.op.length
      · intro _; omega
      · have hj' : j < m.op.length := by omega
        subst ei; rw [updR_at, updR_lt O hj']; intro e; have := lo j hj'; omega
      · have hi' : i < m.op.length := by omega
        subst ej; rw [updR_at, updR_lt O hi']; intro e; have := lo i hi'; omega
      · have hi' : i < m.op.length := by omega
        have hj' : j < m.op.length := by omega
        rw [updR_lt O hi', updR_lt O hj']; exact h.injO i j hi' hj'
    geR := h.geR
    geP := h.geP
    geO := by
      intro i hi
      simp only [List.length_append, List.length_singleton] at hi
      by_cases ei : i = m.op.length
      · subst ei; rw [updR_at]; exact hB
      · have hi' : i < m.op.length := by omega
        rw [updR_lt O hi']; exact h.geO i hi' }

/-- Behind an append to the row of the statements: one more. -/
theorem Rep.pushSt (h : Rep B w r m vs vo P Q O) (s : St) (v' : Value) (p q : Nat) (w1 w2 : World) (hq : w.heap.size ≤ q) (hp : w.heap.size ≤ p) (hlq : q < w1.heap.size) (hlp : p < w1.heap.size) (hw1 : ∀ k, k < w.heap.size → w1.heap[k]? = w.heap[k]?)
    (hnp : At w1 p (stCells q s) tS) (hnq : At w1 q (sgCells s.sg) tI) (hg : w1.grownBy w2 vs.ownBlock) (hown : w2.ownsRow B tPS 1 v' (m.st.length + 1) (((List.range m.st.length).map fun i => ptr (P i)) ++ [ptr p])) (hB : B ≤ w.heap.size) :
    Rep B (w2.setCell ⟨r, 1, none⟩ v') r { m with st := m.st ++ [s] } v' vo (updR P m.st.length p) (updR Q m.st.length q) O := by
  obtain ⟨lr, lp, lo⟩ := h.lts
  have same : ∀ k, k < w.heap.size → vs.ownBlock ≠ some k → w2.heap[k]? = w.heap[k]? := fun k hk hn => (hg.block k (by omega) (fun e => hn e.symm)).trans (hw1 k hk)
  have keep : ∀ {k c t}, At w k c t → tPS ≠ t → At w2 k c t := fun {k c t} ha hn => ha.same (same k ha.lt (ownsRow_type h.rs ha hn))
  have rd2 := keep h.rd (by decide)
  have notrow : ∀ k, w.heap.size ≤ k → some k ≠ vs.ownBlock := fun k hk e => by
    obtain ⟨_, h2⟩ := h.rs.lt _ e.symm
    omega
  have newp : At w2 p (stCells q s) tS := hnp.same (hg.block _ hlp (notrow p hp))
  have newq : At w2 q (sgCells s.sg) tI := hnq.same (hg.block _ hlq (notrow q hq))
  exact {
    rd := rd2.put 1 v'
    ro := by
      refine ownsRow_put ?_ rd2 (by decide) 1 v'
      refine ownsRow_same h.ro fun g hg' => same g (h.ro.lt g hg').2 ?_
      obtain ⟨h1, h2⟩ := h.ro
      rcases h2 with ⟨e, _⟩ | ⟨g', cap, c, e, _, hh, _⟩
      · subst e; simp [Value.ownBlock] at hg'
      · subst e; simp [Value.ownBlock] at hg'; subst hg'; exact ownsRow_type h.rs (show At w g' c tPB from hh) (by decide)
    rs := by
      simp only [List.length_append, List.length_singleton]
      rw [map_upd]
      exact ownsRow_put hown rd2 (by decide) 1 v'
    op := by
      intro i b hi
      have a := h.op i b hi
      exact (keep a (by decide)).other _ _ (a.ne h.rd (by decide))
    st := by
      intro i x hi
      by_cases e : i = m.st.length
      · subst e
        rw [updR_at, updR_at]
        simp at hi
        subst hi
        exact ⟨newp.other _ _ (by omega), newq.other _ _ (by omega)⟩
      · have hil : i < m.st.length := by
          have : i < (m.st ++ [s]).length := by
            rcases Nat.lt_or_ge i (m.st ++ [s]).length with h' | h'
            · exact h'
            · simp [List.getElem?_eq_none h'] at hi
          simp at this; omega
        rw [updR_lt P hil, updR_lt Q hil]
        rw [List.getElem?_append_left hil] at hi
        obtain ⟨a, b⟩ := h.st i x hi
        exact ⟨(keep a (by decide)).other _ _ (a.ne h.rd (by decide)), (keep b (by decide)).other _ _ (b.ne h.rd (by decide))⟩
    injP := by
      intro i j hi hj
      simp only [List.length_append, List.length_singleton] at hi hj
      by_cases ei : i = m.st.length <;> by_cases ej : j = m.st.length
      · intro _; omega
      · have hj' : j < m.st.length := by omega
        subst ei; rw [updR_at, updR_lt P hj']; intro e; have := (lp j hj').1; omega
      · have hi' : i < m.st.length := by omega
        subst ej; rw [updR_at, updR_lt P hi']; intro e; have := (lp i hi').1; omega
      · have hi' : i < m.st.length := by omega
        have hj' : j < m.st.length := by omega
        rw [updR_lt P hi', updR_lt P hj']; exact h.injP i j hi' hj'
    injQ := by
      intro i j hi hj
      simp only [List.length_append, List.length_singleton] at hi hj
      by_cases ei : i = m.st.length <;> by_cases ej : j = m.st.length
      · intro _; omega
      · have hj' : j < m.st.length := by omega
        subst ei; rw [updR_at, updR_lt Q hj']; intro e; have := (lp j hj').2; omega
      · have hi' : i < m.st.length := by omega
        subst ej; rw [updR_at, updR_lt Q hi']; intro e; have := (lp i hi').2; omega
      · have hi' : i < m.st.length := by omega
        have hj' : j < m.st.length := by omega
        rw [updR_lt Q hi', updR_lt Q hj']; exact h.injQ i j hi' hj'
    injO := h.injO
    geR := h.geR
    geO := h.geO
    geP := by
      intro i hi
      simp only [List.length_append, List.length_singleton] at hi
      by_cases ei : i = m.st.length
      · subst ei; rw [updR_at, updR_at]; exact ⟨by omega, by omega⟩
      · have hi' : i < m.st.length := by omega
        rw [updR_lt P hi', updR_lt Q hi']; exact h.geP i hi' }

/-- The row of the open blocks becomes shorter by one. -/
theorem Rep.popOp {g n cap : Nat} (h : Rep B w r m vs (.slice (some ⟨g, 0, none⟩) n cap) P Q O) (hn : 0 < m.op.length) (hnn : n = m.op.length) :
    Rep B (w.setCell ⟨r, 2, none⟩ (.slice (some ⟨g, 0, none⟩) (n - 1) cap)) r { m with op := m.op.take (m.op.length - 1) } vs (.slice (some ⟨g, 0, none⟩) (n - 1) cap) P Q O := by
  have hl : (m.op.take (m.op.length - 1)).length = m.op.length - 1 := by simp
  exact {
    rd := h.rd.put 2 _
    rs := ownsRow_put h.rs h.rd (by decide) 2 _
    ro := by
      rw [hl]
      refine ownsRow_put ?_ h.rd (by decide) 2 _
      obtain ⟨h1, h2⟩ := h.ro
      rcases h2 with ⟨e, _⟩ | ⟨g', cap', c, e, hg, hh, hc, hm, hs, ht⟩
      · simp at e
      · simp at e
        obtain ⟨rfl, _, rfl⟩ := e
        refine ⟨by simp, .inr ⟨g, cap, c, by rw [hnn], hg, hh, by omega, hm, hs, ?_⟩⟩
        have e2 : (c.toList.take (m.op.length * 1)).take ((m.op.length - 1) * 1) = c.toList.take ((m.op.length - 1) * 1) := by rw [List.take_take]; congr 1; omega
        rw [← e2, ht, ← List.map_take, List.take_range]
        congr 2; omega
    st := by
      intro i s hi
      obtain ⟨a, b⟩ := h.st i s hi
      exact ⟨a.other _ _ (a.ne h.rd (by decide)), b.other _ _ (b.ne h.rd (by decide))⟩
    op := by
      intro i b hi
      have hi' : m.op[i]? = some b := by
        rw [List.getElem?_take] at hi
        split at hi
        · exact hi
        · cases hi
      have a := h.op i b hi'
      exact a.other _ _ (a.ne h.rd (by decide))
    injP := h.injP
    injQ := h.injQ
    injO := by rw [hl]; intro i j hi hj; exact h.injO i j (by omega) (by omega)
    geR := h.geR
    geP := h.geP
    geO := by rw [hl]; intro i hi; exact h.geO i (by omega) }

end Go.Proofs.YtffajooegiempaaDoor

namespace Go.Proofs.YtffajooegiempaaDoor
open Go.RowKit
variable {B : Nat} {w w' : World} {r : Nat} {m : Rd} {vs vo : Value} {P Q O : Nat → Nat}

theorem Tryd.infoPS : (Tryd.prog.info? tPS).map (fun i => (i.zero, i.size, i.bytes)) = some (some (.pointer none), 1, 8) := by kernel_rfl
theorem Tryd.infoPB : (Tryd.prog.info? tPB).map (fun i => (i.zero, i.size, i.bytes)) = some (some (.pointer none), 1, 8) := by kernel_rfl

theorem Rep.slen (h : Rep B w r m vs vo P Q O) : ∃ ao cap, vs = .slice ao m.st.length cap := by
  obtain ⟨_, h2⟩ := h.rs
  rcases h2 with ⟨rfl, e⟩ | ⟨g, cap, c, rfl, _⟩
  · exact ⟨none, 0, by rw [e]⟩
  · exact ⟨_, cap, rfl⟩
theorem Rep.olen (h : Rep B w r m vs vo P Q O) : ∃ ao cap, vo = .slice ao m.op.length cap := by
  obtain ⟨_, h2⟩ := h.ro
  rcases h2 with ⟨rfl, e⟩ | ⟨g, cap, c, rfl, _⟩
  · exact ⟨none, 0, by rw [e]⟩
  · exact ⟨_, cap, rfl⟩

/-- The world in which a statement has been laid, ahead of the append. -/
def begun (w : World) (kd v : Int) (n : Nat) : World :=
  (((w.alloc (.cells #[.int .i64 0, .int .i64 0, .int .i64 0, .int .i64 0] tI)).alloc (.cells #[.int .u8 kd, .int .i64 v, .bool false, .slice (some ⟨w.heap.size, 0, none⟩) 4 4, .int .i64 0, .int .i64 0, .int .i64 ((n : Int) + 1)] tS)).alloc (.cells #[.pointer (some ⟨w.heap.size + 1, 0, none⟩)] tPS)).drew

theorem begun_old (w : World) (kd v : Int) (n : Nat) (k : Nat) (hk : k < w.heap.size) : (begun w kd v n).heap[k]? = w.heap[k]? := by
  show ((((w.heap.push _).push _).push _))[k]? = _
  rw [Array.getElem?_push, if_neg (by simp; omega), Array.getElem?_push, if_neg (by simp; omega), Array.getElem?_push, if_neg (by omega)]
theorem begun_size (w : World) (kd v : Int) (n : Nat) : (begun w kd v n).heap.size = w.heap.size + 3 := by
  show ((((w.heap.push _).push _).push _)).size = _
  simp
theorem begun_q (w : World) (kd v : Int) (n : Nat) : At (begun w kd v n) w.heap.size #[.int .i64 0, .int .i64 0, .int .i64 0, .int .i64 0] tI := by
  show ((((w.heap.push _).push _).push _))[w.heap.size]? = _
  rw [Array.getElem?_push, if_neg (by simp; omega), Array.getElem?_push, if_neg (by simp), Array.getElem?_push, if_pos rfl]
theorem begun_p (w : World) (kd v : Int) (n : Nat) : At (begun w kd v n) (w.heap.size + 1) #[.int .u8 kd, .int .i64 v, .bool false, .slice (some ⟨w.heap.size, 0, none⟩) 4 4, .int .i64 0, .int .i64 0, .int .i64 ((n : Int) + 1)] tS := by
  show ((((w.heap.push _).push _).push _))[w.heap.size + 1]? = _
  rw [Array.getElem?_push, if_neg (by simp), Array.getElem?_push, if_pos (by simp)]

theorem begin_same {kd v : Int} {n : Nat} {w2 : World} (h : Rep B w r m vs vo P Q O) (hg : (begun w kd v n).grownBy w2 vs.ownBlock) : w2.heap[r]? = w.heap[r]? :=
  (hg.block r (by rw [begun_size]; have := h.rd.lt; omega) (fun e => ownsRow_type h.rs h.rd (by decide) e.symm)).trans (begun_old w kd v n r h.rd.lt)

theorem begin_below {kd v : Int} {n : Nat} {w2 : World} {u : Value} (h : Rep B w r m vs vo P Q O) (hg : (begun w kd v n).grownBy w2 vs.ownBlock) (hB : B ≤ w.heap.size) : Below B w (w2.setCell ⟨r, 1, none⟩ u) := by
  refine Below.setCell ?_ h.geR _
  have hb : Below B w (begun w kd v n) := (((((Below.refl B w).alloc hB _).alloc (by simp; omega) _).alloc (by simp; omega) _)).drew
  exact hb.grown hg (by rw [begun_size]; omega) (fun k e => (h.rs.lt k e).1)

theorem begin_rep (h : Rep B w r m vs vo P Q O) (kd v : Int) {w2 : World} {u : Value} (hg : (begun w kd v m.st.length).grownBy w2 vs.ownBlock)
    (hown : w2.ownsRow B tPS 1 u (m.st.length + 1) (((List.range m.st.length).map fun i => ptr (P i)) ++ [.pointer (some ⟨w.heap.size + 1, 0, none⟩)])) (hB : B ≤ w.heap.size) :
    Rep B (w2.setCell ⟨r, 1, none⟩ u) r { m with st := m.st ++ [⟨kd, v, false, [0, 0, 0, 0], 0, 0, m.st.length + 1⟩] } u vo (updR P m.st.length (w.heap.size + 1)) (updR Q m.st.length w.heap.size) O :=
  h.pushSt ⟨kd, v, false, [0, 0, 0, 0], 0, 0, m.st.length + 1⟩ u (w.heap.size + 1) w.heap.size (begun w kd v m.st.length) w2 (by omega) (by omega) (by rw [begun_size]; omega) (by rw [begun_size]; omega) (begun_old w kd v _)
    (begun_p w kd v _) (begun_q w kd v _) hg hown hB

set_option maxRecDepth 100000 in
set_option maxHeartbeats 1600000 in
theorem Rep.begin_ (h : Rep B w r m vs vo P Q O) (hl : m.st.length < 20) (kd v : Int) (hB : B ≤ w.heap.size) :
    Calls Tryd.prog 108 #[.pointer (some ⟨r, 0, none⟩), .int .u8 kd, .int .i64 v] w fun e w' => e = .returned (.bool true) ∧ Below B w w' ∧
      ∃ vs' P' Q', Rep B w' r { m with st := m.st ++ [⟨kd, v, false, [0, 0, 0, 0], 0, 0, m.st.length + 1⟩] } vs' vo P' Q' O := by
  obtain ⟨ao, cap, rfl⟩ := h.slen
  obtain ⟨r0, r1, r2, r3, r4, r5, rf⟩ := h.rdc
  have geR := h.geR
  have hlt := h.rd.lt
  have hown := h.rs
  obtain ⟨i0, hi, hz0, hz1, hz2⟩ := info_parts Tryd.infoPS
  have b20 : (((m.st.length : Nat) : Int) == 20) = false := by simp; omega
  have hmk : ∀ w, (Instr.makeSlice 22 (.int .i64 4) (.int .i64 4)).run Tryd.prog w = .ok (.slice (some ⟨w.heap.size, 0, none⟩) 4 4) (w.alloc (.cells #[.int .i64 0, .int .i64 0, .int .i64 0, .int .i64 0] 3)) := fun _ => by kernel_rfl
  have HR : Hid (Rep _ _ _ _ _ _ _ _ _) := h
  have HO : Hid (World.ownsRow _ _ _ _ _ _ _) := hown
  clear h hown
  go_enter Tryd.func108, Tryd.ntmps108
  go_wp2
  go_region
  go_wp2_with (at_builtin; refine wpList_append_own _ rfl (.tmp 29) (.tmp 31) 92 rfl B tPS i0 (.pointer none) 1 8 Tryd.underlying92 hi hz0 hz1 hz2 rfl (by decide) _ _ _ rfl ((((HO.out.alloc _).alloc _).alloc _).drew) ⟨w.heap.size + 1 + 1, 0, none⟩ 1 1 [.pointer (some ⟨w.heap.size + 1, 0, none⟩)] rfl rfl ?c1 ?c2 ?c3 ?c4 ?c5 ?_)
  case c1 =>
    intro j u hj
    match j, hj with
    | 0, hj => simp at hj; subst hj; simp [Addr.add]; rw [World.cell?_alloc_at]; · rfl
               · simp
  case c2 => intro u hu; simp at hu; subst hu; rfl
  case c3 => unfold maxLen; omega
  case c4 => omega
  case c5 => simp; omega
  intro v' w2 hown' hgrow _
  obtain ⟨g', cap', c', rfl, hg', ha', hc'⟩ := ownsRow_at hown' (by omega)
  have hsame : w2.heap[r]? = w.heap[r]? := begin_same HR.out hgrow
  have k1 : ∀ i, w2.cell? ⟨r, i, none⟩ = w.cell? ⟨r, i, none⟩ := fun i => World.cell?_of_block (a := ⟨r, i, none⟩) hsame
  have k2 : ∀ i, w2.frozen? ⟨r, i, none⟩ = w.frozen? ⟨r, i, none⟩ := fun i => World.frozen?_of_block (a := ⟨r, i, none⟩) hsame
  have HW : Hid (World.ownsRow _ _ _ _ _ _ _) := hown'
  have HG : Hid (World.grownBy _ _ _) := hgrow
  clear hown' hgrow hsame ha'
  go_wp2
  go_ret
  refine ⟨rfl, begin_below HR.out HG.out hB, _, _, _, begin_rep HR.out kd v HG.out HW.out hB⟩

end Go.Proofs.YtffajooegiempaaDoor

namespace Go.Proofs.YtffajooegiempaaDoor
open Go.RowKit
variable {B : Nat} {w w' : World} {r : Nat} {m : Rd} {vs vo : Value} {P Q O : Nat → Nat}

set_option maxHeartbeats 400000 in
theorem Rep.beginFull (h : Rep B w r m vs vo P Q O) (hl : m.st.length = 20) (kd v : Int) :
    Calls Tryd.prog 108 #[.pointer (some ⟨r, 0, none⟩), .int .u8 kd, .int .i64 v] w fun e w' => e = .returned (.bool false) ∧ w' = w := by
  obtain ⟨ao, cap, hv⟩ := h.slen
  obtain ⟨r0, r1, r2, r3, r4, r5, rf⟩ := h.rdc
  rw [hv, hl] at r1
  clear h hl hv
  go_enter Tryd.func108, Tryd.ntmps108
  go_wp2
  go_ret
  exact ⟨rfl, rfl⟩

/-- The row of the open blocks. -/
theorem Rep.rowO (h : Rep B w r m vs vo P Q O) (hn : 0 < m.op.length) : ∃ g cap, vo = .slice (some ⟨g, 0, none⟩) m.op.length cap ∧ (∀ i, i < m.op.length → w.cell? ⟨g, i, none⟩ = some (ptr (O i))) ∧ g ≠ r ∧ m.op.length ≤ cap ∧ (∀ k s, m.st[k]? = some s → g ≠ P k ∧ g ≠ Q k) ∧ (∀ k, k < m.op.length → g ≠ O k) := by
  obtain ⟨g, cap, c, hv, hg, ha, hc⟩ := ownsRow_at h.ro hn
  refine ⟨g, cap, hv, ?_, ha.ne h.rd (by decide), hc, fun k s hk => ?_, fun k hk => ?_⟩
  · intro i hi
    have := h.ro
    rw [hv] at this
    rw [this.cellAt i (by omega)]
    simp [hi]
  · obtain ⟨a, b⟩ := h.st k s hk
    exact ⟨ha.ne a (by decide), ha.ne b (by decide)⟩
  · exact ha.ne (h.op k _ (List.getElem?_eq_getElem hk)) (by decide)

theorem tops (hn : 0 < m.op.length) : m.op[m.op.length - 1]? = some (top m) := by
  unfold top
  rw [List.getD_eq_getElem?_getD, List.getElem?_eq_getElem (by omega)]; rfl

theorem Rep.opc (h : Rep B w r m vs vo P Q O) (k : Nat) (b : Bk) (hk : m.op[k]? = some b) : w.cell? ⟨O k, 0, none⟩ = some (.int .i64 b.of_) ∧ w.cell? ⟨O k, 1, none⟩ = some (.bool b.second) ∧ (∀ i, w.frozen? ⟨O k, i, none⟩ = false) ∧ O k ≠ r ∧ ∀ j s, m.st[j]? = some s → O k ≠ P j := by
  have a := h.op k b hk
  exact ⟨a.cell 0, a.cell 1, a.free, a.ne h.rd (by decide), fun j s hj => a.ne (h.st j s hj).1 (by decide)⟩

theorem rep_shut1 (h : Rep B w r m vs vo P Q O) (k : Nat) (s : St) (hk : m.st[k]? = some s) (hof : k < m.st.length) (a b : Nat) :
    Rep B (((((w.drewN a).setCell ⟨P k, 6, none⟩ (.int .i64 m.st.length)).drewN b).setCell ⟨P k, 5, none⟩ (.int .i64 m.st.length)).setCell ⟨r, 0, none⟩ (.int .u8 125)) r
      { m with st := m.st.set k { s with fin := m.st.length, mid := m.st.length }, state := 125 } vs vo P Q O := by
  have e1 := ((h.drewN a).setSt k s { s with fin := m.st.length } hk 6 (.int .i64 m.st.length) _ rfl rfl rfl).drewN b
  have hm1 : ({ m with st := m.st.set k { s with fin := m.st.length } } : Rd).st[k]? = some { s with fin := m.st.length } := by simp [hof]
  have e2 := e1.setSt k _ { s with fin := m.st.length, mid := m.st.length } hm1 5 (.int .i64 m.st.length) { m with st := m.st.set k { s with fin := m.st.length, mid := m.st.length } } rfl rfl (by simp)
  exact e2.setRd 0 (.int .u8 125) _ rfl rfl rfl
theorem rep_shut2 {go cap : Nat} (h : Rep B w r m vs (.slice (some ⟨go, 0, none⟩) m.op.length cap) P Q O) (k : Nat) (s : St) (hk : m.st[k]? = some s) (hn : 0 < m.op.length) (a b : Nat) :
    Rep B ((((w.drewN a).setCell ⟨P k, 6, none⟩ (.int .i64 m.st.length)).drewN b).setCell ⟨r, 2, none⟩ (.slice (some ⟨go, 0, none⟩) (m.op.length - 1) cap)) r
      { m with st := m.st.set k { s with fin := m.st.length }, op := m.op.take (m.op.length - 1) } vs (.slice (some ⟨go, 0, none⟩) (m.op.length - 1) cap) P Q O := by
  have e1 := ((h.drewN a).setSt k s { s with fin := m.st.length } hk 6 (.int .i64 m.st.length) _ rfl rfl rfl).drewN b
  exact e1.popOp hn rfl
set_option maxRecDepth 100000 in
set_option maxHeartbeats 1600000 in
theorem Rep.shut (h : Rep B w r m vs vo P Q O) (ok : Ok m) (hn : 0 < m.op.length) :
    Calls Tryd.prog 109 #[.pointer (some ⟨r, 0, none⟩)] w (Post B w r (shutStep m)) := by
  have ht := tops hn
  have hof : (top m).of_ < m.st.length := ok.ofs _ (List.mem_of_getElem? ht)
  have hs : m.st[(top m).of_]? = some (m.st.getD (top m).of_ noSt) := by rw [List.getD_eq_getElem?_getD, List.getElem?_eq_getElem hof]; rfl
  obtain ⟨g, cap, hvs, hrow, ngr, hcap, ngp⟩ := h.row (by omega)
  obtain ⟨go, capo, hvo, hrowo, ngor, hcapo, ngop, ngo⟩ := h.rowO hn
  obtain ⟨o0, o1, of, nor, nop⟩ := h.opc _ _ ht
  obtain ⟨c0, c1, c2, c3, c4, c5, c6, f7, f8, n9, n10, n11⟩ := h.stc _ _ hs
  have noP := nop _ _ hs
  obtain ⟨r0, r1, r2, r3, r4, r5, rf⟩ := h.rdc
  have geR := h.geR
  obtain ⟨geP, geQ⟩ := h.geP _ hof
  have hg1 := hrow _ hof
  have hg2 := hrowo (m.op.length - 1) (by omega)
  have ngp1 := (ngp _ _ hs).1
  have ngop1 := (ngop _ _ hs).1
  unfold ptr at hg1 hg2
  have hl := ok.len
  have ho := ok.oplen
  have HS : Hid (shutStep m = if (m.st.getD (top m).of_ noSt).kind = 63 ∧ (top m).second = false then some { m with st := m.st.set (top m).of_ { m.st.getD (top m).of_ noSt with fin := m.st.length, mid := m.st.length }, state := 125 }
    else some { m with st := m.st.set (top m).of_ { m.st.getD (top m).of_ noSt with fin := m.st.length }, op := m.op.take (m.op.length - 1) }) := rfl
  generalize hb : top m = b at *
  generalize hss : m.st.getD b.of_ noSt = s at *
  have HT : Hid (m.op[m.op.length - 1]? = some b) := ht
  have HM : Hid (m.st[b.of_]? = some s) := hs
  subst hvs
  subst hvo
  have HR : Hid (Rep _ _ _ _ _ _ _ _ _) := h
  have OK : Hid (Ok m) := ok
  clear h ok ht hs hrow hrowo hb hss ngp ngop ngo nop
  generalize hp : P b.of_ = p at *
  generalize O (m.op.length - 1) = q at *
  have nrp : r ≠ p := fun e => n9 e.symm
  have nrq : r ≠ q := fun e => nor e.symm
  have npq : p ≠ q := fun e => noP e.symm
  have npg : p ≠ g := fun e => ngp1 e.symm
  have hofi : ((b.of_ : Nat) : Int) < (m.st.length : Int) := by omega
  have hof0 : (0 : Int) ≤ ((b.of_ : Nat) : Int) := by omega
  have NP : Hid (P b.of_ = p) := hp
  clear hp
  by_cases hk : s.kind = 63
  · rw [hk] at c0
    cases hsec : b.second
    · rw [hsec] at o1
      have HY : Hid (shutStep m = some { m with st := m.st.set b.of_ { s with fin := m.st.length, mid := m.st.length }, state := 125 }) := HS.out.trans (if_pos ⟨hk, hsec⟩)
      clear hk hsec HS
      go_enter Tryd.func109, Tryd.ntmps109
      go_wp2
      go_quiet (fail)
      go_wp2
      go_region
      go_wp2
      go_quiet (fail)
      go_wp2
      go_region
      go_wp2
      go_ret
      rw [← NP.out]
      exact post_yes HY.out (Below.setCell (Below.setCell (below_drewN (Below.setCell (below_drewN (Below.refl _ _) _) (by rw [NP.out]; exact geP) _) _) (by rw [NP.out]; exact geP) _) geR _) (rep_shut1 HR.out b.of_ s HM.out hof _ _)
    · rw [hsec] at o1
      have HY : Hid (shutStep m = some { m with st := m.st.set b.of_ { s with fin := m.st.length }, op := m.op.take (m.op.length - 1) }) := HS.out.trans (if_neg (by rintro ⟨_, e⟩; rw [hsec] at e; cases e))
      clear hk hsec HS
      go_enter Tryd.func109, Tryd.ntmps109
      go_wp2
      go_quiet (fail)
      go_wp2
      go_region
      go_wp2
      go_quiet (fail)
      go_wp2
      go_region
      go_wp2
      go_ret
      rw [← NP.out]
      exact post_yes HY.out (Below.setCell (below_drewN (Below.setCell (below_drewN (Below.refl _ _) _) (by rw [NP.out]; exact geP) _) _) geR _) (rep_shut2 HR.out b.of_ s HM.out hn _ _)
  · have bk : (s.kind == 63) = false := by simpa using hk
    have HY : Hid (shutStep m = some { m with st := m.st.set b.of_ { s with fin := m.st.length }, op := m.op.take (m.op.length - 1) }) := HS.out.trans (if_neg (fun e => hk e.1))
    clear hk HS
    go_enter Tryd.func109, Tryd.ntmps109
    go_wp2
    go_quiet (fail)
    go_wp2
    go_region
    go_wp2
    go_quiet (fail)
    go_wp2
    go_region
    go_wp2
    go_ret
    rw [← NP.out]
    exact post_yes HY.out (Below.setCell (below_drewN (Below.setCell (below_drewN (Below.refl _ _) _) (by rw [NP.out]; exact geP) _) _) geR _) (rep_shut2 HR.out b.of_ s HM.out hn _ _)

end Go.Proofs.YtffajooegiempaaDoor

namespace Go.Proofs.YtffajooegiempaaDoor
open Go.RowKit
variable {B : Nat} {w w' : World} {r : Nat} {m : Rd} {vs vo : Value} {P Q O : Nat → Nat}

theorem IntKind_wrap_small (x : Int) (h0 : 0 ≤ x) (h1 : x ≤ 1000) : IntKind.i64.wrap x = x := by
  rw [IntKind.wrap_i64]; omega

/-- The world in which an open block has been laid, ahead of the append. -/
def opened (w : World) (x : Int) : World :=
  ((w.alloc (.cells #[.int .i64 x, .bool false] tB)).alloc (.cells #[.pointer (some ⟨w.heap.size, 0, none⟩)] tPB)).drew
theorem opened_old (w : World) (x : Int) (k : Nat) (hk : k < w.heap.size) : (opened w x).heap[k]? = w.heap[k]? := by
  show (((w.heap.push _).push _))[k]? = _
  rw [Array.getElem?_push, if_neg (by simp; omega), Array.getElem?_push, if_neg (by omega)]
theorem opened_size (w : World) (x : Int) : (opened w x).heap.size = w.heap.size + 2 := by
  show (((w.heap.push _).push _)).size = _
  simp
theorem opened_p (w : World) (x : Int) : At (opened w x) w.heap.size #[.int .i64 x, .bool false] tB := by
  show (((w.heap.push _).push _))[w.heap.size]? = _
  rw [Array.getElem?_push, if_neg (by simp), Array.getElem?_push, if_pos rfl]
theorem opened_lit (w : World) (x : Int) : ∀ (j : Nat) (u : Value), [Value.pointer (some ⟨w.heap.size, 0, none⟩)][j]? = some u → (opened w x).cell? ((⟨w.heap.size + 1, 0, none⟩ : Addr).add j) = some u := by
  intro j u hj
  match j, hj with
  | 0, hj =>
    simp at hj; subst hj
    simp only [opened, World.cell?_drew]
    simp [Addr.add]
theorem open_same {x : Int} {w2 : World} (h : Rep B w r m vs vo P Q O) (hg : (opened w x).grownBy w2 vo.ownBlock) : w2.heap[r]? = w.heap[r]? :=
  (hg.block r (by rw [opened_size]; have := h.rd.lt; omega) (fun e => ownsRow_type h.ro h.rd (by decide) e.symm)).trans (opened_old w x r h.rd.lt)
theorem open_below {x : Int} {w2 : World} {u : Value} (h : Rep B w r m vs vo P Q O) (hg : (opened w x).grownBy w2 vo.ownBlock) (hB : B ≤ w.heap.size) : Below B w ((w2.setCell ⟨r, 2, none⟩ u).setCell ⟨r, 0, none⟩ (.int .u8 115)) := by
  refine Below.setCell (Below.setCell ?_ h.geR _) h.geR _
  have hb : Below B w (opened w x) := ((((Below.refl B w).alloc hB _).alloc (by simp; omega) _)).drew
  exact hb.grown hg (by rw [opened_size]; omega) (fun k e => (h.ro.lt k e).1)
theorem open_rep (h : Rep B w r m vs vo P Q O) (hn : 0 < m.st.length) {w2 : World} {u : Value} (hg : (opened w ((m.st.length : Int) - 1)).grownBy w2 vo.ownBlock)
    (hown : w2.ownsRow B tPB 1 u (m.op.length + 1) (((List.range m.op.length).map fun i => ptr (O i)) ++ [.pointer (some ⟨w.heap.size, 0, none⟩)])) (hB : B ≤ w.heap.size) :
    Rep B ((w2.setCell ⟨r, 2, none⟩ u).setCell ⟨r, 0, none⟩ (.int .u8 115)) r { m with op := m.op ++ [⟨m.st.length - 1, false⟩], state := 115 } vs u P Q (updR O m.op.length w.heap.size) := by
  have hp := opened_p w ((m.st.length : Int) - 1)
  have e : (m.st.length : Int) - 1 = ((m.st.length - 1 : Nat) : Int) := by omega
  refine (h.pushOp ⟨m.st.length - 1, false⟩ u (opened w ((m.st.length : Int) - 1)) w2 (by rw [opened_size]; omega) (opened_old w _) ?_ hg hown hB).setRd 0 (.int .u8 115) _ rfl rfl rfl
  rw [e] at hp ⊢
  exact hp

set_option maxRecDepth 100000 in
set_option maxHeartbeats 1600000 in
theorem Rep.bytePlain (h : Rep B w r m vs vo P Q O) (hsl : m.st.length ≤ 20) (hol : m.op.length ≤ 4) (hn : 0 < m.st.length) (hB : B ≤ w.heap.size) (c : Int) (h0 : 0 ≤ c) (h1 : c ≤ 255) (hx : m.state = 59 ∨ m.state = 123) :
    Calls Tryd.prog 72 #[.pointer (some ⟨r, 0, none⟩), .int .u8 c] w (Post B w r (plainStep m c)) := by
  obtain ⟨r0, r1, r2, r3, r4, r5, rf⟩ := h.rdc
  have geR := h.geR
  rcases hx with hx | hx
  · rw [hx] at r0
    by_cases hc : c = 59
    · subst hc
      have HY : Hid (plainStep m 59 = some { m with state := 115 }) := by show plainStep m 59 = _; unfold plainStep; rw [if_pos hx, if_pos rfl]
      have HR : Hid (Rep _ _ _ _ _ _ _ _ _) := h
      clear h hx
      go_enter Tryd.func72, Tryd.ntmps72
      go_wp2_with fail
      go_ret
      exact post_yes HY.out (Below.setCell (Below.refl _ _) geR _) (HR.out.setRd 0 (.int .u8 115) _ rfl rfl rfl)
    · have bc : (c == 59) = false := by simpa using hc
      have HY : Hid (plainStep m c = none) := by show plainStep m c = _; unfold plainStep; rw [if_pos hx, if_neg hc]
      have HR : Hid (Rep _ _ _ _ _ _ _ _ _) := h
      clear h hx hc
      go_enter Tryd.func72, Tryd.ntmps72
      go_wp2_with fail
      go_ret
      exact post_no HY.out (Below.setCell (Below.refl _ _) geR _)
  · rw [hx] at r0
    by_cases hc : c = 123
    · subst hc
      obtain ⟨ao, cap, hvo⟩ := h.olen
      obtain ⟨so, scap, hvs⟩ := h.slen
      by_cases h4 : m.op.length = 4
      · have HY : Hid (plainStep m 123 = none) := by show plainStep m 123 = _; unfold plainStep; rw [hx, if_neg (by decide), if_pos (.inr h4)]
        rw [hvo, h4] at r2
        clear h hx h4 hvo hvs
        go_enter Tryd.func72, Tryd.ntmps72
        go_wp2_with fail
        go_ret
        exact post_no HY.out (Below.refl _ _)
      · have b4 : (((m.op.length : Nat) : Int) == 4) = false := by simp; omega
        have HY : Hid (plainStep m 123 = some { m with op := m.op ++ [⟨m.st.length - 1, false⟩], state := 115 }) := by
          show plainStep m 123 = _; unfold plainStep; rw [hx, if_neg (by decide), if_neg (fun e => e.elim (fun e => e rfl) h4)]
        have hown := h.ro
        subst hvo
        subst hvs
        have hlt := h.rd.lt
        obtain ⟨i0, hi, hz0, hz1, hz2⟩ := info_parts Tryd.infoPB
        have HR : Hid (Rep _ _ _ _ _ _ _ _ _) := h
        have HO : Hid (World.ownsRow _ _ _ _ _ _ _) := hown
        clear h hx h4 hown
        go_enter Tryd.func72, Tryd.ntmps72
        go_wp2_with fail
        have hwr : IntKind.i64.wrap ((m.st.length : Int) - 1) = (m.st.length : Int) - 1 := by have := IntKind_wrap_small ((m.st.length : Int) - 1) (by omega) (by omega); exact this
        go_region_law (refine step_append_own rfl (.tmp 53) (.tmp 62) 93 rfl B tPB i0 (.pointer none) 1 8 Tryd.underlying93 hi hz0 hz1 hz2 rfl (by decide) _ _ _ rfl (((HO.out.alloc _).alloc _).drew) ⟨w.heap.size + 1, 0, none⟩ 1 1 [.pointer (some ⟨w.heap.size, 0, none⟩)] rfl rfl (opened_lit w ((m.st.length : Int) - 1)) (by intro u hu; simp at hu; subst hu; rfl) (by unfold maxLen; omega) (by omega) (by simp; omega) ?_; intro v' w2 hown' hgrow; obtain ⟨g', cap', c', rfl, hg', ha', hc'⟩ := ownsRow_at hown' (by omega); have hsame : w2.heap[r]? = w.heap[r]? := open_same HR.out hgrow; have k1 : ∀ i, w2.cell? ⟨r, i, none⟩ = w.cell? ⟨r, i, none⟩ := fun i => World.cell?_of_block (a := ⟨r, i, none⟩) hsame; have k2 : ∀ i, w2.frozen? ⟨r, i, none⟩ = w.frozen? ⟨r, i, none⟩ := fun i => World.frozen?_of_block (a := ⟨r, i, none⟩) hsame; have HW : Hid (World.ownsRow _ _ _ _ _ _ _) := hown'; have HG : Hid (World.grownBy _ _ _) := hgrow; clear hown' hgrow hsame ha')
        all_goals
          go_wp2_with fail
          go_ret
          exact post_yes HY.out (open_below HR.out HG.out hB) (open_rep HR.out hn HG.out HW.out hB)
    · have bc : (c == 123) = false := by simpa using hc
      have bn : (c != 123) = true := by simpa using hc
      have HY : Hid (plainStep m c = none) := by show plainStep m c = _; unfold plainStep; rw [hx, if_neg (by decide), if_pos (.inl hc)]
      have HR : Hid (Rep _ _ _ _ _ _ _ _ _) := h
      clear h hx hc
      go_enter Tryd.func72, Tryd.ntmps72
      go_wp2_with fail
      go_ret
      exact post_no HY.out (Below.refl _ _)

end Go.Proofs.YtffajooegiempaaDoor

namespace Go.Proofs.YtffajooegiempaaDoor
open Go.RowKit
variable {B : Nat} {w w' : World} {r : Nat} {m : Rd} {vs vo : Value} {P Q O : Nat → Nat}

set_option maxRecDepth 100000 in
set_option maxHeartbeats 1600000 in
theorem Rep.start (h : Rep B w r m vs vo P Q O) (ok : Ok m) (hB : B ≤ w.heap.size) (c : Int) (h0 : 0 ≤ c) (h1 : c ≤ 255) :
    Calls Tryd.prog 93 #[.pointer (some ⟨r, 0, none⟩), .int .u8 c] w (Post B w r (startStep m c)) := by
  obtain ⟨r0, r1, r2, r3, r4, r5, rf⟩ := h.rdc
  have geR := h.geR
  have hlen := ok.len
  have holen := ok.oplen
  obtain ⟨ao, cap, hvo⟩ := h.olen
  by_cases hv : 97 ≤ c ∧ c ≤ 100
  · obtain ⟨hva, hvb⟩ := hv
    by_cases h20 : m.st.length = 20
    · have HY : Hid (startStep m c = none) := by show startStep m c = _; unfold startStep beginStep; rw [if_pos ⟨hva, hvb⟩, if_pos h20]
      have HR : Hid (Rep _ _ _ _ _ _ _ _ _) := h
      have OK : Hid (Ok m) := ok
      clear h ok
      go_enter Tryd.func93, Tryd.ntmps93
      go_wp2_with (first | (go_at_call 107; refine (variable_yes c _ hva hvb).mono ?_; rintro e w' ⟨rfl, rfl⟩) | (go_at_call 108; refine (HR.out.beginFull h20 _ _).mono ?_; rintro e w' ⟨rfl, rfl⟩))
      go_ret
      exact post_no HY.out (Below.setCell (Below.refl _ _) geR _)
    · have HY : Hid (startStep m c = some { m with st := m.st ++ [⟨61, c - 97, false, [0, 0, 0, 0], 0, 0, m.st.length + 1⟩], state := 61 }) := by
        show startStep m c = _; unfold startStep beginStep; rw [if_pos ⟨hva, hvb⟩, if_neg h20]
      replace h20 : m.st.length < 20 := by omega
      have HR : Hid (Rep _ _ _ _ _ _ _ _ _) := h
      have OK : Hid (Ok m) := ok
      clear h ok
      go_enter Tryd.func93, Tryd.ntmps93
      go_wp2_with (first | (go_at_call 107; refine (variable_yes c _ hva hvb).mono ?_; rintro e w' ⟨rfl, rfl⟩) | (go_at_call 108; refine (HR.out.begin_ h20 _ _ hB).mono ?_; rintro e w' ⟨rfl, hb, vs', P', Q', hr⟩; have hr0 := hr.rdc.1; have hr2 := hr.rdc.2.2.1; have hrf := hr.rdc.2.2.2.2.2.2; have HQ : Hid (Rep _ _ _ _ _ _ _ _ _) := hr; clear hr))
      go_ret
      exact post_yes HY.out (Below.setCell hb geR _) (HQ.out.setRd 0 (.int .u8 61) _ rfl rfl rfl)
  by_cases hq : c = 63 ∨ c = 64
  · have b33 : (c == 33) = false := by rcases hq with rfl | rfl <;> rfl
    have hqb : ((c == 63) || (c == 64)) = true := by rcases hq with rfl | rfl <;> rfl
    by_cases h20 : m.st.length = 20
    · have HY : Hid (startStep m c = none) := by show startStep m c = _; unfold startStep beginStep; rw [if_neg hv, if_pos hq]; simp [h20]
      subst hvo
      clear hqb
      rcases hq with rfl | rfl
      · have HR : Hid (Rep _ _ _ _ _ _ _ _ _) := h
        have OK : Hid (Ok m) := ok
        clear h ok
        go_enter Tryd.func93, Tryd.ntmps93
        go_wp2_with (first | (go_at_call 107; refine (variable_no _ _ (by omega) (by omega) (by omega)).mono ?_; rintro e w' ⟨rfl, rfl⟩) | (go_at_call 108; refine (HR.out.beginFull h20 _ _).mono ?_; rintro e w' ⟨rfl, rfl⟩))
        go_ret
        exact post_no HY.out (Below.setCell (Below.refl _ _) geR _)
      · have HR : Hid (Rep _ _ _ _ _ _ _ _ _) := h
        have OK : Hid (Ok m) := ok
        clear h ok
        go_enter Tryd.func93, Tryd.ntmps93
        go_wp2_with (first | (go_at_call 107; refine (variable_no _ _ (by omega) (by omega) (by omega)).mono ?_; rintro e w' ⟨rfl, rfl⟩) | (go_at_call 108; refine (HR.out.beginFull h20 _ _).mono ?_; rintro e w' ⟨rfl, rfl⟩))
        go_ret
        exact post_no HY.out (Below.setCell (Below.refl _ _) geR _)
    · by_cases h4 : m.op.length < 4
      · have HY : Hid (startStep m c = some { m with st := m.st ++ [⟨c, 0, false, [0, 0, 0, 0], 0, 0, m.st.length + 1⟩], state := 99 }) := by
          show startStep m c = _; unfold startStep beginStep; rw [if_neg hv, if_pos hq, if_pos h4, if_neg h20]
        replace h20 : m.st.length < 20 := by omega
        have d4 : decide (((m.op.length : Nat) : Int) < 4) = true := by simp; omega
        subst hvo
        clear hqb
        rcases hq with rfl | rfl
        · have HR : Hid (Rep _ _ _ _ _ _ _ _ _) := h
          have OK : Hid (Ok m) := ok
          clear h ok
          go_enter Tryd.func93, Tryd.ntmps93
          go_wp2_with (first | (go_at_call 107; refine (variable_no _ _ (by omega) (by omega) (by omega)).mono ?_; rintro e w' ⟨rfl, rfl⟩) | (go_at_call 108; refine (HR.out.begin_ h20 _ _ hB).mono ?_; rintro e w' ⟨rfl, hb, vs', P', Q', hr⟩; have hr0 := hr.rdc.1; have hr2 := hr.rdc.2.2.1; have hrf := hr.rdc.2.2.2.2.2.2; have HQ : Hid (Rep _ _ _ _ _ _ _ _ _) := hr; clear hr))
          go_ret
          exact post_yes HY.out (Below.setCell hb geR _) (HQ.out.setRd 0 (.int .u8 99) _ rfl rfl rfl)
        · have HR : Hid (Rep _ _ _ _ _ _ _ _ _) := h
          have OK : Hid (Ok m) := ok
          clear h ok
          go_enter Tryd.func93, Tryd.ntmps93
          go_wp2_with (first | (go_at_call 107; refine (variable_no _ _ (by omega) (by omega) (by omega)).mono ?_; rintro e w' ⟨rfl, rfl⟩) | (go_at_call 108; refine (HR.out.begin_ h20 _ _ hB).mono ?_; rintro e w' ⟨rfl, hb, vs', P', Q', hr⟩; have hr0 := hr.rdc.1; have hr2 := hr.rdc.2.2.1; have hrf := hr.rdc.2.2.2.2.2.2; have HQ : Hid (Rep _ _ _ _ _ _ _ _ _) := hr; clear hr))
          go_ret
          exact post_yes HY.out (Below.setCell hb geR _) (HQ.out.setRd 0 (.int .u8 99) _ rfl rfl rfl)
      · have HY : Hid (startStep m c = none) := by show startStep m c = _; unfold startStep; rw [if_neg hv, if_pos hq, if_neg h4]
        replace h20 : m.st.length < 20 := by omega
        have d4 : decide (((m.op.length : Nat) : Int) < 4) = false := by simp; omega
        clear h4
        subst hvo
        clear hqb
        rcases hq with rfl | rfl
        · have HR : Hid (Rep _ _ _ _ _ _ _ _ _) := h
          have OK : Hid (Ok m) := ok
          clear h ok
          go_enter Tryd.func93, Tryd.ntmps93
          go_wp2_with (first | (go_at_call 107; refine (variable_no _ _ (by omega) (by omega) (by omega)).mono ?_; rintro e w' ⟨rfl, rfl⟩) | (go_at_call 108; refine (HR.out.begin_ h20 _ _ hB).mono ?_; rintro e w' ⟨rfl, hb, vs', P', Q', hr⟩; have hr0 := hr.rdc.1; have hr2 := hr.rdc.2.2.1; have hrf := hr.rdc.2.2.2.2.2.2; have HQ : Hid (Rep _ _ _ _ _ _ _ _ _) := hr; clear hr))
          go_ret
          exact post_no HY.out (Below.setCell hb geR _)
        · have HR : Hid (Rep _ _ _ _ _ _ _ _ _) := h
          have OK : Hid (Ok m) := ok
          clear h ok
          go_enter Tryd.func93, Tryd.ntmps93
          go_wp2_with (first | (go_at_call 107; refine (variable_no _ _ (by omega) (by omega) (by omega)).mono ?_; rintro e w' ⟨rfl, rfl⟩) | (go_at_call 108; refine (HR.out.begin_ h20 _ _ hB).mono ?_; rintro e w' ⟨rfl, hb, vs', P', Q', hr⟩; have hr0 := hr.rdc.1; have hr2 := hr.rdc.2.2.1; have hrf := hr.rdc.2.2.2.2.2.2; have HQ : Hid (Rep _ _ _ _ _ _ _ _ _) := hr; clear hr))
          go_ret
          exact post_no HY.out (Below.setCell hb geR _)
  have b63 : (c == 63) = false := by simp; omega
  have b64 : (c == 64) = false := by simp; omega
  by_cases h33 : c = 33
  · by_cases h20 : m.st.length = 20
    · have HY : Hid (startStep m c = none) := by show startStep m c = _; unfold startStep beginStep; rw [if_neg hv, if_neg hq, if_pos h33, if_pos h20]
      subst h33
      clear b63 b64
      have HR : Hid (Rep _ _ _ _ _ _ _ _ _) := h
      have OK : Hid (Ok m) := ok
      clear h ok
      go_enter Tryd.func93, Tryd.ntmps93
      go_wp2_with (first | (go_at_call 107; refine (variable_no _ _ (by omega) (by omega) (by omega)).mono ?_; rintro e w' ⟨rfl, rfl⟩) | (go_at_call 108; refine (HR.out.beginFull h20 _ _).mono ?_; rintro e w' ⟨rfl, rfl⟩))
      go_ret
      exact post_no HY.out (Below.setCell (Below.refl _ _) geR _)
    · have HY : Hid (startStep m c = some { m with st := m.st ++ [⟨c, 0, false, [0, 0, 0, 0], 0, 0, m.st.length + 1⟩], state := 99 }) := by
        show startStep m c = _; unfold startStep beginStep; rw [if_neg hv, if_neg hq, if_pos h33, if_neg h20]
      replace h20 : m.st.length < 20 := by omega
      subst h33
      clear b63 b64
      have HR : Hid (Rep _ _ _ _ _ _ _ _ _) := h
      have OK : Hid (Ok m) := ok
      clear h ok
      go_enter Tryd.func93, Tryd.ntmps93
      go_wp2_with (first | (go_at_call 107; refine (variable_no _ _ (by omega) (by omega) (by omega)).mono ?_; rintro e w' ⟨rfl, rfl⟩) | (go_at_call 108; refine (HR.out.begin_ h20 _ _ hB).mono ?_; rintro e w' ⟨rfl, hb, vs', P', Q', hr⟩; have hr0 := hr.rdc.1; have hr2 := hr.rdc.2.2.1; have hrf := hr.rdc.2.2.2.2.2.2; have HQ : Hid (Rep _ _ _ _ _ _ _ _ _) := hr; clear hr))
      go_ret
      exact post_yes HY.out (Below.setCell hb geR _) (HQ.out.setRd 0 (.int .u8 99) _ rfl rfl rfl)
  have b33 : (c == 33) = false := by simpa using h33
  by_cases h125 : c = 125
  · by_cases ho : 0 < m.op.length
    · have HY : Hid (startStep m c = shutStep m) := by show startStep m c = _; unfold startStep; rw [if_neg hv, if_neg hq, if_neg h33, if_pos ⟨h125, ho⟩]
      subst h125
      subst hvo
      clear b63 b64 b33
      have HR : Hid (Rep _ _ _ _ _ _ _ _ _) := h
      have OK : Hid (Ok m) := ok
      clear h ok
      go_enter Tryd.func93, Tryd.ntmps93
      go_wp2_with (first | (go_at_call 107; refine (variable_no _ _ (by omega) (by omega) (by omega)).mono ?_; rintro e w' ⟨rfl, rfl⟩) | (go_at_call 109; refine (HR.out.shut OK.out ho).mono ?_; rintro e w' ⟨rfl, hb, hr⟩))
      go_ret
      exact post_via HY.out (Below.refl _ _) hb hr
    · have HY : Hid (startStep m c = none) := by show startStep m c = _; unfold startStep; rw [if_neg hv, if_neg hq, if_neg h33, if_neg (fun e => ho e.2)]
      have ho0 : m.op.length = 0 := by omega
      rw [hvo, ho0] at r2
      subst h125
      clear b63 b64 b33 hvo ho ho0
      have HR : Hid (Rep _ _ _ _ _ _ _ _ _) := h
      have OK : Hid (Ok m) := ok
      clear h ok
      go_enter Tryd.func93, Tryd.ntmps93
      go_wp2_with (go_at_call 107; refine (variable_no _ _ (by omega) (by omega) (by omega)).mono ?_; rintro e w' ⟨rfl, rfl⟩)
      go_ret
      exact post_no HY.out (Below.refl _ _)
  · have b125 : (c == 125) = false := by simpa using h125
    have HY : Hid (startStep m c = none) := by show startStep m c = _; unfold startStep; rw [if_neg hv, if_neg hq, if_neg h33, if_neg (fun e => h125 e.1)]
    clear h125 h33 hq
    have HR : Hid (Rep _ _ _ _ _ _ _ _ _) := h
    have OK : Hid (Ok m) := ok
    clear h ok
    go_enter Tryd.func93, Tryd.ntmps93
    go_wp2_with (go_at_call 107; refine (variable_no _ _ (by omega) (by omega) hv).mono ?_; rintro e w' ⟨rfl, rfl⟩)
    go_ret
    exact post_no HY.out (Below.refl _ _)

end Go.Proofs.YtffajooegiempaaDoor

namespace Go.Proofs.YtffajooegiempaaDoor
open Go.RowKit
variable {B : Nat} {w w' : World} {r : Nat} {m : Rd} {vs vo : Value} {P Q O : Nat → Nat}


set_option maxRecDepth 100000 in
set_option maxHeartbeats 1600000 in
theorem Rep.condM (h : Rep B w r m vs vo P Q O) (ok : Ok m) (hn : 0 < m.st.length) (hB : B ≤ w.heap.size) (c : Int) (h0 : 0 ≤ c) (h1 : c ≤ 255) (hx : m.state = 109) :
    Calls Tryd.prog 95 #[.pointer (some ⟨r, 0, none⟩), .int .u8 c] w (Post B w r (condStep m c)) := by
  have hc := h.now hn ok.len
  have hcur := Rep.curs hn
  obtain ⟨c0, c1, c2, c3, c4, c5, c6, f7, f8, n9, n10, n11⟩ := h.stc _ _ hcur
  obtain ⟨r0, r1, r2, r3, r4, r5, rf⟩ := h.rdc
  have geR := h.geR
  obtain ⟨geP, geQ⟩ := h.geC hn
  obtain ⟨sg0, sg1⟩ := ok.sgn
  obtain ⟨nu0, nu1⟩ := ok.nums (cur m) (List.mem_of_getElem? hcur)
  have HC : Hid (_ = _) := hcur
  clear hcur
  rw [hx] at r0
  have HX : Hid (_ = _) := hx
  clear hx
  have nrp : r ≠ P (m.st.length - 1) := fun e => n9 e.symm
  have nrq : r ≠ Q (m.st.length - 1) := fun e => n10 e.symm
  have npq : P (m.st.length - 1) ≠ Q (m.st.length - 1) := fun e => n11 e.symm
  by_cases h59 : c = 59
  · subst h59
    have HY : Hid (condStep m 59 = plainStep { setCur m { cur m with num := if m.neg then -(cur m).num else (cur m).num } with state := behindOf m } 59) := by show condStep m 59 = _; unfold condStep; rw [HX.out, if_neg (by decide), if_neg (by decide), if_neg (by decide), if_neg (by decide), if_neg (by decide), if_neg (by decide), if_neg (by decide), if_neg (by decide), if_pos rfl, if_pos (by decide)]
    cases hneg : m.neg
    · rw [hneg] at r4
      have HZ : Hid (condStep m 59 = plainStep { m with state := behindOf m } 59) := HY.out.trans (by
        have e : ({ cur m with num := if m.neg then -(cur m).num else (cur m).num } : St) = cur m := by rw [hneg]; rfl
        rw [e, setCur_cur hn])
      clear hneg HY
      have HR : Hid (Rep _ _ _ _ _ _ _ _ _) := h
      have OK : Hid (Ok m) := ok
      clear h ok
      go_enter Tryd.func95, Tryd.ntmps95
      go_wp2_with (first | (go_at_call 110; refine hc.mono ?_; rintro e w' ⟨rfl, k, rfl⟩) | (go_at_call 107; refine (variable_no _ _ (by omega) (by omega) (by omega)).mono ?_; rintro e w' ⟨rfl, rfl⟩))
      have e1 := HR.out.drewN k
      refine (e1.behind (by first | exact hn | (rw [len_setCur]; exact hn)) (by first | exact OK.out.len | (rw [len_setCur]; exact OK.out.len))).mono ?_
      rintro e w' ⟨rfl, k2, rfl⟩
      have e2 := (HR.out.drewN (k + k2)).setRd 0 (.int .u8 (behindOf m)) { m with state := behindOf m } rfl rfl rfl
      have HE : Hid (Rep _ _ _ _ _ _ _ _ _) := e2
      clear e1 e2
      go_wp2_with fail
      refine (HE.out.bytePlain (by first | exact OK.out.len | (show (setCur _ _).st.length ≤ 20; rw [len_setCur]; exact OK.out.len)) OK.out.oplen (by first | exact hn | (show 0 < (setCur _ _).st.length; rw [len_setCur]; exact hn)) (by simpa using hB) _ (by omega) (by omega) (by show behindOf _ = 59 ∨ behindOf _ = 123; exact behind_or _)).mono ?_
      rintro e w' ⟨rfl, hb, hr⟩
      go_wp2
      go_ret
      exact post_via HZ.out (Below.setCell (below_drewN (Below.refl _ _) _) geR _) hb hr
    · rw [hneg] at r4
      have HZ : Hid (condStep m 59 = plainStep { setCur m { cur m with num := -(cur m).num } with state := behindOf m } 59) := HY.out.trans (by rw [hneg]; rfl)
      have HBe : Hid (behindOf (setCur m { cur m with num := -(cur m).num }) = behindOf m) := by show behindOf _ = _; unfold behindOf; rw [cur_setCur hn]
      clear hneg HY
      have HR : Hid (Rep _ _ _ _ _ _ _ _ _) := h
      have OK : Hid (Ok m) := ok
      clear h ok
      go_enter Tryd.func95, Tryd.ntmps95
      go_wp2_with (first | (go_at_call 110; refine hc.mono ?_; rintro e w' ⟨rfl, k, rfl⟩) | (go_at_call 107; refine (variable_no _ _ (by omega) (by omega) (by omega)).mono ?_; rintro e w' ⟨rfl, rfl⟩))
      have e1 := (HR.out.drewN k).setC hn { cur m with num := -(cur m).num } 4 (.int .i64 (-(cur m).num)) rfl rfl
      refine (e1.behind (by first | exact hn | (rw [len_setCur]; exact hn)) (by first | exact OK.out.len | (rw [len_setCur]; exact OK.out.len))).mono ?_
      rintro e w' ⟨rfl, k2, rfl⟩
      have e2 := (e1.drewN k2).setRd 0 (.int .u8 (behindOf (setCur m { cur m with num := -(cur m).num }))) { (setCur m { cur m with num := -(cur m).num }) with state := behindOf (setCur m { cur m with num := -(cur m).num }) } rfl rfl rfl
      have HE : Hid (Rep _ _ _ _ _ _ _ _ _) := e2
      clear e1 e2
      go_wp2_with fail
      refine (HE.out.bytePlain (by first | exact OK.out.len | (show (setCur _ _).st.length ≤ 20; rw [len_setCur]; exact OK.out.len)) OK.out.oplen (by first | exact hn | (show 0 < (setCur _ _).st.length; rw [len_setCur]; exact hn)) (by simpa using hB) _ (by omega) (by omega) (by show behindOf _ = 59 ∨ behindOf _ = 123; exact behind_or _)).mono ?_
      rintro e w' ⟨rfl, hb, hr⟩
      go_wp2
      go_ret
      refine post_via (HZ.out.trans ?_) (Below.setCell (below_drewN (Below.setCell (below_drewN (Below.refl _ _) _) geP _) _) geR _) hb hr
      rw [HBe.out]

  by_cases h123 : c = 123
  · subst h123
    clear h59
    have HY : Hid (condStep m 123 = plainStep { setCur m { cur m with num := if m.neg then -(cur m).num else (cur m).num } with state := behindOf m } 123) := by show condStep m 123 = _; unfold condStep; rw [HX.out, if_neg (by decide), if_neg (by decide), if_neg (by decide), if_neg (by decide), if_neg (by decide), if_neg (by decide), if_neg (by decide), if_neg (by decide), if_pos rfl, if_pos (by decide)]
    cases hneg : m.neg
    · rw [hneg] at r4
      have HZ : Hid (condStep m 123 = plainStep { m with state := behindOf m } 123) := HY.out.trans (by
        have e : ({ cur m with num := if m.neg then -(cur m).num else (cur m).num } : St) = cur m := by rw [hneg]; rfl
        rw [e, setCur_cur hn])
      clear hneg HY
      have HR : Hid (Rep _ _ _ _ _ _ _ _ _) := h
      have OK : Hid (Ok m) := ok
      clear h ok
      go_enter Tryd.func95, Tryd.ntmps95
      go_wp2_with (first | (go_at_call 110; refine hc.mono ?_; rintro e w' ⟨rfl, k, rfl⟩) | (go_at_call 107; refine (variable_no _ _ (by omega) (by omega) (by omega)).mono ?_; rintro e w' ⟨rfl, rfl⟩))
      have e1 := HR.out.drewN k
      refine (e1.behind (by first | exact hn | (rw [len_setCur]; exact hn)) (by first | exact OK.out.len | (rw [len_setCur]; exact OK.out.len))).mono ?_
      rintro e w' ⟨rfl, k2, rfl⟩
      have e2 := (HR.out.drewN (k + k2)).setRd 0 (.int .u8 (behindOf m)) { m with state := behindOf m } rfl rfl rfl
      have HE : Hid (Rep _ _ _ _ _ _ _ _ _) := e2
      clear e1 e2
      go_wp2_with fail
      refine (HE.out.bytePlain (by first | exact OK.out.len | (show (setCur _ _).st.length ≤ 20; rw [len_setCur]; exact OK.out.len)) OK.out.oplen (by first | exact hn | (show 0 < (setCur _ _).st.length; rw [len_setCur]; exact hn)) (by simpa using hB) _ (by omega) (by omega) (by show behindOf _ = 59 ∨ behindOf _ = 123; exact behind_or _)).mono ?_
      rintro e w' ⟨rfl, hb, hr⟩
      go_wp2
      go_ret
      exact post_via HZ.out (Below.setCell (below_drewN (Below.refl _ _) _) geR _) hb hr
    · rw [hneg] at r4
      have HZ : Hid (condStep m 123 = plainStep { setCur m { cur m with num := -(cur m).num } with state := behindOf m } 123) := HY.out.trans (by rw [hneg]; rfl)
      have HBe : Hid (behindOf (setCur m { cur m with num := -(cur m).num }) = behindOf m) := by show behindOf _ = _; unfold behindOf; rw [cur_setCur hn]
      clear hneg HY
      have HR : Hid (Rep _ _ _ _ _ _ _ _ _) := h
      have OK : Hid (Ok m) := ok
      clear h ok
      go_enter Tryd.func95, Tryd.ntmps95
      go_wp2_with (first | (go_at_call 110; refine hc.mono ?_; rintro e w' ⟨rfl, k, rfl⟩) | (go_at_call 107; refine (variable_no _ _ (by omega) (by omega) (by omega)).mono ?_; rintro e w' ⟨rfl, rfl⟩))
      have e1 := (HR.out.drewN k).setC hn { cur m with num := -(cur m).num } 4 (.int .i64 (-(cur m).num)) rfl rfl
      refine (e1.behind (by first | exact hn | (rw [len_setCur]; exact hn)) (by first | exact OK.out.len | (rw [len_setCur]; exact OK.out.len))).mono ?_
      rintro e w' ⟨rfl, k2, rfl⟩
      have e2 := (e1.drewN k2).setRd 0 (.int .u8 (behindOf (setCur m { cur m with num := -(cur m).num }))) { (setCur m { cur m with num := -(cur m).num }) with state := behindOf (setCur m { cur m with num := -(cur m).num }) } rfl rfl rfl
      have HE : Hid (Rep _ _ _ _ _ _ _ _ _) := e2
      clear e1 e2
      go_wp2_with fail
      refine (HE.out.bytePlain (by first | exact OK.out.len | (show (setCur _ _).st.length ≤ 20; rw [len_setCur]; exact OK.out.len)) OK.out.oplen (by first | exact hn | (show 0 < (setCur _ _).st.length; rw [len_setCur]; exact hn)) (by simpa using hB) _ (by omega) (by omega) (by show behindOf _ = 59 ∨ behindOf _ = 123; exact behind_or _)).mono ?_
      rintro e w' ⟨rfl, hb, hr⟩
      go_wp2
      go_ret
      refine post_via (HZ.out.trans ?_) (Below.setCell (below_drewN (Below.setCell (below_drewN (Below.refl _ _) _) geP _) _) geR _) hb hr
      rw [HBe.out]

  have b59 : (c == 59) = false := by simpa using h59
  have b123 : (c == 123) = false := by simpa using h123
  have HY : Hid (condStep m c = digitStep m c false 109) := by show condStep m c = _; unfold condStep; rw [HX.out, if_neg (by decide), if_neg (by decide), if_neg (by decide), if_neg (by decide), if_neg (by decide), if_neg (by decide), if_neg (by decide), if_neg (by decide), if_pos rfl, if_neg (fun e => e.elim h59 h123)]
  clear h59 h123
  by_cases hv : 97 ≤ c ∧ c ≤ 100
  · obtain ⟨hva, hvb⟩ := hv
    have HR : Hid (Rep _ _ _ _ _ _ _ _ _) := h
    have OK : Hid (Ok m) := ok
    clear h ok
    go_enter Tryd.func95, Tryd.ntmps95
    go_wp2_with (first | (go_at_call 110; refine hc.mono ?_; rintro e w' ⟨rfl, k, rfl⟩) | (go_at_call 107; refine (variable_yes c _ hva hvb).mono ?_; rintro e w' ⟨rfl, rfl⟩))
    refine ((HR.out.drewN k).digit OK.out hn c false h0 h1 109).mono ?_
    rintro e w' ⟨rfl, hb, hr⟩
    go_wp2
    go_ret
    exact post_via HY.out (below_drewN (Below.refl _ _) _) hb hr
  · have HR : Hid (Rep _ _ _ _ _ _ _ _ _) := h
    have OK : Hid (Ok m) := ok
    clear h ok
    go_enter Tryd.func95, Tryd.ntmps95
    go_wp2_with (first | (go_at_call 110; refine hc.mono ?_; rintro e w' ⟨rfl, k, rfl⟩) | (go_at_call 107; refine (variable_no _ _ (by omega) (by omega) (by omega)).mono ?_; rintro e w' ⟨rfl, rfl⟩))
    refine ((HR.out.drewN k).digit OK.out hn c false h0 h1 109).mono ?_
    rintro e w' ⟨rfl, hb, hr⟩
    go_wp2
    go_ret
    exact post_via HY.out (below_drewN (Below.refl _ _) _) hb hr

end Go.Proofs.YtffajooegiempaaDoor

namespace Go.Proofs.YtffajooegiempaaDoor
open Go.RowKit
variable {B : Nat} {w w' : World} {r : Nat} {m : Rd} {vs vo : Value} {P Q O : Nat → Nat}


set_option maxRecDepth 100000 in
set_option maxHeartbeats 1600000 in
theorem Rep.condZ (h : Rep B w r m vs vo P Q O) (ok : Ok m) (hn : 0 < m.st.length) (_hB : B ≤ w.heap.size) (c : Int) (h0 : 0 ≤ c) (h1 : c ≤ 255) (hx : m.state = 125) :
    Calls Tryd.prog 95 #[.pointer (some ⟨r, 0, none⟩), .int .u8 c] w (Post B w r (condStep m c)) := by
  have hc := h.now hn ok.len
  have hcur := Rep.curs hn
  obtain ⟨c0, c1, c2, c3, c4, c5, c6, f7, f8, n9, n10, n11⟩ := h.stc _ _ hcur
  obtain ⟨r0, r1, r2, r3, r4, r5, rf⟩ := h.rdc
  have geR := h.geR
  obtain ⟨geP, geQ⟩ := h.geC hn
  obtain ⟨sg0, sg1⟩ := ok.sgn
  obtain ⟨nu0, nu1⟩ := ok.nums (cur m) (List.mem_of_getElem? hcur)
  have HC : Hid (_ = _) := hcur
  clear hcur
  rw [hx] at r0
  have HX : Hid (_ = _) := hx
  clear hx
  have nrp : r ≠ P (m.st.length - 1) := fun e => n9 e.symm
  have nrq : r ≠ Q (m.st.length - 1) := fun e => n10 e.symm
  have npq : P (m.st.length - 1) ≠ Q (m.st.length - 1) := fun e => n11 e.symm
  have ho := ok.open_ HX.out
  have ht := tops ho
  have hol := ok.oplen
  obtain ⟨go, capo, hvo, hrowo, ngor, hcapo, ngop, ngo⟩ := h.rowO ho
  obtain ⟨o0, o1, of, nor, nop⟩ := h.opc _ _ ht
  have hg2 := hrowo (m.op.length - 1) (by omega)
  unfold ptr at hg2
  have geO := h.geO (m.op.length - 1) (by omega)
  have nro : r ≠ O (m.op.length - 1) := fun e => nor e.symm
  subst hvo
  have HT : Hid (m.op[m.op.length - 1]? = some (top m)) := ht
  clear ht nop ngo ngop hrowo
  by_cases h123 : c = 123
  · subst h123
    have HY : Hid (condStep m 123 = some { m with op := m.op.set (m.op.length - 1) { top m with second := true }, state := 115 }) := by show condStep m 123 = _; unfold condStep; rw [HX.out, if_neg (by decide), if_neg (by decide), if_neg (by decide), if_neg (by decide), if_neg (by decide), if_neg (by decide), if_neg (by decide), if_neg (by decide), if_neg (by decide), if_pos rfl]
    have HR : Hid (Rep _ _ _ _ _ _ _ _ _) := h
    have OK : Hid (Ok m) := ok
    clear h ok
    go_enter Tryd.func95, Tryd.ntmps95
    go_wp2_with (first | (go_at_call 110; refine hc.mono ?_; rintro e w' ⟨rfl, k, rfl⟩) | (go_at_call 107; refine (variable_no _ _ (by omega) (by omega) (by omega)).mono ?_; rintro e w' ⟨rfl, rfl⟩))
    go_quiet (fail)
    go_wp2
    go_ret
    exact post_yes HY.out (Below.setCell (Below.setCell (below_drewN (Below.refl _ _) _) geO _) geR _) (((HR.out.drewN _).setBk (m.op.length - 1) (top m) { top m with second := true } HT.out 1 (.bool true) _ rfl rfl).setRd 0 (.int .u8 115) _ rfl rfl rfl)
  have b123 : (c == 123) = false := by simpa using h123
  have n123 : (c != 123) = true := by simpa using h123
  have HY : Hid (condStep m c = none) := by show condStep m c = _; unfold condStep; rw [HX.out, if_neg (by decide), if_neg (by decide), if_neg (by decide), if_neg (by decide), if_neg (by decide), if_neg (by decide), if_neg (by decide), if_neg (by decide), if_neg (by decide), if_neg h123]
  clear h123
  have HR : Hid (Rep _ _ _ _ _ _ _ _ _) := h
  have OK : Hid (Ok m) := ok
  clear h ok
  by_cases hv : 97 ≤ c ∧ c ≤ 100
  · obtain ⟨hva, hvb⟩ := hv
    go_enter Tryd.func95, Tryd.ntmps95
    go_wp2_with (first | (go_at_call 110; refine hc.mono ?_; rintro e w' ⟨rfl, k, rfl⟩) | (go_at_call 107; refine (variable_yes c _ hva hvb).mono ?_; rintro e w' ⟨rfl, rfl⟩))
    go_ret
    exact post_no HY.out (below_drewN (Below.refl _ _) _)
  · go_enter Tryd.func95, Tryd.ntmps95
    go_wp2_with (first | (go_at_call 110; refine hc.mono ?_; rintro e w' ⟨rfl, k, rfl⟩) | (go_at_call 107; refine (variable_no _ _ (by omega) (by omega) (by omega)).mono ?_; rintro e w' ⟨rfl, rfl⟩))
    go_ret
    exact post_no HY.out (below_drewN (Below.refl _ _) _)

end Go.Proofs.YtffajooegiempaaDoor

namespace Go.Proofs.YtffajooegiempaaDoor
open Go.RowKit
variable {B : Nat} {w w' : World} {r : Nat} {m : Rd} {vs vo : Value} {P Q O : Nat → Nat}

theorem Rep.value (h : Rep B w r m vs vo P Q O) (ok : Ok m) (c : Int) (h0 : 0 ≤ c) (h1 : c ≤ 255) (hx : m.state = 118 ∨ m.state = 86 ∨ m.state = 120 ∨ m.state = 121 ∨ m.state = 110) :
    Calls Tryd.prog 94 #[.pointer (some ⟨r, 0, none⟩), .int .u8 c] w (Post B w r (valueStep m c)) := by
  have hn := ok.some_ (by omega)
  rcases hx with hx | hx | hx | hx | hx
  · exact h.valueV ok hn c h0 h1 hx
  · exact h.valueVV ok hn c h0 h1 hx
  · exact h.valueX ok hn c h0 h1 hx
  · exact h.valueY ok hn c h0 h1 hx
  · exact h.valueN ok hn c h0 h1 hx

theorem Rep.cond (h : Rep B w r m vs vo P Q O) (ok : Ok m) (hB : B ≤ w.heap.size) (c : Int) (h0 : 0 ≤ c) (h1 : c ≤ 255)
    (hx : m.state = 99 ∨ m.state = 67 ∨ m.state = 100 ∨ m.state = 101 ∨ m.state = 102 ∨ m.state = 60 ∨ m.state = 98 ∨ m.state = 66 ∨ m.state = 109 ∨ m.state = 125) :
    Calls Tryd.prog 95 #[.pointer (some ⟨r, 0, none⟩), .int .u8 c] w (Post B w r (condStep m c)) := by
  have hn := ok.some_ (by omega)
  rcases hx with hx | hx | hx | hx | hx | hx | hx | hx | hx | hx
  · exact h.condC ok hn hB c h0 h1 hx
  · exact h.condCC ok hn hB c h0 h1 hx
  · exact h.condD ok hn hB c h0 h1 hx
  · exact h.condE ok hn hB c h0 h1 hx
  · exact h.condF ok hn hB c h0 h1 hx
  · exact h.condL ok hn hB c h0 h1 hx
  · exact h.condB ok hn hB c h0 h1 hx
  · exact h.condBB ok hn hB c h0 h1 hx
  · exact h.condM ok hn hB c h0 h1 hx
  · exact h.condZ ok hn hB c h0 h1 hx

set_option maxRecDepth 100000 in
set_option maxHeartbeats 1600000 in
theorem Rep.byte (h : Rep B w r m vs vo P Q O) (ok : Ok m) (hB : B ≤ w.heap.size) (c : Int) (h0 : 0 ≤ c) (h1 : c ≤ 255) :
    Calls Tryd.prog 72 #[.pointer (some ⟨r, 0, none⟩), .int .u8 c] w (Post B w r (byteStep m c)) := by
  obtain ⟨r0, r1, r2, r3, r4, r5, rf⟩ := h.rdc
  have geR := h.geR
  rcases ok.states with hx | hx | hx | hx | hx
  · have HY : Hid (byteStep m c = startStep m c) := by show byteStep m c = _; unfold byteStep; rw [if_pos hx]
    have hc := h.start ok hB c h0 h1
    rw [hx] at r0
    clear hx h ok
    go_enter Tryd.func72, Tryd.ntmps72
    go_wp2_with (go_at_call 93; refine hc.mono ?_; rintro e w' ⟨rfl, hb, hr⟩)
    go_ret
    exact post_via HY.out (Below.refl _ _) hb hr
  · rw [hx] at r0
    by_cases hc : c = 61
    · subst hc
      have HY : Hid (byteStep m 61 = some { m with state := 118 }) := by show byteStep m 61 = _; unfold byteStep; rw [hx, if_neg (by decide), if_pos rfl, if_pos rfl]
      have HR : Hid (Rep _ _ _ _ _ _ _ _ _) := h
      clear h ok hx
      go_enter Tryd.func72, Tryd.ntmps72
      go_wp2_with fail
      go_ret
      exact post_yes HY.out (Below.setCell (Below.refl _ _) geR _) (HR.out.setRd 0 (.int .u8 118) _ rfl rfl rfl)
    · have HY : Hid (byteStep m c = none) := by show byteStep m c = _; unfold byteStep; rw [hx, if_neg (by decide), if_pos rfl, if_neg hc]
      have bc : (c == 61) = false := by simpa using hc
      clear h ok hx hc
      go_enter Tryd.func72, Tryd.ntmps72
      go_wp2_with fail
      go_ret
      exact post_no HY.out (Below.setCell (Below.refl _ _) geR _)
  · have HY : Hid (byteStep m c = valueStep m c) := byte_value hx c
    have hc := h.value ok c h0 h1 hx
    have HR : Hid (Rep _ _ _ _ _ _ _ _ _) := h
    clear h ok
    rcases hx with hx | hx | hx | hx | hx
    all_goals
      rw [hx] at r0
      clear hx
      go_enter Tryd.func72, Tryd.ntmps72
      go_wp2_with (go_at_call 94; refine hc.mono ?_; rintro e w' ⟨rfl, hb, hr⟩)
      go_ret
      exact post_via HY.out (Below.refl _ _) hb hr
  · rw [byte_plain hx]
    exact h.bytePlain ok.len ok.oplen (ok.some_ (by omega)) hB c h0 h1 hx
  · have HY : Hid (byteStep m c = condStep m c) := byte_cond hx c
    have hc := h.cond ok hB c h0 h1 hx
    have HR : Hid (Rep _ _ _ _ _ _ _ _ _) := h
    clear h ok
    rcases hx with hx | hx | hx | hx | hx | hx | hx | hx | hx | hx
    all_goals
      rw [hx] at r0
      clear hx
      go_enter Tryd.func72, Tryd.ntmps72
      go_wp2_with (go_at_call 95; refine hc.mono ?_; rintro e w' ⟨rfl, hb, hr⟩)
      go_ret
      exact post_via HY.out (Below.refl _ _) hb hr

end Go.Proofs.YtffajooegiempaaDoor

namespace Go.Proofs.YtffajooegiempaaDoor
open Go.RowKit

theorem rep_init (w : World) : Rep w.heap.size (w.alloc (.cells (rdCells init (.slice none 0 0) (.slice none 0 0)) tR)) w.heap.size init (.slice none 0 0) (.slice none 0 0) id id id where
  rd := by
    show (w.heap.push _)[w.heap.size]? = _
    rw [Array.getElem?_push, if_pos rfl]
  rs := World.ownsRow_nil _ _ _ _
  ro := World.ownsRow_nil _ _ _ _
  st := by intro i s h; simp [init] at h
  op := by intro i s h; simp [init] at h
  injP := by intro i j h; exact absurd h (by simp [init])
  injQ := by intro i j h; exact absurd h (by simp [init])
  injO := by intro i j h; exact absurd h (by simp [init])
  geR := Nat.le_refl _
  geP := by intro i h; exact absurd h (by simp [init])
  geO := by intro i h; exact absurd h (by simp [init])

/-- What Read gives. -/
def ReadPost (w : World) (l : List Int) : Ending → World → Prop := fun e w' =>
  Below w.heap.size w w' ∧ w.heap.size < w'.heap.size ∧
    match readFrom init l 0 with
    | (n, none) => e = .returned (.tuple #[.pointer (some ⟨w.heap.size, 0, none⟩), .int .i64 n, .bool false])
    | (n, some m) => e = .returned (.tuple #[.pointer (some ⟨w.heap.size, 0, none⟩), .int .i64 n, .bool (isDone m)]) ∧ Ok m ∧ ∃ vs vo P Q O, Rep w.heap.size w' w.heap.size m vs vo P Q O

theorem readPost_none {w w' : World} {l : List Int} {m : Rd} {k : Nat} {c : Int} (hb : Below w.heap.size w w') (hz : w.heap.size < w'.heap.size) (h : feed init (l.take k) = some m) (hc : l[k]? = some c) (hs : byteStep m c = none) :
    ReadPost w l (.returned (.tuple #[.pointer (some ⟨w.heap.size, 0, none⟩), .int .i64 k, .bool false])) w' := by
  refine ⟨hb, hz, ?_⟩
  rw [readFrom_none (n := 0) h hc hs, Nat.zero_add]
theorem readPost_some {w w' : World} {l : List Int} {m : Rd} {vs vo : Value} {P Q O : Nat → Nat} {b : Bool} {n : Nat} (hb : Below w.heap.size w w') (hz : w.heap.size < w'.heap.size) (h : feed init l = some m) (ok : Ok m) (hr : Rep w.heap.size w' w.heap.size m vs vo P Q O) (hd : isDone m = b) (hl : l.length = n) :
    ReadPost w l (.returned (.tuple #[.pointer (some ⟨w.heap.size, 0, none⟩), .int .i64 n, .bool b])) w' := by
  refine ⟨hb, hz, ?_⟩
  rw [readFrom_some (n := 0) h, Nat.zero_add, hl]
  exact ⟨by rw [hd], ok, _, _, _, _, _, hr⟩

set_option maxRecDepth 100000 in
set_option maxHeartbeats 1600000 in
theorem ref_read (s : ByteArray) (w : World) (hs : s.size ≤ 160) :
    Calls Tryd.prog 45 #[.string s] w (ReadPost w (bytesOf s)) := by
  have HI : Hid (Rep _ _ _ _ _ _ _ _ _) := rep_init w
  go_enter Tryd.func45, Tryd.ntmps45
  go_wp2
  go_loopw [6] (fun i wr => ∃ k : Nat, k ≤ s.size ∧ i = .int .i64 k ∧ w.heap.size < wr.heap.size ∧ Below w.heap.size w wr ∧ ∃ m, feed init ((bytesOf s).take k) = some m ∧ ∃ vs vo P Q O, Rep w.heap.size wr w.heap.size m vs vo P Q O) (fun i _ => s.size - (intOf i).toNat)
  case atStart => exact ⟨0, Nat.zero_le _, rfl, by simp, (Below.refl _ _).alloc (Nat.le_refl _) _, init, rfl, _, _, _, _, _, HI.out⟩
  case round =>
    obtain ⟨k, hk, rfl, hz, hbel, m, hfeed, vs, vo, P, Q, O, hrep⟩ := hrel
    have ok := Ok.init.feed hfeed
    have HF : Hid (_ = _) := hfeed
    clear hfeed
    by_cases hlt : k < s.size
    · have hb0 : (0 : Int) ≤ ((s[k]).toNat : Int) := by omega
      have hb1 : ((s[k]).toNat : Int) ≤ 255 := by have := (s[k]).toNat_lt; omega
      have hc := hrep.byte ok (by omega) ((s[k]).toNat : Int) hb0 hb1
      have HG : Hid (_ = _) := bytesOf_get s k hlt
      have HT : Hid (_ = _) := bytesOf_take s k hlt
      have OK : Hid (Ok m) := ok
      have HR : Hid (Rep _ _ _ _ _ _ _ _ _) := hrep
      clear ok hrep
      cases hst : byteStep m ((s[k]).toNat : Int) with
      | none =>
        rw [hst] at hc
        have HS : Hid (_ = _) := hst
        clear hst
        go_wp2_with (go_at_call 72; refine hc.mono ?_; rintro e w' ⟨rfl, hb, hr⟩)
        go_ret3
        exact readPost_none (hbel.trans hb) (Nat.lt_of_lt_of_le hz hb.size) HF.out HG.out HS.out
      | some m' =>
        rw [hst] at hc
        have HS : Hid (_ = _) := hst
        clear hst
        go_wp2_with (go_at_call 72; refine hc.mono ?_; rintro e w' ⟨rfl, hb, hr⟩)
        go_roundw
        case rel => exact ⟨k + 1, by omega, by go_num, Nat.lt_of_lt_of_le hz hb.size, hbel.trans hb, m', by rw [HT.out, feed_snoc, HF.out]; exact HS.out, hr m' rfl⟩
        case measure => simp [intOf]; omega
    · have hke : k = s.size := by omega
      have hall : (bytesOf s).take k = bytesOf s := List.take_of_length_le (by rw [bytesOf_len]; omega)
      have HF2 : Hid (feed init (bytesOf s) = some m) := by show feed init (bytesOf s) = some m; rw [← hall]; exact HF.out
      obtain ⟨r0, r1, r2, r3, r4, r5, rf⟩ := hrep.rdc
      obtain ⟨ao, cap, hvo⟩ := hrep.olen
      rw [hvo] at r2
      have hol := ok.oplen
      have OK : Hid (Ok m) := ok
      have HR : Hid (Rep _ _ _ _ _ _ _ _ _) := hrep
      have HL : Hid ((bytesOf s).length = s.size) := bytesOf_len s
      clear ok hrep hall hke hvo
      by_cases h115 : m.state = 115
      · rw [h115] at r0
        by_cases h0 : m.op.length = 0
        · have HD : Hid (isDone m = true) := by show isDone m = true; simp [isDone, h115, h0]
          rw [h0] at r2
          clear h115 h0
          go_wp2
          go_quiet (fail)
          go_wp2
          go_ret3
          exact readPost_some (below_drewN hbel _) hz HF2.out OK.out (HR.out.drewN _) HD.out HL.out
        · have HD : Hid (isDone m = false) := by show isDone m = false; simp [isDone, h0]
          have b0 : (((m.op.length : Nat) : Int) == 0) = false := by rw [beq_eq_false_iff_ne]; omega
          clear h115 h0
          go_wp2
          go_quiet (fail)
          go_wp2
          go_ret3
          exact readPost_some (below_drewN hbel _) hz HF2.out OK.out (HR.out.drewN _) HD.out HL.out
      · have HD : Hid (isDone m = false) := by show isDone m = false; simp [isDone, h115]
        have b115 : (m.state == 115) = false := by simpa using h115
        clear h115
        go_wp2
        go_quiet (fail)
        go_wp2
        go_ret3
        exact readPost_some (below_drewN hbel _) hz HF2.out OK.out (HR.out.drewN _) HD.out HL.out

end Go.Proofs.YtffajooegiempaaDoor

namespace Go.Proofs.YtffajooegiempaaDoor
open Go.RowKit

set_option maxRecDepth 100000 in
set_option maxHeartbeats 1600000 in
theorem ref_scan (s : ByteArray) (w : World) (hm : s.size ≤ maxLen) :
    Calls Tryd.prog 43 #[.string s] w fun e w' => e = three (scanOf (bytesOf s)) ∧ Below w.heap.size w w' := by
  unfold maxLen at hm
  have hl := bytesOf_len s
  by_cases h : 160 < s.size
  · have HS : Hid (scanOf (bytesOf s) = (0, 1, 0)) := by show scanOf _ = _; unfold scanOf; rw [if_pos (by omega)]
    clear hl
    go_enter Tryd.func43, Tryd.ntmps43
    go_wp2_with fail
    go_ret3
    exact ⟨by rw [HS.out]; rfl, Below.refl _ _⟩
  · have hr := ref_read s w (by omega)
    have HS : Hid (scanOf (bytesOf s) = match readFrom init (bytesOf s) 0 with
      | (n, none) => (0, 1, n)
      | (n, some m) => if isDone m then ((m.st.length : Int) + 1, 0, 0) else (0, 1, n)) := by show scanOf _ = _; unfold scanOf; rw [if_neg (by omega)]; rfl
    clear hl
    rcases hrf : readFrom init (bytesOf s) 0 with ⟨n, _ | m⟩
    · rw [hrf] at HS
      have hr' := hr.mono (R' := fun e w' => e = .returned (.tuple #[.pointer (some ⟨w.heap.size, 0, none⟩), .int .i64 n, .bool false]) ∧ Below w.heap.size w w') (by
        rintro e w' ⟨hb, hz, hm⟩
        rw [hrf] at hm
        exact ⟨hm, hb⟩)
      clear hr hrf
      go_enter Tryd.func43, Tryd.ntmps43
      go_wp2_with (go_at_call 45; refine hr'.mono ?_; rintro e w' ⟨rfl, hb⟩)
      go_ret3
      exact ⟨by rw [HS.out]; rfl, hb⟩
    · rw [hrf] at HS
      have hr' := hr.mono (R' := fun e w' => e = .returned (.tuple #[.pointer (some ⟨w.heap.size, 0, none⟩), .int .i64 n, .bool (isDone m)]) ∧ Below w.heap.size w w' ∧ m.st.length ≤ 20 ∧ ∃ ao cap, w'.cell? ⟨w.heap.size, 1, none⟩ = some (.slice ao m.st.length cap)) (by
        rintro e w' ⟨hb, hz, hm⟩
        rw [hrf] at hm
        obtain ⟨he, ok, vs, vo, P, Q, O, hrep⟩ := hm
        obtain ⟨ao, cap, hv⟩ := hrep.slen
        exact ⟨he, hb, ok.len, ao, cap, by rw [← hv]; exact hrep.rdc.2.1⟩)
      clear hr hrf
      cases hd : isDone m
      · have HS2 : Hid (scanOf (bytesOf s) = (0, 1, (n : Int))) := HS.out.trans (by simp [hd])
        rw [hd] at hr'
        clear hd HS
        go_enter Tryd.func43, Tryd.ntmps43
        go_wp2_with (go_at_call 45; refine hr'.mono ?_; rintro e w' ⟨rfl, hb, hlen, ao, cap, hcell⟩)
        go_ret3
        exact ⟨by rw [HS2.out]; rfl, hb⟩
      · have HS2 : Hid (scanOf (bytesOf s) = ((m.st.length : Int) + 1, 0, 0)) := HS.out.trans (by simp [hd])
        rw [hd] at hr'
        clear hd HS
        go_enter Tryd.func43, Tryd.ntmps43
        go_wp2_with (go_at_call 45; refine hr'.mono ?_; rintro e w' ⟨rfl, hb, hlen, ao, cap, hcell⟩)
        go_ret3
        exact ⟨by rw [HS2.out]; rfl, hb⟩

end Go.Proofs.YtffajooegiempaaDoor

/- The document's ways, plain. -/
namespace Go.Proofs.YtffajooegiempaaDoor

/-- The last statement ahead of i that ends behind it. -/
def lastOpen (S : List St) (i : Nat) : Nat → Int
  | 0 => -1
  | k + 1 => if i < (S.getD k noSt).fin then (k : Int) else lastOpen S i k
def endOf (u : St) (i : Nat) : Nat := if u.kind = 63 ∧ i < u.mid then u.mid else u.fin
def followR (S : List St) : Nat → Nat → Int
  | 0, _ => 0
  | n + 1, i => if lastOpen S i i < 0 then ((S.getD i noSt).fin : Int)
    else if (S.getD i noSt).fin < endOf (S.getD (lastOpen S i i).toNat noSt) i then ((S.getD i noSt).fin : Int)
    else if (S.getD (lastOpen S i i).toNat noSt).kind = 64 then lastOpen S i i
    else followR S n (lastOpen S i i).toNat

/-- How many ways lead out of a statement. -/
def waysR (u : St) : Int := if u.kind = 61 ∨ u.kind = 33 then 1 else 2
/-- Where a way leads. -/
def nextR (S : List St) (p : Nat) (way : Int) : Int :=
  let u := S.getD p noSt
  let f := followR S 21 p
  if u.kind = 61 ∨ u.kind = 33 ∨ (u.kind = 64 ∧ way = 1) then f
  else if u.kind = 64 ∧ u.fin = p + 1 then p
  else if u.kind = 64 then (p : Int) + 1
  else if way = 0 ∧ p + 1 < u.mid then (p : Int) + 1
  else if way = 1 ∧ u.mid < u.fin then u.mid
  else f

theorem lastOpen_lt (S : List St) (i : Nat) : ∀ k, -1 ≤ lastOpen S i k ∧ lastOpen S i k < k := by
  intro k
  induction k with
  | zero => unfold lastOpen; omega
  | succ k ih =>
    unfold lastOpen
    split
    · omega
    · omega

end Go.Proofs.YtffajooegiempaaDoor

namespace Go.Proofs.YtffajooegiempaaDoor
open Go.RowKit
variable {B : Nat} {w w' : World} {r : Nat} {m : Rd} {vs vo : Value} {P Q O : Nat → Nat}

theorem Rep.gets {j : Nat} (hj : j < m.st.length) : m.st[j]? = some (m.st.getD j noSt) := by rw [List.getD_eq_getElem?_getD, List.getElem?_eq_getElem hj]; rfl
theorem Rep.slen' (h : Rep B w r m vs vo P Q O) : ∃ ao cap, vs = .slice ao m.st.length cap := by
  obtain ⟨_, h2⟩ := h.rs
  rcases h2 with ⟨rfl, e⟩ | ⟨g, cap, c, rfl, _⟩
  · exact ⟨none, 0, by rw [e]⟩
  · exact ⟨_, cap, rfl⟩

set_option maxRecDepth 100000 in
set_option maxHeartbeats 800000 in
theorem Rep.ways (h : Rep B w r m vs vo P Q O) (p : Int) :
    Calls Tryd.prog 60 #[.pointer (some ⟨r, 0, none⟩), .int .i64 p] w fun e w' => e = .returned (.int .i64 (if p < 0 ∨ (m.st.length : Int) ≤ p then 0 else waysR (m.st.getD p.toNat noSt))) ∧ w' = w := by
  obtain ⟨ao, cap, hvs⟩ := h.slen'
  obtain ⟨r0, r1, r2, r3, r4, r5, rf⟩ := h.rdc
  by_cases h0 : p < 0
  · rw [if_pos (.inl h0)]
    clear h r0 r2 r3 r4 r5 rf
    go_enter Tryd.func60, Tryd.ntmps60
    go_wp2_with fail
    go_ret
    exact ⟨rfl, rfl⟩
  by_cases h1 : (m.st.length : Int) ≤ p
  · rw [if_pos (.inr h1)]
    rw [hvs] at r1
    clear h r0 r2 r3 r4 r5 rf
    go_enter Tryd.func60, Tryd.ntmps60
    go_wp2_with fail
    go_ret
    exact ⟨rfl, rfl⟩
  rw [if_neg (fun e => e.elim h0 h1)]
  obtain ⟨k, rfl⟩ : ∃ k : Nat, p = k := ⟨p.toNat, by omega⟩
  rw [Int.toNat_natCast]
  have hk : k < m.st.length := by omega
  obtain ⟨g, cap', hvs', hrow, _⟩ := h.row (by omega)
  rw [hvs'] at r1
  have hc : w.cell? ⟨g, k, none⟩ = some (.pointer (some ⟨P k, 0, none⟩)) := hrow k hk
  obtain ⟨c0, -⟩ := h.stc k _ (Rep.gets hk)
  have hki : (k : Int) < (m.st.length : Int) := by omega
  unfold waysR
  clear h hrow hvs hvs' r0 r2 r3 r4 r5 rf h1
  generalize m.st.getD k noSt = u at *
  generalize P k = q at *
  by_cases k61 : u.kind = 61
  · rw [if_pos (.inl k61)]
    rw [k61] at c0
    clear k61
    go_enter Tryd.func60, Tryd.ntmps60
    go_wp2_with fail
    go_ret
    exact ⟨rfl, rfl⟩
  have b61 : (u.kind == 61) = false := by simpa using k61
  by_cases k33 : u.kind = 33
  · rw [if_pos (.inr k33)]
    rw [k33] at c0
    clear k33 k61 b61
    go_enter Tryd.func60, Tryd.ntmps60
    go_wp2_with fail
    go_ret
    exact ⟨rfl, rfl⟩
  have b33 : (u.kind == 33) = false := by simpa using k33
  rw [if_neg (fun e => e.elim k61 k33)]
  clear k33 k61
  go_enter Tryd.func60, Tryd.ntmps60
  go_wp2_with fail
  go_ret
  exact ⟨rfl, rfl⟩

end Go.Proofs.YtffajooegiempaaDoor

namespace Go.Proofs.YtffajooegiempaaDoor
open Go.RowKit

/-- The machine behind a text that is a program. -/
def progOf (l : List Int) : Option Rd :=
  if 160 < l.length then none else match (readFrom init l 0).2 with
    | none => none
    | some m => if isDone m then some m else none

theorem progOf_none {l : List Int} (h : progOf l = none) : (scanOf l).2.1 = 1 := by
  unfold progOf at h
  unfold scanOf
  split at h
  · rename_i e; rw [if_pos e]
  · rename_i e
    rw [if_neg e]
    rcases hr : readFrom init l 0 with ⟨n, _ | m⟩
    · rfl
    · rw [hr] at h
      simp only at h ⊢
      cases hd : isDone m
      · simp
      · rw [hd] at h; simp at h
theorem progOf_some {l : List Int} {m : Rd} (h : progOf l = some m) : l.length ≤ 160 ∧ (∃ n, readFrom init l 0 = (n, some m)) ∧ isDone m = true ∧ scanOf l = ((m.st.length : Int) + 1, 0, 0) := by
  unfold progOf at h
  split at h
  · cases h
  · rename_i e
    rcases hr : readFrom init l 0 with ⟨n, _ | m'⟩
    · rw [hr] at h; cases h
    · rw [hr] at h
      simp only at h
      cases hd : isDone m'
      · rw [hd] at h; simp at h
      · rw [hd] at h
        simp at h
        subst h
        refine ⟨by omega, ⟨n, rfl⟩, hd, ?_⟩
        unfold scanOf
        rw [if_neg e, hr]
        simp [hd]

/-- The number of ways at a point. -/
def waysAt (m : Rd) (p : Int) : Int := if p < 0 ∨ (m.st.length : Int) ≤ p then 0 else waysR (m.st.getD p.toNat noSt)
def two (x : Int × Int) : Ending := .returned (.tuple #[.int .i64 x.1, .int .i64 x.2])

/-- The reader of a program, read anew. -/
theorem ref_again {s : ByteArray} {m : Rd} (hp : progOf (bytesOf s) = some m) (w : World) :
    Calls Tryd.prog 45 #[.string s] w fun e w' => ∃ n : Nat, e = .returned (.tuple #[.pointer (some ⟨w.heap.size, 0, none⟩), .int .i64 n, .bool true]) ∧ Below w.heap.size w w' ∧ m.st.length ≤ 20 ∧ ∃ vs vo P Q O, Rep w.heap.size w' w.heap.size m vs vo P Q O := by
  obtain ⟨hl, ⟨n, hr⟩, hd, _⟩ := progOf_some hp
  refine (ref_read s w (by rw [← bytesOf_len]; exact hl)).mono ?_
  rintro e w' ⟨hb, _, h⟩
  rw [hr] at h
  obtain ⟨he, ok, hrep⟩ := h
  exact ⟨n, by rw [he, hd], hb, ok.len, hrep⟩

set_option maxRecDepth 100000 in
set_option maxHeartbeats 1600000 in
theorem ref_known_none (s : ByteArray) (p way : Int) (w : World) (hm : s.size ≤ maxLen) (hp : progOf (bytesOf s) = none) :
    Calls Tryd.prog 37 #[.string s, .int .i64 p, .int .i64 way] w fun e w' => e = .returned (.tuple #[.pointer none, .int .i64 1]) ∧ Below w.heap.size w w' := by
  have hs := ref_scan s w hm
  have h1 := progOf_none hp
  generalize scanOf (bytesOf s) = x at *
  obtain ⟨a, b, c⟩ := x
  have h2 : b = 1 := h1
  subst h2
  simp only [three] at hs
  clear hm hp h1
  go_enter Tryd.func37, Tryd.ntmps37
  go_wp2_with fail
  refine hs.mono ?_
  rintro e w1 ⟨rfl, hb⟩
  go_wp2_with fail
  go_ret2
  exact ⟨rfl, hb⟩

set_option maxRecDepth 100000 in
set_option maxHeartbeats 1600000 in
theorem ref_known_some (s : ByteArray) (p way : Int) (w : World) (hm : s.size ≤ maxLen) {m : Rd} (hp : progOf (bytesOf s) = some m) :
    Calls Tryd.prog 37 #[.string s, .int .i64 p, .int .i64 way] w fun e w' => Below w.heap.size w w' ∧ ((e = .returned (.tuple #[.pointer none, .int .i64 2]) ∧ (way < 0 ∨ waysAt m p ≤ way)) ∨
      (¬ (way < 0 ∨ waysAt m p ≤ way) ∧ m.st.length ≤ 20 ∧ ∃ r B vs vo P Q O, e = .returned (.tuple #[.pointer (some ⟨r, 0, none⟩), .int .i64 0]) ∧ Rep B w' r m vs vo P Q O)) := by
  have hs := ref_scan s w hm
  rw [(progOf_some hp).2.2.2] at hs
  simp only [three] at hs
  have hr := fun w => ref_again hp w
  have HW : Hid (∀ {B : Nat} {w : World} {r : Nat} {vs vo : Value} {P Q O : Nat → Nat}, Rep B w r m vs vo P Q O → Calls Tryd.prog 60 #[.pointer (some ⟨r, 0, none⟩), .int .i64 p] w fun e w' => e = .returned (.int .i64 (waysAt m p)) ∧ w' = w) := fun h => h.ways p
  clear hm hp
  generalize waysAt m p = wa at *
  by_cases hw : way < 0
  · go_enter Tryd.func37, Tryd.ntmps37
    go_wp2_with fail
    refine hs.mono ?_
    rintro e w1 ⟨rfl, hb⟩
    go_wp2_with fail
    refine (hr _).mono ?_
    rintro e w2 ⟨n, rfl, hb2, hlen, vs, vo, P, Q, O, hrep⟩
    have HR : Hid (Rep _ _ _ _ _ _ _ _ _) := hrep
    clear hrep
    go_wp2_with fail
    refine (HW.out HR.out).mono ?_
    rintro e w3 ⟨rfl, rfl⟩
    go_wp2_with fail
    go_ret2
    exact ⟨hb.trans (hb2.mono hb.size), .inl ⟨rfl, .inl hw⟩⟩
  by_cases hw2 : wa ≤ way
  · go_enter Tryd.func37, Tryd.ntmps37
    go_wp2_with fail
    refine hs.mono ?_
    rintro e w1 ⟨rfl, hb⟩
    go_wp2_with fail
    refine (hr _).mono ?_
    rintro e w2 ⟨n, rfl, hb2, hlen, vs, vo, P, Q, O, hrep⟩
    have HR : Hid (Rep _ _ _ _ _ _ _ _ _) := hrep
    clear hrep
    go_wp2_with fail
    refine (HW.out HR.out).mono ?_
    rintro e w3 ⟨rfl, rfl⟩
    go_wp2_with fail
    go_ret2
    exact ⟨hb.trans (hb2.mono hb.size), .inl ⟨rfl, .inr hw2⟩⟩
  · have HN : Hid (¬ (way < 0 ∨ wa ≤ way)) := fun e => e.elim hw hw2
    go_enter Tryd.func37, Tryd.ntmps37
    go_wp2_with fail
    refine hs.mono ?_
    rintro e w1 ⟨rfl, hb⟩
    go_wp2_with fail
    refine (hr _).mono ?_
    rintro e w2 ⟨n, rfl, hb2, hlen, vs, vo, P, Q, O, hrep⟩
    have HR : Hid (Rep _ _ _ _ _ _ _ _ _) := hrep
    clear hrep
    go_wp2_with fail
    refine (HW.out HR.out).mono ?_
    rintro e w3 ⟨rfl, rfl⟩
    go_wp2_with fail
    go_ret2
    exact ⟨hb.trans (hb2.mono hb.size), .inr ⟨HN.out, hlen, _, _, _, _, _, _, _, rfl, HR.out⟩⟩

end Go.Proofs.YtffajooegiempaaDoor

namespace Go.Proofs.YtffajooegiempaaDoor
open Go.RowKit
variable {B B2 : Nat} {w w' : World} {r : Nat} {m : Rd} {vs vo : Value} {P Q O : Nat → Nat}

theorem Rep.keep (h : Rep B w r m vs vo P Q O) (hb : Below w.heap.size w w') : Rep B w' r m vs vo P Q O where
  rd := h.rd.keep hb h.rd.lt
  rs := ownsRow_same h.rs (fun g hg => hb.block g (h.rs.lt g hg).2)
  ro := ownsRow_same h.ro (fun g hg => hb.block g (h.ro.lt g hg).2)
  st := fun i s hi => by
    obtain ⟨a, b⟩ := h.st i s hi
    exact ⟨a.keep hb a.lt, b.keep hb b.lt⟩
  op := fun i b hi => (h.op i b hi).keep hb (h.op i b hi).lt
  injP := h.injP
  injQ := h.injQ
  injO := h.injO
  geR := h.geR
  geP := h.geP
  geO := h.geO

end Go.Proofs.YtffajooegiempaaDoor

namespace Go.Proofs.YtffajooegiempaaDoor
open Go.RowKit
variable {w : World} {e0 : Bool} {M : Nat → Int} {b : Nat}

/-- Is it safe: the program. -/
def sfP (e : Bool) (M : Nat → Int) (x : Ds) : Bool :=
  if e = true then true else if x.kind = 0 then x.any || ftB M x.sg x.num else if x.kind = 1 then !x.any && decide (grP M x.sg ≤ x.num) else true

end Go.Proofs.YtffajooegiempaaDoor

namespace Go.Proofs.YtffajooegiempaaDoor
open Go.RowKit
variable {w : World} {e0 : Bool} {M : Nat → Int} {b : Nat}

set_option maxRecDepth 100000 in
set_option maxHeartbeats 3200000 in
theorem e_safe_t (x : Ds) (k1 : x.kind = 1) (ha : x.any = true) :
    Calls Tryd.prog 40 #[dsv x, .agg (oc false M)] w fun e w' => e = .returned (.bool (sfP false M x)) ∧ Below w.heap.size w w' := by
  obtain ⟨e0, he0⟩ : ∃ e0 : Bool, e0 = false := ⟨_, rfl⟩
  rw [← he0]
  obtain ⟨w0, hw0⟩ : ∃ w0, w0 = (w.alloc (.cells (dsCells x) tDs)).alloc (.cells (oc e0 M) tO) := ⟨_, rfl⟩
  have H0 : Hid (At w0 w.heap.size (dsCells x) tDs ∧ OAt w0 (w.heap.size + 1) e0 M ∧ Below w.heap.size w w0 ∧ w0.heap.size = w.heap.size + 2) := by
    refine ⟨by rw [hw0]; exact At.allocH (At.new _ _ _) _, ?_, by rw [hw0]; exact ((Below.refl _ _).alloc (Nat.le_refl _) _).alloc (by simp) _, by rw [hw0]; simp⟩
    have := At.new (w.alloc (.cells (dsCells x) tDs)) (oc e0 M) tO
    rw [show (w.alloc (.cells (dsCells x) tDs)).heap.size = w.heap.size + 1 by simp] at this
    rw [hw0]; exact this
  have z0 : w0.cell? ⟨w.heap.size + 1, 0, none⟩ = some (.bool e0) := by rw [At.cell H0.out.2.1]; exact oc_0 _ _
  have HB0 := H0.out.2.2.1
  have HA0 := H0.out.2.1
  subst he0
  have HE0 : Hid (sfP false M x = (!x.any && decide (grP M x.sg ≤ x.num))) := by show sfP false M x = _; unfold sfP; rw [if_neg (by decide), if_neg (by omega), if_pos k1]
  have HE : Hid (sfP false M x = false) := by show _ = false; rw [HE0.out, ha]; rfl
  have d2 : w0.drew.cell? ⟨w.heap.size, 2, none⟩ = some (.bool true) := by rw [← ha]; exact H0.out.1.cell 2
  have HB1 : Hid (Below w.heap.size w w0.drew) := H0.out.2.2.1.drew
  rw [hw0] at d2 HB1
  clear H0 HE0
  rw [hw0] at z0 HB0 HA0
  unfold dsCells at z0 HB0 HA0
  unfold dsv
  unfold dsCells at d2 HB1
  rw [k1, ha] at z0 HB0 d2 HB1 ⊢
  clear hw0
  go_enter Tryd.func40, Tryd.ntmps40
  go_wp2_with fail
  go_region
  all_goals
    go_wp2_with fail
    go_ret
    exact ⟨ret_b' HE.out, HB1.out⟩

end Go.Proofs.YtffajooegiempaaDoor

namespace Go.Proofs.YtffajooegiempaaDoor
open Go.RowKit
variable {w : World} {e0 : Bool} {M : Nat → Int} {b : Nat}

set_option maxRecDepth 100000 in
set_option maxHeartbeats 3200000 in
theorem e_safe_f (x : Ds) (hx : DsG x) (k1 : x.kind = 1) (ha : x.any = false) (hS : Sm M) :
    Calls Tryd.prog 40 #[dsv x, .agg (oc false M)] w fun e w' => e = .returned (.bool (sfP false M x)) ∧ Below w.heap.size w w' := by
  obtain ⟨e0, he0⟩ : ∃ e0 : Bool, e0 = false := ⟨_, rfl⟩
  rw [← he0]
  obtain ⟨w0, hw0⟩ : ∃ w0, w0 = (w.alloc (.cells (dsCells x) tDs)).alloc (.cells (oc e0 M) tO) := ⟨_, rfl⟩
  have H0 : Hid (At w0 w.heap.size (dsCells x) tDs ∧ OAt w0 (w.heap.size + 1) e0 M ∧ Below w.heap.size w w0 ∧ w0.heap.size = w.heap.size + 2) := by
    refine ⟨by rw [hw0]; exact At.allocH (At.new _ _ _) _, ?_, by rw [hw0]; exact ((Below.refl _ _).alloc (Nat.le_refl _) _).alloc (by simp) _, by rw [hw0]; simp⟩
    have := At.new (w.alloc (.cells (dsCells x) tDs)) (oc e0 M) tO
    rw [show (w.alloc (.cells (dsCells x) tDs)).heap.size = w.heap.size + 1 by simp] at this
    rw [hw0]; exact this
  have z0 : w0.cell? ⟨w.heap.size + 1, 0, none⟩ = some (.bool e0) := by rw [At.cell H0.out.2.1]; exact oc_0 _ _
  have HB0 := H0.out.2.2.1
  have HA0 := H0.out.2.1
  subst he0
  have HE0 : Hid (sfP false M x = (!x.any && decide (grP M x.sg ≤ x.num))) := by show sfP false M x = _; unfold sfP; rw [if_neg (by decide), if_neg (by omega), if_pos k1]
  have HE : Hid (sfP false M x = decide (grP M x.sg ≤ x.num)) := by show _ = decide (grP M x.sg ≤ x.num); rw [HE0.out, ha]; rfl
  have HGr : Hid (∀ w1, Calls Tryd.prog 64 #[.agg (oc false M), v4 x.sg] w1 fun e w' => e = .returned (.int .i64 (grP M x.sg)) ∧ Below w1.heap.size w1 w') := fun w1 => o_greatest x.sg hx.sg hS
  have H2 : Hid (At w0.drew w.heap.size (dsCells x) tDs ∧ OAt w0.drew (w.heap.size + 1) false M ∧ Below w.heap.size w w0.drew) := ⟨H0.out.1, H0.out.2.1, H0.out.2.2.1.drew⟩
  have d2 : w0.drew.cell? ⟨w.heap.size, 2, none⟩ = some (.bool false) := by rw [← ha]; exact H0.out.1.cell 2
  have d3 : w0.drew.cell? ⟨w.heap.size, 3, none⟩ = some (.int .i64 (gAt x.sg 0)) := H0.out.1.cell 3
  have d4 : w0.drew.cell? ⟨w.heap.size, 4, none⟩ = some (.int .i64 (gAt x.sg 1)) := H0.out.1.cell 4
  have d5 : w0.drew.cell? ⟨w.heap.size, 5, none⟩ = some (.int .i64 (gAt x.sg 2)) := H0.out.1.cell 5
  have d6 : w0.drew.cell? ⟨w.heap.size, 6, none⟩ = some (.int .i64 (gAt x.sg 3)) := H0.out.1.cell 6
  have d7 : w0.drew.cell? ⟨w.heap.size, 7, none⟩ = some (.int .i64 x.num) := H0.out.1.cell 7
  have hl2 : w.heap.size < w0.drew.heap.size := by have := H0.out.1.lt; exact this
  clear H0 HE0 hS
  rw [hw0] at z0 HB0 HA0
  unfold dsCells at z0 HB0 HA0
  unfold dsv
  rw [k1, ha] at z0 HB0 ⊢
  unfold dsCells at hw0
  rw [k1, ha] at hw0
  generalize grP M x.sg = gr at *
  go_enter Tryd.func40, Tryd.ntmps40
  go_wp2_with fail
  refine wp_region_any (by kernel_rfl) ?_
  change wpAny _ _ _ _ _ _ _ (World.drew _)
  rw [← hw0]
  clear hw0 z0 HB0 HA0
  generalize w0.drew = w2 at *
  refine wpAny_take (i := 0) (v := .pointer (some ⟨w.heap.size, 2, none⟩)) rfl (by kernel_rfl) (by kernel_rfl) (by kernel_rfl) (fun _ _ _ h => h) (Or.inl ⟨by kernel_rfl, by intro w; go_simp⟩) ?_
  refine wpAny_ready (rs := [1]) (by kernel_rfl) (by simp) ?_
  refine AllReady.cons rfl (fun K hK => ?_) AllReady.nil
  go_simp
  refine hK _ _ ?_
  clear hK K
  refine wpAny_take (i := 2) (v := .bool true) rfl (by kernel_rfl) (by kernel_rfl) (by kernel_rfl) (fun _ _ _ h => h) (Or.inl ⟨by kernel_rfl, by intro w; go_simp⟩) ?_
  refine wpAny_take (i := 3) (v := .bool true) rfl (by kernel_rfl) (by kernel_rfl) (by kernel_rfl) (fun _ _ _ h => h) (Or.inl ⟨by kernel_rfl, by intro w; go_simp⟩) ?_
  refine wpAny_take (i := 5) (v := .pointer (some ⟨w.heap.size, 3, none⟩)) rfl (by kernel_rfl) (by kernel_rfl) (by kernel_rfl) (fun _ _ _ h => h) (Or.inl ⟨by kernel_rfl, by intro w; go_simp⟩) ?_
  refine wpAny_take (i := 8) (v := .pointer (some ⟨w.heap.size, 7, none⟩)) rfl (by kernel_rfl) (by kernel_rfl) (by kernel_rfl) (fun _ _ _ h => h) (Or.inl ⟨by kernel_rfl, by intro w; go_simp⟩) ?_
  refine wpAny_ready (rs := [4, 6, 9]) (by kernel_rfl) (by simp) ?_
  refine AllReady.cons rfl (fun K hK => ?_) (AllReady.cons rfl (fun K hK => ?_) (AllReady.cons rfl (fun K hK => ?_) AllReady.nil))
  · refine step_load_ow (by first | rfl | simp [Region.wanted, yielded]) (.tmp 3) rfl rfl H2.out.2.1 ?_
    refine hK _ _ ?_
    clear hK K
    refine wpAny_ready (rs := [6, 9]) (by kernel_rfl) (by simp) ?_
    refine AllReady.cons rfl (fun K hK => ?_) (AllReady.cons rfl (fun K hK => ?_) AllReady.nil)
    · go_simp
      refine hK _ _ ?_
      clear hK K
      refine wpAny_ready (rs := [7, 9]) (by kernel_rfl) (by simp) ?_
      refine AllReady.cons rfl (fun K hK => ?_) (AllReady.cons rfl (fun K hK => ?_) AllReady.nil)
      · go_simp
        go_wp2_with (go_at_call 64; refine (HGr.out _).mono ?_; rintro e w3 ⟨rfl, hb3⟩)
        have H3 : Hid (Below w.heap.size w w3) := H2.out.2.2.trans (hb3.mono H2.out.2.2.size)
        have f7 : w3.cell? ⟨w.heap.size, 7, none⟩ = some (.int .i64 x.num) := (hb3.cell (p := ⟨w.heap.size, 7, none⟩) hl2).trans d7
        clear hb3
        refine wpAny_ready (rs := [9]) (by kernel_rfl) (by simp) ?_
        refine AllReady.cons rfl (fun K hK => ?_) AllReady.nil
        go_simp
        refine hK _ _ ?_
        clear hK K
        refine wpAny_take (i := 10) (v := .bool (decide (gr ≤ x.num))) rfl (by kernel_rfl) (by kernel_rfl) (by kernel_rfl) (fun _ _ _ h => h) (Or.inl ⟨by kernel_rfl, by intro w; go_simp⟩) ?_
        refine wpAny_take (i := 11) (v := .bool (decide (gr ≤ x.num))) rfl (by kernel_rfl) (by kernel_rfl) (by kernel_rfl) (fun _ _ _ h => h) (Or.inl ⟨by kernel_rfl, by intro w; go_simp⟩) ?_
        refine wpAny_take (i := 12) (v := .bool (decide (gr ≤ x.num))) rfl (by kernel_rfl) (by kernel_rfl) (by kernel_rfl) (fun _ _ _ h => h) (Or.inl ⟨by kernel_rfl, by intro w; go_simp⟩) ?_
        refine wpAny_done (by kernel_rfl) ?_ _
        go_wp2_with fail
        go_ret
        exact ⟨ret_b' HE.out, H3.out⟩
      · go_simp
        refine hK _ _ ?_
        clear hK K
        refine wpAny_ready (rs := [7]) (by kernel_rfl) (by simp) ?_
        refine AllReady.cons rfl (fun K hK => ?_) AllReady.nil
        go_simp
        go_wp2_with (go_at_call 64; refine (HGr.out _).mono ?_; rintro e w3 ⟨rfl, hb3⟩)
        have H3 : Hid (Below w.heap.size w w3) := H2.out.2.2.trans (hb3.mono H2.out.2.2.size)
        have f7 : w3.cell? ⟨w.heap.size, 7, none⟩ = some (.int .i64 x.num) := (hb3.cell (p := ⟨w.heap.size, 7, none⟩) hl2).trans d7
        clear hb3
        refine wpAny_take (i := 10) (v := .bool (decide (gr ≤ x.num))) rfl (by kernel_rfl) (by kernel_rfl) (by kernel_rfl) (fun _ _ _ h => h) (Or.inl ⟨by kernel_rfl, by intro w; go_simp⟩) ?_
        refine wpAny_take (i := 11) (v := .bool (decide (gr ≤ x.num))) rfl (by kernel_rfl) (by kernel_rfl) (by kernel_rfl) (fun _ _ _ h => h) (Or.inl ⟨by kernel_rfl, by intro w; go_simp⟩) ?_
        refine wpAny_take (i := 12) (v := .bool (decide (gr ≤ x.num))) rfl (by kernel_rfl) (by kernel_rfl) (by kernel_rfl) (fun _ _ _ h => h) (Or.inl ⟨by kernel_rfl, by intro w; go_simp⟩) ?_
        refine wpAny_done (by kernel_rfl) ?_ _
        go_wp2_with fail
        go_ret
        exact ⟨ret_b' HE.out, H3.out⟩
    · go_simp
      refine hK _ _ ?_
      clear hK K
      refine wpAny_ready (rs := [6]) (by kernel_rfl) (by simp) ?_
      refine AllReady.cons rfl (fun K hK => ?_) AllReady.nil
      go_simp
      refine hK _ _ ?_
      clear hK K
      refine wpAny_ready (rs := [7]) (by kernel_rfl) (by simp) ?_
      refine AllReady.cons rfl (fun K hK => ?_) AllReady.nil
      go_simp
      go_wp2_with (go_at_call 64; refine (HGr.out _).mono ?_; rintro e w3 ⟨rfl, hb3⟩)
      have H3 : Hid (Below w.heap.size w w3) := H2.out.2.2.trans (hb3.mono H2.out.2.2.size)
      have f7 : w3.cell? ⟨w.heap.size, 7, none⟩ = some (.int .i64 x.num) := (hb3.cell (p := ⟨w.heap.size, 7, none⟩) hl2).trans d7
      clear hb3
      refine wpAny_take (i := 10) (v := .bool (decide (gr ≤ x.num))) rfl (by kernel_rfl) (by kernel_rfl) (by kernel_rfl) (fun _ _ _ h => h) (Or.inl ⟨by kernel_rfl, by intro w; go_simp⟩) ?_
      refine wpAny_take (i := 11) (v := .bool (decide (gr ≤ x.num))) rfl (by kernel_rfl) (by kernel_rfl) (by kernel_rfl) (fun _ _ _ h => h) (Or.inl ⟨by kernel_rfl, by intro w; go_simp⟩) ?_
      refine wpAny_take (i := 12) (v := .bool (decide (gr ≤ x.num))) rfl (by kernel_rfl) (by kernel_rfl) (by kernel_rfl) (fun _ _ _ h => h) (Or.inl ⟨by kernel_rfl, by intro w; go_simp⟩) ?_
      refine wpAny_done (by kernel_rfl) ?_ _
      go_wp2_with fail
      go_ret
      exact ⟨ret_b' HE.out, H3.out⟩
  · go_simp
    refine hK _ _ ?_
    clear hK K
    refine wpAny_ready (rs := [4, 9]) (by kernel_rfl) (by simp) ?_
    refine AllReady.cons rfl (fun K hK => ?_) (AllReady.cons rfl (fun K hK => ?_) AllReady.nil)
    · refine step_load_ow (by first | rfl | simp [Region.wanted, yielded]) (.tmp 3) rfl rfl H2.out.2.1 ?_
      refine hK _ _ ?_
      clear hK K
      refine wpAny_ready (rs := [7, 9]) (by kernel_rfl) (by simp) ?_
      refine AllReady.cons rfl (fun K hK => ?_) (AllReady.cons rfl (fun K hK => ?_) AllReady.nil)
      · go_simp
        go_wp2_with (go_at_call 64; refine (HGr.out _).mono ?_; rintro e w3 ⟨rfl, hb3⟩)
        have H3 : Hid (Below w.heap.size w w3) := H2.out.2.2.trans (hb3.mono H2.out.2.2.size)
        have f7 : w3.cell? ⟨w.heap.size, 7, none⟩ = some (.int .i64 x.num) := (hb3.cell (p := ⟨w.heap.size, 7, none⟩) hl2).trans d7
        clear hb3
        refine wpAny_ready (rs := [9]) (by kernel_rfl) (by simp) ?_
        refine AllReady.cons rfl (fun K hK => ?_) AllReady.nil
        go_simp
        refine hK _ _ ?_
        clear hK K
        refine wpAny_take (i := 10) (v := .bool (decide (gr ≤ x.num))) rfl (by kernel_rfl) (by kernel_rfl) (by kernel_rfl) (fun _ _ _ h => h) (Or.inl ⟨by kernel_rfl, by intro w; go_simp⟩) ?_
        refine wpAny_take (i := 11) (v := .bool (decide (gr ≤ x.num))) rfl (by kernel_rfl) (by kernel_rfl) (by kernel_rfl) (fun _ _ _ h => h) (Or.inl ⟨by kernel_rfl, by intro w; go_simp⟩) ?_
        refine wpAny_take (i := 12) (v := .bool (decide (gr ≤ x.num))) rfl (by kernel_rfl) (by kernel_rfl) (by kernel_rfl) (fun _ _ _ h => h) (Or.inl ⟨by kernel_rfl, by intro w; go_simp⟩) ?_
        refine wpAny_done (by kernel_rfl) ?_ _
        go_wp2_with fail
        go_ret
        exact ⟨ret_b' HE.out, H3.out⟩
      · go_simp
        refine hK _ _ ?_
        clear hK K
        refine wpAny_ready (rs := [7]) (by kernel_rfl) (by simp) ?_
        refine AllReady.cons rfl (fun K hK => ?_) AllReady.nil
        go_simp
        go_wp2_with (go_at_call 64; refine (HGr.out _).mono ?_; rintro e w3 ⟨rfl, hb3⟩)
        have H3 : Hid (Below w.heap.size w w3) := H2.out.2.2.trans (hb3.mono H2.out.2.2.size)
        have f7 : w3.cell? ⟨w.heap.size, 7, none⟩ = some (.int .i64 x.num) := (hb3.cell (p := ⟨w.heap.size, 7, none⟩) hl2).trans d7
        clear hb3
        refine wpAny_take (i := 10) (v := .bool (decide (gr ≤ x.num))) rfl (by kernel_rfl) (by kernel_rfl) (by kernel_rfl) (fun _ _ _ h => h) (Or.inl ⟨by kernel_rfl, by intro w; go_simp⟩) ?_
        refine wpAny_take (i := 11) (v := .bool (decide (gr ≤ x.num))) rfl (by kernel_rfl) (by kernel_rfl) (by kernel_rfl) (fun _ _ _ h => h) (Or.inl ⟨by kernel_rfl, by intro w; go_simp⟩) ?_
        refine wpAny_take (i := 12) (v := .bool (decide (gr ≤ x.num))) rfl (by kernel_rfl) (by kernel_rfl) (by kernel_rfl) (fun _ _ _ h => h) (Or.inl ⟨by kernel_rfl, by intro w; go_simp⟩) ?_
        refine wpAny_done (by kernel_rfl) ?_ _
        go_wp2_with fail
        go_ret
        exact ⟨ret_b' HE.out, H3.out⟩
    · go_simp
      refine hK _ _ ?_
      clear hK K
      refine wpAny_ready (rs := [4]) (by kernel_rfl) (by simp) ?_
      refine AllReady.cons rfl (fun K hK => ?_) AllReady.nil
      refine step_load_ow (by first | rfl | simp [Region.wanted, yielded]) (.tmp 3) rfl rfl H2.out.2.1 ?_
      refine hK _ _ ?_
      clear hK K
      refine wpAny_ready (rs := [7]) (by kernel_rfl) (by simp) ?_
      refine AllReady.cons rfl (fun K hK => ?_) AllReady.nil
      go_simp
      go_wp2_with (go_at_call 64; refine (HGr.out _).mono ?_; rintro e w3 ⟨rfl, hb3⟩)
      have H3 : Hid (Below w.heap.size w w3) := H2.out.2.2.trans (hb3.mono H2.out.2.2.size)
      have f7 : w3.cell? ⟨w.heap.size, 7, none⟩ = some (.int .i64 x.num) := (hb3.cell (p := ⟨w.heap.size, 7, none⟩) hl2).trans d7
      clear hb3
      refine wpAny_take (i := 10) (v := .bool (decide (gr ≤ x.num))) rfl (by kernel_rfl) (by kernel_rfl) (by kernel_rfl) (fun _ _ _ h => h) (Or.inl ⟨by kernel_rfl, by intro w; go_simp⟩) ?_
      refine wpAny_take (i := 11) (v := .bool (decide (gr ≤ x.num))) rfl (by kernel_rfl) (by kernel_rfl) (by kernel_rfl) (fun _ _ _ h => h) (Or.inl ⟨by kernel_rfl, by intro w; go_simp⟩) ?_
      refine wpAny_take (i := 12) (v := .bool (decide (gr ≤ x.num))) rfl (by kernel_rfl) (by kernel_rfl) (by kernel_rfl) (fun _ _ _ h => h) (Or.inl ⟨by kernel_rfl, by intro w; go_simp⟩) ?_
      refine wpAny_done (by kernel_rfl) ?_ _
      go_wp2_with fail
      go_ret
      exact ⟨ret_b' HE.out, H3.out⟩
  · go_simp
    refine hK _ _ ?_
    clear hK K
    refine wpAny_ready (rs := [4, 6]) (by kernel_rfl) (by simp) ?_
    refine AllReady.cons rfl (fun K hK => ?_) (AllReady.cons rfl (fun K hK => ?_) AllReady.nil)
    · refine step_load_ow (by first | rfl | simp [Region.wanted, yielded]) (.tmp 3) rfl rfl H2.out.2.1 ?_
      refine hK _ _ ?_
      clear hK K
      refine wpAny_ready (rs := [6]) (by kernel_rfl) (by simp) ?_
      refine AllReady.cons rfl (fun K hK => ?_) AllReady.nil
      go_simp
      refine hK _ _ ?_
      clear hK K
      refine wpAny_ready (rs := [7]) (by kernel_rfl) (by simp) ?_
      refine AllReady.cons rfl (fun K hK => ?_) AllReady.nil
      go_simp
      go_wp2_with (go_at_call 64; refine (HGr.out _).mono ?_; rintro e w3 ⟨rfl, hb3⟩)
      have H3 : Hid (Below w.heap.size w w3) := H2.out.2.2.trans (hb3.mono H2.out.2.2.size)
      have f7 : w3.cell? ⟨w.heap.size, 7, none⟩ = some (.int .i64 x.num) := (hb3.cell (p := ⟨w.heap.size, 7, none⟩) hl2).trans d7
      clear hb3
      refine wpAny_take (i := 10) (v := .bool (decide (gr ≤ x.num))) rfl (by kernel_rfl) (by kernel_rfl) (by kernel_rfl) (fun _ _ _ h => h) (Or.inl ⟨by kernel_rfl, by intro w; go_simp⟩) ?_
      refine wpAny_take (i := 11) (v := .bool (decide (gr ≤ x.num))) rfl (by kernel_rfl) (by kernel_rfl) (by kernel_rfl) (fun _ _ _ h => h) (Or.inl ⟨by kernel_rfl, by intro w; go_simp⟩) ?_
      refine wpAny_take (i := 12) (v := .bool (decide (gr ≤ x.num))) rfl (by kernel_rfl) (by kernel_rfl) (by kernel_rfl) (fun _ _ _ h => h) (Or.inl ⟨by kernel_rfl, by intro w; go_simp⟩) ?_
      refine wpAny_done (by kernel_rfl) ?_ _
      go_wp2_with fail
      go_ret
      exact ⟨ret_b' HE.out, H3.out⟩
    · go_simp
      refine hK _ _ ?_
      clear hK K
      refine wpAny_ready (rs := [4]) (by kernel_rfl) (by simp) ?_
      refine AllReady.cons rfl (fun K hK => ?_) AllReady.nil
      refine step_load_ow (by first | rfl | simp [Region.wanted, yielded]) (.tmp 3) rfl rfl H2.out.2.1 ?_
      refine hK _ _ ?_
      clear hK K
      refine wpAny_ready (rs := [7]) (by kernel_rfl) (by simp) ?_
      refine AllReady.cons rfl (fun K hK => ?_) AllReady.nil
      go_simp
      go_wp2_with (go_at_call 64; refine (HGr.out _).mono ?_; rintro e w3 ⟨rfl, hb3⟩)
      have H3 : Hid (Below w.heap.size w w3) := H2.out.2.2.trans (hb3.mono H2.out.2.2.size)
      have f7 : w3.cell? ⟨w.heap.size, 7, none⟩ = some (.int .i64 x.num) := (hb3.cell (p := ⟨w.heap.size, 7, none⟩) hl2).trans d7
      clear hb3
      refine wpAny_take (i := 10) (v := .bool (decide (gr ≤ x.num))) rfl (by kernel_rfl) (by kernel_rfl) (by kernel_rfl) (fun _ _ _ h => h) (Or.inl ⟨by kernel_rfl, by intro w; go_simp⟩) ?_
      refine wpAny_take (i := 11) (v := .bool (decide (gr ≤ x.num))) rfl (by kernel_rfl) (by kernel_rfl) (by kernel_rfl) (fun _ _ _ h => h) (Or.inl ⟨by kernel_rfl, by intro w; go_simp⟩) ?_
      refine wpAny_take (i := 12) (v := .bool (decide (gr ≤ x.num))) rfl (by kernel_rfl) (by kernel_rfl) (by kernel_rfl) (fun _ _ _ h => h) (Or.inl ⟨by kernel_rfl, by intro w; go_simp⟩) ?_
      refine wpAny_done (by kernel_rfl) ?_ _
      go_wp2_with fail
      go_ret
      exact ⟨ret_b' HE.out, H3.out⟩

end Go.Proofs.YtffajooegiempaaDoor

namespace Go.Proofs.YtffajooegiempaaDoor
open Go.RowKit
variable {w : World} {e0 : Bool} {M : Nat → Int} {b : Nat}

set_option maxRecDepth 100000 in
set_option maxHeartbeats 3200000 in
theorem e_safe (x : Ds) (hx : DsG x) (hS : Sm M) :
    Calls Tryd.prog 40 #[dsv x, .agg (oc e0 M)] w fun e w' => e = .returned (.bool (sfP e0 M x)) ∧ Below w.heap.size w w' := by
  obtain ⟨w0, hw0⟩ : ∃ w0, w0 = (w.alloc (.cells (dsCells x) tDs)).alloc (.cells (oc e0 M) tO) := ⟨_, rfl⟩
  have H0 : Hid (At w0 w.heap.size (dsCells x) tDs ∧ OAt w0 (w.heap.size + 1) e0 M ∧ Below w.heap.size w w0 ∧ w0.heap.size = w.heap.size + 2) := by
    refine ⟨by rw [hw0]; exact At.allocH (At.new _ _ _) _, ?_, by rw [hw0]; exact ((Below.refl _ _).alloc (Nat.le_refl _) _).alloc (by simp) _, by rw [hw0]; simp⟩
    have := At.new (w.alloc (.cells (dsCells x) tDs)) (oc e0 M) tO
    rw [show (w.alloc (.cells (dsCells x) tDs)).heap.size = w.heap.size + 1 by simp] at this
    rw [hw0]; exact this
  have z0 : w0.cell? ⟨w.heap.size + 1, 0, none⟩ = some (.bool e0) := by rw [At.cell H0.out.2.1]; exact oc_0 _ _
  have HB0 := H0.out.2.2.1
  have HA0 := H0.out.2.1
  cases e0 with
  | true =>
    have HE : Hid (sfP true M x = true) := rfl
    clear H0
    rw [hw0] at z0 HB0 HA0
    unfold dsCells at z0 HB0 HA0
    unfold dsv
    clear hw0
    go_enter Tryd.func40, Tryd.ntmps40
    go_wp2_with fail
    go_ret
    exact ⟨ret_b' HE.out, HB0⟩
  | false =>
  by_cases k0 : x.kind = 0
  · have HE0 : Hid (sfP false M x = (x.any || ftB M x.sg x.num)) := by show sfP false M x = _; unfold sfP; rw [if_neg (by decide), if_pos k0]
    cases ha : x.any with
    | true =>
      have HE : Hid (sfP false M x = true) := by show _ = true; rw [HE0.out, ha]; rfl
      clear H0 HE0
      rw [hw0] at z0 HB0 HA0
      unfold dsCells at z0 HB0 HA0
      unfold dsv
      clear hw0
      rw [k0, ha] at z0 HB0 ⊢
      go_enter Tryd.func40, Tryd.ntmps40
      go_wp2_with fail
      go_ret
      exact ⟨ret_b' HE.out, HB0⟩
    | false =>
      have HE : Hid (sfP false M x = ftB M x.sg x.num) := by show _ = ftB M x.sg x.num; rw [HE0.out, ha]; rfl
      obtain ⟨BW, hBW⟩ : ∃ BW : World → Prop, BW = fun w' => Below w0.heap.size w0 w' := ⟨_, rfl⟩
      have hf : Calls Tryd.prog 63 #[dsv x, .agg (oc false M)] w0 fun e w' => e = .returned (.bool (ftB M x.sg x.num)) ∧ BW w' := by rw [hBW]; exact e_fits x hx hS
      rw [hw0] at hf
      clear HE0 hS
      rw [hw0] at z0 HB0 HA0
      unfold dsCells at z0 HB0 HA0
      unfold dsv
      unfold dsv dsCells at hf
      generalize ftB M x.sg x.num = fb at *
      rw [k0, ha] at z0 HB0 HA0 hf ⊢
      go_enter Tryd.func40, Tryd.ntmps40
      go_wp2_with (refine wpList_load_ow (by first | rfl | simp [Region.wanted, yielded]) (.tmp 3) rfl rfl HA0 ?_)
      refine hf.mono ?_
      rintro e w1 ⟨rfl, hb1⟩
      rw [hBW] at hb1
      have H1 : Hid (Below w.heap.size w w1) := H0.out.2.2.1.trans (hb1.mono H0.out.2.2.1.size)
      clear hb1 hBW hf HA0 HB0 z0 hw0
      go_wp2_with fail
      go_ret
      exact ⟨ret_b' HE.out, H1.out⟩
  by_cases k1 : x.kind = 1
  · cases ha : x.any with
    | true => exact e_safe_t x k1 ha
    | false => exact e_safe_f x hx k1 ha hS
  · have HE : Hid (sfP false M x = true) := by show sfP false M x = _; unfold sfP; rw [if_neg (by decide), if_neg k0, if_neg k1]
    have b0 : (x.kind == 0) = false := by simpa using k0
    have b1 : (x.kind == 1) = false := by simpa using k1
    clear H0
    rw [hw0] at z0 HB0 HA0
    unfold dsCells at z0 HB0 HA0
    unfold dsv
    clear hw0 k0 k1
    go_enter Tryd.func40, Tryd.ntmps40
    go_wp2_with fail
    go_ret
    exact ⟨ret_b' HE.out, HB0⟩

end Go.Proofs.YtffajooegiempaaDoor

namespace Go.Proofs.YtffajooegiempaaDoor
open Go.RowKit
variable {w w' : World} {g cap : Nat} {F : List Ds}

theorem flat_get : ∀ (F : List Ds) (j o : Nat) (x : Ds), F[j]? = some x → o < 10 → (flat F)[j * 10 + o]? = (dsCells x).toList[o]? := by
  intro F
  induction F with
  | nil => intro j o x h; simp at h
  | cons y F ih =>
    intro j o x h ho
    have hl : (dsCells y).toList.length = 10 := rfl
    show ((dsCells y).toList ++ flat F)[j * 10 + o]? = _
    cases j with
    | zero =>
      simp at h
      subst h
      rw [List.getElem?_append_left (by rw [hl]; omega)]
      congr 1; omega
    | succ j =>
      rw [List.getElem?_append_right (by rw [hl]; omega), hl]
      rw [show (j + 1) * 10 + o - 10 = j * 10 + o by omega]
      exact ih j o x (by simpa using h) ho

theorem prow_of {B n : Nat} (h : w.ownsRow B tDs 10 (.slice (some ⟨g, 0, none⟩) n cap) n (flat F)) (hn : F.length = n) (hlt : g < w.heap.size) : PRow w g F := by
  refine ⟨hlt, fun j x hx => ?_⟩
  have hj : j < n := by
    rw [← hn]
    rcases Nat.lt_or_ge j F.length with h' | h'
    · exact h'
    · simp [List.getElem?_eq_none h'] at hx
  have hc : ∀ o, o < 10 → w.cell? ⟨g, j * 10 + o, none⟩ = (dsCells x).toList[o]? := fun o ho => by
    rw [h.cellAt (j * 10 + o) (by omega), flat_get F j o x hx ho]
  exact ⟨hc 0 (by omega), hc 1 (by omega), hc 2 (by omega), hc 3 (by omega), hc 4 (by omega), hc 5 (by omega), hc 6 (by omega), hc 7 (by omega), hc 8 (by omega), hc 9 (by omega)⟩

end Go.Proofs.YtffajooegiempaaDoor

/- The two readers come to the same: the program's steps held against the machine. -/
namespace Go.Proofs.YtffajooegiempaaDoor
variable {s : ByteArray} {d : Nat × Bool} {m m' : Rd}

/-- The program's reader goes on, and the machine has read as much. -/
structure Sync (s : ByteArray) (d : Nat × Bool) (m : Rd) : Prop where
  ns : d.2 = false
  le : d.1 ≤ s.size
  fd : feed init ((bytesOf s).take d.1) = some m

/-- The program's reader is stuck, and the machine can go no further, or the text ends where no program ends. -/
structure Dead (s : ByteArray) (d : Nat × Bool) : Prop where
  st : d.2 = true
  ex : ∃ m, feed init ((bytesOf s).take d.1) = some m ∧ d.1 ≤ s.size ∧ (d.1 < s.size → byteStep m ((bytesOf s).getD d.1 0) = none) ∧ (d.1 = s.size → isDone m = false)

def Res (s : ByteArray) (d : Nat × Bool) (Q : Rd → Prop) : Prop := Dead s d ∨ ∃ m', Sync s d m' ∧ Q m'

theorem Res.mono {Q R : Rd → Prop} (h : Res s d Q) (k : ∀ m', Sync s d m' → Q m' → R m') : Res s d R := by
  rcases h with h | ⟨m', h, q⟩
  · exact .inl h
  · exact .inr ⟨m', h, k m' h q⟩

theorem Sync.aok (h : Sync s d m) : Ok m := Ok.init.feed h.fd
theorem Sync.apk (h : Sync s d m) : pk s d = (bytesOf s).getD d.1 0 := by unfold pk; rw [h.ns]; rfl
theorem Dead.dpk (h : Dead s d) : pk s d = 0 := by unfold pk; rw [h.st]; rfl
theorem Dead.dstk (h : Dead s d) : stk d = d := by unfold stk; rw [← h.st]

theorem Sync.aadv (h : Sync s d m) (hne : pk s d ≠ 0) (hb : byteStep m (pk s d) = some m') : Sync s (adv d) m' := by
  have hlt := (pk_lt rfl hne).1
  refine ⟨h.ns, by show d.1 + 1 ≤ _; omega, ?_⟩
  show feed init ((bytesOf s).take (d.1 + 1)) = some m'
  rw [h.apk, List.getD_eq_getElem?_getD, bytesOf_get s d.1 hlt] at hb
  rw [bytesOf_take s d.1 hlt, feed_snoc, h.fd]
  exact hb

theorem Sync.adead (h : Sync s d m) (hb : byteStep m (pk s d) = none) (hnd : d.1 = s.size → isDone m = false) : Dead s (stk d) :=
  ⟨rfl, m, h.fd, h.le, fun _ => by rw [h.apk] at hb; exact hb, hnd⟩

theorem Dead.dnd (h : Dead s d) {c : Int} (hc : c ≠ 0) : nd s d c = d := by
  unfold nd; rw [if_neg (by rw [h.dpk]; exact fun e => hc e.symm)]; exact h.dstk
theorem Dead.dSign (h : Dead s d) : rSign s d = (1, d) := by unfold rSign; rw [if_neg (by rw [h.dpk]; decide)]
theorem varOf_zero : varOf 0 = -1 := by decide
theorem Dead.dVar (h : Dead s d) (x : Int) : rVar s d x = (0, d) := by unfold rVar; rw [if_pos (.inl (by rw [h.dpk]; exact varOf_zero)), h.dstk]
theorem Dead.dNum (h : Dead s d) (x : Int) : rNum s d x = (0, d) := by unfold rNum; rw [if_neg (by rw [h.dpk]; simp), if_pos (by rw [h.dpk]; decide), h.dstk]
theorem Dead.dSummand (h : Dead s d) : rSummand s d = (0, d) := by unfold rSummand; rw [if_neg (by rw [h.dpk]; decide), if_neg (by rw [h.dpk]; decide)]
theorem Dead.dValue (h : Dead s d) (x : Ds) : (rValue s d x).2 = d := by
  unfold rValue; rw [if_neg (by rw [h.dpk]; decide), h.dSign, if_pos (by show varOf (pk s d) = -1; rw [h.dpk]; exact varOf_zero)]
  show (rNum s d 1).2 = d
  rw [h.dNum]
theorem Dead.dSecond (h : Dead s d) (x : Ds) (f : Int) : (rSecond s d x f).2 = d := by unfold rSecond; rw [if_neg (by rw [h.dpk]; decide)]
theorem Dead.dCond (h : Dead s d) (x : Ds) : (rCond s d x).2 = d := by
  unfold rCond; rw [if_neg (by rw [h.dpk]; decide), h.dSign]
  simp only
  rw [h.dVar]
  simp only
  rw [h.dSecond, h.dnd (by decide), h.dnd (by decide), h.dSign]
  simp only
  rw [h.dNum]

/-- A byte that must stand here. -/
theorem Sync.aneed (h : Sync s d m) {c : Int} (hc : c ≠ 0) (hy : pk s d = c → byteStep m c = some m') (hn : pk s d ≠ c → byteStep m (pk s d) = none) (hnd : isDone m = false) : Res s (nd s d c) (fun x => x = m') := by
  by_cases e : pk s d = c
  · have : nd s d c = adv d := if_pos e
    rw [this]
    exact .inr ⟨m', h.aadv (by rw [e]; exact hc) (by rw [e]; exact hy e), rfl⟩
  · have : nd s d c = stk d := if_neg e
    rw [this]
    exact .inl (h.adead (hn e) (fun _ => hnd))

theorem notDone (h : m.state ≠ 115) : isDone m = false := by unfold isDone; simp [h]

theorem byte_110 (h : m.state = 110) (c : Int) : byteStep m c = if c = 59 then some (valueEnd m) else digitStep m c false 110 := by
  unfold byteStep valueStep; rw [h, if_neg (by decide), if_neg (by decide), if_pos (by decide), if_neg (by decide), if_neg (by decide), if_neg (by decide), if_neg (by decide)]

/-- Behind a number that can have no digit more: the end of the statement. -/
theorem Sync.valEnd (h : Sync s d m) (hs : m.state = 110) (hno : ¬ (48 ≤ pk s d ∧ pk s d ≤ 57) ∨ m.dig = 2 ∨ (m.dig = 1 ∧ (cur m).num = 0)) : Res s (nd s d 59) (fun x => x = valueEnd m) := by
  refine h.aneed (by decide) (fun _ => by rw [byte_110 hs, if_pos rfl]) (fun e => ?_) (notDone (by rw [hs]; decide))
  rw [byte_110 hs, if_neg e]
  simp only [digitStep]
  rw [if_pos hs, if_pos hs, if_pos]
  omega

theorem digit_new {c x : Int} {pos : Bool} (hs : m.state ≠ x) (hc : 48 ≤ c ∧ c ≤ 57) (hp : ¬ (pos = true ∧ c = 48)) : digitStep m c pos x = some { setCur m { cur m with num := c - 48 } with dig := 1, state := x } := by
  simp only [digitStep]
  rw [if_neg hs, if_neg hs, if_neg (by
    rintro (a | a | a | a | a)
    · omega
    · omega
    · omega
    · omega
    · exact hp a)]
  have : (10 : Int) * 0 + (c - 48) = c - 48 := by omega
  rw [this]; rfl
theorem digit_more {c x u : Int} (hs : m.state = x) (hd : m.dig = 1) (hu : (cur m).num = u) (hu0 : u ≠ 0) (hc : 48 ≤ c ∧ c ≤ 57) : digitStep m c false x = some { setCur m { cur m with num := 10 * u + (c - 48) } with dig := 2, state := x } := by
  simp only [digitStep]
  rw [if_pos hs, if_pos hs, hd, hu, if_neg (by
    rintro (a | a | a | a | a)
    · omega
    · omega
    · omega
    · omega
    · simp at a)]
  rfl
theorem digit_bad {c x : Int} {pos : Bool} (hc : c < 48 ∨ 57 < c ∨ (pos = true ∧ c = 48)) : digitStep m c pos x = none := by
  simp only [digitStep]
  rw [if_pos]
  rcases hc with a | a | a
  · exact .inl a
  · exact .inr (.inl a)
  · exact .inr (.inr (.inr (.inr a)))

theorem setCur_two (m : Rd) (a b : St) : (setCur (setCur m a) b).st = (setCur m b).st := by simp [setCur]

/-- A number of a value, and the end of the statement. -/
theorem Sync.numVal (h : Sync s d m) {m0 : Rd} {pos : Bool} {sg : Int} (hb : byteStep m (pk s d) = digitStep m0 (pk s d) pos 110) (hs : m0.state ≠ 110) (hn : 0 < m0.st.length) (hsg : (sg = 1 ∧ pos = false) ∨ (sg = -1 ∧ pos = true)) (hnd : isDone m = false) :
    Res s (nd s (rNum s d sg).2 59) (fun x => x.state = 115 ∧ x.op = m0.op ∧ x.st = (setCur m0 { cur m0 with num := m0.sign * (sg * (rNum s d sg).1) }).st) := by
  have hsq : ∀ n : Int, sg * (sg * n) = n := by
    intro n
    rcases hsg with ⟨rfl, _⟩ | ⟨rfl, _⟩ <;> omega
  have hcs := cur_setCur' hn
  by_cases hz : pk s d = 48 ∧ 0 < sg
  · have e : rNum s d sg = (0, adv d) := if_pos hz
    rw [e]
    have hp : pos = false := by
      rcases hsg with h | h
      · exact h.2
      · omega
    rw [digit_new hs (by omega) (by rw [hp]; simp)] at hb
    have h1 := h.aadv (by omega) hb
    refine (h1.valEnd rfl (.inr (.inr ⟨rfl, ?_⟩))).mono ?_
    · show (cur (setCur m0 _)).num = 0
      rw [hcs]; show pk s d - 48 = 0; omega
    · rintro m' - rfl
      refine ⟨rfl, rfl, ?_⟩
      show (setCur (setCur m0 _) _).st = _
      rw [setCur_two]
      show (setCur m0 { cur (setCur m0 _) with num := m0.sign * (cur (setCur m0 _)).num }).st = _
      rw [hcs]
      have : pk s d - 48 = 0 := by omega
      simp only [this]
      simp
  by_cases hbad : pk s d < 49 ∨ 57 < pk s d
  · have e : rNum s d sg = (0, stk d) := by unfold rNum; rw [if_neg hz, if_pos hbad]
    rw [e]
    have hd : Dead s (stk d) := by
      refine h.adead ?_ (fun _ => hnd)
      rw [hb]
      refine digit_bad ?_
      by_cases h48 : pk s d = 48
      · refine .inr (.inr ⟨?_, h48⟩)
        rcases hsg with h' | h'
        · exact absurd ⟨h48, by omega⟩ hz
        · exact h'.2
      · omega
    show Res s (nd s (stk d) 59) _
    rw [hd.dnd (by decide)]
    exact .inl hd
  rw [digit_new hs (by omega) (by omega)] at hb
  have h1 := h.aadv (by omega) hb
  have hn1 : (cur { setCur m0 { cur m0 with num := pk s d - 48 } with dig := 1, state := 110 }).num = pk s d - 48 := by
    show (cur (setCur m0 _)).num = _
    rw [hcs]
  by_cases h2 : 48 ≤ pk s (adv d) ∧ pk s (adv d) ≤ 57
  · have e : rNum s d sg = (sg * (10 * (pk s d - 48) + (pk s (adv d) - 48)), adv (adv d)) := by unfold rNum; rw [if_neg hz, if_neg hbad, if_pos h2]
    rw [e]
    have hb2 := byte_110 (m := { setCur m0 { cur m0 with num := pk s d - 48 } with dig := 1, state := 110 }) rfl (pk s (adv d))
    rw [if_neg (by omega), digit_more rfl rfl hn1 (by omega) h2] at hb2
    have h3 := h1.aadv (by omega) hb2
    refine (h3.valEnd rfl (.inr (.inl rfl))).mono ?_
    rintro m' - rfl
    refine ⟨rfl, rfl, ?_⟩
    have hl1 : 0 < (setCur m0 { cur m0 with num := pk s d - 48 }).st.length := by rw [setCur_len]; exact hn
    show (setCur (setCur (setCur m0 _) _) { cur (setCur (setCur m0 _) _) with num := m0.sign * (cur (setCur (setCur m0 _) _)).num }).st = _
    rw [setCur_two, setCur_two, cur_setCur' hl1]
    show (setCur m0 { cur (setCur m0 { cur m0 with num := pk s d - 48 }) with num := m0.sign * (10 * (pk s d - 48) + (pk s (adv d) - 48)) }).st = _
    rw [hcs, hsq]
  · have e : rNum s d sg = (sg * (pk s d - 48), adv d) := by unfold rNum; rw [if_neg hz, if_neg hbad, if_neg h2]
    rw [e]
    refine (h1.valEnd rfl (.inl h2)).mono ?_
    rintro m' - rfl
    refine ⟨rfl, rfl, ?_⟩
    show (setCur (setCur m0 _) { cur (setCur m0 _) with num := m0.sign * (cur (setCur m0 _)).num }).st = _
    rw [setCur_two, hcs, hsq]

end Go.Proofs.YtffajooegiempaaDoor

namespace Go.Proofs.YtffajooegiempaaDoor
variable {s : ByteArray} {d : Nat × Bool} {m m' : Rd}

theorem byte_59 (h : m.state = 59) (c : Int) : byteStep m c = if c = 59 then some { m with state := 115 } else none := by
  rw [byte_plain (.inl h)]; unfold plainStep; rw [if_pos h]
theorem byte_118 (h : m.state = 118) (c : Int) : byteStep m c = if c = 42 then some { setCur m { cur m with star := true } with state := 59 } else if c = 45 then some { m with sign := -1, state := 86 } else if 97 ≤ c ∧ c ≤ 100 then some (signTo m (c - 97).toNat 1 120) else digitStep { m with sign := 1 } c false 110 := by
  rw [byte_value (.inl h)]; unfold valueStep; rw [if_pos h]
theorem byte_86 (h : m.state = 86) (c : Int) : byteStep m c = if 97 ≤ c ∧ c ≤ 100 then some (signTo m (c - 97).toNat m.sign 120) else digitStep m c true 110 := by
  rw [byte_value (.inr (.inl h))]; unfold valueStep; rw [h, if_neg (by decide), if_pos rfl]
theorem byte_120 (h : m.state = 120) (c : Int) : byteStep m c = if c = 43 then some { m with sign := 1, state := 121 } else if c = 45 then some { m with sign := -1, state := 121 } else if c = 59 then some (valueEnd m) else none := by
  rw [byte_value (.inr (.inr (.inl h)))]; unfold valueStep; rw [h, if_neg (by decide), if_neg (by decide), if_pos rfl]
theorem byte_121 (h : m.state = 121) (c : Int) : byteStep m c = digitStep m c false 110 := by
  rw [byte_value (.inr (.inr (.inr (.inl h))))]; unfold valueStep; rw [h, if_neg (by decide), if_neg (by decide), if_neg (by decide), if_pos rfl]
theorem byte_61 (h : m.state = 61) (c : Int) : byteStep m c = if c = 61 then some { m with state := 118 } else none := by
  unfold byteStep; rw [h, if_neg (by decide), if_pos rfl]

theorem varOf_pos {c : Int} (h : 97 ≤ c ∧ c ≤ 100) : varOf c = c - 97 := if_pos h
theorem varOf_neg {c : Int} (h : ¬ (97 ≤ c ∧ c ≤ 100)) : varOf c = -1 := if_neg h

theorem setCur_st_eq {a b : Rd} (h : a.st = b.st) (u : St) : (setCur a u).st = (setCur b u).st := by unfold setCur; simp only; rw [h]
theorem cur_eq {a b : Rd} (h : a.st = b.st) : cur a = cur b := by unfold cur; rw [h]

/-- Behind the variable of a value. -/
theorem Sync.summand (h : Sync s d m) (hs : m.state = 120) (hz : (cur m).num = 0) :
    Res s (nd s (rSummand s d).2 59) (fun x => x.state = 115 ∧ x.op = m.op ∧ x.st = (setCur m { cur m with num := (rSummand s d).1 }).st) := by
  have hn : 0 < m.st.length := h.aok.some_ (by rw [hs]; decide)
  have hb := byte_120 hs (pk s d)
  have hnd := notDone (m := m) (by rw [hs]; decide)
  by_cases h43 : pk s d = 43
  · have e : rSummand s d = rNum s (adv d) 1 := if_pos h43
    rw [e]
    rw [if_pos h43] at hb
    have h1 := h.aadv (by omega) hb
    refine (h1.numVal (m0 := { m with sign := 1, state := 121 }) (pos := false) (sg := 1) (byte_121 rfl _) (by decide : (121 : Int) ≠ 110) hn (.inl ⟨rfl, rfl⟩) (notDone (by decide : (121 : Int) ≠ 115))).mono ?_
    rintro x - ⟨a, b, c⟩
    refine ⟨a, b, c.trans ?_⟩
    show (setCur m { cur m with num := 1 * (1 * _) }).st = _
    rw [Int.one_mul, Int.one_mul]
  by_cases h45 : pk s d = 45
  · have e : rSummand s d = (-(rNum s (adv d) 1).1, (rNum s (adv d) 1).2) := by unfold rSummand; rw [if_neg h43, if_pos h45]
    rw [e]
    rw [if_neg h43, if_pos h45] at hb
    have h1 := h.aadv (by omega) hb
    refine (h1.numVal (m0 := { m with sign := -1, state := 121 }) (pos := false) (sg := 1) (byte_121 rfl _) (by decide : (121 : Int) ≠ 110) hn (.inl ⟨rfl, rfl⟩) (notDone (by decide : (121 : Int) ≠ 115))).mono ?_
    rintro x - ⟨a, b, c⟩
    refine ⟨a, b, c.trans ?_⟩
    show (setCur m { cur m with num := -1 * (1 * _) }).st = _
    rw [Int.one_mul, Int.neg_mul, Int.one_mul]
  · have e : rSummand s d = (0, d) := by unfold rSummand; rw [if_neg h43, if_neg h45]
    rw [e]
    rw [if_neg h43, if_neg h45] at hb
    refine (h.aneed (m' := valueEnd m) (by decide) (fun e => by rw [e, if_pos rfl] at hb; exact hb) (fun e => by rw [if_neg e] at hb; exact hb) hnd).mono ?_
    rintro x - rfl
    refine ⟨rfl, rfl, ?_⟩
    show (setCur m { cur m with num := m.sign * (cur m).num }).st = _
    rw [hz, Int.mul_zero]

/-- A value, and the end of the statement. -/
theorem Sync.value (h : Sync s d m) (hs : m.state = 118) (hz : (cur m).num = 0) (x : Ds) (hx : x.any = false ∧ x.sg = (cur m).sg ∧ x.num = 0 ∧ (cur m).star = false) :
    Res s (nd s (rValue s d x).2 59) (fun y => y.state = 115 ∧ y.op = m.op ∧ y.st = (setCur m { cur m with star := (rValue s d x).1.any, sg := (rValue s d x).1.sg, num := (rValue s d x).1.num }).st) := by
  have hn : 0 < m.st.length := h.aok.some_ (by rw [hs]; decide)
  have hb := byte_118 hs (pk s d)
  have hnd := notDone (m := m) (by rw [hs]; decide)
  obtain ⟨hx1, hx2, hx3, hx4⟩ := hx
  have hcs := cur_setCur' hn
  by_cases h42 : pk s d = 42
  · have e : rValue s d x = ({ x with any := true }, adv d) := if_pos h42
    rw [e]
    rw [if_pos h42] at hb
    have h1 := h.aadv (by omega) hb
    refine (h1.aneed (c := 59) (m' := { setCur m { cur m with star := true } with state := 115 }) (by decide) (fun e => by rw [byte_59 rfl, if_pos rfl]) (fun e => by rw [byte_59 rfl, if_neg e]) (notDone (by decide : (59 : Int) ≠ 115))).mono ?_
    rintro y - rfl
    refine ⟨rfl, rfl, ?_⟩
    show (setCur m { cur m with star := true }).st = (setCur m { cur m with star := true, sg := x.sg, num := x.num }).st
    rw [hx2, hx3, ← hz]
  rw [if_neg h42] at hb
  by_cases h45 : pk s d = 45
  · rw [if_pos h45] at hb
    have h1 := h.aadv (by omega) hb
    have eg : rSign s d = (-1, adv d) := if_pos h45
    have hb1 := byte_86 (m := { m with sign := -1, state := 86 }) rfl (pk s (adv d))
    by_cases hv : 97 ≤ pk s (adv d) ∧ pk s (adv d) ≤ 100
    · have ev : rVar s (adv d) (-1) = (pk s (adv d) - 97, adv (adv d)) := by unfold rVar; rw [varOf_pos hv, if_neg (by omega)]
      have e : rValue s d x = ({ x with any := false, sg := x.sg.set (pk s (adv d) - 97).toNat (-1), num := (rSummand s (adv (adv d))).1 }, (rSummand s (adv (adv d))).2) := by
        unfold rValue; rw [if_neg h42, eg, if_neg (by show varOf (pk s (adv d)) ≠ -1; rw [varOf_pos hv]; omega)]; simp only; rw [ev]
      rw [e]
      rw [if_pos hv] at hb1
      have h2 := h1.aadv (by omega) hb1
      refine (h2.summand rfl (by show (cur (setCur m _)).num = 0; rw [hcs]; exact hz)).mono ?_
      rintro y - ⟨a, b, c⟩
      refine ⟨a, b, c.trans ?_⟩
      show (setCur (setCur m _) { cur (setCur m _) with num := _ }).st = _
      rw [setCur_two, hcs]
      show (setCur m { cur m with sg := (cur m).sg.set _ (-1), num := _ }).st = (setCur m { cur m with star := false, sg := x.sg.set _ (-1), num := _ }).st
      rw [hx2, ← hx4]
    · have e : rValue s d x = ({ x with any := false, num := (rNum s (adv d) (-1)).1 }, (rNum s (adv d) (-1)).2) := by
        unfold rValue; rw [if_neg h42, eg, if_pos (varOf_neg hv)]
      rw [e]
      rw [if_neg hv] at hb1
      refine (h1.numVal (m0 := { m with sign := -1, state := 86 }) (pos := true) (sg := -1) hb1 (by decide : (86 : Int) ≠ 110) hn (.inr ⟨rfl, rfl⟩) (notDone (by decide : (86 : Int) ≠ 115))).mono ?_
      rintro y - ⟨a, b, c⟩
      refine ⟨a, b, c.trans ?_⟩
      show (setCur m { cur m with num := -1 * (-1 * _) }).st = (setCur m { cur m with star := false, sg := x.sg, num := _ }).st
      rw [hx2, ← hx4, Int.neg_mul, Int.neg_mul, Int.one_mul, Int.one_mul, Int.neg_neg]
  · rw [if_neg h45] at hb
    have eg : rSign s d = (1, d) := if_neg h45
    by_cases hv : 97 ≤ pk s d ∧ pk s d ≤ 100
    · have ev : rVar s d (-1) = (pk s d - 97, adv d) := by unfold rVar; rw [varOf_pos hv, if_neg (by omega)]
      have e : rValue s d x = ({ x with any := false, sg := x.sg.set (pk s d - 97).toNat 1, num := (rSummand s (adv d)).1 }, (rSummand s (adv d)).2) := by
        unfold rValue; rw [if_neg h42, eg, if_neg (by show varOf (pk s d) ≠ -1; rw [varOf_pos hv]; omega)]; simp only; rw [ev]
      rw [e]
      rw [if_pos hv] at hb
      have h2 := h.aadv (by omega) hb
      refine (h2.summand rfl (by show (cur (setCur m _)).num = 0; rw [hcs]; exact hz)).mono ?_
      rintro y - ⟨a, b, c⟩
      refine ⟨a, b, c.trans ?_⟩
      show (setCur (setCur m _) { cur (setCur m _) with num := _ }).st = _
      rw [setCur_two, hcs]
      show (setCur m { cur m with sg := (cur m).sg.set _ 1, num := _ }).st = (setCur m { cur m with star := false, sg := x.sg.set _ 1, num := _ }).st
      rw [hx2, ← hx4]
    · have e : rValue s d x = ({ x with any := false, num := (rNum s d 1).1 }, (rNum s d 1).2) := by
        unfold rValue; rw [if_neg h42, eg, if_pos (varOf_neg hv)]
      rw [e]
      rw [if_neg hv] at hb
      refine (h.numVal (m0 := { m with sign := 1 }) (pos := false) (sg := 1) hb (by show m.state ≠ 110; rw [hs]; decide) hn (.inl ⟨rfl, rfl⟩) hnd).mono ?_
      rintro y - ⟨a, b, c⟩
      refine ⟨a, b, c.trans ?_⟩
      show (setCur m { cur m with num := 1 * (1 * _) }).st = (setCur m { cur m with star := false, sg := x.sg, num := _ }).st
      rw [hx2, ← hx4, Int.one_mul, Int.one_mul]

end Go.Proofs.YtffajooegiempaaDoor

namespace Go.Proofs.YtffajooegiempaaDoor
variable {s : ByteArray} {d : Nat × Bool} {m m' : Rd}

/-- The open blocks behind a condition and the byte that follows it. -/
def opAft (m : Rd) : List Bk := if (cur m).kind = 33 then m.op else m.op ++ [⟨m.st.length - 1, false⟩]

theorem behind_ne (m : Rd) : behindOf m ≠ 0 ∧ behindOf m ≠ 115 := by
  rcases behind_or m with e | e <;> rw [e] <;> decide

/-- The byte behind a condition. -/
theorem plain_yes {a : Rd} (hs : a.state = behindOf m) (hk : (cur m).kind = 33 ∨ a.op.length ≠ 4) : ∃ y, plainStep a (behindOf m) = some y ∧ y.state = 115 ∧ y.st = a.st ∧ y.op = (if (cur m).kind = 33 then a.op else a.op ++ [⟨a.st.length - 1, false⟩]) := by
  unfold plainStep
  by_cases e : (cur m).kind = 33
  · have eb : behindOf m = 59 := if_pos e
    rw [if_pos (by rw [hs, eb]), if_pos eb]
    exact ⟨_, rfl, rfl, rfl, by rw [if_pos e]⟩
  · have eb : behindOf m = 123 := if_neg e
    rw [if_neg (by rw [hs, eb]; decide), if_neg (by rw [eb]; exact fun h => h.elim (fun h => h rfl) (fun h => hk.elim e (fun k => k h)))]
    exact ⟨_, rfl, rfl, rfl, by rw [if_neg e]⟩
theorem plain_no {a : Rd} (hs : a.state = behindOf m) {c : Int} (hc : c ≠ behindOf m) : plainStep a c = none := by
  unfold plainStep
  rcases behind_or m with e | e
  · rw [if_pos (by rw [hs, e]), if_neg (by rw [← e]; exact hc)]
  · rw [if_neg (by rw [hs, e]; decide), if_pos (.inl (by rw [← e]; exact hc))]

def negNum (m : Rd) : Int := if m.neg then -(cur m).num else (cur m).num
theorem byte_109 (h : m.state = 109) (c : Int) : byteStep m c = if c = 59 ∨ c = 123 then plainStep { setCur m { cur m with num := negNum m } with state := behindOf m } c else digitStep m c false 109 := by
  rw [byte_cond (by rw [h]; decide)]; unfold condStep; rw [h, if_neg (by decide), if_neg (by decide), if_neg (by decide), if_neg (by decide), if_neg (by decide), if_neg (by decide), if_neg (by decide), if_neg (by decide), if_pos rfl]; rfl

theorem Sync.condEnd (h : Sync s d m) (hs : m.state = 109) (hk : (cur m).kind = 33 ∨ m.op.length ≠ 4) (hno : ¬ (48 ≤ pk s d ∧ pk s d ≤ 57) ∨ m.dig = 2 ∨ (m.dig = 1 ∧ (cur m).num = 0)) :
    Res s (nd s d (behindOf m)) (fun x => x.state = 115 ∧ x.st = (setCur m { cur m with num := negNum m }).st ∧ x.op = opAft m) := by
  have hn : 0 < m.st.length := h.aok.some_ (by rw [hs]; decide)
  have hb := byte_109 hs (pk s d)
  obtain ⟨y, hy, y1, y2, y3⟩ := plain_yes (m := m) (a := { setCur m { cur m with num := negNum m } with state := behindOf m }) rfl hk
  refine (h.aneed (m' := y) (behind_ne m).1 (fun e => ?_) (fun e => ?_) (notDone (by rw [hs]; decide))).mono ?_
  · rw [e, if_pos (behind_or m), hy] at hb; exact hb
  · rw [hb]
    by_cases e2 : pk s d = 59 ∨ pk s d = 123
    · rw [if_pos e2]; exact plain_no rfl e
    · rw [if_neg e2]
      simp only [digitStep]
      rw [if_pos hs, if_pos hs, if_pos]
      omega
  · rintro x - rfl
    refine ⟨y1, y2, ?_⟩
    rw [y3]
    unfold opAft
    show (if (cur m).kind = 33 then m.op else m.op ++ [⟨(setCur m _).st.length - 1, false⟩]) = _
    rw [setCur_len]

/-- A number of a condition, and the byte behind it. -/
theorem Sync.numCond (h : Sync s d m) {pos : Bool} {sg : Int} (hb : byteStep m (pk s d) = digitStep m (pk s d) pos 109) (hs : m.state ≠ 109 ∧ m.state ≠ 115) (hk : (cur m).kind = 33 ∨ m.op.length ≠ 4) (hsg : (sg = 1 ∧ pos = false ∧ m.neg = false) ∨ (sg = -1 ∧ pos = true ∧ m.neg = true)) :
    Res s (nd s (rNum s d sg).2 (behindOf m)) (fun x => x.state = 115 ∧ x.st = (setCur m { cur m with num := (rNum s d sg).1 }).st ∧ x.op = opAft m) := by
  have hn : 0 < m.st.length := h.aok.some_ hs.2
  have hneg : ∀ n : Int, (if m.neg then -n else n) = sg * n := by
    intro n
    rcases hsg with ⟨rfl, _, e⟩ | ⟨rfl, _, e⟩ <;> rw [e] <;> simp
  have hcs := cur_setCur' hn
  have hbe : ∀ u : St, u.kind = (cur m).kind → behindOf (setCur m u) = behindOf m := fun u hu => by unfold behindOf; rw [hcs, hu]
  have hop : ∀ u : St, u.kind = (cur m).kind → opAft (setCur m u) = opAft m := fun u hu => by unfold opAft; rw [hcs, hu, setCur_len]; rfl
  by_cases hz : pk s d = 48 ∧ 0 < sg
  · have e : rNum s d sg = (0, adv d) := if_pos hz
    rw [e]
    have hp : pos = false := by
      rcases hsg with h | h
      · exact h.2.1
      · omega
    rw [digit_new hs.1 (by omega) (by rw [hp]; simp)] at hb
    have h1 := h.aadv (by omega) hb
    have e0 : pk s d - 48 = 0 := by omega
    have h2 := h1.condEnd rfl (by show (cur (setCur m _)).kind = 33 ∨ _; rw [hcs]; exact hk) (.inr (.inr ⟨rfl, by show (cur (setCur m _)).num = 0; rw [hcs]; exact e0⟩))
    have eb : behindOf { setCur m { cur m with num := pk s d - 48 } with dig := 1, state := 109 } = behindOf m := hbe { cur m with num := pk s d - 48 } rfl
    rw [eb] at h2
    refine h2.mono ?_
    rintro x - ⟨a, b, c⟩
    refine ⟨a, b.trans ?_, c.trans (hop { cur m with num := pk s d - 48 } rfl)⟩
    show (setCur (setCur m _) { cur (setCur m _) with num := if m.neg then -(cur (setCur m _)).num else (cur (setCur m _)).num }).st = _
    rw [setCur_two, hcs, hneg, e0, Int.mul_zero]
  by_cases hbad : pk s d < 49 ∨ 57 < pk s d
  · have e : rNum s d sg = (0, stk d) := by unfold rNum; rw [if_neg hz, if_pos hbad]
    rw [e]
    have hd : Dead s (stk d) := by
      refine h.adead ?_ (fun _ => notDone hs.2)
      rw [hb]
      refine digit_bad ?_
      by_cases h48 : pk s d = 48
      · refine .inr (.inr ⟨?_, h48⟩)
        rcases hsg with h' | h'
        · exact absurd ⟨h48, by omega⟩ hz
        · exact h'.2.1
      · omega
    show Res s (nd s (stk d) _) _
    rw [hd.dnd (behind_ne m).1]
    exact .inl hd
  rw [digit_new hs.1 (by omega) (by omega)] at hb
  have h1 := h.aadv (by omega) hb
  have eb : behindOf { setCur m { cur m with num := pk s d - 48 } with dig := 1, state := 109 } = behindOf m := hbe { cur m with num := pk s d - 48 } rfl
  by_cases h2 : 48 ≤ pk s (adv d) ∧ pk s (adv d) ≤ 57
  · have e : rNum s d sg = (sg * (10 * (pk s d - 48) + (pk s (adv d) - 48)), adv (adv d)) := by unfold rNum; rw [if_neg hz, if_neg hbad, if_pos h2]
    rw [e]
    have hn1 : (cur { setCur m { cur m with num := pk s d - 48 } with dig := 1, state := 109 }).num = pk s d - 48 := by
      show (cur (setCur m _)).num = _
      rw [hcs]
    have hb2 := byte_109 (m := { setCur m { cur m with num := pk s d - 48 } with dig := 1, state := 109 }) rfl (pk s (adv d))
    rw [if_neg (by omega), digit_more rfl rfl hn1 (by omega) h2] at hb2
    have h3 := h1.aadv (by omega) hb2
    have hl1 : 0 < (setCur m { cur m with num := pk s d - 48 }).st.length := by rw [setCur_len]; exact hn
    have ec : cur (setCur (setCur m { cur m with num := pk s d - 48 }) { cur (setCur m { cur m with num := pk s d - 48 }) with num := 10 * (pk s d - 48) + (pk s (adv d) - 48) }) = { cur m with num := 10 * (pk s d - 48) + (pk s (adv d) - 48) } := by
      rw [cur_setCur' hl1, hcs]
    have h4 := h3.condEnd rfl (by show (cur (setCur (setCur m { cur m with num := pk s d - 48 }) { cur (setCur m { cur m with num := pk s d - 48 }) with num := _ })).kind = 33 ∨ _; rw [ec]; exact hk) (.inr (.inl rfl))
    have eb2 : behindOf { setCur { setCur m { cur m with num := pk s d - 48 } with dig := 1, state := 109 } { cur { setCur m { cur m with num := pk s d - 48 } with dig := 1, state := 109 } with num := 10 * (pk s d - 48) + (pk s (adv d) - 48) } with dig := 2, state := 109 } = behindOf m := by
      show behindOf (setCur (setCur m _) { cur (setCur m _) with num := _ }) = _
      unfold behindOf; rw [ec]
    rw [eb2] at h4
    refine h4.mono ?_
    rintro x - ⟨a, b, c⟩
    refine ⟨a, b.trans ?_, c.trans ?_⟩
    · show (setCur (setCur (setCur m _) { cur (setCur m _) with num := _ }) { cur (setCur (setCur m _) { cur (setCur m _) with num := _ }) with num := if m.neg then -(cur (setCur (setCur m _) { cur (setCur m _) with num := _ })).num else (cur (setCur (setCur m _) { cur (setCur m _) with num := _ })).num }).st = _
      rw [setCur_two, setCur_two, ec, hneg]
    · show opAft (setCur (setCur m _) { cur (setCur m _) with num := _ }) = _
      unfold opAft; rw [ec, setCur_len, setCur_len]; rfl
  · have e : rNum s d sg = (sg * (pk s d - 48), adv d) := by unfold rNum; rw [if_neg hz, if_neg hbad, if_neg h2]
    rw [e]
    have h3 := h1.condEnd rfl (by show (cur (setCur m _)).kind = 33 ∨ _; rw [hcs]; exact hk) (.inl h2)
    rw [eb] at h3
    refine h3.mono ?_
    rintro x - ⟨a, b, c⟩
    refine ⟨a, b.trans ?_, c.trans (hop { cur m with num := pk s d - 48 } rfl)⟩
    show (setCur (setCur m _) { cur (setCur m _) with num := if m.neg then -(cur (setCur m _)).num else (cur (setCur m _)).num }).st = _
    rw [setCur_two, hcs, hneg]

end Go.Proofs.YtffajooegiempaaDoor

namespace Go.Proofs.YtffajooegiempaaDoor
variable {s : ByteArray} {d : Nat × Bool} {m m' : Rd}

theorem byte_99 (h : m.state = 99) (c : Int) : byteStep m c = if c = 42 then some { setCur m { cur m with star := true } with state := behindOf m } else if c = 45 then some { m with sign := -1, state := 67 } else if 97 ≤ c ∧ c ≤ 100 then some (signTo m (c - 97).toNat 1 100) else none := by
  rw [byte_cond (.inl h)]; unfold condStep; rw [if_pos h]
theorem byte_67 (h : m.state = 67) (c : Int) : byteStep m c = if 97 ≤ c ∧ c ≤ 100 then some (signTo m (c - 97).toNat m.sign 100) else none := by
  rw [byte_cond (.inr (.inl h))]; unfold condStep; rw [h, if_neg (by decide), if_pos rfl]
theorem byte_100 (h : m.state = 100) (c : Int) : byteStep m c = if c = 43 then some { m with sign := 1, state := 101 } else if c = 45 then some { m with sign := -1, state := 101 } else if c = 60 then some { m with state := 60 } else none := by
  rw [byte_cond (by rw [h]; decide)]; unfold condStep; rw [h, if_neg (by decide), if_neg (by decide), if_pos rfl]
theorem byte_101 (h : m.state = 101) (c : Int) : byteStep m c = if 97 ≤ c ∧ c ≤ 100 then (if (cur m).sg.getD (c - 97).toNat 0 = 0 then some (signTo m (c - 97).toNat m.sign 102) else none) else none := by
  rw [byte_cond (by rw [h]; decide)]; unfold condStep; rw [h, if_neg (by decide), if_neg (by decide), if_neg (by decide), if_pos rfl]
theorem byte_102 (h : m.state = 102) (c : Int) : byteStep m c = if c = 60 then some { m with state := 60 } else none := by
  rw [byte_cond (by rw [h]; decide)]; unfold condStep; rw [h, if_neg (by decide), if_neg (by decide), if_neg (by decide), if_neg (by decide), if_pos rfl]
theorem byte_60 (h : m.state = 60) (c : Int) : byteStep m c = if c = 61 then some { m with neg := false, state := 98 } else none := by
  rw [byte_cond (by rw [h]; decide)]; unfold condStep; rw [h, if_neg (by decide), if_neg (by decide), if_neg (by decide), if_neg (by decide), if_neg (by decide), if_pos rfl]
theorem byte_98 (h : m.state = 98) (c : Int) : byteStep m c = if c = 45 then some { m with neg := true, state := 66 } else digitStep m c false 109 := by
  rw [byte_cond (by rw [h]; decide)]; unfold condStep; rw [h, if_neg (by decide), if_neg (by decide), if_neg (by decide), if_neg (by decide), if_neg (by decide), if_neg (by decide), if_pos rfl]
theorem byte_66 (h : m.state = 66) (c : Int) : byteStep m c = digitStep m c true 109 := by
  rw [byte_cond (by rw [h]; decide)]; unfold condStep; rw [h, if_neg (by decide), if_neg (by decide), if_neg (by decide), if_neg (by decide), if_neg (by decide), if_neg (by decide), if_neg (by decide), if_pos rfl]

theorem rSecond_any (s : ByteArray) (d : Nat × Bool) (x : Ds) (f : Int) : (rSecond s d x f).1.any = x.any := by
  unfold rSecond
  split
  · rfl
  · rfl

def tailN (s : ByteArray) (d : Nat × Bool) : Int × (Nat × Bool) := rNum s (rSign s d).2 (rSign s d).1
def tailE (s : ByteArray) (d : Nat × Bool) : Int × (Nat × Bool) := tailN s (nd s (nd s d 60) 61)

theorem Dead.dTailN (h : Dead s d) : tailN s d = (0, d) := by unfold tailN; rw [h.dSign]; exact h.dNum 1
theorem Dead.dTailE (h : Dead s d) : tailE s d = (0, d) := by unfold tailE; rw [h.dnd (by decide), h.dnd (by decide)]; exact h.dTailN

/-- What is to come of the rest of a condition. -/
def QC (m : Rd) (n : Int) (y : Rd) : Prop := y.state = 115 ∧ y.st = (setCur m { cur m with num := n }).st ∧ y.op = opAft m

theorem Sync.tailN (h : Sync s d m) (hs : m.state = 98) (hneg : m.neg = false) (hk : (cur m).kind = 33 ∨ m.op.length ≠ 4) : Res s (nd s (Go.Proofs.YtffajooegiempaaDoor.tailN s d).2 (behindOf m)) (QC m (Go.Proofs.YtffajooegiempaaDoor.tailN s d).1) := by
  have hb := byte_98 hs (pk s d)
  by_cases h45 : pk s d = 45
  · rw [if_pos h45] at hb
    have h1 := h.aadv (by omega) hb
    have e : Go.Proofs.YtffajooegiempaaDoor.tailN s d = rNum s (adv d) (-1) := by unfold Go.Proofs.YtffajooegiempaaDoor.tailN; rw [show rSign s d = (-1, adv d) from if_pos h45]
    rw [e]
    exact h1.numCond (pos := true) (sg := -1) (byte_66 rfl _) ⟨(by decide : (66 : Int) ≠ 109), (by decide : (66 : Int) ≠ 115)⟩ hk (.inr ⟨rfl, rfl, rfl⟩)
  · rw [if_neg h45] at hb
    have e : Go.Proofs.YtffajooegiempaaDoor.tailN s d = rNum s d 1 := by unfold Go.Proofs.YtffajooegiempaaDoor.tailN; rw [show rSign s d = (1, d) from if_neg h45]
    rw [e]
    exact h.numCond (pos := false) (sg := 1) hb ⟨by rw [hs]; decide, by rw [hs]; decide⟩ hk (.inl ⟨rfl, rfl, hneg⟩)

theorem Sync.tailE (h : Sync s d m) (hs : m.state = 100 ∨ m.state = 102) (hp : m.state = 100 → pk s d ≠ 43 ∧ pk s d ≠ 45) (hk : (cur m).kind = 33 ∨ m.op.length ≠ 4) : Res s (nd s (Go.Proofs.YtffajooegiempaaDoor.tailE s d).2 (behindOf m)) (QC m (Go.Proofs.YtffajooegiempaaDoor.tailE s d).1) := by
  have hb : byteStep m (pk s d) = if pk s d = 60 then some { m with state := 60 } else none := by
    rcases hs with e | e
    · rw [byte_100 e, if_neg (hp e).1, if_neg (hp e).2]
    · rw [byte_102 e]
  have hnd : isDone m = false := notDone (by omega)
  rcases h.aneed (c := 60) (m' := { m with state := 60 }) (by decide) (fun e => by rw [e, if_pos rfl] at hb; exact hb) (fun e => by rw [if_neg e] at hb; exact hb) hnd with hd | ⟨m1, h1, rfl⟩
  · have e : Go.Proofs.YtffajooegiempaaDoor.tailE s d = (0, nd s d 60) := by unfold Go.Proofs.YtffajooegiempaaDoor.tailE; rw [hd.dnd (by decide)]; exact hd.dTailN
    rw [e]
    show Res s (nd s (nd s d 60) _) _
    rw [hd.dnd (behind_ne m).1]
    exact .inl hd
  · rcases h1.aneed (c := 61) (m' := { m with neg := false, state := 98 }) (by decide) (fun e => by rw [byte_60 rfl, if_pos rfl]) (fun e => by rw [byte_60 rfl, if_neg e]) (notDone (by decide : (60 : Int) ≠ 115)) with hd | ⟨m2, h2, rfl⟩
    · have e : Go.Proofs.YtffajooegiempaaDoor.tailE s d = (0, nd s (nd s d 60) 61) := hd.dTailN
      rw [e]
      show Res s (nd s (nd s (nd s d 60) 61) _) _
      rw [hd.dnd (behind_ne m).1]
      exact .inl hd
    · exact h2.tailN rfl rfl hk

/-- The second variable of a form, and the rest. -/
theorem Sync.second (h : Sync s d m) (hs : m.state = 100) (hk : (cur m).kind = 33 ∨ m.op.length ≠ 4) (x : Ds) (f : Int) (hx : x.sg = (cur m).sg) (hf : ∀ v : Int, 0 ≤ v → v ≤ 3 → ((cur m).sg.getD v.toNat 0 = 0 ↔ v ≠ f)) :
    Res s (nd s (Go.Proofs.YtffajooegiempaaDoor.tailE s (rSecond s d x f).2).2 (behindOf m)) (QC (setCur m { cur m with sg := (rSecond s d x f).1.sg }) (Go.Proofs.YtffajooegiempaaDoor.tailE s (rSecond s d x f).2).1) := by
  have hn : 0 < m.st.length := h.aok.some_ (by rw [hs]; decide)
  have hb := byte_100 hs (pk s d)
  have hcs := cur_setCur' hn
  by_cases hc : pk s d = 43 ∨ pk s d = 45
  · obtain ⟨g, hg, hb1⟩ : ∃ g, (if pk s d = 45 then (-1 : Int) else 1) = g ∧ byteStep m (pk s d) = some { m with sign := g, state := 101 } := by
      rcases hc with e | e
      · exact ⟨1, by rw [e]; rfl, by rw [hb, if_pos e]⟩
      · exact ⟨-1, by rw [e]; rfl, by rw [hb, if_neg (by omega), if_pos e]⟩
    have h1 := h.aadv (by omega) hb1
    have e : rSecond s d x f = ({ x with sg := x.sg.set (rVar s (adv d) f).1.toNat g }, (rVar s (adv d) f).2) := by unfold rSecond; rw [if_pos hc, hg]
    rw [e]
    have hb2 := byte_101 (m := { m with sign := g, state := 101 }) rfl (pk s (adv d))
    by_cases hv : 97 ≤ pk s (adv d) ∧ pk s (adv d) ≤ 100
    · rw [if_pos hv] at hb2
      by_cases hff : pk s (adv d) - 97 = f
      · have ev : rVar s (adv d) f = (0, stk (adv d)) := by unfold rVar; rw [varOf_pos hv, if_pos (.inr hff)]
        rw [ev]
        have hd : Dead s (stk (adv d)) := by
          refine h1.adead ?_ (fun _ => notDone (by decide : (101 : Int) ≠ 115))
          rw [hb2, if_neg]
          intro e0
          exact ((hf (pk s (adv d) - 97) (by omega) (by omega)).1 e0) hff
        show Res s (nd s (Go.Proofs.YtffajooegiempaaDoor.tailE s (stk (adv d))).2 _) _
        rw [hd.dTailE]
        show Res s (nd s (stk (adv d)) _) _
        rw [hd.dnd (behind_ne m).1]
        exact .inl hd
      · have ev : rVar s (adv d) f = (pk s (adv d) - 97, adv (adv d)) := by unfold rVar; rw [varOf_pos hv, if_neg (by omega)]
        rw [ev]
        have e0 : (cur { m with sign := g, state := 101 }).sg.getD (pk s (adv d) - 97).toNat 0 = 0 := (hf (pk s (adv d) - 97) (by omega) (by omega)).2 hff
        rw [if_pos e0] at hb2
        have h2 := h1.aadv (by omega) hb2
        have hkd : (cur (signTo { m with sign := g, state := 101 } (pk s (adv d) - 97).toNat g 102)).kind = (cur m).kind := by
          show (cur (setCur m _)).kind = _
          rw [hcs]; rfl
        have ebh : behindOf (signTo { m with sign := g, state := 101 } (pk s (adv d) - 97).toNat g 102) = behindOf m := by unfold behindOf; rw [hkd]
        have h3 := h2.tailE (.inr rfl) (fun e => absurd e (by decide : (102 : Int) ≠ 100)) (by rw [hkd]; exact hk)
        rw [ebh] at h3
        refine h3.mono ?_
        rintro y - ⟨a, b, c⟩
        refine ⟨a, b.trans ?_, c.trans ?_⟩
        · show (setCur (setCur m { cur m with sg := (cur m).sg.set _ g }) { cur (setCur m { cur m with sg := (cur m).sg.set _ g }) with num := _ }).st = (setCur (setCur m { cur m with sg := x.sg.set _ g }) { cur (setCur m { cur m with sg := x.sg.set _ g }) with num := _ }).st
          rw [hx]
        · show opAft (setCur m { cur m with sg := (cur m).sg.set _ g }) = opAft (setCur m { cur m with sg := x.sg.set _ g })
          rw [hx]
    · have ev : rVar s (adv d) f = (0, stk (adv d)) := by unfold rVar; rw [if_pos (.inl (varOf_neg hv))]
      rw [ev]
      have hd : Dead s (stk (adv d)) := by
        refine h1.adead ?_ (fun _ => notDone (by decide : (101 : Int) ≠ 115))
        rw [hb2, if_neg hv]
      show Res s (nd s (Go.Proofs.YtffajooegiempaaDoor.tailE s (stk (adv d))).2 _) _
      rw [hd.dTailE]
      show Res s (nd s (stk (adv d)) _) _
      rw [hd.dnd (behind_ne m).1]
      exact .inl hd
  · have e : rSecond s d x f = (x, d) := if_neg hc
    rw [e]
    have h3 := h.tailE (.inl hs) (fun _ => ⟨fun e => hc (.inl e), fun e => hc (.inr e)⟩) hk
    refine h3.mono ?_
    rintro y - ⟨a, b, c⟩
    have e2 : setCur m { cur m with sg := x.sg } = m := by
      rw [hx]; exact setCur_cur hn
    rw [show (x, d).1.sg = x.sg from rfl, e2]
    exact ⟨a, b, c⟩

/-- A condition, and the byte behind it. -/
theorem Sync.cond (h : Sync s d m) (hs : m.state = 99) (hk : (cur m).kind = 33 ∨ m.op.length ≠ 4) (x : Ds) (hx : x.any = false ∧ x.sg = (cur m).sg ∧ x.num = (cur m).num ∧ (cur m).star = false) (hz : (cur m).sg = [0, 0, 0, 0]) :
    Res s (nd s (rCond s d x).2 (behindOf m)) (fun y => y.state = 115 ∧ y.st = (setCur m { cur m with star := (rCond s d x).1.any, sg := (rCond s d x).1.sg, num := (rCond s d x).1.num }).st ∧ y.op = opAft m) := by
  have hn : 0 < m.st.length := h.aok.some_ (by rw [hs]; decide)
  have hb := byte_99 hs (pk s d)
  obtain ⟨hx1, hx2, hx3, hx4⟩ := hx
  have hcs := cur_setCur' hn
  by_cases h42 : pk s d = 42
  · have e : rCond s d x = ({ x with any := true }, adv d) := if_pos h42
    rw [e]
    rw [if_pos h42] at hb
    have h1 := h.aadv (by omega) hb
    have hbh : behindOf m = 59 ∨ behindOf m = 123 := behind_or m
    obtain ⟨y, hy, y1, y2, y3⟩ := plain_yes (m := m) (a := { setCur m { cur m with star := true } with state := behindOf m }) rfl hk
    have hpl : ∀ c, byteStep { setCur m { cur m with star := true } with state := behindOf m } c = plainStep { setCur m { cur m with star := true } with state := behindOf m } c := fun c => byte_plain hbh c
    refine (h1.aneed (m' := y) (behind_ne m).1 (fun e => by rw [hpl]; exact hy) (fun e => by rw [hpl]; exact plain_no rfl e) (notDone (behind_ne m).2)).mono ?_
    rintro z - rfl
    refine ⟨y1, y2.trans ?_, y3.trans ?_⟩
    · show (setCur m { cur m with star := true }).st = (setCur m { cur m with star := true, sg := x.sg, num := x.num }).st
      rw [hx2, hx3]
    · unfold opAft
      show (if (cur m).kind = 33 then m.op else m.op ++ [⟨(setCur m _).st.length - 1, false⟩]) = _
      rw [setCur_len]
  rw [if_neg h42] at hb
  obtain ⟨g, d1, m1, hg, h1, e1, e2, e3, hb1⟩ : ∃ g d1 m1, rSign s d = (g, d1) ∧ Sync s d1 m1 ∧ m1.st = m.st ∧ m1.op = m.op ∧ m1.state ≠ 115 ∧ byteStep m1 (pk s d1) = if 97 ≤ pk s d1 ∧ pk s d1 ≤ 100 then some (signTo m1 (pk s d1 - 97).toNat g 100) else none := by
    by_cases h45 : pk s d = 45
    · rw [if_pos h45] at hb
      exact ⟨-1, adv d, _, if_pos h45, h.aadv (by omega) hb, rfl, rfl, (by decide : (67 : Int) ≠ 115), byte_67 rfl _⟩
    · rw [if_neg h45] at hb
      exact ⟨1, d, m, if_neg h45, h, rfl, rfl, by rw [hs]; decide, hb⟩
  have ec : cur m1 = cur m := cur_eq e1
  by_cases hv : 97 ≤ pk s d1 ∧ pk s d1 ≤ 100
  · have ev : rVar s d1 (-1) = (pk s d1 - 97, adv d1) := by unfold rVar; rw [varOf_pos hv, if_neg (by omega)]
    rw [if_pos hv] at hb1
    have h2 := h1.aadv (by omega) hb1
    obtain ⟨v, hve⟩ : ∃ v, v = pk s d1 - 97 := ⟨_, rfl⟩
    rw [← hve] at ev h2 hb1
    have hst2 : (signTo m1 v.toNat g 100).st = (setCur m { cur m with sg := (cur m).sg.set v.toNat g }).st := by
      show (setCur m1 { cur m1 with sg := (cur m1).sg.set v.toNat g }).st = _
      rw [ec]; exact setCur_st_eq e1 _
    have hcur2 : cur (signTo m1 v.toNat g 100) = { cur m with sg := (cur m).sg.set v.toNat g } := (cur_eq hst2).trans (hcs _)
    have hgn : g ≠ 0 := by
      have := rSign_or s d
      rw [hg] at this
      rcases this with e | e
      · have e' : g = 1 := e
        omega
      · have e' : g = -1 := e
        omega
    have e : rCond s d x = ({ (rSecond s (adv d1) { x with any := false, sg := x.sg.set v.toNat g } v).1 with num := (Go.Proofs.YtffajooegiempaaDoor.tailE s (rSecond s (adv d1) { x with any := false, sg := x.sg.set v.toNat g } v).2).1 }, (Go.Proofs.YtffajooegiempaaDoor.tailE s (rSecond s (adv d1) { x with any := false, sg := x.sg.set v.toNat g } v).2).2) := by
      unfold rCond; rw [if_neg h42, hg]; simp only; rw [ev]; rfl
    have ebh : behindOf (signTo m1 v.toNat g 100) = behindOf m := by unfold behindOf; rw [hcur2]
    have h3 := h2.second rfl (by rw [hcur2]; show (cur m).kind = 33 ∨ m1.op.length ≠ 4; rw [e2]; exact hk) { x with any := false, sg := x.sg.set v.toNat g } v (by rw [hcur2, hx2]) (by
      intro u hu0 hu3
      rw [hcur2]
      show ((cur m).sg.set v.toNat g).getD u.toNat 0 = 0 ↔ u ≠ v
      rw [hz, List.getD_eq_getElem?_getD, List.getElem?_set]
      by_cases euv : u = v
      · subst euv
        rw [if_pos rfl, if_pos (by simp; omega)]
        simp [hgn]
      · rw [if_neg (by omega)]
        rcases (show u = 0 ∨ u = 1 ∨ u = 2 ∨ u = 3 by omega) with rfl | rfl | rfl | rfl <;> simp <;> omega)
    rw [ebh] at h3
    rw [e]
    refine h3.mono ?_
    rintro y - ⟨a, b, c⟩
    have hl1 : 0 < (signTo m1 v.toNat g 100).st.length := by rw [hst2, setCur_len]; exact hn
    have hany : (rSecond s (adv d1) { x with any := false, sg := x.sg.set v.toNat g } v).1.any = false := rSecond_any _ _ _ _
    generalize rSecond s (adv d1) { x with any := false, sg := x.sg.set v.toNat g } v = z at *
    refine ⟨a, b.trans ?_, c.trans ?_⟩
    · rw [setCur_two, cur_setCur' hl1, hcur2, setCur_st_eq hst2, setCur_two]
      show (setCur m { cur m with sg := z.1.sg, num := _ }).st = (setCur m { cur m with star := z.1.any, sg := z.1.sg, num := _ }).st
      rw [hany, ← hx4]
    · unfold opAft
      rw [cur_setCur' hl1, hcur2, setCur_len]
      show (if (cur m).kind = 33 then m1.op else m1.op ++ [⟨(signTo m1 v.toNat g 100).st.length - 1, false⟩]) = _
      rw [e2, hst2, setCur_len]
  · have ev : rVar s d1 (-1) = (0, stk d1) := by unfold rVar; rw [if_pos (.inl (varOf_neg hv))]
    rw [if_neg hv] at hb1
    have hd : Dead s (stk d1) := h1.adead hb1 (fun _ => notDone e3)
    have e : (rCond s d x).2 = stk d1 := by
      unfold rCond; rw [if_neg h42, hg]; simp only; rw [ev]; simp only
      rw [hd.dSecond]
      exact congrArg Prod.snd hd.dTailE
    rw [e, hd.dnd (behind_ne m).1]
    exact .inl hd

end Go.Proofs.YtffajooegiempaaDoor

namespace Go.Proofs.YtffajooegiempaaDoor
variable {s : ByteArray} {d : Nat × Bool} {m m' : Rd}

/-- The machine's sign of a kind. -/
def kindOf (k : Int) : Int := if k = 0 then 61 else if k = 1 then 33 else if k = 2 then 63 else 64
/-- A statement of the program's, and the machine's. -/
def Cor (x : Ds) (u : St) : Prop := u.kind = kindOf x.kind ∧ u.var = x.target ∧ u.star = x.any ∧ u.sg = x.sg ∧ u.num = x.num
structure CorL (F : List Ds) (S : List St) : Prop where
  len : F.length = S.length
  cor : ∀ (i : Nat) (x : Ds) (u : St), F[i]? = some x → S[i]? = some u → Cor x u
def Pre {α : Type} (l l' : List α) : Prop := ∀ i, i < l.length → l'[i]? = l[i]?
theorem Pre.refl {α : Type} (l : List α) : Pre l l := fun _ _ => rfl
theorem Pre.trans {α : Type} {a b c : List α} (h : Pre a b) (k : Pre b c) (hl : a.length ≤ b.length) : Pre a c := fun i hi => (k i (by omega)).trans (h i hi)
theorem Pre.snoc {α : Type} (l : List α) (x : α) : Pre l (l ++ [x]) := fun _ hi => List.getElem?_append_left hi

/-- The statement at a, of block b of p, up to e: its own parts. 'R p b a c': the statements from a to c are those of block b of p. -/
def StmOk (F : List Ds) (S : List St) (R : Int → Int → Nat → Nat → Prop) (p b : Int) (a e : Nat) : Prop :=
  ∃ x u, F[a]? = some x ∧ S[a]? = some u ∧ x.parent = p ∧ x.block = b ∧ u.fin = e ∧ a < e ∧
    (((x.kind = 0 ∨ x.kind = 1) ∧ e = a + 1) ∨ (x.kind = 3 ∧ R a 0 (a + 1) e) ∨ (x.kind = 2 ∧ a + 1 ≤ u.mid ∧ u.mid ≤ e ∧ R a 0 (a + 1) u.mid ∧ R a 1 u.mid e))
def Blk (F : List Ds) (S : List St) : Nat → Int → Int → Nat → Nat → Prop
  | 0, _, _, a, c => a = c
  | f + 1, p, b, a, c => a = c ∨ ∃ e, e ≤ c ∧ StmOk F S (Blk F S f) p b a e ∧ Blk F S f p b e c

theorem StmOk.into {F F' : List Ds} {S S' : List St} {R R' : Int → Int → Nat → Nat → Prop} {p b : Int} {a e : Nat} (h : StmOk F S R p b a e) (h1 : F'[a]? = F[a]?) (h2 : S'[a]? = S[a]?) (h3 : ∀ p b i j, a < i → i ≤ j → j ≤ e → R p b i j → R' p b i j) : StmOk F' S' R' p b a e := by
  obtain ⟨x, u, hx, hu, hp, hb, hf, hae, hk⟩ := h
  refine ⟨x, u, by rw [h1]; exact hx, by rw [h2]; exact hu, hp, hb, hf, hae, ?_⟩
  rcases hk with hk | ⟨k3, hk⟩ | ⟨k2, q1, q2, hk1, hk2⟩
  · exact .inl hk
  · exact .inr (.inl ⟨k3, h3 _ _ _ _ (by omega) (by omega) (Nat.le_refl _) hk⟩)
  · exact .inr (.inr ⟨k2, q1, q2, h3 _ _ _ _ (by omega) q1 (by omega) hk1, h3 _ _ _ _ (by omega) q2 (Nat.le_refl _) hk2⟩)
theorem StmOk.lt {F : List Ds} {S : List St} {R : Int → Int → Nat → Nat → Prop} {p b : Int} {a e : Nat} (h : StmOk F S R p b a e) : a < e := by
  obtain ⟨x, u, hx, hu, hp, hb, hf, hae, hk⟩ := h
  exact hae
theorem Blk.succ {F : List Ds} {S : List St} {f : Nat} : ∀ {p b : Int} {a c : Nat}, Blk F S f p b a c → Blk F S (f + 1) p b a c := by
  induction f with
  | zero => intro p b a c h; exact .inl h
  | succ f ih =>
    intro p b a c h
    rcases h with h | ⟨e, he, hs, hr⟩
    · exact .inl h
    · exact .inr ⟨e, he, hs.into rfl rfl (fun _ _ _ _ _ _ _ hR => ih hR), ih hr⟩
theorem Blk.more {F : List Ds} {S : List St} {f : Nat} (g : Nat) {p b : Int} {a c : Nat} (h : Blk F S f p b a c) : Blk F S (f + g) p b a c := by
  induction g with
  | zero => exact h
  | succ g ih => exact ih.succ
/-- It hangs on the statements from a to c alone. -/
theorem Blk.keep {F F' : List Ds} {S S' : List St} {f : Nat} : ∀ {p b : Int} {a c : Nat}, Blk F S f p b a c → (∀ i, a ≤ i → i < c → F'[i]? = F[i]?) → (∀ i, a ≤ i → i < c → S'[i]? = S[i]?) → Blk F' S' f p b a c := by
  induction f with
  | zero => intro p b a c h _ _; exact h
  | succ f ih =>
    intro p b a c h h1 h2
    rcases h with h | ⟨e, he, hs, hr⟩
    · exact .inl h
    · have hae := hs.lt
      refine .inr ⟨e, he, hs.into (h1 a (by omega) (by omega)) (h2 a (by omega) (by omega)) (fun _ _ i j hi hij hj hR => ih hR (fun k hk1 hk2 => h1 k (by omega) (by omega)) (fun k hk1 hk2 => h2 k (by omega) (by omega))), ih hr (fun k hk1 hk2 => h1 k (by omega) hk2) (fun k hk1 hk2 => h2 k (by omega) hk2)⟩

theorem CorL.snoc {F : List Ds} {S : List St} (h : CorL F S) {x : Ds} {u : St} (hc : Cor x u) : CorL (F ++ [x]) (S ++ [u]) := by
  refine ⟨by simp [h.len], fun i y v hy hv => ?_⟩
  by_cases hi : i < F.length
  · rw [List.getElem?_append_left hi] at hy
    rw [List.getElem?_append_left (by rw [← h.len]; exact hi)] at hv
    exact h.cor i y v hy hv
  · have hl := h.len
    have : i = F.length := by
      have : i < (F ++ [x]).length := by
        rcases Nat.lt_or_ge i (F ++ [x]).length with h' | h'
        · exact h'
        · simp [List.getElem?_eq_none h'] at hy
      simp at this; omega
    subst this
    simp at hy
    rw [hl] at hv
    simp at hv
    subst hy; subst hv; exact hc
theorem CorL.set {F : List Ds} {S : List St} (h : CorL F S) {k : Nat} {u u' : St} (hk : S[k]? = some u) (hc : ∀ x, Cor x u → Cor x u') : CorL F (S.set k u') := by
  refine ⟨by simp [h.len], fun i y v hy hv => ?_⟩
  rw [List.getElem?_set] at hv
  split at hv
  · rename_i e
    subst e
    split at hv
    · simp at hv; subst hv; exact hc y (h.cor k y u hy hk)
    · cases hv
  · exact h.cor i y v hy hv

/-- What a run of readStatements comes to. -/
structure Out (s : ByteArray) (z : Zt) (m : Rd) (z' : Zt) (m' : Rd) : Prop where
  sync : Sync s z'.1 m'
  st : m'.state = 115
  op : m'.op = m.op
  cor : CorL z'.2 m'.st
  preF : Pre z.2 z'.2
  preS : Pre m.st m'.st
  len : z.2.length ≤ z'.2.length

def Says (s : ByteArray) (n : Nat) : Prop := ∀ (p b dp : Int) (z : Zt) (m : Rd), Sync s z.1 m → m.state = 115 → (m.op.length : Int) = dp → CorL z.2 m.st → Mz z < n →
  Dead s (rStmts s n p b dp z).1 ∨ ∃ m', Out s z m (rStmts s n p b dp z) m' ∧ (∃ f, Blk (rStmts s n p b dp z).2 m'.st f p b z.2.length (rStmts s n p b dp z).2.length) ∧ (pk s (rStmts s n p b dp z).1 = 0 ∨ pk s (rStmts s n p b dp z).1 = 125)

theorem Dead.dStmts {z : Zt} (h : Dead s z.1) (n : Nat) (p b dp : Int) : rStmts s n p b dp z = z := by
  cases n with
  | zero => rfl
  | succ n => unfold rStmts; rw [if_pos (.inl h.dpk)]
theorem Dead.dBlock {z : Zt} (h : Dead s z.1) (n : Nat) (p b dp : Int) : rBlockWith s (rStmts s n) p b dp z = z := by
  unfold rBlockWith
  rw [h.dnd (by decide), Dead.dStmts (z := (z.1, z.2)) h, h.dnd (by decide)]

theorem byte_115 (h : m.state = 115) (c : Int) : byteStep m c = startStep m c := by unfold byteStep; rw [if_pos h]
theorem byte_125 (h : m.state = 125) (c : Int) : byteStep m c = if c = 123 then some { m with op := m.op.set (m.op.length - 1) { top m with second := true }, state := 115 } else none := by
  rw [byte_cond (by rw [h]; decide)]; unfold condStep; rw [h, if_neg (by decide), if_neg (by decide), if_neg (by decide), if_neg (by decide), if_neg (by decide), if_neg (by decide), if_neg (by decide), if_neg (by decide), if_neg (by decide)]

/-- A block, from behind its brace to behind its end: the machine is where the block is shut. -/
theorem block_in {n : Nat} (H : Says s n) {z : Zt} (p b dp : Int) (h : Sync s z.1 m) (hs : m.state = 115) (hop : 0 < m.op.length) (hdp : (m.op.length : Int) = dp) (hc : CorL z.2 m.st) (hm : Mz z < n) :
    Dead s (nd s (rStmts s n p b dp z).1 125) ∨ ∃ m2 m3, Out s z m (rStmts s n p b dp z) m2 ∧ (∃ f, Blk (rStmts s n p b dp z).2 m2.st f p b z.2.length (rStmts s n p b dp z).2.length) ∧ shutStep m2 = some m3 ∧ Sync s (nd s (rStmts s n p b dp z).1 125) m3 := by
  rcases H p b dp z m h hs hdp hc hm with hd | ⟨m2, ho, hf, hpk⟩
  · left; rw [hd.dnd (by decide)]; exact hd
  · have hb := byte_115 ho.st (pk s (rStmts s n p b dp z).1)
    have hop2 : 0 < m2.op.length := by rw [ho.op]; exact hop
    by_cases e : pk s (rStmts s n p b dp z).1 = 125
    · right
      rw [e] at hb
      have hst : startStep m2 125 = shutStep m2 := by unfold startStep; rw [if_neg (by decide), if_neg (by decide), if_neg (by decide), if_pos ⟨rfl, hop2⟩]
      rw [hst] at hb
      obtain ⟨m3, hm3⟩ : ∃ m3, shutStep m2 = some m3 := by
        simp only [shutStep]
        split
        · exact ⟨_, rfl⟩
        · exact ⟨_, rfl⟩
      refine ⟨m2, m3, ho, hf, hm3, ?_⟩
      have en : nd s (rStmts s n p b dp z).1 125 = adv (rStmts s n p b dp z).1 := if_pos e
      rw [en]
      exact ho.sync.aadv (by omega) (by rw [e, hb, hm3])
    · left
      have e0 : pk s (rStmts s n p b dp z).1 = 0 := hpk.elim id (fun h => absurd h e)
      have en : nd s (rStmts s n p b dp z).1 125 = stk (rStmts s n p b dp z).1 := if_neg e
      rw [en]
      refine ho.sync.adead ?_ (fun _ => ?_)
      · rw [hb, e0]; unfold startStep; rw [if_neg (by decide), if_neg (by decide), if_neg (by decide), if_neg (by omega)]
      · unfold isDone; simp; intro _ h0; rw [h0] at hop2; exact absurd hop2 (by simp)

end Go.Proofs.YtffajooegiempaaDoor

namespace Go.Proofs.YtffajooegiempaaDoor
variable {s : ByteArray} {d : Nat × Bool} {m m' : Rd}

theorem top_snoc {o : List Bk} {b : Bk} (h : m.op = o ++ [b]) : top m = b ∧ m.op.take (m.op.length - 1) = o ∧ 0 < m.op.length := by
  unfold top
  rw [h]
  simp
theorem rValue_same (s : ByteArray) (d : Nat × Bool) (x : Ds) : (rValue s d x).1.kind = x.kind ∧ (rValue s d x).1.target = x.target ∧ (rValue s d x).1.parent = x.parent ∧ (rValue s d x).1.block = x.block := by
  unfold rValue
  split
  · exact ⟨rfl, rfl, rfl, rfl⟩
  split
  · exact ⟨rfl, rfl, rfl, rfl⟩
  · exact ⟨rfl, rfl, rfl, rfl⟩
theorem rSecond_same (s : ByteArray) (d : Nat × Bool) (x : Ds) (f : Int) : (rSecond s d x f).1.kind = x.kind ∧ (rSecond s d x f).1.target = x.target ∧ (rSecond s d x f).1.parent = x.parent ∧ (rSecond s d x f).1.block = x.block := by
  unfold rSecond
  split
  · exact ⟨rfl, rfl, rfl, rfl⟩
  · exact ⟨rfl, rfl, rfl, rfl⟩
theorem rCond_same (s : ByteArray) (d : Nat × Bool) (x : Ds) : (rCond s d x).1.kind = x.kind ∧ (rCond s d x).1.target = x.target ∧ (rCond s d x).1.parent = x.parent ∧ (rCond s d x).1.block = x.block := by
  unfold rCond
  split
  · exact ⟨rfl, rfl, rfl, rfl⟩
  · exact rSecond_same _ _ _ _

/-- A statement that has just begun. -/
def u0 (m : Rd) (k v : Int) : St := ⟨k, v, false, [0, 0, 0, 0], 0, 0, m.st.length + 1⟩
def begun0 (m : Rd) (k v x : Int) : Rd := { m with st := m.st ++ [u0 m k v], state := x }
theorem begin_yes {k v x : Int} (h : m.st.length ≠ 20) : beginStep m k v x = some (begun0 m k v x) := by unfold beginStep; rw [if_neg h]; rfl
theorem cur_begun (k v x : Int) : cur (begun0 m k v x) = u0 m k v := by unfold cur begun0; simp
theorem setCur_begun (k v x : Int) (u : St) : (setCur (begun0 m k v x) u).st = m.st ++ [u] := by unfold setCur begun0; simp
theorem start_full (hl : m.st.length = 20) {c : Int} (hc : c ≠ 125) : startStep m c = none := by
  unfold startStep beginStep
  split
  · first | rfl | rw [if_pos hl]
  split
  · split
    · first | rfl | rw [if_pos hl]
    · rfl
  split
  · first | rfl | rw [if_pos hl]
  · rw [if_neg (fun e => hc e.1)]

/-- A statement without blocks. -/
theorem simple_says {n : Nat} {z : Zt} {p b dp : Int} {x : Ds} {d1 : Nat × Bool} {u : St} (hc : CorL z.2 m.st) (h20 : ¬ 20 ≤ z.2.length) (hh : rHead s z.1 (newDs p b) dp = (x, d1)) (hk : x.kind = 0 ∨ x.kind = 1) (hp : x.parent = p ∧ x.block = b) (hcor : Cor x u) (hfin : u.fin = m.st.length + 1)
    (hr : Res s d1 (fun y => y.state = 115 ∧ y.op = m.op ∧ y.st = m.st ++ [u])) :
    Dead s (rStmtWith s (rStmts s n) p b dp z).1 ∨ ∃ m1, Out s z m (rStmtWith s (rStmts s n) p b dp z) m1 ∧ ∃ f, StmOk (rStmtWith s (rStmts s n) p b dp z).2 m1.st (Blk (rStmtWith s (rStmts s n) p b dp z).2 m1.st f) p b z.2.length (rStmtWith s (rStmts s n) p b dp z).2.length := by
  have hb0 : blocksOf x.kind = 0 := by
    rcases hk with e | e <;> rw [e] <;> decide
  have hl := hc.len
  rcases hr with hd | ⟨m1, h1, hst, hop, hS⟩
  · left
    have e : rStmtWith s (rStmts s n) p b dp z = (d1, z.2) := by unfold rStmtWith; rw [if_neg h20, hh, if_pos hd.st]
    rw [e]; exact hd
  · right
    have e : rStmtWith s (rStmts s n) p b dp z = (d1, z.2 ++ [x]) := by unfold rStmtWith; rw [if_neg h20, hh, if_neg (by rw [h1.ns]; decide)]; simp only; rw [hb0]; rfl
    rw [e]
    refine ⟨m1, ⟨h1, hst, hop, by rw [hS]; exact hc.snoc hcor, Pre.snoc _ _, by rw [hS]; exact Pre.snoc _ _, by simp⟩, 0, x, u, by simp, by rw [hS, hl]; simp, hp.1, hp.2, by rw [hfin, ← hl]; simp, by simp, .inl ⟨hk, by simp⟩⟩

/-- A statement with blocks. -/
theorem blocks_says {n : Nat} (H : Says s n) {z : Zt} {p b dp : Int} {x : Ds} {d1 : Nat × Bool} {u : St} (hz : z.1.2 = false) (hm : Mz z ≤ n) (hdp : (m.op.length : Int) = dp) (hc : CorL z.2 m.st) (h20 : ¬ 20 ≤ z.2.length) (hh : rHead s z.1 (newDs p b) dp = (x, d1)) (hk : x.kind = 2 ∨ x.kind = 3) (hp : x.parent = p ∧ x.block = b) (hcor : Cor x u)
    (hr : Res s (nd s d1 123) (fun y => y.state = 115 ∧ y.op = m.op ++ [⟨m.st.length, false⟩] ∧ y.st = m.st ++ [u])) :
    Dead s (rStmtWith s (rStmts s n) p b dp z).1 ∨ ∃ m1, Out s z m (rStmtWith s (rStmts s n) p b dp z) m1 ∧ ∃ f, StmOk (rStmtWith s (rStmts s n) p b dp z).2 m1.st (Blk (rStmtWith s (rStmts s n) p b dp z).2 m1.st f) p b z.2.length (rStmtWith s (rStmts s n) p b dp z).2.length := by
  have hl := hc.len
  have hMz : Mz z = 21 - z.2.length := by unfold Mz; rw [hz]; rfl
  by_cases hst1 : d1.2 = true
  · left
    have e : rStmtWith s (rStmts s n) p b dp z = (d1, z.2) := by unfold rStmtWith; rw [if_neg h20, hh, if_pos hst1]
    rw [e]
    have epk : pk s d1 = 0 := by unfold pk; rw [hst1]; rfl
    have en : nd s d1 123 = d1 := by unfold nd; rw [if_neg (by rw [epk]; decide), ← hst1]
    rw [en] at hr
    rcases hr with hd | ⟨m1, h1, _⟩
    · exact hd
    · exact absurd h1.ns (by rw [hst1]; decide)
  obtain ⟨z1, hz1⟩ : ∃ z1, z1 = rBlockWith s (rStmts s n) z.2.length 0 (dp + 1) (d1, z.2 ++ [x]) := ⟨_, rfl⟩
  have e3 : x.kind = 3 → rStmtWith s (rStmts s n) p b dp z = z1 := by
    intro e; unfold rStmtWith; rw [if_neg h20, hh, if_neg hst1]; simp only; rw [e, hz1]; rfl
  have e2 : x.kind = 2 → rStmtWith s (rStmts s n) p b dp z = rBlockWith s (rStmts s n) z.2.length 1 (dp + 1) z1 := by
    intro e; unfold rStmtWith; rw [if_neg h20, hh, if_neg hst1]; simp only; rw [e, hz1]; rfl
  have deadAll : Dead s z1.1 → Dead s (rStmtWith s (rStmts s n) p b dp z).1 := by
    intro hd
    rcases hk with e | e
    · rw [e2 e, hd.dBlock]; exact hd
    · rw [e3 e]; exact hd
  rcases hr with hd | ⟨m2, h2, s2, o2, t2⟩
  · left
    refine deadAll ?_
    rw [hz1]
    unfold rBlockWith
    rw [Dead.dStmts (z := (nd s d1 123, z.2 ++ [x])) hd]
    show Dead s (nd s (nd s d1 123) 125)
    rw [hd.dnd (by decide)]; exact hd
  have ht2 := top_snoc o2
  have hc2 : CorL (z.2 ++ [x]) m2.st := by rw [t2]; exact hc.snoc hcor
  have hM2 : Mz (nd s d1 123, z.2 ++ [x]) < n := by
    unfold Mz; rw [h2.ns]; simp; omega
  have hdp2 : (m2.op.length : Int) = dp + 1 := by rw [o2]; simp; omega
  have hz1' : z1 = (nd s (rStmts s n z.2.length 0 (dp + 1) (nd s d1 123, z.2 ++ [x])).1 125, (rStmts s n z.2.length 0 (dp + 1) (nd s d1 123, z.2 ++ [x])).2) := hz1
  rcases block_in H (z := (nd s d1 123, z.2 ++ [x])) z.2.length 0 (dp + 1) h2 s2 ht2.2.2 hdp2 hc2 hM2 with hd | ⟨m3, m4, ho3, ⟨f3, hf3⟩, hsh, h4⟩
  · left; refine deadAll ?_; rw [hz1']; exact hd
  obtain ⟨y, hy⟩ : ∃ y, y = rStmts s n z.2.length 0 (dp + 1) (nd s d1 123, z.2 ++ [x]) := ⟨_, rfl⟩
  rw [← hy] at ho3 hf3 h4 hz1'
  have hlen1 : z.2.length + 1 ≤ y.2.length := by have := ho3.len; simp at this; omega
  have hu3 : m3.st[z.2.length]? = some u := by
    rw [ho3.preS _ (by rw [t2]; simp; omega), t2, hl]; simp
  have hx3 : y.2[z.2.length]? = some x := by
    rw [ho3.preF _ (by simp)]; simp
  have hS3 : m3.st.length = y.2.length := ho3.cor.len.symm
  have o3 : m3.op = m.op ++ [⟨m.st.length, false⟩] := ho3.op.trans o2
  have ht3 := top_snoc o3
  have hg3 : m3.st.getD m.st.length noSt = u := by rw [← hl, List.getD_eq_getElem?_getD, hu3]; rfl
  have preS0 : ∀ i, i < m.st.length → m3.st[i]? = m.st[i]? := fun i hi => by
    rw [ho3.preS i (by rw [t2]; simp; omega), t2, List.getElem?_append_left hi]
  have preF0 : ∀ i, i < z.2.length → y.2[i]? = z.2[i]? := fun i hi => by
    rw [ho3.preF i (by simp; omega)]; exact List.getElem?_append_left hi
  simp only [shutStep] at hsh
  rw [ht3.1, ht3.2.1] at hsh
  simp only at hsh
  rw [hg3] at hsh
  rcases hk with hk | hk
  · -- two blocks
    have hku : u.kind = 63 := by rw [hcor.1, hk]; rfl
    rw [if_pos ⟨hku, by first | rfl | trivial⟩] at hsh
    simp only [Option.some.injEq] at hsh
    rw [e2 hk, hz1']
    have hb4 := byte_125 (m := m4) (by rw [← hsh]) (pk s (nd s y.1 125))
    have o4 : m4.op = m.op ++ [⟨m.st.length, false⟩] := by rw [← hsh]; exact o3
    have ht4 := top_snoc o4
    have hS4 : m4.st = m3.st.set m.st.length { u with fin := m3.st.length, mid := m3.st.length } := by rw [← hsh]
    unfold rBlockWith
    simp only
    rcases h4.aneed (c := 123) (m' := { m4 with op := m4.op.set (m4.op.length - 1) { top m4 with second := true }, state := 115 }) (by decide) (fun e => by rw [e, if_pos rfl] at hb4; exact hb4) (fun e => by rw [if_neg e] at hb4; exact hb4) (notDone (by rw [← hsh]; show (125 : Int) ≠ 115; decide)) with hd | ⟨m5, h5, e5⟩
    · left
      rw [Dead.dStmts (z := (nd s (nd s y.1 125) 123, y.2)) hd]
      show Dead s (nd s (nd s (nd s y.1 125) 123) 125)
      rw [hd.dnd (by decide)]; exact hd
    have o5 : m5.op = m.op ++ [⟨m.st.length, true⟩] := by rw [e5]; show m4.op.set _ _ = _; rw [ht4.1, o4]; simp
    have t5 : m5.st = m4.st := by rw [e5]
    have ht5 := top_snoc o5
    have hc5 : CorL y.2 m5.st := by rw [t5, hS4, ← hl]; exact ho3.cor.set hu3 (fun w hw => hw)
    have hM5 : Mz (nd s (nd s y.1 125) 123, y.2) < n := by
      unfold Mz; rw [h5.ns]; simp; omega
    have hdp5 : (m5.op.length : Int) = dp + 1 := by rw [o5]; simp; omega
    rcases block_in H (z := (nd s (nd s y.1 125) 123, y.2)) z.2.length 1 (dp + 1) h5 (by rw [e5]) ht5.2.2 hdp5 hc5 hM5 with hd | ⟨m6, m7, ho6, ⟨f6, hf6⟩, hsh7, h7⟩
    · left; exact hd
    right
    obtain ⟨y2, hy2⟩ : ∃ y2, y2 = rStmts s n z.2.length 1 (dp + 1) (nd s (nd s y.1 125) 123, y.2) := ⟨_, rfl⟩
    rw [← hy2] at ho6 hf6 h7 ⊢
    have hlen2 : y.2.length ≤ y2.2.length := ho6.len
    have o6 : m6.op = m.op ++ [⟨m.st.length, true⟩] := ho6.op.trans o5
    have ht6 := top_snoc o6
    have hl5 : m5.st.length = y.2.length := hc5.len.symm
    have hu6 : m6.st[m.st.length]? = some { u with fin := m3.st.length, mid := m3.st.length } := by
      rw [ho6.preS _ (by rw [hl5]; omega), t5, hS4, List.getElem?_set, if_pos rfl, if_pos (by rw [hS3]; omega)]
    have hg6 : m6.st.getD m.st.length noSt = { u with fin := m3.st.length, mid := m3.st.length } := by rw [List.getD_eq_getElem?_getD, hu6]; rfl
    simp only [shutStep] at hsh7
    rw [ht6.1, ht6.2.1] at hsh7
    simp only at hsh7
    rw [hg6, if_neg (by simp)] at hsh7
    simp only [Option.some.injEq] at hsh7
    have hS7 : m7.st = m6.st.set m.st.length { u with fin := m6.st.length, mid := m3.st.length } := by rw [← hsh7]
    have hS6 : m6.st.length = y2.2.length := ho6.cor.len.symm
    have far7 : ∀ i, i ≠ m.st.length → m7.st[i]? = m6.st[i]? := fun i hi => by rw [hS7, List.getElem?_set, if_neg (fun e => hi e.symm)]
    have far4 : ∀ i, i ≠ m.st.length → m4.st[i]? = m3.st[i]? := fun i hi => by rw [hS4, List.getElem?_set, if_neg (fun e => hi e.symm)]
    have pre6 : ∀ i, i < y.2.length → m6.st[i]? = m4.st[i]? := fun i hi => by rw [ho6.preS i (by rw [hl5]; exact hi), t5]
    refine ⟨m7, ⟨h7, by rw [← hsh7]; exact ho6.st, by rw [← hsh7], by rw [hS7]; exact ho6.cor.set hu6 (fun w hw => hw), fun i hi => (ho6.preF i (by show i < y.2.length; omega)).trans (preF0 i hi), fun i hi => by
      rw [far7 i (by omega), pre6 i (by omega), far4 i (by omega), preS0 i hi], by show z.2.length ≤ y2.2.length; omega⟩, f3 + f6, x, { u with fin := m6.st.length, mid := m3.st.length }, ?_, ?_, hp.1, hp.2, by show m6.st.length = y2.2.length; exact hS6, by show z.2.length < y2.2.length; omega, .inr (.inr ⟨hk, by show z.2.length + 1 ≤ m3.st.length; omega, by show m3.st.length ≤ y2.2.length; omega, ?_, ?_⟩)⟩
    · show y2.2[z.2.length]? = some x
      rw [ho6.preF _ (by show z.2.length < y.2.length; omega)]; exact hx3
    · rw [hS7, hl, List.getElem?_set, if_pos rfl, if_pos (by omega)]
    · show Blk y2.2 m7.st (f3 + f6) z.2.length 0 (z.2.length + 1) m3.st.length
      rw [hS3]
      have hb : Blk y.2 m3.st f3 z.2.length 0 (z.2.length + 1) y.2.length := by
        have h := hf3
        simp at h
        exact h
      exact (hb.keep (fun i h1 h2 => ho6.preF i h2) (fun i h1 h2 => by rw [far7 i (by omega), pre6 i h2, far4 i (by omega)])).more f6
    · show Blk y2.2 m7.st (f3 + f6) z.2.length 1 m3.st.length y2.2.length
      rw [hS3, Nat.add_comm]
      exact (hf6.keep (fun i _ _ => rfl) (fun i h1 h2 => far7 i (by have h1' : y.2.length ≤ i := h1; omega))).more f3
  · -- one block
    have hku : u.kind = 64 := by rw [hcor.1, hk]; rfl
    rw [if_neg (by rw [hku]; simp)] at hsh
    simp only [Option.some.injEq] at hsh
    right
    rw [e3 hk, hz1']
    have hS4 : m4.st = m3.st.set m.st.length { u with fin := m3.st.length } := by rw [← hsh]
    have far4 : ∀ i, i ≠ m.st.length → m4.st[i]? = m3.st[i]? := fun i hi => by rw [hS4, List.getElem?_set, if_neg (fun e => hi e.symm)]
    refine ⟨m4, ⟨h4, by rw [← hsh]; exact ho3.st, by rw [← hsh], by rw [hS4, ← hl]; exact ho3.cor.set hu3 (fun w hw => hw), preF0, fun i hi => by rw [far4 i (by omega), preS0 i hi], by show z.2.length ≤ y.2.length; omega⟩, f3, x, { u with fin := m3.st.length }, hx3, ?_, hp.1, hp.2, by show m3.st.length = y.2.length; exact hS3, by show z.2.length < y.2.length; omega, .inr (.inl ⟨hk, ?_⟩)⟩
    · rw [hS4, hl, List.getElem?_set, if_pos rfl, if_pos (by omega)]
    · show Blk y.2 m4.st f3 z.2.length 0 (z.2.length + 1) y.2.length
      have hb : Blk y.2 m3.st f3 z.2.length 0 (z.2.length + 1) y.2.length := by
        have h := hf3
        simp at h
        exact h
      exact hb.keep (fun i _ _ => rfl) (fun i h1 h2 => far4 i (by omega))

end Go.Proofs.YtffajooegiempaaDoor

namespace Go.Proofs.YtffajooegiempaaDoor
variable {s : ByteArray} {d : Nat × Bool} {m m' : Rd}

theorem rHead_val {x x1 : Ds} {d1 : Nat × Bool} {dp : Int} {y : Ds × (Nat × Bool)} (ek : rKind s d x dp = (x1, d1)) (h0 : x1.kind = 0) (hy : y = rValue s (nd s d1 61) x1) (hb : blocksOf y.1.kind = 0) : rHead s d x dp = (y.1, nd s y.2 59) := by
  unfold rHead
  rw [ek]
  have e : (if x1.kind = 0 then rValue s (nd s d1 61) x1 else rCond s d1 x1) = y := by rw [if_pos h0, hy]
  show (if blocksOf (if x1.kind = 0 then rValue s (nd s d1 61) x1 else rCond s d1 x1).1.kind = 0 then ((if x1.kind = 0 then rValue s (nd s d1 61) x1 else rCond s d1 x1).1, nd s (if x1.kind = 0 then rValue s (nd s d1 61) x1 else rCond s d1 x1).2 59) else (if x1.kind = 0 then rValue s (nd s d1 61) x1 else rCond s d1 x1)) = _
  rw [e, if_pos hb]
theorem rHead_cond {x x1 : Ds} {d1 : Nat × Bool} {dp : Int} {y : Ds × (Nat × Bool)} (ek : rKind s d x dp = (x1, d1)) (h0 : x1.kind ≠ 0) (hy : y = rCond s d1 x1) : rHead s d x dp = if blocksOf y.1.kind = 0 then (y.1, nd s y.2 59) else y := by
  unfold rHead
  rw [ek]
  have e : (if x1.kind = 0 then rValue s (nd s d1 61) x1 else rCond s d1 x1) = y := by rw [if_neg h0, hy]
  show (if blocksOf (if x1.kind = 0 then rValue s (nd s d1 61) x1 else rCond s d1 x1).1.kind = 0 then ((if x1.kind = 0 then rValue s (nd s d1 61) x1 else rCond s d1 x1).1, nd s (if x1.kind = 0 then rValue s (nd s d1 61) x1 else rCond s d1 x1).2 59) else (if x1.kind = 0 then rValue s (nd s d1 61) x1 else rCond s d1 x1)) = _
  rw [e]

theorem stmt_says {n : Nat} (H : Says s n) {z : Zt} (p b dp : Int) (h : Sync s z.1 m) (hs : m.state = 115) (hdp : (m.op.length : Int) = dp) (hc : CorL z.2 m.st) (hm : Mz z ≤ n) (h0 : pk s z.1 ≠ 0) (h125 : pk s z.1 ≠ 125) :
    Dead s (rStmtWith s (rStmts s n) p b dp z).1 ∨ ∃ m1, Out s z m (rStmtWith s (rStmts s n) p b dp z) m1 ∧ ∃ f, StmOk (rStmtWith s (rStmts s n) p b dp z).2 m1.st (Blk (rStmtWith s (rStmts s n) p b dp z).2 m1.st f) p b z.2.length (rStmtWith s (rStmts s n) p b dp z).2.length := by
  have hl := hc.len
  have hlen := h.aok.len
  have hb := byte_115 hs (pk s z.1)
  have hlt := (pk_lt rfl h0).1
  have dead0 : byteStep m (pk s z.1) = none → Dead s (stk z.1) := fun hn => h.adead hn (fun e => absurd hlt (by omega))
  by_cases h20 : 20 ≤ z.2.length
  · left
    have e : rStmtWith s (rStmts s n) p b dp z = (stk z.1, z.2) := if_pos h20
    rw [e]
    exact dead0 (by rw [hb]; exact start_full (by omega) h125)
  have hne : m.st.length ≠ 20 := by omega
  by_cases h33 : pk s z.1 = 33
  · have hst : startStep m (pk s z.1) = some (begun0 m 33 0 99) := by unfold startStep; rw [h33, if_neg (by decide), if_neg (by decide), if_pos rfl, begin_yes hne]
    rw [hst] at hb
    have h1 := h.aadv h0 hb
    have hcond := h1.cond rfl (.inl (by rw [cur_begun]; rfl)) { newDs p b with kind := 1 } (by rw [cur_begun]; exact ⟨rfl, rfl, rfl, rfl⟩) (by rw [cur_begun]; rfl)
    have hsame := rCond_same s (adv z.1) { newDs p b with kind := 1 }
    have hbh : behindOf (begun0 m 33 0 99) = 59 := by unfold behindOf; rw [cur_begun]; rfl
    have hopA : opAft (begun0 m 33 0 99) = m.op := by unfold opAft; rw [cur_begun]; rfl
    rw [hbh] at hcond
    obtain ⟨y, hy⟩ : ∃ y, y = rCond s (adv z.1) { newDs p b with kind := 1 } := ⟨_, rfl⟩
    rw [← hy] at hcond hsame
    have hh : rHead s z.1 (newDs p b) dp = (y.1, nd s y.2 59) := by
      have ek : rKind s z.1 (newDs p b) dp = ({ newDs p b with kind := 1 }, adv z.1) := if_pos h33
      exact (rHead_cond ek (by show (1 : Int) ≠ 0; decide) hy).trans (if_pos (by rw [hsame.1]; show blocksOf 1 = 0; decide))
    refine simple_says (u := { u0 m 33 0 with star := y.1.any, sg := y.1.sg, num := y.1.num }) hc h20 hh (.inr hsame.1) ⟨hsame.2.2.1, hsame.2.2.2⟩ ⟨by rw [hsame.1]; rfl, by rw [hsame.2.1]; rfl, rfl, rfl, rfl⟩ rfl ?_
    refine hcond.mono ?_
    rintro w - ⟨a, b', c⟩
    rw [cur_begun, setCur_begun] at b'
    exact ⟨a, c.trans hopA, b'⟩
  by_cases hq : pk s z.1 = 63 ∨ pk s z.1 = 64
  · obtain ⟨kk, hkk⟩ : ∃ kk : Int, (kk = 2 ∧ pk s z.1 = 63) ∨ (kk = 3 ∧ pk s z.1 = 64) := by
      rcases hq with e | e
      · exact ⟨2, .inl ⟨rfl, e⟩⟩
      · exact ⟨3, .inr ⟨rfl, e⟩⟩
    have ek : rKind s z.1 (newDs p b) dp = ({ newDs p b with kind := kk }, if 4 ≤ dp then stk z.1 else adv z.1) := by
      unfold rKind; rw [if_neg h33]
      rcases hkk with ⟨rfl, e⟩ | ⟨rfl, e⟩
      · rw [if_pos e]
      · rw [if_neg (by omega), if_pos e]
    have hkb : blocksOf kk ≠ 0 ∧ kk ≠ 0 := by rcases hkk with ⟨rfl, _⟩ | ⟨rfl, _⟩ <;> decide
    by_cases h4 : m.op.length < 4
    · have hst : startStep m (pk s z.1) = some (begun0 m (pk s z.1) 0 99) := by unfold startStep; rw [if_neg (by omega), if_pos hq, if_pos h4, begin_yes hne]
      rw [hst] at hb
      have h1 := h.aadv h0 hb
      have hcond := h1.cond rfl (.inr (by show m.op.length ≠ 4; omega)) { newDs p b with kind := kk } (by rw [cur_begun]; exact ⟨rfl, rfl, rfl, rfl⟩) (by rw [cur_begun]; rfl)
      have hsame := rCond_same s (adv z.1) { newDs p b with kind := kk }
      have hn33 : ¬ (cur (begun0 m (pk s z.1) 0 99)).kind = 33 := by rw [cur_begun]; exact h33
      have hbh : behindOf (begun0 m (pk s z.1) 0 99) = 123 := if_neg hn33
      have hopA : opAft (begun0 m (pk s z.1) 0 99) = m.op ++ [⟨m.st.length, false⟩] := by
        unfold opAft; rw [if_neg hn33]; show m.op ++ [⟨(m.st ++ [u0 m (pk s z.1) 0]).length - 1, false⟩] = _; simp
      rw [hbh] at hcond
      obtain ⟨y, hy⟩ : ∃ y, y = rCond s (adv z.1) { newDs p b with kind := kk } := ⟨_, rfl⟩
      rw [← hy] at hcond hsame
      have hh : rHead s z.1 (newDs p b) dp = (y.1, y.2) := by
        rw [if_neg (by omega)] at ek
        exact (rHead_cond ek hkb.2 hy).trans (if_neg (by rw [hsame.1]; exact hkb.1))
      refine blocks_says H (u := { u0 m (pk s z.1) 0 with star := y.1.any, sg := y.1.sg, num := y.1.num }) h.ns hm hdp hc h20 hh (by rw [hsame.1]; exact hkk.elim (fun e => .inl e.1) (fun e => .inr e.1)) ⟨hsame.2.2.1, hsame.2.2.2⟩ ⟨?_, by rw [hsame.2.1]; rfl, rfl, rfl, rfl⟩ ?_
      · show pk s z.1 = kindOf y.1.kind
        rw [hsame.1]
        rcases hkk with ⟨rfl, e⟩ | ⟨rfl, e⟩ <;> rw [e] <;> rfl
      · refine hcond.mono ?_
        rintro w - ⟨a, b', c⟩
        rw [cur_begun, setCur_begun] at b'
        exact ⟨a, c.trans hopA, b'⟩
    · left
      have hst : startStep m (pk s z.1) = none := by unfold startStep; rw [if_neg (by omega), if_pos hq, if_neg h4]
      have hd := dead0 (by rw [hb]; exact hst)
      have hh : (rHead s z.1 (newDs p b) dp).2 = stk z.1 := by
        rw [if_pos (by omega)] at ek
        rw [(rHead_cond ek hkb.2 rfl).trans (if_neg (by rw [(rCond_same s (stk z.1) { newDs p b with kind := kk }).1]; exact hkb.1))]
        exact hd.dCond _
      have e : (rStmtWith s (rStmts s n) p b dp z).1 = stk z.1 := by unfold rStmtWith; rw [if_neg h20, hh]; rfl
      rw [e]; exact hd
  by_cases hv : 97 ≤ pk s z.1 ∧ pk s z.1 ≤ 100
  · have hst : startStep m (pk s z.1) = some (begun0 m 61 (pk s z.1 - 97) 61) := by unfold startStep; rw [if_pos hv, begin_yes hne]
    rw [hst] at hb
    have h1 := h.aadv h0 hb
    have ev : rVar s z.1 (-1) = (pk s z.1 - 97, adv z.1) := by unfold rVar; rw [varOf_pos hv, if_neg (by omega)]
    have ek : rKind s z.1 (newDs p b) dp = ({ newDs p b with kind := 0, target := pk s z.1 - 97 }, adv z.1) := by
      unfold rKind; rw [if_neg h33, if_neg (fun e => hq (.inl e)), if_neg (fun e => hq (.inr e)), ev]
    obtain ⟨y, hy⟩ : ∃ y, y = rValue s (nd s (adv z.1) 61) { newDs p b with kind := 0, target := pk s z.1 - 97 } := ⟨_, rfl⟩
    have hsame := rValue_same s (nd s (adv z.1) 61) { newDs p b with kind := 0, target := pk s z.1 - 97 }
    rw [← hy] at hsame
    have hh : rHead s z.1 (newDs p b) dp = (y.1, nd s y.2 59) := by
      exact rHead_val ek rfl hy (by rw [hsame.1]; show blocksOf 0 = 0; decide)
    refine simple_says (u := { u0 m 61 (pk s z.1 - 97) with star := y.1.any, sg := y.1.sg, num := y.1.num }) hc h20 hh (.inl hsame.1) ⟨hsame.2.2.1, hsame.2.2.2⟩ ⟨by rw [hsame.1]; rfl, by rw [hsame.2.1]; rfl, rfl, rfl, rfl⟩ rfl ?_
    rcases h1.aneed (c := 61) (m' := { begun0 m 61 (pk s z.1 - 97) 61 with state := 118 }) (by decide) (fun e => by rw [byte_61 rfl, if_pos rfl]) (fun e => by rw [byte_61 rfl, if_neg e]) (notDone (by decide : (61 : Int) ≠ 115)) with hd | ⟨m2, h2, e2⟩
    · have e : y.2 = nd s (adv z.1) 61 := by rw [hy]; exact hd.dValue _
      rw [e, hd.dnd (by decide)]
      exact .inl hd
    · have ec : cur m2 = u0 m 61 (pk s z.1 - 97) := by rw [e2]; exact cur_begun 61 _ 61
      have hval := h2.value (by rw [e2]) (by rw [ec]; rfl) { newDs p b with kind := 0, target := pk s z.1 - 97 } (by rw [ec]; exact ⟨rfl, rfl, rfl, rfl⟩)
      rw [← hy] at hval
      refine hval.mono ?_
      rintro w - ⟨a, b', c⟩
      refine ⟨a, b'.trans (by rw [e2]; rfl), c.trans ?_⟩
      rw [ec, e2]
      exact setCur_begun 61 _ 61 _
  · left
    have hst : startStep m (pk s z.1) = none := by unfold startStep; rw [if_neg hv, if_neg hq, if_neg h33, if_neg (fun e => h125 e.1)]
    have hd := dead0 (by rw [hb]; exact hst)
    have ev : rVar s z.1 (-1) = (0, stk z.1) := by unfold rVar; rw [if_pos (.inl (varOf_neg hv))]
    have ek : rKind s z.1 (newDs p b) dp = ({ newDs p b with kind := 0, target := 0 }, stk z.1) := by
      unfold rKind; rw [if_neg h33, if_neg (fun e => hq (.inl e)), if_neg (fun e => hq (.inr e)), ev]
    have hh : (rHead s z.1 (newDs p b) dp).2 = stk z.1 := by
      rw [rHead_val ek rfl rfl (by rw [(rValue_same s (nd s (stk z.1) 61) { newDs p b with kind := 0, target := 0 }).1]; show blocksOf 0 = 0; decide)]
      show nd s (rValue s (nd s (stk z.1) 61) _).2 59 = _
      rw [hd.dnd (by decide), hd.dValue, hd.dnd (by decide)]
    have e : (rStmtWith s (rStmts s n) p b dp z).1 = stk z.1 := by unfold rStmtWith; rw [if_neg h20, hh]; rfl
    rw [e]; exact hd

theorem says_all (s : ByteArray) (n : Nat) : Says s n := by
  induction n with
  | zero => intro p b dp z m _ _ _ _ hm; omega
  | succ n ih =>
    intro p b dp z m h hs hdp hc hm
    by_cases he : pk s z.1 = 0 ∨ pk s z.1 = 125
    · right
      have e : rStmts s (n + 1) p b dp z = z := by unfold rStmts; rw [if_pos he]
      rw [e]
      exact ⟨m, ⟨h, hs, rfl, hc, Pre.refl _, Pre.refl _, Nat.le_refl _⟩, ⟨0, rfl⟩, he⟩
    · have e : rStmts s (n + 1) p b dp z = rStmts s n p b dp (rStmtWith s (rStmts s n) p b dp z) := by rw [rStmts, if_neg he]
      have hzok : Zok s z := ⟨h.le, by rw [hc.len]; exact h.aok.len⟩
      have hMd := Mz_stmt (rStmts s n) (rStmts_goes s n) p b dp hzok h.ns
      rw [e]
      rcases stmt_says ih p b dp h hs hdp hc (by omega) (fun e => he (.inl e)) (fun e => he (.inr e)) with hd | ⟨m1, ho, f1, hst⟩
      · left; rw [hd.dStmts]; exact hd
      obtain ⟨y, hy⟩ : ∃ y, y = rStmtWith s (rStmts s n) p b dp z := ⟨_, rfl⟩
      rw [← hy] at ho hst hMd ⊢
      rcases ih p b dp y m1 ho.sync ho.st (by rw [ho.op]; exact hdp) ho.cor (by omega) with hd | ⟨m2, ho2, ⟨f2, hf2⟩, hpk⟩
      · left; exact hd
      · right
        have hlen1 := ho.cor.len
        refine ⟨m2, ⟨ho2.sync, ho2.st, ho2.op.trans ho.op, ho2.cor, ho.preF.trans ho2.preF ho.len, ho.preS.trans ho2.preS (by rw [← hlen1, ← hc.len]; exact ho.len), Nat.le_trans ho.len ho2.len⟩, ⟨f1 + f2 + 1, .inr ⟨y.2.length, ho2.len, ?_, ?_⟩⟩, hpk⟩
        · have hlt := hst.lt
          refine hst.into (ho2.preF _ hlt) (ho2.preS _ (by rw [← hlen1]; exact hlt)) (fun _ _ i j hi hij hj hR => ?_)
          exact (Blk.keep hR (fun k h1 h2 => ho2.preF k (by omega)) (fun k h1 h2 => ho2.preS k (by rw [← hlen1]; omega))).more f2
        · rw [Nat.add_comm f1 f2]; exact hf2.more f1

/-- What is read of the whole text. -/
theorem read_says (s : ByteArray) : Dead s (readZ s).1 ∨ ∃ m, Out s ((0, false), []) init (readZ s) m ∧ (∃ f, Blk (readZ s).2 m.st f (-1) 0 0 (readZ s).2.length) ∧ (pk s (readZ s).1 = 0 ∨ pk s (readZ s).1 = 125) :=
  says_all s 22 (-1) 0 0 ((0, false), []) init ⟨rfl, Nat.zero_le _, rfl⟩ rfl rfl ⟨rfl, fun i x u h => by simp at h⟩ (by decide)

theorem take_all (s : ByteArray) : (bytesOf s).take s.size = bytesOf s := List.take_of_length_le (by rw [bytesOf_len]; exact Nat.le_refl _)
theorem getD_get {s : ByteArray} {k : Nat} (h : k < s.size) : (bytesOf s)[k]? = some ((bytesOf s).getD k 0) := by rw [List.getD_eq_getElem?_getD, bytesOf_get s k h]; rfl

/-- Both Scans answer the same. -/
theorem scan_same (s : ByteArray) : scanD s = scanOf (bytesOf s) := by
  have hl := bytesOf_len s
  by_cases h : 160 < s.size
  · unfold scanD scanOf; rw [if_pos h, if_pos (by omega)]
  have hof : ∀ x, scanOf (bytesOf s) = x ↔ (match readFrom init (bytesOf s) 0 with
    | (n, none) => (0, 1, n)
    | (n, some m) => if isDone m then ((m.st.length : Int) + 1, 0, 0) else (0, 1, n)) = x := by intro x; unfold scanOf; rw [if_neg (by omega)]; exact Iff.rfl
  symm
  rw [hof]
  have rest : ∀ (m : Rd), feed init ((bytesOf s).take (readZ s).1.1) = some m → (readZ s).1.1 < s.size → byteStep m ((bytesOf s).getD (readZ s).1.1 0) = none → readGood s = false → (match readFrom init (bytesOf s) 0 with
    | (n, none) => (0, 1, (n : Int))
    | (n, some m) => if isDone m then ((m.st.length : Int) + 1, 0, 0) else (0, 1, n)) = scanD s := by
    intro m hf hlt hb hg
    rw [readFrom_none (n := 0) hf (getD_get hlt) hb]
    unfold scanD; rw [if_neg h, hg]; simp
  rcases read_says s with hd | ⟨m, ho, _, hpk⟩
  · obtain ⟨m, hf, hle, h1, h2⟩ := hd.ex
    have hg : readGood s = false := by unfold readGood; rw [hd.st]; rfl
    by_cases hlt : (readZ s).1.1 < s.size
    · exact rest m hf hlt (h1 hlt) hg
    · have he : (readZ s).1.1 = s.size := by omega
      rw [he, take_all] at hf
      rw [readFrom_some (n := 0) hf]
      simp only
      rw [h2 he]
      unfold scanD; rw [if_neg h, hg]; simp; omega
  · have hf := ho.sync.fd
    have hop : m.op = [] := ho.op
    by_cases hlt : (readZ s).1.1 < s.size
    · have hg : readGood s = false := by unfold readGood; rw [ho.sync.ns]; simp; omega
      refine rest m hf hlt ?_ hg
      rw [← ho.sync.apk, byte_115 ho.st]
      rcases hpk with e | e
      · rw [e]; unfold startStep; rw [if_neg (by decide), if_neg (by decide), if_neg (by decide), if_neg (by omega)]
      · rw [e]; unfold startStep; rw [if_neg (by decide), if_neg (by decide), if_neg (by decide), if_neg (by rw [hop]; simp)]
    · have hg : readGood s = true := by unfold readGood; rw [ho.sync.ns]; simp; omega
      have he : (readZ s).1.1 = s.size := by have := ho.sync.le; omega
      rw [he, take_all] at hf
      rw [readFrom_some (n := 0) hf]
      have hdn : isDone m = true := by unfold isDone; rw [ho.st, hop]; rfl
      simp only
      rw [hdn]
      unfold scanD; rw [if_neg h, hg, ho.cor.len]; rfl

end Go.Proofs.YtffajooegiempaaDoor

/- What follows a statement: the program's way and the document's. No Go in here. -/
namespace Go.Proofs.YtffajooegiempaaDoor

variable {F : List Ds} {S : List St}

/-- Whose parents lie where. -/
theorem Blk.par {f : Nat} : ∀ {p b : Int} {a c : Nat}, Blk F S f p b a c → ∀ j, a ≤ j → j < c → ∃ x, F[j]? = some x ∧ ((x.parent = p ∧ x.block = b) ∨ ((a : Int) ≤ x.parent ∧ x.parent < j)) := by
  induction f with
  | zero => intro p b a c h j h1 h2; have h' : a = c := h; omega
  | succ f ih =>
    intro p b a c h j h1 h2
    rcases h with h | ⟨e, he, hs, hr⟩
    · omega
    · obtain ⟨x, u, hx, hu, hp, hb, hf, hae, hk⟩ := hs
      by_cases hj : j = a
      · subst hj; exact ⟨x, hx, .inl ⟨hp, hb⟩⟩
      · by_cases hje : j < e
        · rcases hk with ⟨_, hk⟩ | ⟨_, hk⟩ | ⟨_, q1, q2, hk1, hk2⟩
          · omega
          · obtain ⟨y, hy, h3⟩ := ih hk j (by omega) hje
            refine ⟨y, hy, .inr ?_⟩
            rcases h3 with ⟨h3, _⟩ | h3 <;> omega
          · by_cases hjq : j < u.mid
            · obtain ⟨y, hy, h3⟩ := ih hk1 j (by omega) hjq
              refine ⟨y, hy, .inr ?_⟩
              rcases h3 with ⟨h3, _⟩ | h3 <;> omega
            · obtain ⟨y, hy, h3⟩ := ih hk2 j (by omega) hje
              refine ⟨y, hy, .inr ?_⟩
              rcases h3 with ⟨h3, _⟩ | h3 <;> omega
        · obtain ⟨y, hy, h3⟩ := ih hr j (by omega) h2
          refine ⟨y, hy, ?_⟩
          rcases h3 with h3 | h3
          · exact .inl h3
          · exact .inr (by omega)

/-- No statement ends behind its block. -/
theorem Blk.fins {f : Nat} : ∀ {p b : Int} {a c : Nat}, Blk F S f p b a c → ∀ j, a ≤ j → j < c → ∃ u, S[j]? = some u ∧ j < u.fin ∧ u.fin ≤ c := by
  induction f with
  | zero => intro p b a c h j h1 h2; have h' : a = c := h; omega
  | succ f ih =>
    intro p b a c h j h1 h2
    rcases h with h | ⟨e, he, hs, hr⟩
    · omega
    · obtain ⟨x, u, hx, hu, hp, hb, hf, hae, hk⟩ := hs
      by_cases hj : j = a
      · subst hj; exact ⟨u, hu, by omega, by omega⟩
      · by_cases hje : j < e
        · rcases hk with ⟨_, hk⟩ | ⟨_, hk⟩ | ⟨_, q1, q2, hk1, hk2⟩
          · omega
          · obtain ⟨v, hv, h3, h4⟩ := ih hk j (by omega) hje
            exact ⟨v, hv, h3, by omega⟩
          · by_cases hjq : j < u.mid
            · obtain ⟨v, hv, h3, h4⟩ := ih hk1 j (by omega) hjq
              exact ⟨v, hv, h3, by omega⟩
            · obtain ⟨v, hv, h3, h4⟩ := ih hk2 j (by omega) hje
              exact ⟨v, hv, h3, by omega⟩
        · exact ih hr j (by omega) h2

/-- A statement of the block itself: those ahead of it end there at the latest; from it on the block goes on. -/
theorem Blk.at_ {f : Nat} : ∀ {p b : Int} {a c : Nat}, Blk F S f p b a c → p < a → ∀ i x, a ≤ i → i < c → F[i]? = some x → x.parent = p → (∀ k, a ≤ k → k < i → ∃ u, S[k]? = some u ∧ u.fin ≤ i) ∧ ∃ g e, e ≤ c ∧ StmOk F S (Blk F S g) p b i e ∧ Blk F S g p b e c := by
  induction f with
  | zero => intro p b a c h _ i x h1 h2; have h' : a = c := h; omega
  | succ f ih =>
    intro p b a c h hpa i x h1 h2 hx hp
    rcases h with h | ⟨e, he, hs, hr⟩
    · omega
    · have hae := hs.lt
      by_cases hi : i = a
      · subst hi
        exact ⟨fun k h3 h4 => by omega, f, e, he, hs, hr⟩
      · have hall : Blk F S (f + 1) p b a c := .inr ⟨e, he, hs, hr⟩
        have hone : Blk F S (f + 1) p b a e := .inr ⟨e, Nat.le_refl _, hs, by cases f with | zero => exact rfl | succ f => exact .inl rfl⟩
        by_cases hie : i < e
        · exfalso
          obtain ⟨y, u, hy, hu, hp', hb', hf, hae', hk⟩ := hs
          have inner : ∀ (b : Int) (a1 c1 : Nat), a + 1 ≤ a1 → Blk F S f a b a1 c1 → a1 ≤ i → i < c1 → False := by
            intro b a1 c1 ha1 hB h3 h4
            obtain ⟨z, hz, h5⟩ := hB.par i h3 h4
            rw [hx] at hz
            cases hz
            rcases h5 with ⟨h5, _⟩ | h5 <;> omega
          rcases hk with ⟨_, hk⟩ | ⟨_, hk⟩ | ⟨_, q1, q2, hk1, hk2⟩
          · omega
          · exact inner _ _ _ (by omega) hk (by omega) hie
          · by_cases hjq : i < u.mid
            · exact inner _ _ _ (by omega) hk1 (by omega) hjq
            · exact inner _ _ _ (by omega) hk2 (by omega) hie
        · obtain ⟨h3, h4⟩ := ih hr (by omega) i x (by omega) h2 hx hp
          refine ⟨fun k hk1 hk2 => ?_, h4⟩
          by_cases hke : k < e
          · obtain ⟨v, hv, _, h6⟩ := hone.fins k hk1 hke
            exact ⟨v, hv, by omega⟩
          · exact h3 k (by omega) hk2

/-- Where the block of a statement begins and ends. -/
def Ctx (F : List Ds) (S : List St) (p b : Int) (a c : Nat) : Prop :=
  (p = -1 ∧ b = 0 ∧ a = 0 ∧ c = F.length) ∨ ∃ (q : Nat) (x : Ds) (u : St), p = q ∧ F[q]? = some x ∧ S[q]? = some u ∧
    ((x.kind = 3 ∧ b = 0 ∧ a = q + 1 ∧ c = u.fin) ∨ (x.kind = 2 ∧ b = 0 ∧ a = q + 1 ∧ c = u.mid ∧ u.mid ≤ u.fin) ∨ (x.kind = 2 ∧ b = 1 ∧ a = u.mid ∧ c = u.fin ∧ q + 1 ≤ u.mid))

theorem Ctx.lt {p b : Int} {a c : Nat} (h : Ctx F S p b a c) : p < a := by
  rcases h with ⟨h1, _, h3, _⟩ | ⟨q, x, u, h1, _, _, h2⟩
  · omega
  · rcases h2 with h2 | h2 | h2 <;> omega

/-- Each statement stands in a block. -/
theorem Blk.pos {f : Nat} : ∀ {p b : Int} {a c : Nat}, Blk F S f p b a c → (∃ a0, a0 ≤ a ∧ Ctx F S p b a0 c ∧ ∃ g, Blk F S g p b a0 c) → ∀ i, a ≤ i → i < c → ∃ x a0 c0, F[i]? = some x ∧ a0 ≤ i ∧ i < c0 ∧ Ctx F S x.parent x.block a0 c0 ∧ ∃ g, Blk F S g x.parent x.block a0 c0 := by
  induction f with
  | zero => intro p b a c h _ i h1 h2; have h' : a = c := h; omega
  | succ f ih =>
    intro p b a c h hctx i h1 h2
    obtain ⟨a0, ha0, hC, g, hg⟩ := hctx
    rcases h with h | ⟨e, he, hs, hr⟩
    · omega
    · obtain ⟨x, u, hx, hu, hp, hb, hf, hae, hk⟩ := hs
      by_cases hi : i = a
      · subst hi
        exact ⟨x, a0, c, hx, ha0, h2, by rw [hp, hb]; exact hC, g, by rw [hp, hb]; exact hg⟩
      · by_cases hie : i < e
        · rcases hk with ⟨_, hk⟩ | ⟨k3, hk⟩ | ⟨k2, q1, q2, hk1, hk2⟩
          · omega
          · exact ih hk ⟨a + 1, Nat.le_refl _, .inr ⟨a, x, u, rfl, hx, hu, .inl ⟨k3, rfl, rfl, hf.symm⟩⟩, f, hk⟩ i (by omega) hie
          · by_cases hiq : i < u.mid
            · exact ih hk1 ⟨a + 1, Nat.le_refl _, .inr ⟨a, x, u, rfl, hx, hu, .inr (.inl ⟨k2, rfl, rfl, rfl, by omega⟩)⟩, f, hk1⟩ i (by omega) hiq
            · exact ih hk2 ⟨u.mid, Nat.le_refl _, .inr ⟨a, x, u, rfl, hx, hu, .inr (.inr ⟨k2, rfl, rfl, hf.symm, by omega⟩)⟩, f, hk2⟩ i (by omega) hie
        · exact ih hr ⟨a0, by omega, hC, g, hg⟩ i (by omega) h2

/-- The whole program. -/
def Whole (F : List Ds) (S : List St) : Prop := CorL F S ∧ ∃ f, Blk F S f (-1) 0 0 F.length

theorem Whole.pos (h : Whole F S) (i : Nat) (hi : i < F.length) : ∃ x a0 c0, F[i]? = some x ∧ a0 ≤ i ∧ i < c0 ∧ Ctx F S x.parent x.block a0 c0 ∧ ∃ g, Blk F S g x.parent x.block a0 c0 := by
  obtain ⟨_, f, hf⟩ := h
  exact hf.pos ⟨0, Nat.le_refl _, .inl ⟨rfl, rfl, rfl, rfl⟩, f, hf⟩ i (Nat.zero_le _) hi

end Go.Proofs.YtffajooegiempaaDoor

namespace Go.Proofs.YtffajooegiempaaDoor

variable {F : List Ds} {S : List St}

theorem getD_some {α : Type} {l : List α} {i : Nat} {x d : α} (h : l[i]? = some x) : l.getD i d = x := by rw [List.getD_eq_getElem?_getD, h]; rfl

theorem firstGo_hit {p b fr : Int} : ∀ (l : List Ds) (i j : Nat) (x : Ds), l[j]? = some x → fr ≤ ((i + j : Nat) : Int) → x.parent = p → x.block = b → (∀ k y, k < j → l[k]? = some y → fr ≤ ((i + k : Nat) : Int) → ¬ (y.parent = p ∧ y.block = b)) → firstGo p b fr l i = ((i + j : Nat) : Int) := by
  intro l
  induction l with
  | nil => intro i j x h; simp at h
  | cons y l ih =>
    intro i j x h hf hp hb hno
    cases j with
    | zero =>
      simp at h
      subst h
      simp only [firstGo]
      rw [if_pos ⟨by simpa using hf, hp, hb⟩]; rfl
    | succ j =>
      simp only [firstGo]
      rw [if_neg (by
        rintro ⟨h1, h2⟩
        exact hno 0 y (by omega) rfl (by simpa using h1) h2)]
      rw [ih (i + 1) j x (by simpa using h) (by rw [show i + 1 + j = i + (j + 1) by omega]; exact hf) hp hb (fun k z hk hz hfk => hno (k + 1) z (by omega) (by simpa using hz) (by rw [show i + (k + 1) = i + 1 + k by omega]; exact hfk))]
      rw [show i + 1 + j = i + (j + 1) by omega]
theorem firstGo_miss {p b fr : Int} : ∀ (l : List Ds) (i : Nat), (∀ k y, l[k]? = some y → fr ≤ ((i + k : Nat) : Int) → ¬ (y.parent = p ∧ y.block = b)) → firstGo p b fr l i = -1 := by
  intro l
  induction l with
  | nil => intro i _; rfl
  | cons y l ih =>
    intro i hno
    simp only [firstGo]
    rw [if_neg (by
      rintro ⟨h1, h2⟩
      exact hno 0 y rfl (by simpa using h1) h2)]
    exact ih (i + 1) (fun k z hz hfk => hno (k + 1) z (by simpa using hz) (by rw [show i + (k + 1) = i + 1 + k by omega]; exact hfk))

theorem lastOpen_hit {i q : Nat} : ∀ (k : Nat), q < k → i < (S.getD q noSt).fin → (∀ j, q < j → j < k → (S.getD j noSt).fin ≤ i) → lastOpen S i k = q := by
  intro k
  induction k with
  | zero => intro h; omega
  | succ k ih =>
    intro h1 h2 h3
    unfold lastOpen
    by_cases e : q = k
    · subst e; rw [if_pos h2]
    · rw [if_neg (by have := h3 k (by omega) (by omega); omega)]
      exact ih (by omega) h2 (fun j hj hjk => h3 j hj (by omega))
theorem lastOpen_miss {i : Nat} : ∀ (k : Nat), (∀ j, j < k → (S.getD j noSt).fin ≤ i) → lastOpen S i k = -1 := by
  intro k
  induction k with
  | zero => intro _; rfl
  | succ k ih =>
    intro h
    unfold lastOpen
    rw [if_neg (by have := h k (by omega); omega)]
    exact ih (fun j hj => h j (by omega))

theorem StmOk.par {g : Nat} {p b : Int} {a e : Nat} (h : StmOk F S (Blk F S g) p b a e) (j : Nat) (h1 : a < j) (h2 : j < e) : ∃ x, F[j]? = some x ∧ (a : Int) ≤ x.parent := by
  obtain ⟨x, u, hx, hu, hp, hb, hf, hae, hk⟩ := h
  rcases hk with ⟨_, hk⟩ | ⟨_, hk⟩ | ⟨_, q1, q2, hk1, hk2⟩
  · omega
  · obtain ⟨y, hy, h3⟩ := hk.par j (by omega) h2
    exact ⟨y, hy, by rcases h3 with ⟨h3, _⟩ | h3 <;> omega⟩
  · by_cases hjq : j < u.mid
    · obtain ⟨y, hy, h3⟩ := hk1.par j (by omega) hjq
      exact ⟨y, hy, by rcases h3 with ⟨h3, _⟩ | h3 <;> omega⟩
    · obtain ⟨y, hy, h3⟩ := hk2.par j (by omega) h2
      exact ⟨y, hy, by rcases h3 with ⟨h3, _⟩ | h3 <;> omega⟩

theorem Ctx.det {p b : Int} {a c a' c' : Nat} (h : Ctx F S p b a c) (k : Ctx F S p b a' c') : a = a' ∧ c = c' := by
  rcases h with ⟨h1, h2, h3, h4⟩ | ⟨q, x, u, h1, hx, hu, h2⟩
  · rcases k with ⟨k1, k2, k3, k4⟩ | ⟨q', x', u', k1, kx, ku, k2⟩
    · exact ⟨by omega, by omega⟩
    · omega
  · rcases k with ⟨k1, k2, k3, k4⟩ | ⟨q', x', u', k1, kx, ku, k2⟩
    · omega
    · have e : q = q' := by omega
      subst e
      rw [hx] at kx
      rw [hu] at ku
      cases kx
      cases ku
      rcases h2 with h2 | h2 | h2 <;> rcases k2 with k2 | k2 | k2 <;> omega

/-- All that is known of one statement. -/
theorem Whole.at_ (h : Whole F S) (i : Nat) (hi : i < F.length) : ∃ x u a0 c0 g, F[i]? = some x ∧ S[i]? = some u ∧ Cor x u ∧ a0 ≤ i ∧ i < u.fin ∧ u.fin ≤ c0 ∧ Ctx F S x.parent x.block a0 c0 ∧
    StmOk F S (Blk F S g) x.parent x.block i u.fin ∧ Blk F S g x.parent x.block u.fin c0 ∧ (∀ k, a0 ≤ k → k < i → (S.getD k noSt).fin ≤ i) := by
  obtain ⟨x, a0, c0, hx, ha, hc, hC, g, hg⟩ := h.pos i hi
  obtain ⟨h1, g', e, he, hs, hr⟩ := hg.at_ hC.lt i x ha hc hx rfl
  obtain ⟨y, u, hy, hu, hp, hb, hf, hae, hk⟩ := hs
  rw [hx] at hy
  cases hy
  subst hf
  exact ⟨x, u, a0, c0, g', hx, hu, h.1.cor i x u hx hu, ha, hae, he, hC, ⟨x, u, hx, hu, hp, hb, rfl, hae, hk⟩, hr, fun k hk1 hk2 => by
    obtain ⟨v, hv, hvf⟩ := h1 k hk1 hk2
    rw [getD_some hv]; exact hvf⟩

/-- What comes next in the block. -/
theorem Whole.first (h : Whole F S) {i : Nat} {x : Ds} {u : St} {a0 c0 g : Nat} (_hx : F[i]? = some x) (ha : a0 ≤ i) (hfc : u.fin ≤ c0) (hif : i < u.fin) (hC : Ctx F S x.parent x.block a0 c0) (hs : StmOk F S (Blk F S g) x.parent x.block i u.fin) (hr : Blk F S g x.parent x.block u.fin c0) :
    firstP F x.parent x.block (i + 1) = if u.fin < c0 then (u.fin : Int) else -1 := by
  have hplt := hC.lt
  have hin : ∀ k y, i < k → k < u.fin → F[k]? = some y → ¬ (y.parent = x.parent ∧ y.block = x.block) := by
    rintro k y h1 h2 hy ⟨h3, _⟩
    obtain ⟨z, hz, h4⟩ := hs.par k h1 h2
    rw [hy] at hz
    cases hz
    omega
  by_cases hlt : u.fin < c0
  · rw [if_pos hlt]
    obtain ⟨y, hy, hyp⟩ : ∃ y, F[u.fin]? = some y ∧ y.parent = x.parent ∧ y.block = x.block := by
      cases g with
      | zero => have h' : u.fin = c0 := hr; omega
      | succ g =>
        rcases hr with hr | ⟨e, he, hs2, _⟩
        · omega
        · obtain ⟨y, v, hy, _, hp, hb, _⟩ := hs2
          exact ⟨y, hy, hp, hb⟩
    have := firstGo_hit (p := x.parent) (b := x.block) (fr := (i : Int) + 1) F 0 u.fin y hy (by omega) hyp.1 hyp.2 (fun k z hk hz hf => hin k z (by omega) hk hz)
    rw [Nat.zero_add] at this
    exact this
  · rw [if_neg hlt]
    refine firstGo_miss F 0 (fun k y hy hf hm => ?_)
    have hk : k < F.length := by
      rcases Nat.lt_or_ge k F.length with h' | h'
      · exact h'
      · simp [List.getElem?_eq_none h'] at hy
    obtain ⟨z, a1, c1, hz, _, hkc, hC1, _⟩ := h.pos k hk
    rw [hy] at hz
    cases hz
    rw [hm.1, hm.2] at hC1
    have := hC.det hC1
    exact hin k y (by omega) (by omega) hy hm

/-- The statement in whose block it stands. -/
theorem Whole.open_ (h : Whole F S) {i : Nat} (_hi : i < F.length) {x : Ds} {a0 c0 : Nat} (hC : Ctx F S x.parent x.block a0 c0) (hic : i < c0) (hai : a0 ≤ i) (hk : ∀ k, a0 ≤ k → k < i → (S.getD k noSt).fin ≤ i) : lastOpen S i i = x.parent := by
  rcases hC with ⟨h1, h2, h3, h4⟩ | ⟨q, y, v, h1, hy, hv, h2⟩
  · rw [h1]; exact lastOpen_miss i (fun j hj => hk j (by omega) hj)
  · rw [h1]
    have hq : q < F.length := by
      rcases Nat.lt_or_ge q F.length with h' | h'
      · exact h'
      · simp [List.getElem?_eq_none h'] at hy
    have hvD : S.getD q noSt = v := getD_some hv
    obtain ⟨y', v', a1, c1, g1, hy', hv', _, _, hq1, _, _, hs, _, _⟩ := h.at_ q hq
    rw [hy] at hy'
    rw [hv] at hv'
    cases hy'
    cases hv'
    refine lastOpen_hit i (by rcases h2 with h2 | h2 | h2 <;> omega) (by rw [hvD]; rcases h2 with h2 | h2 | h2 <;> omega) (fun j hj1 hj2 => ?_)
    by_cases hja : a0 ≤ j
    · exact hk j hja hj2
    · obtain ⟨y2, v2, hy2, hv2, _, _, _, _, hkk⟩ := hs
      rw [hy] at hy2
      rw [hv] at hv2
      cases hy2
      cases hv2
      rcases hkk with ⟨hk0, _⟩ | ⟨hk3, _⟩ | ⟨_, q1, q2, hk1, _⟩
      · rcases h2 with h2 | h2 | h2 <;> omega
      · rcases h2 with h2 | h2 | h2 <;> omega
      · have hjm : j < v.mid := by rcases h2 with h2 | h2 | h2 <;> omega
        obtain ⟨t, ht, _, htf⟩ := hk1.fins j (by omega) hjm
        rw [getD_some ht]
        rcases h2 with h2 | h2 | h2 <;> omega

theorem follow_same (h : Whole F S) : ∀ (n i : Nat), i < F.length → i < n → followP F n i = followR S n i := by
  intro n
  induction n with
  | zero => intro i _ hi; omega
  | succ n ih =>
    intro i hi hn
    obtain ⟨x, u, a0, c0, g, hx, hu, hcor, ha, hif, hfc, hC, hs, hr, hk⟩ := h.at_ i hi
    have hxD : F.getD i (newDs 0 0) = x := getD_some hx
    have huD : S.getD i noSt = u := getD_some hu
    have hfirst := h.first hx ha hfc hif hC hs hr
    have hopen := h.open_ hi hC (by omega) ha hk
    have e1 : followP F (n + 1) i = if firstP F x.parent x.block (i + 1) ≠ -1 then firstP F x.parent x.block (i + 1) else if isRepP F x.parent = true then x.parent else followP F n x.parent := by
      rw [followP, if_neg (by omega)]
      simp only [Int.toNat_natCast]
      rw [hxD]
    have e2 : followR S (n + 1) i = if x.parent < 0 then (u.fin : Int) else if u.fin < endOf (S.getD x.parent.toNat noSt) i then (u.fin : Int) else if (S.getD x.parent.toNat noSt).kind = 64 then x.parent else followR S n x.parent.toNat := by
      rw [followR, hopen, huD]
    rw [e1, e2, hfirst]
    rcases hC with ⟨h1, h2, h3, h4⟩ | ⟨q, y, v, h1, hy, hv, h2⟩
    · rw [h1, if_pos (by decide : (-1 : Int) < 0)]
      by_cases hlt : u.fin < c0
      · rw [if_pos hlt, if_pos (show ((u.fin : Int) ≠ -1) by omega)]
      · rw [if_neg hlt, if_neg (show ¬ ((-1 : Int) ≠ -1) by decide), if_neg (show ¬ (isRepP F (-1) = true) by simp [isRepP])]
        cases n with
        | zero => show (F.length : Int) = _; omega
        | succ n => rw [followP, if_pos (.inl (by decide))]; omega
    · have hyD : F.getD q (newDs 0 0) = y := getD_some hy
      have hvD : S.getD q noSt = v := getD_some hv
      have hq : q < F.length := by
        rcases Nat.lt_or_ge q F.length with h' | h'
        · exact h'
        · simp [List.getElem?_eq_none h'] at hy
      have hcor2 := h.1.cor q y v hy hv
      rw [h1, if_neg (show ¬ ((q : Int) < 0) by omega)]
      simp only [Int.toNat_natCast]
      rw [hvD]
      have hend : endOf v i = c0 := by
        unfold endOf
        rcases h2 with ⟨k3, _, _, hc⟩ | ⟨k2, _, _, hc, _⟩ | ⟨k2, _, hm, hc, _⟩
        · rw [if_neg (by rw [hcor2.1, k3]; rintro ⟨e, _⟩; exact absurd e (by decide))]; exact hc.symm
        · rw [if_pos ⟨by rw [hcor2.1, k2]; rfl, by omega⟩]; exact hc.symm
        · rw [if_neg (by omega)]; exact hc.symm
      rw [hend]
      by_cases hlt : u.fin < c0
      · rw [if_pos hlt, if_pos (show ((u.fin : Int) ≠ -1) by omega), if_pos hlt]
      · rw [if_neg hlt, if_neg (show ¬ ((-1 : Int) ≠ -1) by decide), if_neg hlt]
        have hqi : q < i := by rcases h2 with h2 | h2 | h2 <;> omega
        have hrep : isRepP F q = decide (y.kind = 3) := by
          have e : (F.getD ((q : Int)).toNat (newDs 0 0)).kind = y.kind := by rw [Int.toNat_natCast, hyD]
          unfold isRepP
          simp only [e]
          rw [decide_eq_true (show (0 : Int) ≤ q by omega), decide_eq_true (show (q : Int) < F.length by omega)]
          rfl
        have hkind : v.kind = 64 ↔ y.kind = 3 := by
          rw [hcor2.1]
          rcases h2 with h2 | h2 | h2
          · rw [h2.1]; decide
          · rw [h2.1]; decide
          · rw [h2.1]; decide
        rw [hrep]
        by_cases hk3 : y.kind = 3
        · rw [if_pos (by simp [hk3]), if_pos (hkind.2 hk3)]
        · rw [if_neg (by simp [hk3]), if_neg (fun e => hk3 (hkind.1 e))]
          exact ih q hq (by omega)

end Go.Proofs.YtffajooegiempaaDoor

namespace Go.Proofs.YtffajooegiempaaDoor

variable {F : List Ds} {S : List St}

theorem Whole.par (h : Whole F S) (k : Nat) (x : Ds) (hx : F[k]? = some x) : -1 ≤ x.parent ∧ x.parent < (k : Int) := by
  have hk : k < F.length := by
    rcases Nat.lt_or_ge k F.length with h' | h'
    · exact h'
    · simp [List.getElem?_eq_none h'] at hx
  obtain ⟨y, a0, c0, hy, ha, _, hC, _⟩ := h.pos k hk
  rw [hx] at hy
  cases hy
  have hlt := hC.lt
  rcases hC with ⟨h1, _⟩ | ⟨q, _, _, h1, _⟩ <;> omega

/-- The first statement of a block of statement i. -/
theorem Whole.inner (h : Whole F S) {i : Nat} {b : Int} {a c g : Nat} (hC : Ctx F S i b a c) (hB : Blk F S g i b a c) : firstP F i b ((i : Int) + 1) = if a < c then (a : Int) else -1 := by
  have hia : (i : Int) < a := hC.lt
  have hno : ∀ (k : Nat) (y : Ds), F[k]? = some y → y.parent = (i : Int) → y.block = b → a ≤ k ∧ k < c := by
    intro k y hy hp hb
    have hk : k < F.length := by
      rcases Nat.lt_or_ge k F.length with h' | h'
      · exact h'
      · simp [List.getElem?_eq_none h'] at hy
    obtain ⟨z, a1, c1, hz, h1, h2, hC1, _⟩ := h.pos k hk
    rw [hy] at hz
    cases hz
    rw [hp, hb] at hC1
    have := hC.det hC1
    omega
  by_cases hlt : a < c
  · rw [if_pos hlt]
    obtain ⟨y, hy, hyp⟩ : ∃ y, F[a]? = some y ∧ y.parent = i ∧ y.block = b := by
      cases g with
      | zero => have h' : a = c := hB; omega
      | succ g =>
        rcases hB with hB | ⟨e, he, hs2, _⟩
        · omega
        · obtain ⟨y, v, hy, _, hp, hb, _⟩ := hs2
          exact ⟨y, hy, hp, hb⟩
    have := firstGo_hit (p := i) (b := b) (fr := (i : Int) + 1) F 0 a y hy (by omega) hyp.1 hyp.2 (fun k z hk hz _ hm => by have := hno k z hz hm.1 hm.2; omega)
    rw [Nat.zero_add] at this
    exact this
  · rw [if_neg hlt]
    refine firstGo_miss F 0 (fun k y hy _ hm => ?_)
    have := hno k y hy hm.1 hm.2
    omega

/-- Where a way leads: both ways of telling. -/
theorem next_same (h : Whole F S) (hl : F.length ≤ 20) (k : Nat) (hk : k < F.length) (way : Int) :
    nextP F k way = if way < 0 ∨ waysR (S.getD k noSt) ≤ way then (0, 2) else (nextR S k way, 0) := by
  obtain ⟨x, u, a0, c0, g, hx, hu, hcor, ha, hif, hfc, hC, hs, hr, hkk⟩ := h.at_ k hk
  have hxD : F.getD k (newDs 0 0) = x := getD_some hx
  have huD : S.getD k noSt = u := getD_some hu
  have hfol := follow_same h 21 k hk (by omega)
  have e1 : nextP F k way = if way < 0 ∨ waysP x.kind ≤ way then (0, 2) else if blocksOf x.kind ≤ way then (followP F 21 k, 0) else if firstP F k way ((k : Int) + 1) ≠ -1 then (firstP F k way ((k : Int) + 1), 0) else if x.kind = 3 then ((k : Int), 0) else (followP F 21 k, 0) := by
    unfold nextP
    rw [if_neg (by omega), Int.toNat_natCast, hxD]
  have e2 : nextR S k way = if u.kind = 61 ∨ u.kind = 33 ∨ (u.kind = 64 ∧ way = 1) then followR S 21 k else if u.kind = 64 ∧ u.fin = k + 1 then (k : Int) else if u.kind = 64 then (k : Int) + 1 else if way = 0 ∧ k + 1 < u.mid then (k : Int) + 1 else if way = 1 ∧ u.mid < u.fin then (u.mid : Int) else followR S 21 k := by
    unfold nextR
    simp only [huD]
  rw [e1, huD, e2, hfol]
  obtain ⟨x', u', hx', hu', _, _, _, _, hkd⟩ := hs
  rw [hx] at hx'
  rw [hu] at hu'
  cases hx'
  cases hu'
  have hkind := hcor.1
  rcases hkd with ⟨hk01, _⟩ | ⟨hk3, hB⟩ | ⟨hk2, q1, q2, hB1, hB2⟩
  · have hu61 : u.kind = 61 ∨ u.kind = 33 := by
      rcases hk01 with e | e
      · left; rw [hkind, e]; rfl
      · right; rw [hkind, e]; rfl
    have hw : waysP x.kind = 1 ∧ waysR u = 1 ∧ blocksOf x.kind = 0 := by
      refine ⟨?_, ?_, ?_⟩
      · rcases hk01 with e | e <;> rw [e] <;> decide
      · unfold waysR; rw [if_pos hu61]
      · rcases hk01 with e | e <;> rw [e] <;> decide
    rw [hw.1, hw.2.1, hw.2.2]
    by_cases hbad : way < 0 ∨ (1 : Int) ≤ way
    · rw [if_pos hbad, if_pos hbad]
    · rw [if_neg hbad, if_neg hbad, if_pos (show (0 : Int) ≤ way by omega), if_pos (show u.kind = 61 ∨ u.kind = 33 ∨ (u.kind = 64 ∧ way = 1) from hu61.elim .inl (fun e => .inr (.inl e)))]
  · have hu64 : u.kind = 64 := by rw [hkind, hk3]; rfl
    have hw : waysP x.kind = 2 ∧ waysR u = 2 ∧ blocksOf x.kind = 1 := by
      refine ⟨by rw [hk3]; decide, ?_, by rw [hk3]; decide⟩
      unfold waysR; rw [hu64]; decide
    rw [hw.1, hw.2.1, hw.2.2]
    by_cases hbad : way < 0 ∨ (2 : Int) ≤ way
    · rw [if_pos hbad, if_pos hbad]
    · rw [if_neg hbad, if_neg hbad]
      have hin := h.inner (b := 0) (.inr ⟨k, x, u, rfl, hx, hu, .inl ⟨hk3, rfl, rfl, rfl⟩⟩) hB
      by_cases w1 : way = 1
      · rw [if_pos (show (1 : Int) ≤ way by omega), if_pos (show u.kind = 61 ∨ u.kind = 33 ∨ (u.kind = 64 ∧ way = 1) from .inr (.inr ⟨hu64, w1⟩))]
      · have w0 : way = 0 := by omega
        subst w0
        rw [if_neg (show ¬ (1 : Int) ≤ 0 by decide), hin, if_neg (show ¬ (u.kind = 61 ∨ u.kind = 33 ∨ (u.kind = 64 ∧ (0 : Int) = 1)) by rw [hu64]; decide)]
        by_cases hlt : k + 1 < u.fin
        · rw [if_pos hlt, if_pos (show ((k + 1 : Nat) : Int) ≠ -1 by omega), if_neg (show ¬ (u.kind = 64 ∧ u.fin = k + 1) by omega), if_pos hu64]
          rfl
        · rw [if_neg hlt, if_neg (show ¬ ((-1 : Int) ≠ -1) by decide), if_pos hk3, if_pos (show u.kind = 64 ∧ u.fin = k + 1 from ⟨hu64, by omega⟩)]
  · have hu63 : u.kind = 63 := by rw [hkind, hk2]; rfl
    have hw : waysP x.kind = 2 ∧ waysR u = 2 ∧ blocksOf x.kind = 2 := by
      refine ⟨by rw [hk2]; decide, ?_, by rw [hk2]; decide⟩
      unfold waysR; rw [hu63]; decide
    rw [hw.1, hw.2.1, hw.2.2]
    by_cases hbad : way < 0 ∨ (2 : Int) ≤ way
    · rw [if_pos hbad, if_pos hbad]
    · rw [if_neg hbad, if_neg hbad, if_neg (show ¬ (2 : Int) ≤ way by omega)]
      have n1 : ¬ (u.kind = 61 ∨ u.kind = 33 ∨ (u.kind = 64 ∧ way = 1)) := by omega
      have n2 : ¬ (u.kind = 64 ∧ u.fin = k + 1) := by omega
      have n3 : ¬ u.kind = 64 := by omega
      have n4 : ¬ x.kind = 3 := by omega
      rw [if_neg n1, if_neg n2, if_neg n3]
      have hin0 := h.inner (b := 0) (.inr ⟨k, x, u, rfl, hx, hu, .inr (.inl ⟨hk2, rfl, rfl, rfl, q2⟩)⟩) hB1
      have hin1 := h.inner (b := 1) (.inr ⟨k, x, u, rfl, hx, hu, .inr (.inr ⟨hk2, rfl, rfl, rfl, q1⟩)⟩) hB2
      by_cases w0 : way = 0
      · subst w0
        rw [hin0]
        by_cases hlt : k + 1 < u.mid
        · rw [if_pos hlt, if_pos (show ((k + 1 : Nat) : Int) ≠ -1 by omega), if_pos (show (0 : Int) = 0 ∧ k + 1 < u.mid from ⟨rfl, hlt⟩)]
          rfl
        · rw [if_neg hlt, if_neg (show ¬ ((-1 : Int) ≠ -1) by decide), if_neg n4, if_neg (show ¬ ((0 : Int) = 0 ∧ k + 1 < u.mid) from fun e => hlt e.2), if_neg (show ¬ ((0 : Int) = 1 ∧ u.mid < u.fin) from fun e => absurd e.1 (by decide))]
      · have w1 : way = 1 := by omega
        subst w1
        rw [hin1, if_neg (show ¬ ((1 : Int) = 0 ∧ k + 1 < u.mid) from fun e => absurd e.1 (by decide))]
        by_cases hlt : u.mid < u.fin
        · rw [if_pos hlt, if_pos (show ((u.mid : Nat) : Int) ≠ -1 by omega), if_pos (show (1 : Int) = 1 ∧ u.mid < u.fin from ⟨rfl, hlt⟩)]
        · rw [if_neg hlt, if_neg (show ¬ ((-1 : Int) ≠ -1) by decide), if_neg n4, if_neg (show ¬ ((1 : Int) = 1 ∧ u.mid < u.fin) from fun e => hlt e.2)]

end Go.Proofs.YtffajooegiempaaDoor

namespace Go.Proofs.YtffajooegiempaaDoor
open Go.RowKit

/-- A text that is a program: both readers have the same statements. -/
theorem prog_whole (s : ByteArray) (h160 : s.size ≤ 160) : (readGood s = false ∧ progOf (bytesOf s) = none) ∨ ∃ m, readGood s = true ∧ progOf (bytesOf s) = some m ∧ Whole (readZ s).2 m.st := by
  have hl := bytesOf_len s
  have hsame := scan_same s
  rcases read_says s with hd | ⟨m, ho, hf, hpk⟩
  · left
    have hg : readGood s = false := by unfold readGood; rw [hd.st]; rfl
    refine ⟨hg, ?_⟩
    cases hp : progOf (bytesOf s) with
    | none => rfl
    | some m =>
      exfalso
      have e := (progOf_some hp).2.2.2
      rw [← hsame] at e
      unfold scanD at e
      rw [if_neg (by omega), hg] at e
      simp at e
  · by_cases hlt : (readZ s).1.1 < s.size
    · left
      have hg : readGood s = false := by unfold readGood; rw [ho.sync.ns]; simp; omega
      refine ⟨hg, ?_⟩
      cases hp : progOf (bytesOf s) with
      | none => rfl
      | some m =>
        exfalso
        have e := (progOf_some hp).2.2.2
        rw [← hsame] at e
        unfold scanD at e
        rw [if_neg (by omega), hg] at e
        simp at e
    · right
      have hg : readGood s = true := by unfold readGood; rw [ho.sync.ns]; simp; omega
      have hfd := ho.sync.fd
      have he : (readZ s).1.1 = s.size := by have := ho.sync.le; omega
      rw [he, take_all] at hfd
      refine ⟨m, hg, ?_, ho.cor, hf⟩
      have hop : m.op = [] := ho.op
      unfold progOf
      rw [if_neg (by omega), readFrom_some (n := 0) hfd]
      have hdn : isDone m = true := by unfold isDone; rw [ho.st, hop]; rfl
      simp [hdn]

end Go.Proofs.YtffajooegiempaaDoor

namespace Go.Proofs.YtffajooegiempaaDoor
open Go.RowKit
variable {w : World}

/-- What the program's Safe answers. -/
def safeP (s : ByteArray) (p : Int) (o : List Int) : Bool × Int :=
  match progOf (bytesOf s) with
  | none => (false, 1)
  | some m => if p < 0 ∨ (m.st.length : Int) ≤ p then (false, 2) else if gdB o = true then (sfP (ovE o) (ovM o) ((readZ s).2.getD p.toNat (newDs 0 0)), 0) else (false, 3)
def bi (x : Bool × Int) : Ending := .returned (.tuple #[.bool x.1, .int .i64 x.2])

/-- What a statement of the document's keeps to. -/
structure StG (u : St) : Prop where
  len : u.sg.length = 4
  sg : ∀ i, -1 ≤ gAt u.sg i ∧ gAt u.sg i ≤ 1
  num : -99 ≤ u.num ∧ u.num ≤ 99
  nz : nz u.sg ≤ 2
theorem stg_no : StG noSt := ⟨rfl, fun i => by
  rcases (show i = 0 ∨ i = 1 ∨ i = 2 ∨ i = 3 ∨ 4 ≤ i by omega) with rfl | rfl | rfl | rfl | h4
  · exact ⟨by decide, by decide⟩
  · exact ⟨by decide, by decide⟩
  · exact ⟨by decide, by decide⟩
  · exact ⟨by decide, by decide⟩
  · have : gAt noSt.sg i = 0 := by unfold gAt noSt; rw [List.getD_eq_getElem?_getD, List.getElem?_eq_none (by simp; omega)]; rfl
    omega, by decide, by decide⟩
theorem stg_of {l : List Int} {m : Rd} (hp : progOf l = some m) (k : Nat) : StG (m.st.getD k noSt) := by
  obtain ⟨_, ⟨n, hr⟩, _, _⟩ := progOf_some hp
  obtain ⟨hg, ok⟩ := gd_from (m := init) (m' := m) (fun s hs => absurd hs (by simp [init])) Ok.init hr
  have hc := cn_from (m := init) (m' := m) ⟨fun s hs => absurd hs (by simp [init]), by decide⟩ Ok.init hr
  rw [List.getD_eq_getElem?_getD]
  cases e : m.st[k]? with
  | none => exact stg_no
  | some u =>
    have hu := List.mem_of_getElem? e
    have hl := ok.sgl u hu
    refine ⟨hl, fun i => ?_, ok.nums u hu, hc.all u hu⟩
    show -1 ≤ gAt u.sg i ∧ gAt u.sg i ≤ 1
    unfold gAt
    rw [List.getD_eq_getElem?_getD]
    cases e2 : u.sg[i]? with
    | none => exact ⟨by decide, by decide⟩
    | some x => exact (hg u hu).2.2 x (List.mem_of_getElem? e2)

theorem dsg_of {l : List Int} {m : Rd} {F : List Ds} (hp : progOf l = some m) (hW : Whole F m.st) {k : Nat} (hk : k < F.length) : DsG (F.getD k (newDs 0 0)) ∧ Cor (F.getD k (newDs 0 0)) (m.st.getD k noSt) := by
  have hl := hW.1.len
  have hx := gets' hk
  have hu : m.st[k]? = some (m.st.getD k noSt) := by rw [List.getD_eq_getElem?_getD, List.getElem?_eq_getElem (by omega)]; rfl
  have hc := hW.1.cor k _ _ hx hu
  have hg := stg_of hp k
  obtain ⟨_, _, _, c3, c4⟩ := id hc
  exact ⟨⟨by rw [← c3]; exact hg.sg, by rw [← c4]; exact hg.num⟩, hc⟩

set_option maxRecDepth 100000 in
set_option maxHeartbeats 3200000 in
theorem w_safe (hG : Glob w) (s : ByteArray) (p : Int) (u : Value) (o : List Int) (hm : s.size ≤ maxLen) (hu : Reads w u o) :
    Calls Tryd.prog 19 #[.string s, .int .i64 p, u] w fun e w' => e = bi (safeP s p o) ∧ Below w.heap.size w w' := by
  have hr := d_read s w hm
  have hl := bytesOf_len s
  have hz := o_zero
  have bad : progOf (bytesOf s) = none → (∀ e w', DReadPost w s e w' → ∃ c : Int, e = .returned (.tuple #[.agg #[.slice none 0 0], .int .i64 1, .int .i64 c]) ∧ Below w.heap.size w w') →
      Calls Tryd.prog 19 #[.string s, .int .i64 p, u] w fun e w' => e = bi (safeP s p o) ∧ Below w.heap.size w w' := by
    intro hp hq
    have HE : Hid (safeP s p o = (false, 1)) := by show safeP _ _ _ = _; unfold safeP; rw [hp]
    have hr' := hr.mono hq
    obtain ⟨au, cu, rfl, -, -⟩ := hu
    clear hr hp hq hm hl hG
    go_enter Tryd.func19, Tryd.ntmps19
    go_wp2_with fail
    refine hr'.mono ?_
    rintro e w1 ⟨c, rfl, hb⟩
    go_wp2_with fail
    go_ret2
    exact ⟨by rw [HE.out]; rfl, hb.alloc hb.size _⟩
  by_cases h160 : 160 < s.size
  · refine bad (by unfold progOf; rw [if_pos (by omega)]) ?_
    rintro e w' ⟨hb, h | h | h⟩
    · exact ⟨0, h.2, hb⟩
    · exact absurd h.1 (by omega)
    · exact absurd h.1 (by omega)
  rcases prog_whole s (by omega) with ⟨hg, hp⟩ | ⟨m, hg, hp, hW⟩
  · refine bad hp ?_
    rintro e w' ⟨hb, h | h | h⟩
    · exact absurd h.1 h160
    · exact ⟨_, h.2.2, hb⟩
    · exact absurd h.2.1 (by rw [hg]; decide)
  clear bad
  have hlen : (readZ s).2.length ≤ 20 := (rStmts_goes s 22 (-1) 0 0 ((0, false), []) ⟨Nat.zero_le _, Nat.zero_le _⟩).ok.len
  have hSl : (readZ s).2.length = m.st.length := hW.1.len
  have hr' := hr.mono (R' := fun e w' => ∃ v, e = .returned (.tuple #[.agg #[v], .int .i64 0, .int .i64 0]) ∧ Below w.heap.size w w' ∧ w'.ownsRow w.heap.size tDs 10 v (readZ s).2.length (flat (readZ s).2)) (by
    rintro e w' ⟨hb, h | h | h⟩
    · exact absurd h.1 h160
    · exact absurd h.2.1 (by rw [hg]; decide)
    · obtain ⟨_, _, v, he, hrow⟩ := h
      exact ⟨v, he, hb, hrow⟩)
  have HE : Hid (safeP s p o = if p < 0 ∨ (m.st.length : Int) ≤ p then (false, 2) else if gdB o = true then (sfP (ovE o) (ovM o) ((readZ s).2.getD p.toNat (newDs 0 0)), 0) else (false, 3)) := by show safeP _ _ _ = _; unfold safeP; rw [hp]
  have HW : Hid (Whole (readZ s).2 m.st ∧ progOf (bytesOf s) = some m) := ⟨hW, hp⟩
  have HSl : Hid ((readZ s).2.length = m.st.length) := hSl
  have HG : Hid (Glob w) := hG
  have HU : Hid (Reads w u o) := hu
  obtain ⟨au, cu, rfl, -, -⟩ := id hu
  clear hr hm hl h160 hg hp hW hSl hG hu
  generalize (readZ s).2 = F at *
  by_cases hout : p < 0 ∨ (F.length : Int) ≤ p
  · have HE2 : Hid (safeP s p o = (false, 2)) := HE.out.trans (if_pos (by have := HSl.out; omega))
    have HAt : Hid (∀ w1 ao cap, Calls Tryd.prog 39 #[.agg #[.slice ao F.length cap], .int .i64 p] w1 fun e w' => e = .returned (.tuple #[dsv zDs, .int .i64 2]) ∧ Below w1.heap.size w1 w') := fun w1 ao cap => d_at_out ao _ hlen p hout
    unfold dsv zDs newDs at HAt
    clear HE
    go_enter Tryd.func19, Tryd.ntmps19
    go_wp2_with fail
    refine hr'.mono ?_
    rintro e w1 ⟨v, rfl, hb, hrow⟩
    obtain ⟨ao, cap, rfl⟩ : ∃ ao cap, v = .slice ao F.length cap := by
      obtain ⟨_, h2⟩ := hrow
      rcases h2 with ⟨rfl, e⟩ | ⟨g, cap, c, rfl, _⟩
      · exact ⟨none, 0, by rw [e]⟩
      · exact ⟨_, cap, rfl⟩
    clear hrow
    go_wp2_with fail
    refine (HAt.out _ ao cap).mono ?_
    rintro e w2 ⟨rfl, hb2⟩
    have H2 : Hid (Below w.heap.size w w2) := (hb.alloc hb.size _).trans (hb2.mono (by have := hb.size; simp; omega))
    clear hb hb2 hr'
    go_wp2_with fail
    go_ret2
    exact ⟨by rw [HE2.out]; rfl, H2.out.alloc H2.out.size _⟩
  · obtain ⟨k, rfl⟩ : ∃ k : Nat, p = k := ⟨p.toNat, by omega⟩
    have hk : k < F.length := by omega
    have HD := dsg_of HW.out.2 HW.out.1 hk
    have HDg : Hid (DsG (F.getD k (newDs 0 0))) := HD.1
    have HAt : Hid (∀ w1 g cap, PRow w1 g F → Calls Tryd.prog 39 #[.agg #[.slice (some ⟨g, 0, none⟩) F.length cap], .int .i64 (k : Int)] w1 fun e w' => e = .returned (.tuple #[dsv (F.getD k (newDs 0 0)), .int .i64 0]) ∧ Below w1.heap.size w1 w') := fun w1 g cap hP => d_at_in hP k hk
    have HE2 : Hid (safeP s k o = if gdB o = true then (sfP (ovE o) (ovM o) (F.getD k (newDs 0 0)), 0) else (false, 3)) := HE.out.trans (if_neg (by have := HSl.out; omega))
    clear HE hout HD
    generalize F.getD k (newDs 0 0) = x at *
    by_cases hok : okL o
    · have HE3 : Hid (safeP s k o = (sfP (ovE o) (ovM o) x, 0)) := HE2.out.trans (if_pos (gdB_ok.2 hok))
      have HRd : Hid (∀ w1, Below w.heap.size w w1 → Calls Tryd.prog 23 #[.slice au o.length cu] w1 fun e w' => e = .returned (.tuple #[.agg (oc (ovE o) (ovM o)), .int .i64 0]) ∧ Below w1.heap.size w1 w') := fun w1 hb => o_read_ok (HG.out.keep hb HG.out.size) _ o hok (HU.out.keep hb)
      have HSf : Hid (∀ w1, Calls Tryd.prog 40 #[dsv x, .agg (oc (ovE o) (ovM o))] w1 fun e w' => e = .returned (.bool (sfP (ovE o) (ovM o) x)) ∧ Below w1.heap.size w1 w') := fun w1 => e_safe x HDg.out (ovS hok)
      clear HE2 hok
      generalize sfP (ovE o) (ovM o) x = sf at *
      generalize ovE o = e1 at *
      generalize ovM o = M at *
      unfold dsv at HAt HSf
      go_enter Tryd.func19, Tryd.ntmps19
      go_wp2_with fail
      refine hr'.mono ?_
      rintro e w1 ⟨v, rfl, hb, hrow⟩
      obtain ⟨g, cap, rfl⟩ : ∃ g cap, v = .slice (some ⟨g, 0, none⟩) F.length cap := by
        obtain ⟨_, h2⟩ := hrow
        rcases h2 with ⟨_, e⟩ | ⟨g, cap, c, rfl, _⟩
        · omega
        · exact ⟨g, cap, rfl⟩
      have HPr : Hid (PRow w1 g F) := prow_of hrow rfl (hrow.lt g rfl).2
      clear hrow
      go_wp2_with fail
      refine (HAt.out _ g cap (HPr.out.keep ((Below.refl _ _).alloc (Nat.le_refl _) _))).mono ?_
      rintro e w2 ⟨rfl, hb2⟩
      have H2 : Hid (Below w.heap.size w w2) := (hb.alloc hb.size _).trans (hb2.mono (by have := hb.size; simp; omega))
      have hrd := fun ob => HRd.out (w2.alloc ob) (H2.out.alloc H2.out.size _)
      have HRd2 : Hid (∀ ob, Calls Tryd.prog 23 #[.slice au o.length cu] (w2.alloc ob) fun e w' => e = .returned (.tuple #[.agg (oc e1 M), .int .i64 0]) ∧ Below (w2.alloc ob).heap.size (w2.alloc ob) w') := hrd
      clear hb hb2 hr' hrd
      go_wp2_with fail
      refine (HRd2.out _).mono ?_
      rintro e w3 ⟨rfl, hb3⟩
      obtain ⟨w4, hst4, hat4, hb4, hs4⟩ := o_fresh w3 e1 M
      have hs3 : w2.heap.size + 1 ≤ w3.heap.size := by have := hb3.size; simpa using this
      have hA3 : At w3 w2.heap.size (dsCells x) tDs := At.keep (At.new w2 (dsCells x) tDs) hb3 (by simp)
      have H4 : Hid (OAt w4 w3.heap.size e1 M ∧ At w4 w2.heap.size (dsCells x) tDs ∧ Below w.heap.size w w4) := ⟨hat4, hA3.keep hb4 hA3.lt, ((H2.out.alloc H2.out.size _).trans (hb3.mono (by have := H2.out.size; simp; omega))).trans (hb4.mono (by have := H2.out.size; omega))⟩
      clear hb3 hat4 hb4 hA3
      have y0 : w4.cell? ⟨w2.heap.size, 0, none⟩ = some (.int .i64 x.kind) := H4.out.2.1.cell 0
      have y1 : w4.cell? ⟨w2.heap.size, 1, none⟩ = some (.int .i64 x.target) := H4.out.2.1.cell 1
      have y2 : w4.cell? ⟨w2.heap.size, 2, none⟩ = some (.bool x.any) := H4.out.2.1.cell 2
      have y3 : w4.cell? ⟨w2.heap.size, 3, none⟩ = some (.int .i64 (sgAt x.sg 0)) := H4.out.2.1.cell 3
      have y4 : w4.cell? ⟨w2.heap.size, 4, none⟩ = some (.int .i64 (sgAt x.sg 1)) := H4.out.2.1.cell 4
      have y5 : w4.cell? ⟨w2.heap.size, 5, none⟩ = some (.int .i64 (sgAt x.sg 2)) := H4.out.2.1.cell 5
      have y6 : w4.cell? ⟨w2.heap.size, 6, none⟩ = some (.int .i64 (sgAt x.sg 3)) := H4.out.2.1.cell 6
      have y7 : w4.cell? ⟨w2.heap.size, 7, none⟩ = some (.int .i64 x.num) := H4.out.2.1.cell 7
      have y8 : w4.cell? ⟨w2.heap.size, 8, none⟩ = some (.int .i64 x.parent) := H4.out.2.1.cell 8
      have y9 : w4.cell? ⟨w2.heap.size, 9, none⟩ = some (.int .i64 x.block) := H4.out.2.1.cell 9
      go_wp2_with (refine wpList_load_o rfl (.tmp 12) rfl rfl H4.out.1 ?_)
      refine (HSf.out w4).mono ?_
      rintro e w5 ⟨rfl, hb5⟩
      go_wp2_with fail
      go_ret2
      exact ⟨by rw [HE3.out]; rfl, H4.out.2.2.trans (hb5.mono H4.out.2.2.size)⟩
    · have HE3 : Hid (safeP s k o = (false, 3)) := HE2.out.trans (if_neg (fun z => hok (gdB_ok.1 z)))
      have HRd : Hid (∀ w1, Below w.heap.size w w1 → Calls Tryd.prog 23 #[.slice au o.length cu] w1 fun e w' => e = .returned (.tuple #[.agg (oc false fun _ => 0), .int .i64 3]) ∧ Below w1.heap.size w1 w') := fun w1 hb => rdsNo HG.out hok HU.out w1 hb
      clear HE2 hok
      unfold dsv at HAt
      go_enter Tryd.func19, Tryd.ntmps19
      go_wp2_with fail
      refine hr'.mono ?_
      rintro e w1 ⟨v, rfl, hb, hrow⟩
      obtain ⟨g, cap, rfl⟩ : ∃ g cap, v = .slice (some ⟨g, 0, none⟩) F.length cap := by
        obtain ⟨_, h2⟩ := hrow
        rcases h2 with ⟨_, e⟩ | ⟨g, cap, c, rfl, _⟩
        · omega
        · exact ⟨g, cap, rfl⟩
      have HPr : Hid (PRow w1 g F) := prow_of hrow rfl (hrow.lt g rfl).2
      clear hrow
      go_wp2_with fail
      refine (HAt.out _ g cap (HPr.out.keep ((Below.refl _ _).alloc (Nat.le_refl _) _))).mono ?_
      rintro e w2 ⟨rfl, hb2⟩
      have H2 : Hid (Below w.heap.size w w2) := (hb.alloc hb.size _).trans (hb2.mono (by have := hb.size; simp; omega))
      have HRd2 : Hid (∀ ob, Calls Tryd.prog 23 #[.slice au o.length cu] (w2.alloc ob) fun e w' => e = .returned (.tuple #[.agg (oc false fun _ => 0), .int .i64 3]) ∧ Below (w2.alloc ob).heap.size (w2.alloc ob) w') := fun ob => HRd.out (w2.alloc ob) (H2.out.alloc H2.out.size _)
      clear hb hb2 hr'
      go_wp2_with fail
      refine (HRd2.out _).mono ?_
      rintro e w3 ⟨rfl, hb3⟩
      obtain ⟨w4, hst4, hat4, hb4, hs4⟩ := o_fresh w3 false (fun _ => 0)
      have hs3 : w2.heap.size + 1 ≤ w3.heap.size := by have := hb3.size; simpa using this
      have H4 : Hid (Below w.heap.size w w4) := ((H2.out.alloc H2.out.size _).trans (hb3.mono (by have := H2.out.size; simp; omega))).trans (hb4.mono (by have := H2.out.size; omega))
      clear hb3 hat4 hb4
      go_wp2_with fail
      go_ret2
      exact ⟨by rw [HE3.out]; rfl, H4.out⟩

end Go.Proofs.YtffajooegiempaaDoor

namespace Go.Proofs.YtffajooegiempaaDoor
open Go.RowKit
variable {B : Nat} {w : World} {r : Nat} {m : Rd} {vs vo : Value} {P Q O : Nat → Nat}

/-- Is it safe: the document. -/
def sfD (e : Bool) (C : Nat → Int) (u : St) : Bool :=
  if e = true then true else if u.kind = 61 then u.star || decide (grD C u.sg ≠ NB ∧ grD C (ngL u.sg) ≠ NB ∧ grD C u.sg + u.num ≤ 999 ∧ grD C (ngL u.sg) - u.num ≤ 999)
  else if u.kind = 33 then !u.star && decide (grD C u.sg ≤ u.num) else true
theorem bd_rng {M : Nat → Int} (hS : Sm M) {f : Nat} (hf : f < 32) : -200000000000000000 ≤ bd M f ∧ bd M f ≤ 1000000000000 := mo_rng hS (fs_lt f hf) (ss_lt f hf)
theorem grD_rng {M : Nat → Int} (hS : Sm M) (hC : M (0 * 8 + 1) = 0) {l : List Int} (hl : l.length = 4) (h : ∀ i, -1 ≤ gAt l i ∧ gAt l i ≤ 1) (h2 : nz l ≤ 2) : -200000000000000000 ≤ grD M l ∧ grD M l ≤ 1000000000000 := by
  rw [← (grP_grD hC hl h h2).1]
  exact grP_rng hS l
def pnL (l : List Int) : Nat → List Int
  | 0 => [0, 0, 0, 0]
  | j + 1 => (pnL l j).set j (-gAt l j)
theorem pnL_4 (l : List Int) : pnL l 4 = ngL l := rfl
theorem pnL_at (l : List Int) {j : Nat} (hj : j < 4) : (pnL l j).length = 4 ∧ (pnL l j).getD j 0 = 0 := by
  rcases (show j = 0 ∨ j = 1 ∨ j = 2 ∨ j = 3 by omega) with rfl | rfl | rfl | rfl <;> exact ⟨rfl, rfl⟩
theorem ngL_len (l : List Int) : (ngL l).length = 4 := rfl

/-- What the walk needs of the statement. -/
structure StW (w : World) (r k : Nat) (u : St) (len : Nat) : Prop where
  ex : ∃ g cap p q, w.cell? ⟨r, 1, none⟩ = some (.slice (some ⟨g, 0, none⟩) len cap) ∧ w.cell? ⟨g, k, none⟩ = some (.pointer (some ⟨p, 0, none⟩)) ∧ w.cell? ⟨p, 0, none⟩ = some (.int .u8 u.kind) ∧ w.cell? ⟨p, 2, none⟩ = some (.bool u.star) ∧
    w.cell? ⟨p, 3, none⟩ = some (.slice (some ⟨q, 0, none⟩) 4 4) ∧ w.cell? ⟨p, 4, none⟩ = some (.int .i64 u.num) ∧ At w q (ic u.sg) tNk ∧ p < w.heap.size ∧ g < w.heap.size ∧ r < w.heap.size
theorem Rep.stw (h : Rep B w r m vs vo P Q O) {k : Nat} (hk : k < m.st.length) : StW w r k (m.st.getD k noSt) m.st.length := by
  obtain ⟨g, cap, hvs, hrow, _⟩ := h.row (by omega)
  obtain ⟨r0, r1, _⟩ := h.rdc
  have hg := Rep.gets hk
  obtain ⟨c0, _, c2, c3, c4, _⟩ := h.stc k _ hg
  obtain ⟨a, b⟩ := h.st k _ hg
  rw [hvs] at r1
  have hgl := World.block_lt_of_cell? w _ (hrow k hk)
  exact ⟨g, cap, P k, Q k, r1, hrow k hk, c0, c2, c3, c4, b, a.lt, hgl, h.rd.lt⟩

set_option maxRecDepth 100000 in
set_option maxHeartbeats 3200000 in
theorem r_safe (h : Rep B w r m vs vo P Q O) (k : Nat) (hk : k < m.st.length) (hu : StG (m.st.getD k noSt)) (v : Value) (o : List Int) (ho : okL o) (hv : Reads w v o) :
    Calls Tryd.prog 41 #[.pointer (some ⟨r, 0, none⟩), .int .i64 (k : Int), v] w fun e w' => e = .returned (.bool (sfD (ovE o) (ovM o) (m.st.getD k noSt))) ∧ Below w.heap.size w w' := by
  have hq1 : ∀ (w : World) (a : Option Addr) (n c : Nat), (binOp .eql 22 (.slice a n c) (.slice none 0 0)).run Tryd.prog w = .ok (.bool a.isNone) w := fun w a n c => Lib.run_eql_slice_nil w 22 tN a n c 0 0 Tryd.underlying22
  have hmk : ∀ w, (Instr.makeSlice 22 (.int .i64 4) (.int .i64 4)).run Tryd.prog w = .ok (.slice (some ⟨w.heap.size, 0, none⟩) 4 4) (w.alloc (.cells #[.int .i64 0, .int .i64 0, .int .i64 0, .int .i64 0] tNk)) := fun _ => by kernel_rfl
  have hcl := r_closed_ok v o ho hv
  have StK : Hid (∀ w1, Below w.heap.size w w1 → StW w1 r k (m.st.getD k noSt) m.st.length) := fun w1 hb => (h.keep hb).stw hk
  have hki : (k : Int) < (m.st.length : Int) := by omega
  have hS := ovS ho
  have HTC : Hid (ovE o = false → ovM o (0 * 8 + 1) = 0) := fun he => ((raw_lay ho).tc he).zero 0 (by omega)
  obtain ⟨ao, ca, rfl, -, -⟩ := hv
  clear h ho
  generalize m.st.getD k noSt = u at *
  generalize ovM o = C at *
  generalize hE : ovE o = e0 at *
  clear hE
  cases e0 with
  | true =>
    have HE : Hid (sfD true C u = true) := rfl
    clear HTC hS
    go_enter Tryd.func41, Tryd.ntmps41
    go_wp2_with fail
    refine hcl.mono ?_
    rintro e w1 ⟨hb1, ⟨-, rfl⟩ | ⟨he, -⟩⟩
    · have hrw := StK.out w1 hb1
      obtain ⟨g, cap, p, q, x1, x2, x3, x4, x5, x6, hq, hpl, hgl, hrl⟩ := hrw.ex
      have HQ : Hid (At w1 q (ic u.sg) tNk ∧ Below w.heap.size w w1) := ⟨hq, hb1⟩
      clear hrw hq
      clear hb1 hcl
      go_wp2_with fail
      go_ret
      exact ⟨ret_b' HE.out, HQ.out.2⟩
    · cases he
  | false =>
  have hC0 := HTC.out rfl
  have HGr : Hid (∀ w1 gq vv (l : List Int), At w1 gq (ic (bdL C)) tNo → Reads w1 vv l → l.length = 4 → (∀ i, -1 ≤ gAt l i ∧ gAt l i ≤ 1) → nz l ≤ 2 → Calls Tryd.prog 65 #[.slice (some ⟨gq, 0, none⟩) 32 32, vv] w1 fun e w' => e = .returned (.int .i64 (grD C l)) ∧ Below w1.heap.size w1 w') := fun w1 gq vv l ha hr h4 hs h2 => r_greatest C _ vv l h4 hs h2 hC0 (Reads.at_ ha (by simp [bdL]) (Nat.le_refl _) (fun i hi => ic_get _ _ (by simpa [bdL] using hi))) hr
  obtain ⟨r1, r2⟩ := grD_rng hS hC0 hu.len hu.sg hu.nz
  obtain ⟨r3, r4⟩ := grD_rng hS hC0 (ngL_len u.sg) (ngL_rng hu.sg) (by rw [nz_ngL hu.len]; exact hu.nz)
  obtain ⟨n1, n2⟩ := hu.num
  have HU : Hid (StG u) := hu
  clear hS HTC hu hC0
  by_cases k61 : u.kind = 61
  · have HE0 : Hid (sfD false C u = (u.star || decide (grD C u.sg ≠ NB ∧ grD C (ngL u.sg) ≠ NB ∧ grD C u.sg + u.num ≤ 999 ∧ grD C (ngL u.sg) - u.num ≤ 999))) := by show sfD false C u = _; unfold sfD; rw [if_neg (by decide), if_pos k61]
    cases hst : u.star with
    | true =>
      have HE : Hid (sfD false C u = true) := by show _ = true; rw [HE0.out, hst]; rfl
      clear HE0
      go_enter Tryd.func41, Tryd.ntmps41
      go_wp2_with fail
      refine hcl.mono ?_
      rintro e w1 ⟨hb1, ⟨he, -⟩ | ⟨-, gq, rfl, hgq, ha⟩⟩
      · cases he
      · have hrw := StK.out w1 hb1
        obtain ⟨g, cap, p, q, x1, x2, x3, x4, x5, x6, hq, hpl, hgl, hrl⟩ := hrw.ex
        have HQ : Hid (At w1 q (ic u.sg) tNk ∧ Below w.heap.size w w1) := ⟨hq, hb1⟩
        clear hrw hq
        rw [k61] at x3
        rw [hst] at x4
        clear hb1 hcl ha k61
        go_wp2_with fail
        go_ret
        exact ⟨ret_b' HE.out, HQ.out.2⟩
    | false =>
      have HE1 : Hid (sfD false C u = decide (grD C u.sg ≠ NB ∧ grD C (ngL u.sg) ≠ NB ∧ grD C u.sg + u.num ≤ 999 ∧ grD C (ngL u.sg) - u.num ≤ 999)) := by show _ = decide _; rw [HE0.out, hst]; rfl
      clear HE0
      go_enter Tryd.func41, Tryd.ntmps41
      go_wp2_with fail
      refine hcl.mono ?_
      rintro e w1 ⟨hb1, ⟨he, -⟩ | ⟨-, gq, rfl, hgq, ha⟩⟩
      · cases he
      · have hrw := StK.out w1 hb1
        obtain ⟨g, cap, p, q, x1, x2, x3, x4, x5, x6, hq, hpl, hgl, hrl⟩ := hrw.ex
        have HQ : Hid (At w1 q (ic u.sg) tNk ∧ Below w.heap.size w w1) := ⟨hq, hb1⟩
        clear hrw hq
        rw [k61] at x3
        rw [hst] at x4
        have HA : Hid (At (w1.alloc (.cells #[.int .i64 0, .int .i64 0, .int .i64 0, .int .i64 0] tNk)) w1.heap.size (ic (pnL u.sg 0)) tNk ∧ Below w1.heap.size w1 (w1.alloc (.cells #[.int .i64 0, .int .i64 0, .int .i64 0, .int .i64 0] tNk))) := ⟨At.new _ _ _, (Below.refl _ _).alloc (Nat.le_refl _) _⟩
        have HGa : Hid (At w1 gq (ic (bdL C)) tNo) := ha
        have hqlt : q < w1.heap.size := HQ.out.1.lt
        clear hb1 hcl ha k61
        go_wp2_with fail
        go_loopw [10] (fun iv wr => ∃ (j : Nat), j ≤ 4 ∧ iv = .int .i64 j ∧ Hid (At wr w1.heap.size (ic (pnL u.sg j)) tNk ∧ Below w1.heap.size w1 wr)) (fun iv _ => 4 - (intOf iv).toNat)
        case atStart => exact ⟨0, by omega, rfl, HA.out⟩
        case round =>
          obtain ⟨j, hj, rfl, HR⟩ := hrel
          have y5 : wr.cell? ⟨p, 3, none⟩ = some (.slice (some ⟨q, 0, none⟩) 4 4) := (HR.out.2.cell (p := ⟨p, 3, none⟩) hpl).trans x5
          by_cases hlt : j < 4
          · have hji : (j : Int) < 4 := by omega
            have hpn := pnL_at u.sg hlt
            have ca : wr.cell? ⟨q, j, none⟩ = some (.int .i64 (gAt u.sg j)) := by
              rw [HR.out.2.cell (p := ⟨q, j, none⟩) hqlt, HQ.out.1.cell, ic_get _ _ (by rw [HU.out.len]; exact hlt)]; rfl
            have cb : wr.cell? ⟨w1.heap.size, j, none⟩ = some (.int .i64 0) := by
              rw [HR.out.1.cell, ic_get _ _ (by omega), hpn.2]
            have cf := HR.out.1.free
            have hbl := HR.out.1.lt
            have hx := HU.out.sg j
            have HP : Hid (pnL u.sg (j + 1) = (pnL u.sg j).set j (-gAt u.sg j)) := rfl
            clear hpn
            generalize gAt u.sg j = x at *
            go_wp2_with fail
            go_roundw
            case rel =>
              refine ⟨j + 1, by omega, by go_num, ?_, HR.out.2.setCell (Nat.le_refl _) _⟩
              rw [HP.out, ← ic_set]
              exact HR.out.1.put j _
            case measure => simp [intOf]; omega
          · have hj4 : j = 4 := by omega
            subst hj4
            have hgr := HGr.out wr gq (.slice (some ⟨q, 0, none⟩) 4 4) u.sg (HGa.out.keep HR.out.2 HGa.out.lt) (Reads.at_ (HQ.out.1.keep HR.out.2 HQ.out.1.lt) HU.out.len (Nat.le_refl _) (fun i hi => ic_get _ _ (by rw [HU.out.len]; exact hi))) HU.out.len HU.out.sg HU.out.nz
            have HGr2 : Hid (∀ w3, Below wr.heap.size wr w3 → Calls Tryd.prog 65 #[.slice (some ⟨gq, 0, none⟩) 32 32, .slice (some ⟨w1.heap.size, 0, none⟩) 4 4] w3 fun e w' => e = .returned (.int .i64 (grD C (ngL u.sg))) ∧ Below w3.heap.size w3 w') := by
              intro w3 hb3
              have a1 := (HGa.out.keep HR.out.2 HGa.out.lt)
              have a2 : At w3 w1.heap.size (ic (ngL u.sg)) tNk := HR.out.1.keep hb3 HR.out.1.lt
              exact HGr.out w3 gq _ (ngL u.sg) (a1.keep hb3 a1.lt) (Reads.at_ a2 (ngL_len _) (Nat.le_refl _) (fun i hi => ic_get _ _ (by rw [ngL_len]; exact hi))) (ngL_len _) (ngL_rng HU.out.sg) (by rw [nz_ngL HU.out.len]; exact HU.out.nz)
            have HBr : Hid (Below w.heap.size w wr) := HQ.out.2.trans (HR.out.2.mono HQ.out.2.size)
            have z6 : wr.cell? ⟨p, 4, none⟩ = some (.int .i64 u.num) := (HR.out.2.cell (p := ⟨p, 4, none⟩) hpl).trans x6
            have hplr : p < wr.heap.size := Nat.lt_of_lt_of_le hpl HR.out.2.size
            clear HGr HA HQ
            generalize grD C u.sg = hi at *
            generalize grD C (ngL u.sg) = lo at *
            generalize u.num = n at *
            go_wp2_with fail
            refine hgr.mono ?_
            rintro e w3 ⟨rfl, hb3⟩
            have hg2 := HGr2.out w3 hb3
            have H3 : Hid (Below w.heap.size w w3) := HBr.out.trans (hb3.mono HBr.out.size)
            have t6 : w3.cell? ⟨p, 4, none⟩ = some (.int .i64 n) := (hb3.cell (p := ⟨p, 4, none⟩) hplr).trans z6
            have hpl3 : p < w3.heap.size := Nat.lt_of_lt_of_le hplr hb3.size
            clear hb3 hgr HGr2
            go_wp2_with fail
            refine hg2.mono ?_
            rintro e w4 ⟨rfl, hb4⟩
            have H4 : Hid (Below w.heap.size w w4) := H3.out.trans (hb4.mono H3.out.size)
            have s6 : w4.cell? ⟨p, 4, none⟩ = some (.int .i64 n) := (hb4.cell (p := ⟨p, 4, none⟩) hpl3).trans t6
            clear hb4 hg2
            by_cases q1 : hi = NB
            · have HE : Hid (sfD false C u = false) := HE1.out.trans (decide_eq_false (fun z => z.1 q1))
              have b1 : (hi != 1000000) = false := by rw [q1]; rfl
              clear HE1 q1
              go_wp2_with fail
              go_ret
              exact ⟨ret_b' HE.out, H4.out⟩
            have b1 : (hi != 1000000) = true := by rw [bne_iff_ne]; exact q1
            by_cases q2 : lo = NB
            · have HE : Hid (sfD false C u = false) := HE1.out.trans (decide_eq_false (fun z => z.2.1 q2))
              have b2 : (lo != 1000000) = false := by rw [q2]; rfl
              clear HE1 q1 q2
              go_wp2_with fail
              go_ret
              exact ⟨ret_b' HE.out, H4.out⟩
            have b2 : (lo != 1000000) = true := by rw [bne_iff_ne]; exact q2
            by_cases q3 : hi + n ≤ 999
            · have HE : Hid (sfD false C u = decide (lo - n ≤ 999)) := HE1.out.trans (decide_eq_decide.2 ⟨fun z => z.2.2.2, fun z => ⟨q1, q2, q3, z⟩⟩)
              clear HE1 q1 q2
              go_wp2_with fail
              go_ret
              exact ⟨ret_b' HE.out, H4.out⟩
            · have HE : Hid (sfD false C u = false) := HE1.out.trans (decide_eq_false (fun z => q3 z.2.2.1))
              clear HE1 q1 q2
              go_wp2_with fail
              go_ret
              exact ⟨ret_b' HE.out, H4.out⟩
  by_cases k33 : u.kind = 33
  · have HE0 : Hid (sfD false C u = (!u.star && decide (grD C u.sg ≤ u.num))) := by show sfD false C u = _; unfold sfD; rw [if_neg (by decide), if_neg k61, if_pos k33]
    cases hst : u.star with
    | true =>
      have HE : Hid (sfD false C u = false) := by show _ = false; rw [HE0.out, hst]; rfl
      clear HE0
      go_enter Tryd.func41, Tryd.ntmps41
      go_wp2_with fail
      refine hcl.mono ?_
      rintro e w1 ⟨hb1, ⟨he, -⟩ | ⟨-, gq, rfl, hgq, ha⟩⟩
      · cases he
      · have hrw := StK.out w1 hb1
        obtain ⟨g, cap, p, q, x1, x2, x3, x4, x5, x6, hq, hpl, hgl, hrl⟩ := hrw.ex
        have HQ : Hid (At w1 q (ic u.sg) tNk ∧ Below w.heap.size w w1) := ⟨hq, hb1⟩
        clear hrw hq
        rw [k33] at x3
        rw [hst] at x4
        clear hb1 hcl ha k33 k61
        go_wp2_with fail
        go_ret
        exact ⟨ret_b' HE.out, HQ.out.2⟩
    | false =>
      have HE : Hid (sfD false C u = decide (grD C u.sg ≤ u.num)) := by show _ = decide (grD C u.sg ≤ u.num); rw [HE0.out, hst]; rfl
      clear HE0
      go_enter Tryd.func41, Tryd.ntmps41
      go_wp2_with fail
      refine hcl.mono ?_
      rintro e w1 ⟨hb1, ⟨he, -⟩ | ⟨-, gq, rfl, hgq, ha⟩⟩
      · cases he
      · have hrw := StK.out w1 hb1
        obtain ⟨g, cap, p, q, x1, x2, x3, x4, x5, x6, hq, hpl, hgl, hrl⟩ := hrw.ex
        have HQ : Hid (At w1 q (ic u.sg) tNk ∧ Below w.heap.size w w1) := ⟨hq, hb1⟩
        clear hrw hq
        have hgr := HGr.out w1 gq (.slice (some ⟨q, 0, none⟩) 4 4) u.sg ha (Reads.at_ HQ.out.1 HU.out.len (Nat.le_refl _) (fun i hi => ic_get _ _ (by rw [HU.out.len]; exact hi))) HU.out.len HU.out.sg HU.out.nz
        rw [k33] at x3
        rw [hst] at x4
        clear hb1 hcl ha k33 k61
        generalize grD C u.sg = gr at *
        go_wp2_with fail
        refine hgr.mono ?_
        rintro e w2 ⟨rfl, hb2⟩
        have y6 : w2.cell? ⟨p, 4, none⟩ = some (.int .i64 u.num) := (hb2.cell (p := ⟨p, 4, none⟩) hpl).trans x6
        have H2 : Hid (Below w.heap.size w w2) := HQ.out.2.trans (hb2.mono HQ.out.2.size)
        clear hb2 hgr
        go_wp2_with fail
        go_ret
        exact ⟨ret_b' HE.out, H2.out⟩
  · have HE : Hid (sfD false C u = true) := by show sfD false C u = _; unfold sfD; rw [if_neg (by decide), if_neg k61, if_neg k33]
    have b61 : (u.kind == 61) = false := by simpa using k61
    have b33 : (u.kind == 33) = false := by simpa using k33
    go_enter Tryd.func41, Tryd.ntmps41
    go_wp2_with fail
    refine hcl.mono ?_
    rintro e w1 ⟨hb1, ⟨he, -⟩ | ⟨-, gq, rfl, hgq, ha⟩⟩
    · cases he
    · have hrw := StK.out w1 hb1
      obtain ⟨g, cap, p, q, x1, x2, x3, x4, x5, x6, hq, hpl, hgl, hrl⟩ := hrw.ex
      have HQ : Hid (At w1 q (ic u.sg) tNk ∧ Below w.heap.size w w1) := ⟨hq, hb1⟩
      clear hrw hq
      clear hb1 hcl ha k33 k61
      go_wp2_with fail
      go_ret
      exact ⟨ret_b' HE.out, HQ.out.2⟩

end Go.Proofs.YtffajooegiempaaDoor

namespace Go.Proofs.YtffajooegiempaaDoor
open Go.RowKit
variable {w : World}

/-- What the document's Safe answers. -/
def safeD (l : List Int) (p : Int) (o : List Int) : Bool × Int :=
  match progOf l with
  | none => (false, 1)
  | some m => if p < 0 ∨ (m.st.length : Int) ≤ p then (false, 2) else if gdB o = true then (sfD (ovE o) (ovM o) (m.st.getD p.toNat noSt), 0) else (false, 3)
theorem ways_pos (u : St) : 1 ≤ waysR u := by unfold waysR; split <;> decide
theorem waysAt_0 (m : Rd) (p : Int) : ((0 : Int) < 0 ∨ waysAt m p ≤ 0) ↔ (p < 0 ∨ (m.st.length : Int) ≤ p) := by
  unfold waysAt
  by_cases h : p < 0 ∨ (m.st.length : Int) ≤ p
  · rw [if_pos h]; exact ⟨fun _ => h, fun _ => .inr (by decide)⟩
  · rw [if_neg h]
    have := ways_pos (m.st.getD p.toNat noSt)
    exact ⟨fun z => z.elim (fun q => absurd q (by decide)) (fun q => absurd q (by omega)), fun z => absurd z h⟩
/-- Both say the same of a statement. -/
theorem sf_same {x : Ds} {u : St} {o : List Int} (hc : Cor x u) (hu : StG u) (ho : okL o) : sfP (ovE o) (ovM o) x = sfD (ovE o) (ovM o) u := by
  obtain ⟨c0, _, c2, c3, c4⟩ := hc
  unfold sfP sfD
  cases he : ovE o with
  | true => rfl
  | false =>
    have hC0 : ovM o (0 * 8 + 1) = 0 := ((raw_lay ho).tc he).zero 0 (by omega)
    have g1 := (grP_grD hC0 hu.len hu.sg hu.nz).1
    have g2 := (grP_grD hC0 (ngL_len u.sg) (ngL_rng hu.sg) (by rw [nz_ngL hu.len]; exact hu.nz)).1
    have e1 : grP (ovM o) u.sg = grD (ovM o) u.sg := g1
    have e2 : grP (ovM o) (ngL u.sg) = grD (ovM o) (ngL u.sg) := g2
    rw [if_neg (show ¬ (false = true) by decide), if_neg (show ¬ (false = true) by decide)]
    have k0 : x.kind = 0 ↔ u.kind = 61 := by
      rw [c0]; unfold kindOf
      constructor
      · intro h; rw [if_pos h]
      · intro h
        by_cases q : x.kind = 0
        · exact q
        · rw [if_neg q] at h
          split at h
          · cases h
          · split at h <;> cases h
    have k1 : x.kind = 1 ↔ u.kind = 33 := by
      rw [c0]; unfold kindOf
      constructor
      · intro h; rw [if_neg (by omega), if_pos h]
      · intro h
        by_cases q : x.kind = 0
        · rw [if_pos q] at h; cases h
        · rw [if_neg q] at h
          by_cases q1 : x.kind = 1
          · exact q1
          · rw [if_neg q1] at h
            split at h <;> cases h
    by_cases q0 : x.kind = 0
    · rw [if_pos q0, if_pos (k0.1 q0), ← c2, ← c4, ← c3]
      unfold ftB
      rw [e1, e2]
    · rw [if_neg q0, if_neg (fun z => q0 (k0.2 z))]
      by_cases q1 : x.kind = 1
      · rw [if_pos q1, if_pos (k1.1 q1), ← c2, ← c4, ← c3, e1]
      · rw [if_neg q1, if_neg (fun z => q1 (k1.2 z))]
theorem safe_same (s : ByteArray) (p : Int) (o : List Int) : safeP s p o = safeD (bytesOf s) p o := by
  unfold safeP safeD
  cases hp : progOf (bytesOf s) with
  | none => rfl
  | some m =>
    have hl := (progOf_some hp).1
    have hb := bytesOf_len s
    rcases prog_whole s (by omega) with ⟨_, hn⟩ | ⟨m', _, hp', hW⟩
    · rw [hp] at hn; cases hn
    · rw [hp] at hp'
      cases hp'
      show (if p < 0 ∨ (m.st.length : Int) ≤ p then (false, 2) else if gdB o = true then (sfP (ovE o) (ovM o) ((readZ s).2.getD p.toNat (newDs 0 0)), (0 : Int)) else (false, 3)) = if p < 0 ∨ (m.st.length : Int) ≤ p then (false, 2) else if gdB o = true then (sfD (ovE o) (ovM o) (m.st.getD p.toNat noSt), 0) else (false, 3)
      by_cases h : p < 0 ∨ (m.st.length : Int) ≤ p
      · rw [if_pos h, if_pos h]
      · rw [if_neg h, if_neg h]
        by_cases hg : gdB o = true
        · rw [if_pos hg, if_pos hg]
          have hlen := hW.1.len
          have hk : p.toNat < (readZ s).2.length := by omega
          rw [sf_same (dsg_of hp hW hk).2 (stg_of hp p.toNat) (gdB_ok.1 hg)]
        · rw [if_neg hg, if_neg hg]

set_option maxRecDepth 100000 in
set_option maxHeartbeats 1600000 in
theorem ref_safe (s : ByteArray) (p : Int) (v : Value) (o : List Int) (hm : s.size ≤ maxLen) (hol : o.length ≤ 1073741824) (hv : Reads w v o) :
    Calls Tryd.prog 20 #[.string s, .int .i64 p, v] w fun e w' => e = bi (safeD (bytesOf s) p o) ∧ Below w.heap.size w w' := by
  have HV : Hid (Reads w v o) := hv
  have HGd : Hid (∀ w1, Below w.heap.size w w1 → Calls Tryd.prog 25 #[v] w1 fun e w' => e = .returned (.bool (gdB o)) ∧ w' = w1) := fun w1 hb => r_good v o hol (hv.keep hb)
  cases hp : progOf (bytesOf s) with
  | none =>
    have HE : Hid (safeD (bytesOf s) p o = (false, 1)) := by show safeD _ _ _ = _; unfold safeD; rw [hp]
    have hk := ref_known_none s p 0 w hm hp
    obtain ⟨ao, ca, rfl, -, -⟩ := hv
    clear hp hm
    go_enter Tryd.func20, Tryd.ntmps20
    go_wp2_with fail
    refine hk.mono ?_
    rintro e w1 ⟨rfl, hb1⟩
    go_wp2_with fail
    go_ret2
    exact ⟨by rw [HE.out]; rfl, hb1⟩
  | some m =>
    have HE : Hid (safeD (bytesOf s) p o = if p < 0 ∨ (m.st.length : Int) ≤ p then (false, 2) else if gdB o = true then (sfD (ovE o) (ovM o) (m.st.getD p.toNat noSt), 0) else (false, 3)) := by show safeD _ _ _ = _; unfold safeD; rw [hp]
    have hk := ref_known_some s p 0 w hm hp
    have HS : Hid (∀ k, StG (m.st.getD k noSt)) := fun k => stg_of hp k
    have HWy : Hid (_ ↔ _) := waysAt_0 m p
    obtain ⟨ao, ca, rfl, -, -⟩ := id hv
    clear hp hm hv
    go_enter Tryd.func20, Tryd.ntmps20
    go_wp2_with fail
    refine hk.mono ?_
    rintro e w1 ⟨hb1, ⟨rfl, hway⟩ | ⟨hway, hl20, r, B, vs, vo, P, Q, O, rfl, hrep⟩⟩
    · have HE2 : Hid (safeD (bytesOf s) p o = (false, 2)) := HE.out.trans (if_pos (HWy.out.1 hway))
      clear HE hway hk
      go_wp2_with fail
      go_ret2
      exact ⟨by rw [HE2.out]; rfl, hb1⟩
    · have hin : ¬ (p < 0 ∨ (m.st.length : Int) ≤ p) := fun z => hway (HWy.out.2 z)
      obtain ⟨k, rfl⟩ : ∃ k : Nat, p = k := ⟨p.toNat, by omega⟩
      have hkl : k < m.st.length := by omega
      have HE2 : Hid (safeD (bytesOf s) k o = if gdB o = true then (sfD (ovE o) (ovM o) (m.st.getD k noSt), 0) else (false, 3)) := HE.out.trans (if_neg hin)
      have hgd := HGd.out w1 hb1
      have HB1 : Hid (Below w.heap.size w w1) := hb1
      by_cases hok : okL o
      · have hsf := r_safe hrep k hkl (HS.out k) _ o hok (HV.out.keep hb1)
        rw [gdB_ok.2 hok] at hgd
        have HE3 : Hid (safeD (bytesOf s) k o = (sfD (ovE o) (ovM o) (m.st.getD k noSt), 0)) := HE2.out.trans (if_pos (gdB_ok.2 hok))
        clear HE HE2 hway hk hin hrep hb1 hok HWy
        generalize sfD (ovE o) (ovM o) (m.st.getD k noSt) = sf at *
        go_wp2_with fail
        refine hgd.mono ?_
        rintro e w2 ⟨rfl, hw2⟩
        subst hw2
        go_wp2_with fail
        refine hsf.mono ?_
        rintro e w3 ⟨rfl, hb3⟩
        go_wp2_with fail
        go_ret2
        exact ⟨by rw [HE3.out]; rfl, HB1.out.trans (hb3.mono HB1.out.size)⟩
      · rw [gdB_no hok] at hgd
        have HE3 : Hid (safeD (bytesOf s) k o = (false, 3)) := HE2.out.trans (if_neg (by rw [gdB_no hok]; decide))
        clear HE HE2 hway hk hin hrep hb1 hok HWy
        go_wp2_with fail
        refine hgd.mono ?_
        rintro e w2 ⟨rfl, hw2⟩
        subst hw2
        go_wp2_with fail
        go_ret2
        exact ⟨by rw [HE3.out]; rfl, HB1.out⟩

end Go.Proofs.YtffajooegiempaaDoor

namespace Go.Proofs.YtffajooegiempaaDoor
open Go.RowKit
variable {w : World}

set_option maxRecDepth 100000 in
set_option maxHeartbeats 1600000 in
theorem safes_walk (hG : Glob w) (s : ByteArray) (p : Int) (v : Value) (L : List Int) (hm : s.size ≤ maxLen) (hL : L.length ≤ maxLen) (hv : Reads w v L) :
    Calls Tryd.prog 6 #[.string s, .int .i64 p, v] w fun e w' => e = .returned (.bool true) ∧ Below w.heap.size w w' := by
  have hL' : L.length ≤ 9223372036854775807 := by unfold maxLen at hL; omega
  clear hL
  by_cases hbig : 1073741824 < L.length
  · obtain ⟨ao, cap, rfl, -, -⟩ := hv
    have hb' : (1073741824 : Int) < (L.length : Int) := by omega
    clear hG hm
    go_enter Tryd.func6, Tryd.ntmps6
    go_wp2_with fail
    go_ret
    exact ⟨rfl, Below.refl _ _⟩
  have hL2 : L.length ≤ 1073741824 := by omega
  have hb' : ¬ (1073741824 : Int) < (L.length : Int) := by omega
  have hlent := l_lent w v L hL2 hv
  have HV : Hid (Reads w v L) := hv
  have HSf : Hid (∀ w1, Below w.heap.size w w1 → At w1 w.heap.size (lentCells L) tN → Calls Tryd.prog 19 #[.string s, .int .i64 p, .slice (some ⟨w.heap.size, 0, none⟩) L.length (L.length + 2)] w1 fun e w' => e = bi (safeD (bytesOf s) p L) ∧ Below w1.heap.size w1 w') := fun w1 hb1 hat => by
    rw [← safe_same]
    exact w_safe (hG.keep hb1 hG.size) s p _ L hm (Reads.lent hat)
  have HRef : Hid (∀ w1, Below w.heap.size w w1 → Calls Tryd.prog 20 #[.string s, .int .i64 p, v] w1 fun e w' => e = bi (safeD (bytesOf s) p L) ∧ Below w1.heap.size w1 w') := fun w1 hb1 => ref_safe s p v L hm hL2 (HV.out.keep hb1)
  obtain ⟨ao, cap, rfl, -, -⟩ := id hv
  clear hv hL' hbig hG hm
  generalize safeD (bytesOf s) p L = x at *
  obtain ⟨y, c⟩ := x
  unfold bi at HSf HRef
  go_enter Tryd.func6, Tryd.ntmps6
  go_wp2_with fail
  refine hlent.mono ?_
  rintro e w1 ⟨rfl, hb1, hat1, hs1⟩
  have HB1 : Hid (Below w.heap.size w w1) := hb1
  have HA1 : Hid (At w1 w.heap.size (lentCells L) tN) := hat1
  clear hb1 hat1 hlent
  go_wp2_with fail
  refine (HSf.out w1 HB1.out HA1.out).mono ?_
  rintro e w2 ⟨rfl, hb2⟩
  have HB2 : Hid (Below w.heap.size w w2) := HB1.out.trans (hb2.mono (by omega))
  have HA2 : Hid (At w2 w.heap.size (lentCells L) tN) := HA1.out.keep hb2 hs1
  have hs2 : w1.heap.size ≤ w2.heap.size := hb2.size
  clear hb2
  go_wp2_with fail
  refine (HRef.out w2 HB2.out).mono ?_
  rintro e w3 ⟨rfl, hb3⟩
  have HB3 : Hid (Below w.heap.size w w3) := HB2.out.trans (hb3.mono (by omega))
  have HA3 : Hid (At w3 w.heap.size (lentCells L) tN) := HA2.out.keep hb3 (by omega)
  have hwh := l_whole w3 w.heap.size (.slice ao L.length cap) L hL2 HA3.out (HV.out.keep HB3.out)
  clear hb3
  go_wp2_with fail
  refine hwh.mono ?_
  rintro e w5 ⟨rfl, k', rfl⟩
  go_wp2_with fail
  go_ret
  exact ⟨rfl, below_drewN HB3.out k'⟩

end Go.Proofs.YtffajooegiempaaDoor

namespace Go.Proofs.YtffajooegiempaaDoor
open Go.ChangeShapes Go.WideShapes Go.ChangeAt Go.WideMaps Go.WideElems Go.RowKit Go.ChangeMaps

set_option maxRecDepth 100000 in
theorem safes_lifted (os : Os) (started : os.Started) (H : Type) (enc : TypeId × Value → H) :
    ReturnsInHanded {} Tryd.checked os 6 .any (fun w args => (Rows.safesSpec.pre enc Tryd.prog Tryd.f6 [] false w args ∧ laidMetH Tryd.prog laid2 w) ∧ sizedMet enc Tryd.prog Tryd.f6 (OpenSpec.ofChange Rows.safesSpec) false w args)
      (Rows.safesSpec.post enc Tryd.prog Tryd.f6 false true false false) := by
  refine returnsInHanded_of_change_and (C := Tryd.checked) (X := fun w _ => laidMetH Tryd.prog laid2 w) (fun _ _ _ hh h => h.of_heap hh) Tryd.ownD started (by kernel_rfl) Tryd.func6
    (ChangeSpec.witness_shaped (enc := enc) (C := Tryd.checked) (os := os) (X := fun w _ => laidMetH Tryd.prog laid2 w) false (World.doorLaid Tryd.prog 4000 os) #[.string ByteArray.empty, .int .i64 0, .slice none 0 0] 8 rfl (World.shaped_of_RefB (by kernel_rfl) (by kernel_rfl)) (by kernel_rfl) (by kernel_rfl) (by kernel_rfl) (door_met os _)) ?_
  intro W base args ds gs before hval0 hW _ _ hL _
  have hval : ∀ (j : Nat) t v, Tryd.f6.params[j]? = some t → args[j]? = some v → Value.okWide Tryd.prog W .any base t v := hval0
  have hW' := hW
  obtain ⟨p, q, hA0, hV, rfl, hfz, hnd⟩ := hW
  have hA : DataW.TrodAll enc Tryd.prog W 0 (fun _ => true) true Tryd.f6.params.toList args.toList ds p := hA0
  rw [Tryd.params6] at hA hval
  obtain ⟨v0, vs0, d0, ds0, p0, q0, hargs0, rfl, rfl, h0, r0⟩ := trodAll_cons hA
  obtain ⟨v1, vs1, d1, ds1, p1, q1, hargs1, rfl, rfl, h1, r1⟩ := trodAll_cons r0
  obtain ⟨v2, vs2, d2, ds2, p2, q2, hargs2, rfl, rfl, h2, r2⟩ := trodAll_cons r1
  obtain ⟨rfl, rfl, rfl⟩ := trodAll_nil r2
  obtain rfl : args = #[v0, v1, v2] := by cases args; simp_all
  obtain ⟨rfl, rfl⟩ := trodVars_none hV
  obtain ⟨s, rfl, rfl, rfl, hs⟩ := open_string Tryd.underlying9 (hval 0 9 v0 rfl rfl) h0
  obtain ⟨b, rfl, rfl, rfl, wb⟩ := open_int Tryd.underlying3 (hval 1 3 v1 rfl rfl) h1
  obtain ⟨a0, l0, c0, rfl⟩ := okWide_slice Tryd.underlying22 (hval 2 22 v2 rfl rfl)
  clear hA0 hval0
  simp only [List.append_nil, List.nil_append] at hW'
  have lt2 : ∀ x ∈ p2, x.block < W.heap.size := fun x hx => hW'.lt x (by simp [hx])
  obtain ⟨L2, m2, R2⟩ := open_reads h2 lt2
  refine (safes_walk (of_laid hL) s b _ L2 hs m2 R2).mono fun e W' ⟨he, hb⟩ => ?_
  subst he
  have t2 := Below.trod Tryd.laidOutD (by kernel_rfl) (of_decide_eq_true (by kernel_rfl)) h2 hb lt2
  have hall := trodAll_cons_mk (shut_string Tryd.underlying9 hs) (trodAll_cons_mk (shut_int Tryd.underlying3 wb) (trodAll_cons_mk t2 trodAll_mk0))
  simp only [List.append_nil, List.nil_append] at hall
  exact ⟨_, rfl, _, _, _, [], p2, [], hW', trodAll_cons_mk (shut_bool Tryd.underlying4 _) trodAll_mk0, hall, rfl, hb.frame _, fun h => by cases h⟩

theorem safes_row : Rows.SafesSaid :=
  OpenClaim.holds_of_wide 6 Tryd.f6 rfl rfl rfl rfl rfl rfl rfl ⟨rfl, rfl, rfl, rfl, rfl⟩ rfl rfl rfl rfl rfl (by kernel_rfl) Tryd.func6 (by kernel_rfl)
    (of_decide_eq_true (by kernel_rfl)) (by unfold Func.isWrapper; first | (rw [if_pos (by decide +kernel)]; kernel_rfl) | (rw [if_neg (by decide +kernel)]; exact ⟨rfl, rfl⟩))
    (fun os started H enc _ => safes_lifted os started H enc)

theorem safes_card : Rows.SafesCardSaid :=
  Claim7.holds_tied_plain_at .later [] [.data, .data] true Rows.safesCard.stood.harness false
    safes_row (fun _ h => by cases h) (by kernel_rfl) (fun _ h => by cases h) safes_row_tie rfl ⟨rfl, rfl⟩ (by kernel_rfl) rfl
    (fun f fn hf hfn => by
      obtain rfl : f = 6 := Option.some.inj ((show Tryd.prog.funcNamed "witness/witnesslaw.Safes" = some 6 by kernel_rfl).symm.trans hf) |>.symm
      obtain rfl : fn = Tryd.f6 := (Option.some.inj (Tryd.func6.symm.trans hfn)).symm
      exact ⟨by kernel_rfl, fun j t ht => by
        rw [Tryd.params6] at ht
        have hm : t ∈ [9, 3, 22] := by simpa using Array.mem_of_getElem? ht
        have hall : ([9, 3, 22].all fun u => !Tryd.prog.wantsStandIn u) = true := by kernel_rfl
        exact (show Tryd.prog.wantsStandIn t = false by simpa using List.all_eq_true.1 hall t hm)⟩)
    (by kernel_rfl)

end Go.Proofs.YtffajooegiempaaDoor

