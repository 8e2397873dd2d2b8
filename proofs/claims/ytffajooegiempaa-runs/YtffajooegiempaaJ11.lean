import Derived.Test.YtffajooegiempaaJ10
import Derived.Laws.CopyOwn
import Derived.Laws.MakeOwn
import Derived.Deep.RegionWith
import Derived.ProofKit
import Derived.OpenShut
import Derived.ChangeMaps5
import Derived.ChangeSlices
import Derived.Carry
namespace Go.Proofs.Ytffajooegiempaa
open Go.RowKit
variable {B B2 : Nat} {w w' : World} {r : Nat} {m : Rd} {vs vo : Value} {P Q O : Nat → Nat}

theorem Rep.keep (h : Rep B w r m vs vo P Q O) (hb : Below w.heap.size w w') : Rep B w' r m vs vo P Q O where
  rd := h.rd.keep hb h.rd.lt
  rs := ownsRow_same h.rs (fun g hg => hb.block g (h.rs.lt g hg).2)
  ro := ownsRow_same h.ro (fun g hg => hb.block g (h.ro.lt g hg).2)
  st := fun i s hi => by
    obtain ⟨a, b⟩ := h.st i s hi
    exact ⟨a.keep hb a.lt, b.keep hb b.lt⟩
  op := fun i b hi => (h.op i b hi).keep hb (h.op i b hi).lt
  injP := h.injP
  injQ := h.injQ
  injO := h.injO
  geR := h.geR
  geP := h.geP
  geO := h.geO

end Go.Proofs.Ytffajooegiempaa

namespace Go.Proofs.Ytffajooegiempaa
open Go.RowKit

/-- Numbers as cells. -/
def ic (l : List Int) : Array Value := (l.map (Value.int .i64)).toArray
theorem ic_get (l : List Int) (i : Nat) (h : i < l.length) : (ic l)[i]? = some (.int .i64 (l.getD i 0)) := by
  simp [ic, List.getD, h]
theorem ic_set (l : List Int) (i : Nat) (x : Int) : (ic l).setIfInBounds i (.int .i64 x) = ic (l.set i x) := by simp [ic, List.map_set]
theorem ic_size (l : List Int) : (ic l).size = l.length := by simp [ic]

/-- A slice that reads as these numbers. -/
def Reads (w : World) (v : Value) (l : List Int) : Prop :=
  ∃ ao cap, v = .slice ao l.length cap ∧ l.length ≤ cap ∧ (l.length ≠ 0 → ∃ b off, ao = some ⟨b, off, none⟩ ∧ b < w.heap.size ∧ ∀ i, i < l.length → w.cell? ⟨b, off + i, none⟩ = some (.int .i64 (l.getD i 0)))

theorem Reads.keep {w w' : World} {v : Value} {l : List Int} (h : Reads w v l) (hb : Below w.heap.size w w') : Reads w' v l := by
  obtain ⟨ao, cap, hv, hc, h0⟩ := h
  refine ⟨ao, cap, hv, hc, fun hn => ?_⟩
  obtain ⟨b, off, ha, hlt, hcell⟩ := h0 hn
  exact ⟨b, off, ha, Nat.lt_of_lt_of_le hlt hb.size, fun i hi => (hb.cell (by exact hlt)).trans (hcell i hi)⟩
theorem Reads.at_ {w : World} {g n cap : Nat} {l : List Int} {c : Array Value} {t : TypeId} (h : At w g c t) (hn : l.length = n) (hcap : n ≤ cap) (hc : ∀ i, i < n → c[i]? = some (.int .i64 (l.getD i 0))) : Reads w (.slice (some ⟨g, 0, none⟩) n cap) l := by
  subst hn
  exact ⟨_, cap, rfl, hcap, fun _ => ⟨g, 0, rfl, h.lt, fun i hi => by rw [Nat.zero_add, h.cell]; exact hc i hi⟩⟩

theorem drewN_two (w : World) (j k : Nat) : (w.drewN j).drewN k = w.drewN (j + k) := by
  first | rfl | (induction k with | zero => rfl | succ k ih => rw [← Nat.add_assoc]; show ((w.drewN j).drewN k).drew = _; rw [ih]; rfl) | simp [World.drewN, Nat.add_assoc]

end Go.Proofs.Ytffajooegiempaa

namespace Go.Proofs.Ytffajooegiempaa
open Go.RowKit

set_option maxRecDepth 100000 in
set_option maxHeartbeats 800000 in
theorem l_same (w : World) (a b : Value) (l : List Int) (hm : l.length ≤ 1073741824) (ha : Reads w a l) (hb : Reads w b l) :
    Calls Try.prog 23 #[a, b] w fun e w' => e = .returned (.bool true) ∧ ∃ k, w' = w.drewN k := by
  obtain ⟨ao, ca, rfl, hca, ha⟩ := ha
  obtain ⟨bo, cb, rfl, hcb, hb⟩ := hb
  by_cases h0 : l.length = 0
  · rw [h0]
    clear ha hb hca hcb h0
    go_enter Try.func23, Try.ntmps23
    go_wp2_with fail
    go_loop [5] (fun i => i = .int .i64 0) (fun _ => 0)
    case atStart => rfl
    case round =>
      subst hrel
      go_wp2_with fail
      go_ret
      exact ⟨rfl, 0, rfl⟩
  · obtain ⟨p, o, rfl, hp, cp⟩ := ha h0
    obtain ⟨q, o', rfl, hq, cq⟩ := hb h0
    generalize hL : l.length = n at *
    have HA : Hid (∀ i, i < n → w.cell? ⟨p, o + i, none⟩ = some (.int .i64 (l.getD i 0))) := cp
    have HB : Hid (∀ i, i < n → w.cell? ⟨q, o' + i, none⟩ = some (.int .i64 (l.getD i 0))) := cq
    clear ha hb cp cq hL h0
    go_enter Try.func23, Try.ntmps23
    go_wp2_with fail
    go_loopw [5] (fun i wr => ∃ j k : Nat, j ≤ n ∧ i = .int .i64 j ∧ wr = w.drewN k) (fun i _ => n - (intOf i).toNat)
    case atStart => exact ⟨0, 0, Nat.zero_le _, rfl, rfl⟩
    case round =>
      obtain ⟨j, k, hj, rfl, hwr⟩ := hrel
      have HW : Hid (∃ k, wr = w.drewN k) := ⟨k, hwr⟩
      have k1 : ∀ a, wr.cell? a = w.cell? a := fun a => by rw [hwr]; rfl
      by_cases hlt : j < n
      · have c1 : wr.cell? ⟨p, o + j, none⟩ = some (.int .i64 (l.getD j 0)) := (k1 _).trans (HA.out j hlt)
        have c2 : wr.cell? ⟨q, o' + j, none⟩ = some (.int .i64 (l.getD j 0)) := (k1 _).trans (HB.out j hlt)
        clear hwr k1
        have hji : (j : Int) < (n : Int) := by omega
        generalize l.getD j 0 = x at *
        go_wp2_with fail
        go_quiet (fail)
        go_wp2_with fail
        go_roundw
        case rel => obtain ⟨k', e⟩ := HW.out; exact ⟨j + 1, _, by omega, by go_num, by rw [e]; exact drewN_two _ _ _⟩
        case measure => simp [intOf]; omega
      · have hji : ¬ (j : Int) < (n : Int) := by omega
        clear hwr k1
        go_wp2_with fail
        go_ret
        exact ⟨rfl, HW.out⟩

end Go.Proofs.Ytffajooegiempaa

namespace Go.Proofs.Ytffajooegiempaa
open Go.RowKit

abbrev tN : TypeId := 3

set_option maxRecDepth 100000 in
set_option maxHeartbeats 800000 in
theorem l_mark (w : World) (g n cap : Nat) (c : Array Value) (v : Int) (h : At w g c tN) (hs : c.size = cap) (_hn : n ≤ cap) (hm : cap ≤ 1073741824) (hv0 : 0 ≤ v) (hv1 : v ≤ 4398046511104) :
    Calls Try.prog 24 #[.slice (some ⟨g, 0, none⟩) n cap, .int .i64 v] w fun e w' => e = .returned (.tuple #[]) ∧ Below g w w' ∧ ∃ c', At w' g c' tN ∧ c'.size = cap ∧ ∀ i, i < cap → c'[i]? = some (.int .i64 (v + i)) := by
  have HA : Hid (At w g c tN) := h
  have HS : Hid (c.size = cap) := hs
  have hg := h.lt
  clear h hs
  go_enter Try.func24, Try.ntmps24
  go_wp2_with fail
  go_loopw [5] (fun i wr => ∃ (j : Nat) (c' : Array Value), j ≤ cap ∧ i = .int .i64 j ∧ At wr g c' tN ∧ c'.size = cap ∧ (∀ i, i < j → c'[i]? = some (.int .i64 (v + i))) ∧ Below g w wr) (fun i _ => cap - (intOf i).toNat)
  case atStart => exact ⟨0, c, Nat.zero_le _, rfl, HA.out, HS.out, fun i hi => absurd hi (by omega), Below.refl _ _⟩
  case round =>
    obtain ⟨j, c', hj, rfl, hat, hsz, hall, hbel⟩ := hrel
    have HA' : Hid (At wr g c' tN) := hat
    have HS' : Hid (c'.size = cap) := hsz
    have HL : Hid (∀ i, i < j → c'[i]? = some (.int .i64 (v + i))) := hall
    have HB : Hid (Below g w wr) := hbel
    by_cases hlt : j < cap
    · have hji : (j : Int) < (cap : Int) := by omega
      obtain ⟨x, c1⟩ : ∃ x, wr.cell? ⟨g, j, none⟩ = some x := ⟨c'[j]'(by omega), by rw [hat.cell]; simp [hsz, hlt]⟩
      have f1 : wr.frozen? ⟨g, j, none⟩ = false := hat.free j
      clear hat hsz hall hbel
      go_wp2_with fail
      go_roundw
      case rel =>
        refine ⟨j + 1, _, by omega, by go_num, HA'.out.put j (.int .i64 (v + j)), by simp [HS'.out], fun i hi => ?_, HB.out.setCell (Nat.le_refl _) _⟩
        have := HS'.out
        by_cases e : i = j
        · subst e; simp [this, hlt]
        · simp [Ne.symm e]; exact HL.out i (by omega)
      case measure => simp [intOf]; omega
    · have hji : ¬ (j : Int) < (cap : Int) := by omega
      have hje : j = cap := by omega
      clear hat hsz hall hbel
      go_wp2_with fail
      go_end0
      exact ⟨rfl, HB.out, c', HA'.out, HS'.out, by rw [← hje]; exact HL.out⟩

set_option maxRecDepth 100000 in
set_option maxHeartbeats 800000 in
theorem l_marked (w : World) (g n cap : Nat) (v : Int) (_hg : g < w.heap.size) (_hn : n ≤ cap) (hm : cap ≤ 1073741824) (hv0 : 0 ≤ v) (hv1 : v ≤ 4398046511104) (h : ∀ i : Nat, i < cap → w.cell? ⟨g, i, none⟩ = some (.int .i64 (v + i))) :
    Calls Try.prog 25 #[.slice (some ⟨g, 0, none⟩) n cap, .int .i64 v] w fun e w' => e = .returned (.bool true) ∧ w' = w := by
  have HA : Hid (∀ i : Nat, i < cap → w.cell? ⟨g, i, none⟩ = some (.int .i64 (v + i))) := h
  clear h
  go_enter Try.func25, Try.ntmps25
  go_wp2_with fail
  go_loop [6] (fun i => ∃ (j : Nat), j ≤ cap ∧ i = .int .i64 j) (fun i => cap - (intOf i).toNat)
  case atStart => exact ⟨0, Nat.zero_le _, rfl⟩
  case round =>
    obtain ⟨j, hj, rfl⟩ := hrel
    by_cases hlt : j < cap
    · have hji : (j : Int) < (cap : Int) := by omega
      have c1 := HA.out j hlt
      go_wp2_with fail
      go_round
      case rel => exact ⟨j + 1, by omega, by go_num⟩
      case measure => simp [intOf]; omega
    · have hji : ¬ (j : Int) < (cap : Int) := by omega
      go_wp2_with fail
      go_ret
      exact ⟨rfl, rfl⟩

set_option maxRecDepth 100000 in
set_option maxHeartbeats 800000 in
theorem l_mine (w : World) (g n cap : Nat) (c : Array Value) (h : At w g c tN) (hs : c.size = cap) (hn : n ≤ cap) (hm : cap ≤ 1073741824) :
    Calls Try.prog 34 #[.slice (some ⟨g, 0, none⟩) n cap] w fun e w' => e = .returned (.bool true) ∧ Below g w w' := by
  have h1 := l_mark w g n cap c 1099511627776 h hs hn hm (by omega) (by omega)
  clear h hs
  go_enter Try.func34, Try.ntmps34
  go_wp2_with fail
  refine h1.mono ?_
  rintro e w1 ⟨rfl, hb, c', hat, hsz, hall⟩
  have h2 := l_marked w1 g n cap 1099511627776 hat.lt hn hm (by omega) (by omega) (fun i hi => by rw [hat.cell]; exact hall i hi)
  clear hat hsz hall h1
  go_wp2_with fail
  refine h2.mono ?_
  rintro e w2 ⟨rfl, rfl⟩
  go_wp2_with fail
  go_ret
  exact ⟨rfl, hb⟩

set_option maxRecDepth 100000 in
set_option maxHeartbeats 800000 in
theorem l_mine_nil (w : World) : Calls Try.prog 34 #[.slice none 0 0] w fun e w' => e = .returned (.bool true) ∧ w' = w := by
  have h1 : ∀ w, Calls Try.prog 24 #[.slice none 0 0, .int .i64 1099511627776] w fun e w' => e = .returned (.tuple #[]) ∧ w' = w := by
    intro w
    go_enter Try.func24, Try.ntmps24
    go_wp2_with fail
    go_loop [5] (fun i => i = .int .i64 0) (fun _ => 0)
    case atStart => rfl
    case round =>
      subst hrel
      go_wp2_with fail
      go_end0
      exact ⟨rfl, rfl⟩
  have h2 : ∀ w, Calls Try.prog 25 #[.slice none 0 0, .int .i64 1099511627776] w fun e w' => e = .returned (.bool true) ∧ w' = w := by
    intro w
    go_enter Try.func25, Try.ntmps25
    go_wp2_with fail
    go_loop [6] (fun i => i = .int .i64 0) (fun _ => 0)
    case atStart => rfl
    case round =>
      subst hrel
      go_wp2_with fail
      go_ret
      exact ⟨rfl, rfl⟩
  go_enter Try.func34, Try.ntmps34
  go_wp2_with fail
  refine (h1 _).mono ?_
  rintro e w1 ⟨rfl, rfl⟩
  go_wp2_with fail
  refine (h2 _).mono ?_
  rintro e w1 ⟨rfl, rfl⟩
  go_wp2_with fail
  go_ret
  exact ⟨rfl, rfl⟩

end Go.Proofs.Ytffajooegiempaa

/- A run, plain: the program's machine. -/
namespace Go.Proofs.Ytffajooegiempaa

structure Ms where
  used : Nat
  st : Int
  pt : Int
  v : List Int

def clampI (n : Int) : Int := if 999 < n then 999 else if n < -999 then -999 else n
def sumTo (a b : List Int) : Nat → Int
  | 0 => 0
  | j + 1 => sumTo a b j + sgAt a j * sgAt b j
def inP (L : List Int) (u : Nat) : Int × Nat := if u < L.length then (L.getD u 0, u + 1) else (0, u)
def valP (L : List Int) (x : Ds) (s : Ms) : Int × Nat := if x.any = true then (clampI (inP L s.used).1, (inP L s.used).2) else (sumTo x.sg s.v 4 + x.num, s.used)
def holP (L : List Int) (x : Ds) (s : Ms) : Bool × Nat := if x.any = true then ((inP L s.used).1 != 0, (inP L s.used).2) else (decide (sumTo x.sg s.v 4 ≤ x.num), s.used)
def entP (n : Nat) (s : Ms) (p : Int) : Ms := ⟨s.used, if p = n then 1 else s.st, p, s.v⟩
def leaP (F : List Ds) (s : Ms) (way : Int) : Ms := if (nextP F s.pt way).2 = 0 then entP F.length s (nextP F s.pt way).1 else s
def asgP (F : List Ds) (L : List Int) (x : Ds) (s : Ms) : Ms :=
  if 999 < (valP L x s).1 ∨ (valP L x s).1 < -999 then ⟨(valP L x s).2, 2, s.pt, s.v⟩ else leaP F ⟨(valP L x s).2, s.st, s.pt, s.v.set x.target.toNat (valP L x s).1⟩ 0
def astP (F : List Ds) (L : List Int) (x : Ds) (s : Ms) : Ms :=
  if (holP L x s).1 = true then leaP F ⟨(holP L x s).2, s.st, s.pt, s.v⟩ 0 else ⟨(holP L x s).2, 3, s.pt, s.v⟩
def braP (F : List Ds) (L : List Int) (x : Ds) (s : Ms) : Ms := leaP F ⟨(holP L x s).2, s.st, s.pt, s.v⟩ (if (holP L x s).1 = true then 0 else 1)
def stpP (F : List Ds) (L : List Int) (s : Ms) : Ms :=
  if s.pt < 0 ∨ (F.length : Int) ≤ s.pt then s else
    if (F.getD s.pt.toNat (newDs 0 0)).kind = 0 then asgP F L (F.getD s.pt.toNat (newDs 0 0)) s
    else if (F.getD s.pt.toNat (newDs 0 0)).kind = 1 then astP F L (F.getD s.pt.toNat (newDs 0 0)) s
    else braP F L (F.getD s.pt.toNat (newDs 0 0)) s
def runP (F : List Ds) (L : List Int) : Nat → Ms → Ms
  | 0, s => s
  | n + 1, s => if s.st = 0 then runP F L n (stpP F L s) else s

/-- What a statement keeps to. -/
structure DsOk (x : Ds) : Prop where
  len : x.sg.length = 4
  sg : ∀ i, -1 ≤ sgAt x.sg i ∧ sgAt x.sg i ≤ 1
  num : -99 ≤ x.num ∧ x.num ≤ 99
  tg : 0 ≤ x.target ∧ x.target ≤ 3
/-- What a machine keeps to. -/
structure MsOk (L : List Int) (s : Ms) : Prop where
  len : s.v.length = 4
  v : ∀ i, -999 ≤ sgAt s.v i ∧ sgAt s.v i ≤ 999
  used : s.used ≤ L.length

theorem mul_sg (a b : Int) (h0 : -1 ≤ a) (h1 : a ≤ 1) (h2 : -999 ≤ b) (h3 : b ≤ 999) : -999 ≤ a * b ∧ a * b ≤ 999 := by
  rcases (show a = -1 ∨ a = 0 ∨ a = 1 by omega) with rfl | rfl | rfl <;> omega
theorem sumTo_le {a b : List Int} (ha : ∀ i, -1 ≤ sgAt a i ∧ sgAt a i ≤ 1) (hb : ∀ i, -999 ≤ sgAt b i ∧ sgAt b i ≤ 999) : ∀ j : Nat, -(999 * (j : Int)) ≤ sumTo a b j ∧ sumTo a b j ≤ 999 * (j : Int) := by
  intro j
  induction j with
  | zero => simp [sumTo]
  | succ j ih =>
    have := mul_sg (sgAt a j) (sgAt b j) (ha j).1 (ha j).2 (hb j).1 (hb j).2
    unfold sumTo
    omega
theorem inP_used {L : List Int} {u : Nat} (h : u ≤ L.length) : (inP L u).2 ≤ L.length := by
  unfold inP; split <;> simp <;> omega
theorem clampI_le (n : Int) : -999 ≤ clampI n ∧ clampI n ≤ 999 := by
  unfold clampI; split
  · omega
  · split <;> omega
theorem sgAt_set (l : List Int) (i j : Nat) (x : Int) (hi : i < l.length) : sgAt (l.set i x) j = if j = i then x else sgAt l j := by
  unfold sgAt
  rw [List.getD_eq_getElem?_getD, List.getElem?_set]
  by_cases e : i = j
  · subst e; simp [hi]
  · rw [if_neg e, if_neg (Ne.symm e), List.getD_eq_getElem?_getD]

variable {F : List Ds} {L : List Int} {s : Ms} {x : Ds}
theorem MsOk.lea (h : MsOk L s) (way : Int) : MsOk L (leaP F s way) := by
  unfold leaP
  split
  · exact ⟨h.len, h.v, h.used⟩
  · exact h
theorem valP_used (h : MsOk L s) : (valP L x s).2 ≤ L.length := by
  unfold valP; split
  · exact inP_used h.used
  · exact h.used
theorem holP_used (h : MsOk L s) : (holP L x s).2 ≤ L.length := by
  unfold holP; split
  · exact inP_used h.used
  · exact h.used
theorem MsOk.asg (h : MsOk L s) (hx : DsOk x) : MsOk L (asgP F L x s) := by
  unfold asgP
  split
  · exact ⟨h.len, h.v, valP_used h⟩
  · rename_i hn
    refine MsOk.lea ⟨?_, ?_, ?_⟩ 0
    · simp only [List.length_set]; exact h.len
    · intro i
      have := hx.tg
      have hl := h.len
      rw [sgAt_set _ _ _ _ (by omega)]
      split
      · omega
      · exact h.v i
    · exact valP_used h
theorem MsOk.ast (h : MsOk L s) : MsOk L (astP F L x s) := by
  unfold astP
  split
  · exact MsOk.lea (s := ⟨(holP L x s).2, s.st, s.pt, s.v⟩) ⟨h.len, h.v, holP_used h⟩ 0
  · exact ⟨h.len, h.v, holP_used h⟩
theorem MsOk.bra (h : MsOk L s) : MsOk L (braP F L x s) := MsOk.lea (s := ⟨(holP L x s).2, s.st, s.pt, s.v⟩) ⟨h.len, h.v, holP_used h⟩ _
theorem MsOk.stp (h : MsOk L s) (hF : ∀ (k : Nat) (x : Ds), F[k]? = some x → DsOk x) : MsOk L (stpP F L s) := by
  unfold stpP
  split
  · exact h
  · rename_i hn
    have hk : s.pt.toNat < F.length := by omega
    have hx : DsOk (F.getD s.pt.toNat (newDs 0 0)) := hF s.pt.toNat _ (by rw [List.getD_eq_getElem?_getD, List.getElem?_eq_getElem hk]; rfl)
    split
    · exact h.asg hx
    split
    · exact h.ast
    · exact h.bra

end Go.Proofs.Ytffajooegiempaa

namespace Go.Proofs.Ytffajooegiempaa
open Go.RowKit

abbrev tM : TypeId := 88
/-- A machine's cells. -/
def mCells (pv iv : Value) (s : Ms) : Array Value := #[pv, iv, .int .i64 s.used, .int .i64 s.st, .int .i64 s.pt, .int .i64 (sgAt s.v 0), .int .i64 (sgAt s.v 1), .int .i64 (sgAt s.v 2), .int .i64 (sgAt s.v 3)]
/-- The inputs, below a block. -/
def Inp (w : World) (B : Nat) (iv : Value) (L : List Int) : Prop :=
  ∃ ao cap, iv = .slice ao L.length cap ∧ L.length ≤ cap ∧ (L.length ≠ 0 → ∃ b off, ao = some ⟨b, off, none⟩ ∧ b < B ∧ ∀ i, i < L.length → w.cell? ⟨b, off + i, none⟩ = some (.int .i64 (L.getD i 0)))
theorem Inp.keep {w w' : World} {B : Nat} {iv : Value} {L : List Int} (h : Inp w B iv L) (hb : Below B w w') : Inp w' B iv L := by
  obtain ⟨ao, cap, hv, hc, h0⟩ := h
  refine ⟨ao, cap, hv, hc, fun hn => ?_⟩
  obtain ⟨b, off, ha, hlt, hcell⟩ := h0 hn
  exact ⟨b, off, ha, hlt, fun i hi => (hb.cell (by exact hlt)).trans (hcell i hi)⟩
/-- The statements, below a block. -/
def PAt (w : World) (B : Nat) (pv : Value) (F : List Ds) : Prop :=
  ∃ ao cap, pv = .slice ao F.length cap ∧ (F.length ≠ 0 → ∃ g, ao = some ⟨g, 0, none⟩ ∧ g < B ∧ PRow w g F)
theorem PAt.keep {w w' : World} {B : Nat} {pv : Value} {F : List Ds} (h : PAt w B pv F) (hb : Below B w w') : PAt w' B pv F := by
  obtain ⟨ao, cap, hv, h0⟩ := h
  refine ⟨ao, cap, hv, fun hn => ?_⟩
  obtain ⟨g, ha, hlt, hp⟩ := h0 hn
  refine ⟨g, ha, hlt, Nat.lt_of_lt_of_le hp.1 hb.size, fun j x hx => ?_⟩
  have hc : ∀ o, w'.cell? ⟨g, o, none⟩ = w.cell? ⟨g, o, none⟩ := fun o => hb.cell (p := ⟨g, o, none⟩) hlt
  simp only [hc]
  exact hp.2 j x hx
/-- What a machine's step leaves. -/
def MPost (m : Nat) (w : World) (pv iv : Value) (s : Ms) : World → Prop := fun w' => At w' m (mCells pv iv s) tM ∧ Onl m w w'

variable {w : World} {m : Nat} {pv iv : Value} {L : List Int} {s : Ms} {F : List Ds}

theorem mcells (h : At w m (mCells pv iv s) tM) : w.cell? ⟨m, 0, none⟩ = some pv ∧ w.cell? ⟨m, 1, none⟩ = some iv ∧ w.cell? ⟨m, 2, none⟩ = some (.int .i64 s.used) ∧ w.cell? ⟨m, 3, none⟩ = some (.int .i64 s.st) ∧ w.cell? ⟨m, 4, none⟩ = some (.int .i64 s.pt) ∧
    w.cell? ⟨m, 5, none⟩ = some (.int .i64 (sgAt s.v 0)) ∧ w.cell? ⟨m, 6, none⟩ = some (.int .i64 (sgAt s.v 1)) ∧ w.cell? ⟨m, 7, none⟩ = some (.int .i64 (sgAt s.v 2)) ∧ w.cell? ⟨m, 8, none⟩ = some (.int .i64 (sgAt s.v 3)) ∧ ∀ i, w.frozen? ⟨m, i, none⟩ = false :=
  ⟨h.cell 0, h.cell 1, h.cell 2, h.cell 3, h.cell 4, h.cell 5, h.cell 6, h.cell 7, h.cell 8, h.free⟩

set_option maxRecDepth 100000 in
set_option maxHeartbeats 800000 in
theorem x_clamp (n : Int) (w : World) : Calls Try.prog 87 #[.int .i64 n] w fun e w' => e = .returned (.int .i64 (clampI n)) ∧ w' = w := by
  by_cases h1 : 999 < n
  · have HE : Hid (clampI n = 999) := if_pos h1
    go_enter Try.func87, Try.ntmps87
    go_wp2_with fail
    go_ret
    exact ⟨by rw [HE.out]; rfl, rfl⟩
  by_cases h2 : n < -999
  · have HE : Hid (clampI n = -999) := by show clampI n = _; unfold clampI; rw [if_neg h1, if_pos h2]
    go_enter Try.func87, Try.ntmps87
    go_wp2_with fail
    go_ret
    exact ⟨by rw [HE.out]; rfl, rfl⟩
  · have HE : Hid (clampI n = n) := by show clampI n = _; unfold clampI; rw [if_neg h1, if_neg h2]
    go_enter Try.func87, Try.ntmps87
    go_wp2_with fail
    go_ret
    exact ⟨by rw [HE.out]; rfl, rfl⟩

set_option maxRecDepth 100000 in
set_option maxHeartbeats 1600000 in
theorem x_input (h : At w m (mCells pv iv s) tM) (hi : Inp w m iv L) (hu : s.used ≤ L.length) (hL : L.length ≤ 1073741824) :
    Calls Try.prog 86 #[.pointer (some ⟨m, 0, none⟩)] w fun e w' => e = .returned (.int .i64 (inP L s.used).1) ∧ MPost m w pv iv ⟨(inP L s.used).2, s.st, s.pt, s.v⟩ w' := by
  obtain ⟨c0, c1, c2, c3, c4, c5, c6, c7, c8, cf⟩ := mcells h
  obtain ⟨ao, cap, rfl, hcap, h0⟩ := hi
  have HA : Hid (At w m _ tM) := h
  have hlt := h.lt
  have hu0 : ¬ ((s.used : Nat) : Int) < 0 := by omega
  by_cases hb : s.used < L.length
  · obtain ⟨b, off, rfl, hbm, hcell⟩ := h0 (by omega)
    have cx := hcell s.used hb
    have HE : Hid (inP L s.used = (L.getD s.used 0, s.used + 1)) := if_pos hb
    have hui : ((s.used : Nat) : Int) < (L.length : Int) := by omega
    have hge : ¬ (L.length : Int) ≤ ((s.used : Nat) : Int) := by omega
    clear h h0 hcell
    generalize L.getD s.used 0 = y at *
    go_enter Try.func86, Try.ntmps86
    go_wp2_with fail
    go_quiet (fail)
    go_wp2_with fail
    go_quiet (fail)
    go_wp2_with fail
    go_ret
    refine ⟨by rw [HE.out]; rfl, ?_, ?_⟩
    · rw [HE.out]
      exact (HA.out.drewN _).put 2 _
    · exact ((Onl.refl m w).drewN _).setCell _ _
  · have HE : Hid (inP L s.used = (0, s.used)) := if_neg hb
    have hge : (L.length : Int) ≤ ((s.used : Nat) : Int) := by omega
    clear h h0
    go_enter Try.func86, Try.ntmps86
    go_wp2_with fail
    go_quiet (fail)
    go_wp2_with fail
    go_ret
    refine ⟨by rw [HE.out]; rfl, ?_, ?_⟩
    · rw [HE.out]
      exact HA.out.drewN _
    · exact (Onl.refl m w).drewN _

end Go.Proofs.Ytffajooegiempaa

namespace Go.Proofs.Ytffajooegiempaa
open Go.RowKit
variable {B B2 : Nat} {w w' : World} {r : Nat} {m : Rd} {vs vo : Value} {P Q O : Nat → Nat}

/-- The document's reader, below a block. -/
def RAt (B2 : Nat) (w : World) (r : Nat) (m : Rd) : Prop := ∃ B w0 vs vo P Q O, Rep B w0 r m vs vo P Q O ∧ w0.heap.size ≤ B2 ∧ Below w0.heap.size w0 w
theorem RAt.keep (h : RAt B2 w r m) (hb : Below B2 w w') : RAt B2 w' r m := by
  obtain ⟨B, w0, vs, vo, P, Q, O, h1, h2, h3⟩ := h
  exact ⟨B, w0, vs, vo, P, Q, O, h1, h2, h3.trans (hb.mono h2)⟩
theorem RAt.rep (h : RAt B2 w r m) : ∃ B vs vo P Q O, Rep B w r m vs vo P Q O ∧ r < B2 := by
  obtain ⟨B, w0, vs, vo, P, Q, O, h1, h2, h3⟩ := h
  exact ⟨B, vs, vo, P, Q, O, h1.keep h3, Nat.lt_of_lt_of_le h1.rd.lt h2⟩

/-- A run of the document's. -/
structure Wk where
  st : Int
  pt : Int
  v : List Int
  inp : List Int
abbrev tW : TypeId := 68
def wCells (q : Nat) (iv : Value) (k : Wk) : Array Value := #[.int .i64 k.st, .int .i64 k.pt, .slice (some ⟨q, 0, none⟩) 4 4, iv]

/-- A run of the document's, as it lies in memory: its blocks lie from B2 on, all else below. -/
structure WRep (B2 : Nat) (w : World) (r b q : Nat) (m : Rd) (iv : Value) (k : Wk) : Prop where
  rd : RAt B2 w r m
  at_ : At w b (wCells q iv k) tW
  vt : At w q (ic k.v) tN
  inp : Inp w B2 iv k.inp
  len : k.v.length = 4
  v : ∀ i, -999 ≤ sgAt k.v i ∧ sgAt k.v i ≤ 999
  gb : B2 ≤ b
  gq : B2 ≤ q

theorem WRep.cells {b q : Nat} {iv : Value} {k : Wk} (h : WRep B2 w r b q m iv k) : w.cell? ⟨b, 0, none⟩ = some (.int .i64 k.st) ∧ w.cell? ⟨b, 1, none⟩ = some (.int .i64 k.pt) ∧ w.cell? ⟨b, 2, none⟩ = some (.slice (some ⟨q, 0, none⟩) 4 4) ∧ w.cell? ⟨b, 3, none⟩ = some iv ∧ ∀ i, w.frozen? ⟨b, i, none⟩ = false :=
  ⟨h.at_.cell 0, h.at_.cell 1, h.at_.cell 2, h.at_.cell 3, h.at_.free⟩

set_option maxRecDepth 100000 in
set_option maxHeartbeats 1600000 in
theorem r_sum (a l : List Int) (p q : Nat) (hx : ∀ i, -1 ≤ sgAt a i ∧ sgAt a i ≤ 1) (hv : ∀ i, -999 ≤ sgAt l i ∧ sgAt l i ≤ 999) (w : World) (ha : At w p (ic a) tN) (hl : At w q (ic l) tN) (la : a.length = 4) (ll : l.length = 4) :
    Calls Try.prog 49 #[.slice (some ⟨p, 0, none⟩) 4 4, .slice (some ⟨q, 0, none⟩) 4 4] w fun e w' => e = .returned (.int .i64 (sumTo a l 4)) ∧ ∃ n, w' = w.drewN n := by
  have HP : Hid (∀ i, i < 4 → w.cell? ⟨p, i, none⟩ = some (.int .i64 (sgAt a i))) := fun i hi => by rw [ha.cell, ic_get _ _ (by omega)]; rfl
  have HQ : Hid (∀ i, i < 4 → w.cell? ⟨q, i, none⟩ = some (.int .i64 (sgAt l i))) := fun i hi => by rw [hl.cell, ic_get _ _ (by omega)]; rfl
  clear ha hl la ll
  go_enter Try.func49, Try.ntmps49
  go_wp2_with fail
  go_loopw [5, 6] (fun sm i wr => ∃ (j k : Nat), j ≤ 4 ∧ i = .int .i64 j ∧ sm = .int .i64 (sumTo a l j) ∧ wr = w.drewN k) (fun _ i _ => 4 - (intOf i).toNat)
  case atStart => exact ⟨0, 0, by omega, rfl, rfl, rfl⟩
  case round =>
    obtain ⟨j, k, hj, rfl, rfl, hwr⟩ := hrel
    have HW : Hid (∃ k, wr = w.drewN k) := ⟨k, hwr⟩
    have k1 : ∀ a, wr.cell? a = w.cell? a := fun a => by rw [hwr]; rfl
    have a0 := (k1 _).trans (HP.out 0 (by omega))
    have a1 := (k1 _).trans (HP.out 1 (by omega))
    have a2 := (k1 _).trans (HP.out 2 (by omega))
    have a3 := (k1 _).trans (HP.out 3 (by omega))
    have b0 := (k1 _).trans (HQ.out 0 (by omega))
    have b1 := (k1 _).trans (HQ.out 1 (by omega))
    have b2 := (k1 _).trans (HQ.out 2 (by omega))
    have b3 := (k1 _).trans (HQ.out 3 (by omega))
    clear hwr k1
    rcases (show j = 0 ∨ j = 1 ∨ j = 2 ∨ j = 3 ∨ j = 4 by omega) with rfl | rfl | rfl | rfl | rfl
    · have hp := mul_sg (sgAt a 0) (sgAt l 0) (hx 0).1 (hx 0).2 (hv 0).1 (hv 0).2
      have hs := sumTo_le hx hv 0
      have hmw : wrap64 (sgAt a 0 * sgAt l 0) = sgAt a 0 * sgAt l 0 := by unfold wrap64; omega
      have hL : Hid (sumTo a l (0 + 1) = sumTo a l 0 + sgAt a 0 * sgAt l 0) := rfl
      have hlo : -4000 ≤ sumTo a l 0 := by omega
      have hhi : sumTo a l 0 ≤ 4000 := by omega
      clear hs
      generalize sumTo a l 0 = sm at *
      go_wp2_with fail
      go_quiet (fail)
      go_wp2_with fail
      go_roundw
      case rel => obtain ⟨k', e⟩ := HW.out; exact ⟨0 + 1, _, by omega, rfl, by rw [hL.out], by rw [e]; exact drewN_two _ _ _⟩
      case measure => simp [intOf]
    · have hp := mul_sg (sgAt a 1) (sgAt l 1) (hx 1).1 (hx 1).2 (hv 1).1 (hv 1).2
      have hs := sumTo_le hx hv 1
      have hmw : wrap64 (sgAt a 1 * sgAt l 1) = sgAt a 1 * sgAt l 1 := by unfold wrap64; omega
      have hL : Hid (sumTo a l (1 + 1) = sumTo a l 1 + sgAt a 1 * sgAt l 1) := rfl
      have hlo : -4000 ≤ sumTo a l 1 := by omega
      have hhi : sumTo a l 1 ≤ 4000 := by omega
      clear hs
      generalize sumTo a l 1 = sm at *
      go_wp2_with fail
      go_quiet (fail)
      go_wp2_with fail
      go_roundw
      case rel => obtain ⟨k', e⟩ := HW.out; exact ⟨1 + 1, _, by omega, rfl, by rw [hL.out], by rw [e]; exact drewN_two _ _ _⟩
      case measure => simp [intOf]
    · have hp := mul_sg (sgAt a 2) (sgAt l 2) (hx 2).1 (hx 2).2 (hv 2).1 (hv 2).2
      have hs := sumTo_le hx hv 2
      have hmw : wrap64 (sgAt a 2 * sgAt l 2) = sgAt a 2 * sgAt l 2 := by unfold wrap64; omega
      have hL : Hid (sumTo a l (2 + 1) = sumTo a l 2 + sgAt a 2 * sgAt l 2) := rfl
      have hlo : -4000 ≤ sumTo a l 2 := by omega
      have hhi : sumTo a l 2 ≤ 4000 := by omega
      clear hs
      generalize sumTo a l 2 = sm at *
      go_wp2_with fail
      go_quiet (fail)
      go_wp2_with fail
      go_roundw
      case rel => obtain ⟨k', e⟩ := HW.out; exact ⟨2 + 1, _, by omega, rfl, by rw [hL.out], by rw [e]; exact drewN_two _ _ _⟩
      case measure => simp [intOf]
    · have hp := mul_sg (sgAt a 3) (sgAt l 3) (hx 3).1 (hx 3).2 (hv 3).1 (hv 3).2
      have hs := sumTo_le hx hv 3
      have hmw : wrap64 (sgAt a 3 * sgAt l 3) = sgAt a 3 * sgAt l 3 := by unfold wrap64; omega
      have hL : Hid (sumTo a l (3 + 1) = sumTo a l 3 + sgAt a 3 * sgAt l 3) := rfl
      have hlo : -4000 ≤ sumTo a l 3 := by omega
      have hhi : sumTo a l 3 ≤ 4000 := by omega
      clear hs
      generalize sumTo a l 3 = sm at *
      go_wp2_with fail
      go_quiet (fail)
      go_wp2_with fail
      go_roundw
      case rel => obtain ⟨k', e⟩ := HW.out; exact ⟨3 + 1, _, by omega, rfl, by rw [hL.out], by rw [e]; exact drewN_two _ _ _⟩
      case measure => simp [intOf]
    · go_wp2_with fail
      go_ret
      exact ⟨rfl, HW.out⟩

theorem WRep.below {b q : Nat} {iv : Value} {k : Wk} (h : WRep B2 w r b q m iv k) (o : Nat) (u : Value) : Below B2 w (w.setCell ⟨b, o, none⟩ u) := (Below.refl B2 w).setCell h.gb _
/-- A field of the run is written. -/
theorem WRep.set {b q : Nat} {iv iv' : Value} {k k' : Wk} (h : WRep B2 w r b q m iv k) (o : Nat) (u : Value) (hc : (wCells q iv k).setIfInBounds o u = wCells q iv' k') (hv : k'.v = k.v) (hi : Inp w B2 iv' k'.inp) : WRep B2 (w.setCell ⟨b, o, none⟩ u) r b q m iv' k' where
  rd := h.rd.keep (h.below o u)
  at_ := by rw [← hc]; exact h.at_.put o u
  vt := by rw [hv]; exact h.vt.other o u (h.vt.ne h.at_ (by decide))
  inp := hi.keep (h.below o u)
  len := by rw [hv]; exact h.len
  v := by rw [hv]; exact h.v
  gb := h.gb
  gq := h.gq
theorem WRep.drewN {b q : Nat} {iv : Value} {k : Wk} (h : WRep B2 w r b q m iv k) (n : Nat) : WRep B2 (w.drewN n) r b q m iv k :=
  ⟨h.rd.keep (below_drewN (Below.refl _ _) n), h.at_, h.vt, h.inp.keep (below_drewN (Below.refl _ _) n), h.len, h.v, h.gb, h.gq⟩

/-- What a step of the run leaves. -/
def WStep (B2 : Nat) (w : World) (r b q : Nat) (m : Rd) (k : Wk) (w' : World) : Prop := ∃ iv', WRep B2 w' r b q m iv' k ∧ Below B2 w w'

theorem Inp.tail {B : Nat} {ao : Option Addr} {cap : Nat} {x : Int} {L : List Int} (h : Inp w B (.slice ao (L.length + 1) cap) (x :: L)) : ∃ b off, ao = some ⟨b, off, none⟩ ∧ b < B ∧ L.length + 1 ≤ cap ∧ w.cell? ⟨b, off, none⟩ = some (.int .i64 x) ∧
    ∀ ao' cap', (L.length ≠ 0 → ao' = some ⟨b, off + 1, none⟩) → L.length ≤ cap' → Inp w B (.slice ao' L.length cap') L := by
  obtain ⟨ao', cap', hv, hc, h0⟩ := h
  cases hv
  obtain ⟨b, off, ha, hb, hcell⟩ := h0 (by simp)
  refine ⟨b, off, ha, hb, by simpa using hc, by simpa [List.getD] using hcell 0 (by simp), fun a2 c2 h2 hc2 => ⟨a2, c2, rfl, hc2, fun hn => ⟨b, off + 1, h2 hn, hb, fun i hi => ?_⟩⟩⟩
  have := hcell (i + 1) (by simp; omega)
  rw [show off + 1 + i = off + (i + 1) by omega, this]
  simp [List.getD]

set_option maxRecDepth 100000 in
set_option maxHeartbeats 1600000 in
theorem r_take {b q : Nat} {iv : Value} {k : Wk} (h : WRep B2 w r b q m iv k) (hL : k.inp.length ≤ 1073741824) :
    Calls Try.prog 50 #[.pointer (some ⟨b, 0, none⟩)] w fun e w' => e = .returned (.int .i64 (k.inp.headD 0)) ∧ WStep B2 w r b q m ⟨k.st, k.pt, k.v, k.inp.tail⟩ w' := by
  obtain ⟨c0, c1, c2, c3, cf⟩ := h.cells
  have hlt := h.at_.lt
  have HW : Hid (WRep B2 w r b q m iv k) := h
  obtain ⟨ao, cap, rfl, hcap, h0⟩ := h.inp
  obtain ⟨st, pt, v, inp⟩ := k
  cases inp with
  | nil =>
    simp at c3
    clear h h0
    go_enter Try.func50, Try.ntmps50
    go_wp2_with fail
    go_ret
    exact ⟨rfl, _, HW.out, Below.refl _ _⟩
  | cons x L =>
    simp only [List.length_cons] at *
    obtain ⟨p, off, rfl, hp, hc, hx, HT⟩ := Inp.tail h.inp
    have HTl : Hid (∀ ao' cap', (L.length ≠ 0 → ao' = some ⟨p, off + 1, none⟩) → L.length ≤ cap' → Inp w B2 (.slice ao' L.length cap') L) := HT
    have hl0 : (((L.length : Nat) : Int) + 1 == 0) = false := by rw [beq_eq_false_iff_ne]; omega
    clear h h0 HT
    go_enter Try.func50, Try.ntmps50
    go_wp2_with fail
    all_goals
      go_ret
      refine ⟨rfl, _, HW.out.set (k' := ⟨st, pt, v, L⟩) 3 _ rfl rfl (HTl.out _ _ ?_ ?_), HW.out.below 3 _⟩
      · intro hn; first | rfl | (exfalso; omega)
      · omega

end Go.Proofs.Ytffajooegiempaa

/- What every statement of a program keeps to: its variable, its signs. No Go in here. -/
namespace Go.Proofs.Ytffajooegiempaa
variable {m m' : Rd}

def Gd (s : St) : Prop := 0 ≤ s.var ∧ s.var ≤ 3 ∧ ∀ x, x ∈ s.sg → -1 ≤ x ∧ x ≤ 1
def AllGd (m : Rd) : Prop := ∀ s, s ∈ m.st → Gd s
theorem gd_no : Gd noSt := ⟨by decide, by decide, fun x hx => by simp [noSt] at hx; omega⟩
theorem AllGd.get (h : AllGd m) (k : Nat) : Gd (m.st.getD k noSt) := by
  rw [List.getD_eq_getElem?_getD]
  cases e : m.st[k]? with
  | none => exact gd_no
  | some s => exact h s (List.mem_of_getElem? e)
theorem AllGd.cur (h : AllGd m) : Gd (cur m) := h.get _
theorem AllGd.setC (h : AllGd m) {s : St} (hs : Gd s) : AllGd (setCur m s) := fun t ht => (mem_setCur ht).elim (h t) (fun e => e ▸ hs)
theorem AllGd.of {m1 : Rd} (h : AllGd m1) (e : m'.st = m1.st) : AllGd m' := fun s hs => h s (e ▸ hs)

theorem AllGd.begin_ (h : AllGd m) {k v x : Int} (h0 : 0 ≤ v) (h3 : v ≤ 3) (e : beginStep m k v x = some m') : AllGd m' := by
  unfold beginStep at e
  split at e
  · cases e
  · cases e
    intro s hs
    rcases List.mem_append.1 hs with hs | hs
    · exact h s hs
    · rw [List.mem_singleton.1 hs]
      exact ⟨h0, h3, fun x hx => by simp at hx; omega⟩
theorem AllGd.shut (h : AllGd m) (e : shutStep m = some m') : AllGd m' := by
  have hg := h.get (top m).of_
  simp only [shutStep] at e
  split at e
  · cases e; exact fun t ht => (List.mem_or_eq_of_mem_set ht).elim (h t) (fun e => e ▸ hg)
  · cases e; exact fun t ht => (List.mem_or_eq_of_mem_set ht).elim (h t) (fun e => e ▸ hg)
theorem AllGd.digit (h : AllGd m) {c x : Int} {pos : Bool} (e : digitStep m c pos x = some m') : AllGd m' := by
  obtain ⟨d, u, _, _, rfl⟩ := digit_inv e
  exact (h.setC (s := { Go.Proofs.Ytffajooegiempaa.cur m with num := 10 * u + (c - 48) }) h.cur).of rfl
theorem AllGd.signTo (h : AllGd m) (v : Nat) (y x : Int) (hy : -1 ≤ y ∧ y ≤ 1) : AllGd (signTo m v y x) := by
  have hc := h.cur
  refine (h.setC (s := { Go.Proofs.Ytffajooegiempaa.cur m with sg := (Go.Proofs.Ytffajooegiempaa.cur m).sg.set v y }) ⟨hc.1, hc.2.1, fun z hz => ?_⟩).of rfl
  rcases List.mem_or_eq_of_mem_set hz with hz | hz
  · exact hc.2.2 z hz
  · rw [hz]; exact hy
theorem AllGd.plain (h : AllGd m) {c : Int} (e : plainStep m c = some m') : AllGd m' := by
  unfold plainStep at e
  split at e
  · split at e
    · cases e; exact h.of rfl
    · cases e
  · split at e
    · cases e
    · cases e; exact h.of rfl

theorem AllGd.value (h : AllGd m) (ok : Ok m) {c : Int} (e : valueStep m c = some m') : AllGd m' := by
  have hs := ok.sgn
  have ve : AllGd (valueEnd m) := (h.setC (s := { Go.Proofs.Ytffajooegiempaa.cur m with num := m.sign * (Go.Proofs.Ytffajooegiempaa.cur m).num }) h.cur).of rfl
  unfold valueStep at e
  split at e
  · split at e
    · cases e; exact (h.setC (s := { Go.Proofs.Ytffajooegiempaa.cur m with star := true }) h.cur).of rfl
    split at e
    · cases e; exact h.of rfl
    split at e
    · cases e; exact h.signTo _ 1 120 (by omega)
    · exact AllGd.digit (m := { m with sign := 1 }) (h.of rfl) e
  split at e
  · split at e
    · cases e; exact h.signTo _ m.sign 120 hs
    · exact h.digit e
  split at e
  · split at e
    · cases e; exact h.of rfl
    split at e
    · cases e; exact h.of rfl
    split at e
    · cases e; exact ve
    · cases e
  split at e
  · exact h.digit e
  · split at e
    · cases e; exact ve
    · exact h.digit e

theorem AllGd.cond (h : AllGd m) (ok : Ok m) {c : Int} (e : condStep m c = some m') : AllGd m' := by
  have hs := ok.sgn
  unfold condStep at e
  by_cases x1 : m.state = 99
  · rw [if_pos x1] at e
    split at e
    · cases e; exact (h.setC (s := { Go.Proofs.Ytffajooegiempaa.cur m with star := true }) h.cur).of rfl
    split at e
    · cases e; exact h.of rfl
    split at e
    · cases e; exact h.signTo _ 1 100 (by omega)
    · cases e
  rw [if_neg x1] at e
  by_cases x2 : m.state = 67
  · rw [if_pos x2] at e
    split at e
    · cases e; exact h.signTo _ m.sign 100 hs
    · cases e
  rw [if_neg x2] at e
  by_cases x3 : m.state = 100
  · rw [if_pos x3] at e
    split at e
    · cases e; exact h.of rfl
    split at e
    · cases e; exact h.of rfl
    split at e
    · cases e; exact h.of rfl
    · cases e
  rw [if_neg x3] at e
  by_cases x4 : m.state = 101
  · rw [if_pos x4] at e
    split at e
    · split at e
      · cases e; exact h.signTo _ m.sign 102 hs
      · cases e
    · cases e
  rw [if_neg x4] at e
  by_cases x5 : m.state = 102
  · rw [if_pos x5] at e
    split at e
    · cases e; exact h.of rfl
    · cases e
  rw [if_neg x5] at e
  by_cases x6 : m.state = 60
  · rw [if_pos x6] at e
    split at e
    · cases e; exact h.of rfl
    · cases e
  rw [if_neg x6] at e
  by_cases x7 : m.state = 98
  · rw [if_pos x7] at e
    split at e
    · cases e; exact h.of rfl
    · exact h.digit e
  rw [if_neg x7] at e
  by_cases x8 : m.state = 66
  · rw [if_pos x8] at e
    exact h.digit e
  rw [if_neg x8] at e
  by_cases x9 : m.state = 109
  · rw [if_pos x9] at e
    split at e
    · exact AllGd.plain (m := { setCur m { Go.Proofs.Ytffajooegiempaa.cur m with num := if m.neg then -(Go.Proofs.Ytffajooegiempaa.cur m).num else (Go.Proofs.Ytffajooegiempaa.cur m).num } with state := behindOf m }) ((h.setC (s := { Go.Proofs.Ytffajooegiempaa.cur m with num := if m.neg then -(Go.Proofs.Ytffajooegiempaa.cur m).num else (Go.Proofs.Ytffajooegiempaa.cur m).num }) h.cur).of rfl) e
    · exact h.digit e
  rw [if_neg x9] at e
  split at e
  · cases e; exact h.of rfl
  · cases e

theorem AllGd.byte (h : AllGd m) (ok : Ok m) {c : Int} (e : byteStep m c = some m') : AllGd m' := by
  unfold byteStep at e
  split at e
  · unfold startStep at e
    split at e
    · exact h.begin_ (by omega) (by omega) e
    split at e
    · split at e
      · exact h.begin_ (by omega) (by omega) e
      · cases e
    split at e
    · exact h.begin_ (by omega) (by omega) e
    split at e
    · exact h.shut e
    · cases e
  split at e
  · split at e
    · cases e; exact h.of rfl
    · cases e
  split at e
  · exact h.value ok e
  split at e
  · exact h.plain e
  · exact h.cond ok e

theorem gd_from {l : List Int} : ∀ {m : Rd} {n k : Nat}, AllGd m → Ok m → readFrom m l n = (k, some m') → AllGd m' ∧ Ok m' := by
  induction l with
  | nil => intro m n k h ok e; simp [readFrom] at e; rw [← e.2]; exact ⟨h, ok⟩
  | cons c l ih =>
    intro m n k h ok e
    simp only [readFrom] at e
    split at e
    · cases e
    · rename_i m1 e1
      exact ih (h.byte ok e1) (ok.byte e1) e

end Go.Proofs.Ytffajooegiempaa

namespace Go.Proofs.Ytffajooegiempaa
open Go.RowKit
variable {B B2 : Nat} {w w' : World} {r : Nat} {m : Rd}

/-- A statement of the document's reader, as it lies in memory. -/
structure SAt (w : World) (B2 r p len : Nat) (u : St) (g cap X Y : Nat) : Prop where
  r1 : w.cell? ⟨r, 1, none⟩ = some (.slice (some ⟨g, 0, none⟩) len cap)
  gp : w.cell? ⟨g, p, none⟩ = some (.pointer (some ⟨X, 0, none⟩))
  c0 : w.cell? ⟨X, 0, none⟩ = some (.int .u8 u.kind)
  c1 : w.cell? ⟨X, 1, none⟩ = some (.int .i64 u.var)
  c2 : w.cell? ⟨X, 2, none⟩ = some (.bool u.star)
  c3 : w.cell? ⟨X, 3, none⟩ = some (.slice (some ⟨Y, 0, none⟩) 4 4)
  c4 : w.cell? ⟨X, 4, none⟩ = some (.int .i64 u.num)
  sg : At w Y (ic u.sg) tN
  lr : r < B2
  lg : g < B2
  lX : X < B2
  lY : Y < B2
theorem SAt.keep {p len : Nat} {u : St} {g cap X Y : Nat} (h : SAt w B2 r p len u g cap X Y) (hb : Below B2 w w') : SAt w' B2 r p len u g cap X Y where
  r1 := (hb.cell (by exact h.lr)).trans h.r1
  gp := (hb.cell (by exact h.lg)).trans h.gp
  c0 := (hb.cell (by exact h.lX)).trans h.c0
  c1 := (hb.cell (by exact h.lX)).trans h.c1
  c2 := (hb.cell (by exact h.lX)).trans h.c2
  c3 := (hb.cell (by exact h.lX)).trans h.c3
  c4 := (hb.cell (by exact h.lX)).trans h.c4
  sg := h.sg.keep hb h.lY
  lr := h.lr
  lg := h.lg
  lX := h.lX
  lY := h.lY
theorem RAt.stmt (h : RAt B2 w r m) (p : Nat) (hp : p < m.st.length) : ∃ g cap X Y, SAt w B2 r p m.st.length (m.st.getD p noSt) g cap X Y := by
  obtain ⟨B, w0, vs, vo, P, Q, O, h1, h2, h3⟩ := h
  obtain ⟨g, cap, hvs, hrow, _⟩ := h1.row (by omega)
  obtain ⟨r0, r1, -⟩ := h1.rdc
  rw [hvs] at r1
  obtain ⟨c0, c1, c2, c3, c4, -⟩ := h1.stc p _ (Rep.gets hp)
  obtain ⟨a, b⟩ := h1.st p _ (Rep.gets hp)
  have hs := h1.rs
  rw [hvs] at hs
  have hg := (hs.lt g rfl).2
  have hr := h1.rd.lt
  have ha := a.lt
  have hb := b.lt
  exact ⟨g, cap, P p, Q p, (⟨r1, hrow p hp, c0, c1, c2, c3, c4, b, hr, hg, ha, hb⟩ : SAt w0 w0.heap.size r p m.st.length (m.st.getD p noSt) g cap (P p) (Q p)).keep h3 |> fun s => ⟨s.r1, s.gp, s.c0, s.c1, s.c2, s.c3, s.c4, s.sg, by omega, by omega, by omega, by omega⟩⟩

/-- One step of the document's run, at a statement. -/
def stpRu (S : List St) (p : Nat) (u : St) (k : Wk) : Wk :=
  if u.kind = 61 then
    if u.star = true then ⟨k.st, nextR S p 0, k.v.set u.var.toNat (clampI (k.inp.headD 0)), k.inp.tail⟩
    else if 999 < sumTo u.sg k.v 4 + u.num ∨ sumTo u.sg k.v 4 + u.num < -999 then ⟨2, k.pt, k.v, k.inp⟩
    else ⟨k.st, nextR S p 0, k.v.set u.var.toNat (sumTo u.sg k.v 4 + u.num), k.inp⟩
  else if u.star = true then
    if k.inp.headD 0 ≠ 0 then ⟨k.st, nextR S p 0, k.v, k.inp.tail⟩
    else if u.kind = 33 then ⟨3, k.pt, k.v, k.inp.tail⟩ else ⟨k.st, nextR S p 1, k.v, k.inp.tail⟩
  else
    if sumTo u.sg k.v 4 ≤ u.num then ⟨k.st, nextR S p 0, k.v, k.inp⟩
    else if u.kind = 33 then ⟨3, k.pt, k.v, k.inp⟩ else ⟨k.st, nextR S p 1, k.v, k.inp⟩
def stpR (S : List St) (k : Wk) : Wk := stpRu S k.pt.toNat (S.getD k.pt.toNat noSt) k

theorem WRep.setV {b q : Nat} {iv : Value} {k : Wk} (h : WRep B2 w r b q m iv k) (t : Nat) (ht : t < 4) (y : Int) (h0 : -999 ≤ y) (h1 : y ≤ 999) : WRep B2 (w.setCell ⟨q, t, none⟩ (.int .i64 y)) r b q m iv ⟨k.st, k.pt, k.v.set t y, k.inp⟩ :=
  have hb : Below B2 w (w.setCell ⟨q, t, none⟩ (.int .i64 y)) := (Below.refl B2 w).setCell h.gq _
  have hl := h.len
  { rd := h.rd.keep hb
    at_ := h.at_.other t _ (h.at_.ne h.vt (by decide))
    vt := by rw [← ic_set]; exact h.vt.put t _
    inp := h.inp.keep hb
    len := by simpa using hl
    v := fun i => by
      show -999 ≤ sgAt (k.v.set t y) i ∧ sgAt (k.v.set t y) i ≤ 999
      rw [sgAt_set _ _ _ _ (by omega)]
      split
      · omega
      · exact h.v i
    gb := h.gb
    gq := h.gq }

theorem sgAt_mem' (l : List Int) (i : Nat) (h : ∀ x, x ∈ l → -1 ≤ x ∧ x ≤ 1) : -1 ≤ sgAt l i ∧ sgAt l i ≤ 1 := by
  unfold sgAt
  rw [List.getD_eq_getElem?_getD]
  cases e : l[i]? with
  | none => simp
  | some x => exact h x (List.mem_of_getElem? e)

/-- What the statements keep to. -/
structure SOk (S : List St) : Prop where
  len : S.length ≤ 20
  sgl : ∀ s, s ∈ S → s.sg.length = 4
  num : ∀ s, s ∈ S → -99 ≤ s.num ∧ s.num ≤ 99
  gd : ∀ s, s ∈ S → Gd s

theorem next_of {b q : Nat} {iv : Value} {k : Wk} (h : WRep B2 w r b q m iv k) (hl : m.st.length ≤ 20) (p : Nat) (hp : p < m.st.length) (way : Int) :
    Calls Try.prog 31 #[.pointer (some ⟨r, 0, none⟩), .int .i64 (p : Int), .int .i64 way] w fun e w' => e = .returned (.int .i64 (nextR m.st p way)) ∧ ∃ j, w' = w.drewN j := by
  obtain ⟨B, vs, vo, P, Q, O, h1, _⟩ := h.rd.rep
  exact h1.next hl p hp way

end Go.Proofs.Ytffajooegiempaa

namespace Go.Proofs.Ytffajooegiempaa
open Go.RowKit
variable {B2 : Nat} {w : World} {r : Nat} {m : Rd}

set_option maxRecDepth 100000 in
set_option maxHeartbeats 3200000 in
theorem r_step61 {b q : Nat} {iv : Value} {k : Wk} (h : WRep B2 w r b q m iv k) (hS : SOk m.st) (hL : k.inp.length ≤ 1073741824) (h0 : 0 ≤ k.pt) (h1 : k.pt < m.st.length) (k61 : (m.st.getD k.pt.toNat noSt).kind = 61) :
    Calls Try.prog 33 #[.pointer (some ⟨b, 0, none⟩), .pointer (some ⟨r, 0, none⟩)] w fun e w' => e = .returned (.tuple #[]) ∧ WStep B2 w r b q m (stpR m.st k) w' := by
  obtain ⟨p, hp⟩ : ∃ p : Nat, k.pt = p := ⟨k.pt.toNat, by omega⟩
  have hpl : p < m.st.length := by omega
  have hpi : (p : Int) < (m.st.length : Int) := by omega
  obtain ⟨g, cap, X, Y, hs⟩ := h.rd.stmt p hpl
  have hmem : m.st.getD p noSt ∈ m.st := List.mem_of_getElem? (Rep.gets hpl)
  have hsgl := hS.sgl _ hmem
  obtain ⟨hn0, hn1⟩ := hS.num _ hmem
  obtain ⟨hv0, hv3, hsg⟩ := hS.gd _ hmem
  obtain ⟨b0, b1, b2, b3, bf⟩ := h.cells
  rw [hp] at b1
  have qf := h.vt.free
  have hvc : ∀ i, i < 4 → w.cell? ⟨q, i, none⟩ = some (.int .i64 (sgAt k.v i)) := fun i hi => by rw [h.vt.cell, ic_get _ _ (by have := h.len; omega)]; rfl
  have v0 := hvc 0 (by omega)
  have v1 := hvc 1 (by omega)
  have v2 := hvc 2 (by omega)
  have v3 := hvc 3 (by omega)
  have hbq : b ≠ q := h.at_.ne h.vt (by decide)
  have hqb : q ≠ b := Ne.symm hbq
  have hbl := h.at_.lt
  have hql := h.vt.lt
  have HS' : Hid (SAt w B2 r p m.st.length (m.st.getD p noSt) g cap X Y) := hs
  obtain ⟨r1, gp, c0, c1, c2, c3, c4, sg, lr, lg, lX, lY⟩ := hs
  have HW : Hid (WRep B2 w r b q m iv k) := h
  have HSum : Hid (∀ w1, (∃ n0, w1 = w.drewN n0) → ∀ n, Calls Try.prog 49 #[.slice (some ⟨Y, 0, none⟩) 4 4, .slice (some ⟨q, 0, none⟩) 4 4] (w1.drewN n) fun e w' => e = .returned (.int .i64 (sumTo (m.st.getD p noSt).sg k.v 4)) ∧ ∃ j, w' = (w1.drewN n).drewN j) := by
    rintro w1 ⟨n0, rfl⟩ n
    exact r_sum _ _ Y q (fun i => sgAt_mem' _ i hsg) HW.out.v _ ((sg.drewN n0).drewN n) ((HW.out.vt.drewN n0).drewN n) hsgl HW.out.len
  have hsum := sumTo_le (fun i => sgAt_mem' (m.st.getD p noSt).sg i hsg) h.v 4
  have HNx : Hid (∀ iv' k' w1 way, WRep B2 w1 r b q m iv' k' → Calls Try.prog 31 #[.pointer (some ⟨r, 0, none⟩), .int .i64 (p : Int), .int .i64 way] w1 fun e w' => e = .returned (.int .i64 (nextR m.st p way)) ∧ ∃ j, w' = w1.drewN j) := fun iv' k' w1 way h1 => next_of h1 hS.len p hpl way
  have HTk : Hid (∀ w1, WRep B2 w1 r b q m iv k → Calls Try.prog 50 #[.pointer (some ⟨b, 0, none⟩)] w1 fun e w' => e = .returned (.int .i64 (k.inp.headD 0)) ∧ WStep B2 w1 r b q m ⟨k.st, k.pt, k.v, k.inp.tail⟩ w') := fun w1 h1 => r_take h1 hL
  have HE0 : Hid (stpR m.st k = stpRu m.st p (m.st.getD p noSt) k) := by show stpR m.st k = _; unfold stpR; rw [hp, Int.toNat_natCast]
  clear h hS sg hsg hmem hsgl hvc
  rw [hp, Int.toNat_natCast] at k61
  generalize m.st.getD p noSt = u at *
  unfold stpRu at HE0
  generalize sumTo u.sg k.v 4 = sm at *
  have e1 : -3996 ≤ sm := by omega
  have e2 : sm ≤ 3996 := by omega
  have hw : IntKind.i64.wrap (sm + u.num) = sm + u.num := by rw [IntKind.wrap_i64]; omega
  clear hsum
  have HE1 : Hid (_ = _) := HE0.out.trans (if_pos k61)
  rw [k61] at c0
  clear HE0 k61
  cases hst : u.star
  · rw [hst] at c2 HE1
    have HE2 : Hid (_ = _) := HE1.out.trans (if_neg (by decide))
    clear HE1 hst
    by_cases hov : 999 < sm + u.num ∨ sm + u.num < -999
    · have HE : Hid (_ = _) := HE2.out.trans (if_pos hov)
      clear HE2
      rcases hov with hov | hov
      all_goals
        go_enter Try.func33, Try.ntmps33
        go_wp2_with fail
        go_quiet (fail)
        obtain ⟨w1, hW1⟩ : ∃ w1, w1 = w.drewN nq := ⟨_, rfl⟩
        rw [← hW1]
        have k1 : ∀ a, w1.cell? a = w.cell? a := fun a => by rw [hW1]; rfl
        have k2 : ∀ a, w1.frozen? a = w.frozen? a := fun a => by rw [hW1]; rfl
        rw [← k1] at r1 gp c0 c1 c2 c3 c4 b0 b1 b2 b3 v0 v1 v2 v3
        have bf1 : ∀ i, w1.frozen? ⟨b, i, none⟩ = false := fun i => (k2 _).trans (bf i)
        have qf1 : ∀ i, w1.frozen? ⟨q, i, none⟩ = false := fun i => (k2 _).trans (qf i)
        have HW1 : Hid (WRep B2 w1 r b q m iv k) := by rw [hW1]; exact HW.out.drewN _
        have HB1 : Hid (Below B2 w w1) := by rw [hW1]; exact below_drewN (Below.refl _ _) _
        have HSum1 := HSum.out w1 ⟨_, hW1⟩
        have HSm : Hid (∀ n, Calls Try.prog 49 #[.slice (some ⟨Y, 0, none⟩) 4 4, .slice (some ⟨q, 0, none⟩) 4 4] (w1.drewN n) fun e w' => e = .returned (.int .i64 sm) ∧ ∃ j, w' = (w1.drewN n).drewN j) := HSum1
        clear k1 k2 hW1 HSum1 bf qf
        go_wp2_with fail
        go_quiet (first | (go_at_call 49; refine Calls.quiet_of (HSm.out _)))
        go_wp2_with fail
        try simp only [Exit.inBlock, Exit.then]
        refine bodyPost_ret (results_none rfl _ _ _) rfl ?_
        exact ⟨rfl, iv, by rw [HE.out]; exact (HW1.out.drewN _).set 0 _ rfl rfl (HW1.out.drewN _).inp, (below_drewN HB1.out _).setCell HW1.out.gb _⟩
    · have HE : Hid (_ = _) := HE2.out.trans (if_neg hov)
      have hy0 : ¬ 999 < sm + u.num := fun e => hov (.inl e)
      have hy1 : ¬ sm + u.num < -999 := fun e => hov (.inr e)
      clear HE2 hov
      rcases (show u.var = 0 ∨ u.var = 1 ∨ u.var = 2 ∨ u.var = 3 by omega) with hv | hv | hv | hv
      · rw [hv] at c1 HE
        have HE' : Hid (stpR m.st k = ⟨k.st, nextR m.st p 0, k.v.set 0 (sm + u.num), k.inp⟩) := HE.out
        clear hv HE
        go_enter Try.func33, Try.ntmps33
        go_wp2_with fail
        go_quiet (fail)
        obtain ⟨w1, hW1⟩ : ∃ w1, w1 = w.drewN nq := ⟨_, rfl⟩
        rw [← hW1]
        have k1 : ∀ a, w1.cell? a = w.cell? a := fun a => by rw [hW1]; rfl
        have k2 : ∀ a, w1.frozen? a = w.frozen? a := fun a => by rw [hW1]; rfl
        rw [← k1] at r1 gp c0 c1 c2 c3 c4 b0 b1 b2 b3 v0 v1 v2 v3
        have bf1 : ∀ i, w1.frozen? ⟨b, i, none⟩ = false := fun i => (k2 _).trans (bf i)
        have qf1 : ∀ i, w1.frozen? ⟨q, i, none⟩ = false := fun i => (k2 _).trans (qf i)
        have HW1 : Hid (WRep B2 w1 r b q m iv k) := by rw [hW1]; exact HW.out.drewN _
        have HB1 : Hid (Below B2 w w1) := by rw [hW1]; exact below_drewN (Below.refl _ _) _
        have HSum1 := HSum.out w1 ⟨_, hW1⟩
        have HSm : Hid (∀ n, Calls Try.prog 49 #[.slice (some ⟨Y, 0, none⟩) 4 4, .slice (some ⟨q, 0, none⟩) 4 4] (w1.drewN n) fun e w' => e = .returned (.int .i64 sm) ∧ ∃ j, w' = (w1.drewN n).drewN j) := HSum1
        clear k1 k2 hW1 HSum1 bf qf
        go_wp2_with fail
        go_quiet (first | (go_at_call 49; refine Calls.quiet_of (HSm.out _)))
        go_wp2_with fail
        go_region
        all_goals
          go_wp2_with fail
          refine (HNx.out _ _ _ _ ((HW1.out.drewN (nq + 1)).setV 0 (by omega) (sm + u.num) (by omega) (by omega))).mono ?_
          rintro e w2 ⟨rfl, j, rfl⟩
          have HWf : Hid (WRep B2 _ r b q m iv _) := ((HW1.out.drewN (nq + 1)).setV 0 (by omega) (sm + u.num) (by omega) (by omega)).drewN j
          obtain ⟨b0', b1', b2', b3', bf'⟩ := HWf.out.cells
          clear b0 b1 b2 b3
          go_wp2_with fail
          try simp only [Exit.inBlock, Exit.then]
          refine bodyPost_ret (results_none rfl _ _ _) rfl ?_
          refine ⟨rfl, iv, ?_, ?_⟩
          · rw [HE'.out]; exact HWf.out.set 1 _ rfl rfl HWf.out.inp
          · exact (below_drewN ((below_drewN HB1.out (nq + 1)).setCell HW1.out.gq _) j).setCell HW1.out.gb _
      · rw [hv] at c1 HE
        have HE' : Hid (stpR m.st k = ⟨k.st, nextR m.st p 0, k.v.set 1 (sm + u.num), k.inp⟩) := HE.out
        clear hv HE
        go_enter Try.func33, Try.ntmps33
        go_wp2_with fail
        go_quiet (fail)
        obtain ⟨w1, hW1⟩ : ∃ w1, w1 = w.drewN nq := ⟨_, rfl⟩
        rw [← hW1]
        have k1 : ∀ a, w1.cell? a = w.cell? a := fun a => by rw [hW1]; rfl
        have k2 : ∀ a, w1.frozen? a = w.frozen? a := fun a => by rw [hW1]; rfl
        rw [← k1] at r1 gp c0 c1 c2 c3 c4 b0 b1 b2 b3 v0 v1 v2 v3
        have bf1 : ∀ i, w1.frozen? ⟨b, i, none⟩ = false := fun i => (k2 _).trans (bf i)
        have qf1 : ∀ i, w1.frozen? ⟨q, i, none⟩ = false := fun i => (k2 _).trans (qf i)
        have HW1 : Hid (WRep B2 w1 r b q m iv k) := by rw [hW1]; exact HW.out.drewN _
        have HB1 : Hid (Below B2 w w1) := by rw [hW1]; exact below_drewN (Below.refl _ _) _
        have HSum1 := HSum.out w1 ⟨_, hW1⟩
        have HSm : Hid (∀ n, Calls Try.prog 49 #[.slice (some ⟨Y, 0, none⟩) 4 4, .slice (some ⟨q, 0, none⟩) 4 4] (w1.drewN n) fun e w' => e = .returned (.int .i64 sm) ∧ ∃ j, w' = (w1.drewN n).drewN j) := HSum1
        clear k1 k2 hW1 HSum1 bf qf
        go_wp2_with fail
        go_quiet (first | (go_at_call 49; refine Calls.quiet_of (HSm.out _)))
        go_wp2_with fail
        go_region
        all_goals
          go_wp2_with fail
          refine (HNx.out _ _ _ _ ((HW1.out.drewN (nq + 1)).setV 1 (by omega) (sm + u.num) (by omega) (by omega))).mono ?_
          rintro e w2 ⟨rfl, j, rfl⟩
          have HWf : Hid (WRep B2 _ r b q m iv _) := ((HW1.out.drewN (nq + 1)).setV 1 (by omega) (sm + u.num) (by omega) (by omega)).drewN j
          obtain ⟨b0', b1', b2', b3', bf'⟩ := HWf.out.cells
          clear b0 b1 b2 b3
          go_wp2_with fail
          try simp only [Exit.inBlock, Exit.then]
          refine bodyPost_ret (results_none rfl _ _ _) rfl ?_
          refine ⟨rfl, iv, ?_, ?_⟩
          · rw [HE'.out]; exact HWf.out.set 1 _ rfl rfl HWf.out.inp
          · exact (below_drewN ((below_drewN HB1.out (nq + 1)).setCell HW1.out.gq _) j).setCell HW1.out.gb _
      · rw [hv] at c1 HE
        have HE' : Hid (stpR m.st k = ⟨k.st, nextR m.st p 0, k.v.set 2 (sm + u.num), k.inp⟩) := HE.out
        clear hv HE
        go_enter Try.func33, Try.ntmps33
        go_wp2_with fail
        go_quiet (fail)
        obtain ⟨w1, hW1⟩ : ∃ w1, w1 = w.drewN nq := ⟨_, rfl⟩
        rw [← hW1]
        have k1 : ∀ a, w1.cell? a = w.cell? a := fun a => by rw [hW1]; rfl
        have k2 : ∀ a, w1.frozen? a = w.frozen? a := fun a => by rw [hW1]; rfl
        rw [← k1] at r1 gp c0 c1 c2 c3 c4 b0 b1 b2 b3 v0 v1 v2 v3
        have bf1 : ∀ i, w1.frozen? ⟨b, i, none⟩ = false := fun i => (k2 _).trans (bf i)
        have qf1 : ∀ i, w1.frozen? ⟨q, i, none⟩ = false := fun i => (k2 _).trans (qf i)
        have HW1 : Hid (WRep B2 w1 r b q m iv k) := by rw [hW1]; exact HW.out.drewN _
        have HB1 : Hid (Below B2 w w1) := by rw [hW1]; exact below_drewN (Below.refl _ _) _
        have HSum1 := HSum.out w1 ⟨_, hW1⟩
        have HSm : Hid (∀ n, Calls Try.prog 49 #[.slice (some ⟨Y, 0, none⟩) 4 4, .slice (some ⟨q, 0, none⟩) 4 4] (w1.drewN n) fun e w' => e = .returned (.int .i64 sm) ∧ ∃ j, w' = (w1.drewN n).drewN j) := HSum1
        clear k1 k2 hW1 HSum1 bf qf
        go_wp2_with fail
        go_quiet (first | (go_at_call 49; refine Calls.quiet_of (HSm.out _)))
        go_wp2_with fail
        go_region
        all_goals
          go_wp2_with fail
          refine (HNx.out _ _ _ _ ((HW1.out.drewN (nq + 1)).setV 2 (by omega) (sm + u.num) (by omega) (by omega))).mono ?_
          rintro e w2 ⟨rfl, j, rfl⟩
          have HWf : Hid (WRep B2 _ r b q m iv _) := ((HW1.out.drewN (nq + 1)).setV 2 (by omega) (sm + u.num) (by omega) (by omega)).drewN j
          obtain ⟨b0', b1', b2', b3', bf'⟩ := HWf.out.cells
          clear b0 b1 b2 b3
          go_wp2_with fail
          try simp only [Exit.inBlock, Exit.then]
          refine bodyPost_ret (results_none rfl _ _ _) rfl ?_
          refine ⟨rfl, iv, ?_, ?_⟩
          · rw [HE'.out]; exact HWf.out.set 1 _ rfl rfl HWf.out.inp
          · exact (below_drewN ((below_drewN HB1.out (nq + 1)).setCell HW1.out.gq _) j).setCell HW1.out.gb _
      · rw [hv] at c1 HE
        have HE' : Hid (stpR m.st k = ⟨k.st, nextR m.st p 0, k.v.set 3 (sm + u.num), k.inp⟩) := HE.out
        clear hv HE
        go_enter Try.func33, Try.ntmps33
        go_wp2_with fail
        go_quiet (fail)
        obtain ⟨w1, hW1⟩ : ∃ w1, w1 = w.drewN nq := ⟨_, rfl⟩
        rw [← hW1]
        have k1 : ∀ a, w1.cell? a = w.cell? a := fun a => by rw [hW1]; rfl
        have k2 : ∀ a, w1.frozen? a = w.frozen? a := fun a => by rw [hW1]; rfl
        rw [← k1] at r1 gp c0 c1 c2 c3 c4 b0 b1 b2 b3 v0 v1 v2 v3
        have bf1 : ∀ i, w1.frozen? ⟨b, i, none⟩ = false := fun i => (k2 _).trans (bf i)
        have qf1 : ∀ i, w1.frozen? ⟨q, i, none⟩ = false := fun i => (k2 _).trans (qf i)
        have HW1 : Hid (WRep B2 w1 r b q m iv k) := by rw [hW1]; exact HW.out.drewN _
        have HB1 : Hid (Below B2 w w1) := by rw [hW1]; exact below_drewN (Below.refl _ _) _
        have HSum1 := HSum.out w1 ⟨_, hW1⟩
        have HSm : Hid (∀ n, Calls Try.prog 49 #[.slice (some ⟨Y, 0, none⟩) 4 4, .slice (some ⟨q, 0, none⟩) 4 4] (w1.drewN n) fun e w' => e = .returned (.int .i64 sm) ∧ ∃ j, w' = (w1.drewN n).drewN j) := HSum1
        clear k1 k2 hW1 HSum1 bf qf
        go_wp2_with fail
        go_quiet (first | (go_at_call 49; refine Calls.quiet_of (HSm.out _)))
        go_wp2_with fail
        go_region
        all_goals
          go_wp2_with fail
          refine (HNx.out _ _ _ _ ((HW1.out.drewN (nq + 1)).setV 3 (by omega) (sm + u.num) (by omega) (by omega))).mono ?_
          rintro e w2 ⟨rfl, j, rfl⟩
          have HWf : Hid (WRep B2 _ r b q m iv _) := ((HW1.out.drewN (nq + 1)).setV 3 (by omega) (sm + u.num) (by omega) (by omega)).drewN j
          obtain ⟨b0', b1', b2', b3', bf'⟩ := HWf.out.cells
          clear b0 b1 b2 b3
          go_wp2_with fail
          try simp only [Exit.inBlock, Exit.then]
          refine bodyPost_ret (results_none rfl _ _ _) rfl ?_
          refine ⟨rfl, iv, ?_, ?_⟩
          · rw [HE'.out]; exact HWf.out.set 1 _ rfl rfl HWf.out.inp
          · exact (below_drewN ((below_drewN HB1.out (nq + 1)).setCell HW1.out.gq _) j).setCell HW1.out.gb _
  · rw [hst] at c2 HE1
    have HE2 : Hid (_ = _) := HE1.out.trans (if_pos rfl)
    clear HE1 hst
    generalize k.inp.headD 0 = hd at *
    by_cases q1 : 999 < hd
    · have hcl : clampI hd = 999 := if_pos q1
      rw [hcl] at HE2
      have HE : Hid (_ = _) := HE2.out
      clear HE2 hcl
      rcases (show u.var = 0 ∨ u.var = 1 ∨ u.var = 2 ∨ u.var = 3 by omega) with hv | hv | hv | hv
      all_goals rw [hv] at HE
      · have HE' : Hid (stpR m.st k = ⟨k.st, nextR m.st p 0, k.v.set 0 (999), k.inp.tail⟩) := HE.out
        go_enter Try.func33, Try.ntmps33
        go_wp2_with fail
        go_quiet (fail)
        obtain ⟨w1, hW1⟩ : ∃ w1, w1 = w.drewN nq := ⟨_, rfl⟩
        rw [← hW1]
        have k1 : ∀ a, w1.cell? a = w.cell? a := fun a => by rw [hW1]; rfl
        have k2 : ∀ a, w1.frozen? a = w.frozen? a := fun a => by rw [hW1]; rfl
        rw [← k1] at r1 gp c0 c1 c2 c3 c4 b0 b1 b2 b3 v0 v1 v2 v3
        have bf1 : ∀ i, w1.frozen? ⟨b, i, none⟩ = false := fun i => (k2 _).trans (bf i)
        have qf1 : ∀ i, w1.frozen? ⟨q, i, none⟩ = false := fun i => (k2 _).trans (qf i)
        have HW1 : Hid (WRep B2 w1 r b q m iv k) := by rw [hW1]; exact HW.out.drewN _
        have HB1 : Hid (Below B2 w w1) := by rw [hW1]; exact below_drewN (Below.refl _ _) _
        have HSum1 := HSum.out w1 ⟨_, hW1⟩
        have HSm : Hid (∀ n, Calls Try.prog 49 #[.slice (some ⟨Y, 0, none⟩) 4 4, .slice (some ⟨q, 0, none⟩) 4 4] (w1.drewN n) fun e w' => e = .returned (.int .i64 sm) ∧ ∃ j, w' = (w1.drewN n).drewN j) := HSum1
        clear k1 k2 hW1 HSum1 bf qf
        go_wp2_with fail
        go_quiet (first | (go_at_call 49; refine Calls.quiet_of (HSm.out _)))
        go_wp2_with fail
        refine (HTk.out _ (HW1.out.drewN _)).mono ?_
        rintro e w2 ⟨rfl, iv2, hw2, hb2⟩
        have HW2 : Hid (WRep B2 w2 r b q m iv2 ⟨k.st, k.pt, k.v, k.inp.tail⟩) := hw2
        have HB2 : Hid (Below B2 w w2) := (below_drewN HB1.out nq).trans hb2
        have hs2 := HS'.out.keep HB2.out
        have x0 := hs2.c0
        have x1 := hs2.c1
        have x4 := hs2.c4
        obtain ⟨y0, y1, y2, y3, yf⟩ := hw2.cells
        simp only at y0 y1 y2 y3
        rw [hp] at y1
        have qf2 := hw2.vt.free
        have hvc2 : ∀ i, i < 4 → w2.cell? ⟨q, i, none⟩ = some (.int .i64 (sgAt k.v i)) := fun i hi => by rw [hw2.vt.cell, ic_get _ _ (by have := hw2.len; simp only at this ⊢; omega)]; rfl
        have z0 := hvc2 0 (by omega)
        have z1 := hvc2 1 (by omega)
        have z2 := hvc2 2 (by omega)
        have z3 := hvc2 3 (by omega)
        have hbl2 := hw2.at_.lt
        have hql2 := hw2.vt.lt
        clear hs2 hw2 hb2 hvc2 r1 gp c0 c1 c2 c3 c4 b0 b1 b2 b3 v0 v1 v2 v3
        rw [hv] at x1
        clear hv
        go_wp2_with fail
        go_region
        all_goals
          go_wp2_with fail
          refine (HNx.out _ _ _ _ ((HW2.out.drewN 1).setV 0 (by omega) (999) (by omega) (by omega))).mono ?_
          rintro e w3 ⟨rfl, j, rfl⟩
          have HWf : Hid (WRep B2 _ r b q m iv2 _) := ((HW2.out.drewN 1).setV 0 (by omega) (999) (by omega) (by omega)).drewN j
          obtain ⟨b0', b1', b2', b3', bf'⟩ := HWf.out.cells
          clear y0 y1 y2 y3
          go_wp2_with fail
          try simp only [Exit.inBlock, Exit.then]
          refine bodyPost_ret (results_none rfl _ _ _) rfl ?_
          refine ⟨rfl, iv2, ?_, ?_⟩
          · rw [HE'.out]; exact HWf.out.set 1 _ rfl rfl HWf.out.inp
          · exact (below_drewN ((below_drewN HB2.out 1).setCell HW2.out.gq _) j).setCell HW2.out.gb _
      · have HE' : Hid (stpR m.st k = ⟨k.st, nextR m.st p 0, k.v.set 1 (999), k.inp.tail⟩) := HE.out
        go_enter Try.func33, Try.ntmps33
        go_wp2_with fail
        go_quiet (fail)
        obtain ⟨w1, hW1⟩ : ∃ w1, w1 = w.drewN nq := ⟨_, rfl⟩
        rw [← hW1]
        have k1 : ∀ a, w1.cell? a = w.cell? a := fun a => by rw [hW1]; rfl
        have k2 : ∀ a, w1.frozen? a = w.frozen? a := fun a => by rw [hW1]; rfl
        rw [← k1] at r1 gp c0 c1 c2 c3 c4 b0 b1 b2 b3 v0 v1 v2 v3
        have bf1 : ∀ i, w1.frozen? ⟨b, i, none⟩ = false := fun i => (k2 _).trans (bf i)
        have qf1 : ∀ i, w1.frozen? ⟨q, i, none⟩ = false := fun i => (k2 _).trans (qf i)
        have HW1 : Hid (WRep B2 w1 r b q m iv k) := by rw [hW1]; exact HW.out.drewN _
        have HB1 : Hid (Below B2 w w1) := by rw [hW1]; exact below_drewN (Below.refl _ _) _
        have HSum1 := HSum.out w1 ⟨_, hW1⟩
        have HSm : Hid (∀ n, Calls Try.prog 49 #[.slice (some ⟨Y, 0, none⟩) 4 4, .slice (some ⟨q, 0, none⟩) 4 4] (w1.drewN n) fun e w' => e = .returned (.int .i64 sm) ∧ ∃ j, w' = (w1.drewN n).drewN j) := HSum1
        clear k1 k2 hW1 HSum1 bf qf
        go_wp2_with fail
        go_quiet (first | (go_at_call 49; refine Calls.quiet_of (HSm.out _)))
        go_wp2_with fail
        refine (HTk.out _ (HW1.out.drewN _)).mono ?_
        rintro e w2 ⟨rfl, iv2, hw2, hb2⟩
        have HW2 : Hid (WRep B2 w2 r b q m iv2 ⟨k.st, k.pt, k.v, k.inp.tail⟩) := hw2
        have HB2 : Hid (Below B2 w w2) := (below_drewN HB1.out nq).trans hb2
        have hs2 := HS'.out.keep HB2.out
        have x0 := hs2.c0
        have x1 := hs2.c1
        have x4 := hs2.c4
        obtain ⟨y0, y1, y2, y3, yf⟩ := hw2.cells
        simp only at y0 y1 y2 y3
        rw [hp] at y1
        have qf2 := hw2.vt.free
        have hvc2 : ∀ i, i < 4 → w2.cell? ⟨q, i, none⟩ = some (.int .i64 (sgAt k.v i)) := fun i hi => by rw [hw2.vt.cell, ic_get _ _ (by have := hw2.len; simp only at this ⊢; omega)]; rfl
        have z0 := hvc2 0 (by omega)
        have z1 := hvc2 1 (by omega)
        have z2 := hvc2 2 (by omega)
        have z3 := hvc2 3 (by omega)
        have hbl2 := hw2.at_.lt
        have hql2 := hw2.vt.lt
        clear hs2 hw2 hb2 hvc2 r1 gp c0 c1 c2 c3 c4 b0 b1 b2 b3 v0 v1 v2 v3
        rw [hv] at x1
        clear hv
        go_wp2_with fail
        go_region
        all_goals
          go_wp2_with fail
          refine (HNx.out _ _ _ _ ((HW2.out.drewN 1).setV 1 (by omega) (999) (by omega) (by omega))).mono ?_
          rintro e w3 ⟨rfl, j, rfl⟩
          have HWf : Hid (WRep B2 _ r b q m iv2 _) := ((HW2.out.drewN 1).setV 1 (by omega) (999) (by omega) (by omega)).drewN j
          obtain ⟨b0', b1', b2', b3', bf'⟩ := HWf.out.cells
          clear y0 y1 y2 y3
          go_wp2_with fail
          try simp only [Exit.inBlock, Exit.then]
          refine bodyPost_ret (results_none rfl _ _ _) rfl ?_
          refine ⟨rfl, iv2, ?_, ?_⟩
          · rw [HE'.out]; exact HWf.out.set 1 _ rfl rfl HWf.out.inp
          · exact (below_drewN ((below_drewN HB2.out 1).setCell HW2.out.gq _) j).setCell HW2.out.gb _
      · have HE' : Hid (stpR m.st k = ⟨k.st, nextR m.st p 0, k.v.set 2 (999), k.inp.tail⟩) := HE.out
        go_enter Try.func33, Try.ntmps33
        go_wp2_with fail
        go_quiet (fail)
        obtain ⟨w1, hW1⟩ : ∃ w1, w1 = w.drewN nq := ⟨_, rfl⟩
        rw [← hW1]
        have k1 : ∀ a, w1.cell? a = w.cell? a := fun a => by rw [hW1]; rfl
        have k2 : ∀ a, w1.frozen? a = w.frozen? a := fun a => by rw [hW1]; rfl
        rw [← k1] at r1 gp c0 c1 c2 c3 c4 b0 b1 b2 b3 v0 v1 v2 v3
        have bf1 : ∀ i, w1.frozen? ⟨b, i, none⟩ = false := fun i => (k2 _).trans (bf i)
        have qf1 : ∀ i, w1.frozen? ⟨q, i, none⟩ = false := fun i => (k2 _).trans (qf i)
        have HW1 : Hid (WRep B2 w1 r b q m iv k) := by rw [hW1]; exact HW.out.drewN _
        have HB1 : Hid (Below B2 w w1) := by rw [hW1]; exact below_drewN (Below.refl _ _) _
        have HSum1 := HSum.out w1 ⟨_, hW1⟩
        have HSm : Hid (∀ n, Calls Try.prog 49 #[.slice (some ⟨Y, 0, none⟩) 4 4, .slice (some ⟨q, 0, none⟩) 4 4] (w1.drewN n) fun e w' => e = .returned (.int .i64 sm) ∧ ∃ j, w' = (w1.drewN n).drewN j) := HSum1
        clear k1 k2 hW1 HSum1 bf qf
        go_wp2_with fail
        go_quiet (first | (go_at_call 49; refine Calls.quiet_of (HSm.out _)))
        go_wp2_with fail
        refine (HTk.out _ (HW1.out.drewN _)).mono ?_
        rintro e w2 ⟨rfl, iv2, hw2, hb2⟩
        have HW2 : Hid (WRep B2 w2 r b q m iv2 ⟨k.st, k.pt, k.v, k.inp.tail⟩) := hw2
        have HB2 : Hid (Below B2 w w2) := (below_drewN HB1.out nq).trans hb2
        have hs2 := HS'.out.keep HB2.out
        have x0 := hs2.c0
        have x1 := hs2.c1
        have x4 := hs2.c4
        obtain ⟨y0, y1, y2, y3, yf⟩ := hw2.cells
        simp only at y0 y1 y2 y3
        rw [hp] at y1
        have qf2 := hw2.vt.free
        have hvc2 : ∀ i, i < 4 → w2.cell? ⟨q, i, none⟩ = some (.int .i64 (sgAt k.v i)) := fun i hi => by rw [hw2.vt.cell, ic_get _ _ (by have := hw2.len; simp only at this ⊢; omega)]; rfl
        have z0 := hvc2 0 (by omega)
        have z1 := hvc2 1 (by omega)
        have z2 := hvc2 2 (by omega)
        have z3 := hvc2 3 (by omega)
        have hbl2 := hw2.at_.lt
        have hql2 := hw2.vt.lt
        clear hs2 hw2 hb2 hvc2 r1 gp c0 c1 c2 c3 c4 b0 b1 b2 b3 v0 v1 v2 v3
        rw [hv] at x1
        clear hv
        go_wp2_with fail
        go_region
        all_goals
          go_wp2_with fail
          refine (HNx.out _ _ _ _ ((HW2.out.drewN 1).setV 2 (by omega) (999) (by omega) (by omega))).mono ?_
          rintro e w3 ⟨rfl, j, rfl⟩
          have HWf : Hid (WRep B2 _ r b q m iv2 _) := ((HW2.out.drewN 1).setV 2 (by omega) (999) (by omega) (by omega)).drewN j
          obtain ⟨b0', b1', b2', b3', bf'⟩ := HWf.out.cells
          clear y0 y1 y2 y3
          go_wp2_with fail
          try simp only [Exit.inBlock, Exit.then]
          refine bodyPost_ret (results_none rfl _ _ _) rfl ?_
          refine ⟨rfl, iv2, ?_, ?_⟩
          · rw [HE'.out]; exact HWf.out.set 1 _ rfl rfl HWf.out.inp
          · exact (below_drewN ((below_drewN HB2.out 1).setCell HW2.out.gq _) j).setCell HW2.out.gb _
      · have HE' : Hid (stpR m.st k = ⟨k.st, nextR m.st p 0, k.v.set 3 (999), k.inp.tail⟩) := HE.out
        go_enter Try.func33, Try.ntmps33
        go_wp2_with fail
        go_quiet (fail)
        obtain ⟨w1, hW1⟩ : ∃ w1, w1 = w.drewN nq := ⟨_, rfl⟩
        rw [← hW1]
        have k1 : ∀ a, w1.cell? a = w.cell? a := fun a => by rw [hW1]; rfl
        have k2 : ∀ a, w1.frozen? a = w.frozen? a := fun a => by rw [hW1]; rfl
        rw [← k1] at r1 gp c0 c1 c2 c3 c4 b0 b1 b2 b3 v0 v1 v2 v3
        have bf1 : ∀ i, w1.frozen? ⟨b, i, none⟩ = false := fun i => (k2 _).trans (bf i)
        have qf1 : ∀ i, w1.frozen? ⟨q, i, none⟩ = false := fun i => (k2 _).trans (qf i)
        have HW1 : Hid (WRep B2 w1 r b q m iv k) := by rw [hW1]; exact HW.out.drewN _
        have HB1 : Hid (Below B2 w w1) := by rw [hW1]; exact below_drewN (Below.refl _ _) _
        have HSum1 := HSum.out w1 ⟨_, hW1⟩
        have HSm : Hid (∀ n, Calls Try.prog 49 #[.slice (some ⟨Y, 0, none⟩) 4 4, .slice (some ⟨q, 0, none⟩) 4 4] (w1.drewN n) fun e w' => e = .returned (.int .i64 sm) ∧ ∃ j, w' = (w1.drewN n).drewN j) := HSum1
        clear k1 k2 hW1 HSum1 bf qf
        go_wp2_with fail
        go_quiet (first | (go_at_call 49; refine Calls.quiet_of (HSm.out _)))
        go_wp2_with fail
        refine (HTk.out _ (HW1.out.drewN _)).mono ?_
        rintro e w2 ⟨rfl, iv2, hw2, hb2⟩
        have HW2 : Hid (WRep B2 w2 r b q m iv2 ⟨k.st, k.pt, k.v, k.inp.tail⟩) := hw2
        have HB2 : Hid (Below B2 w w2) := (below_drewN HB1.out nq).trans hb2
        have hs2 := HS'.out.keep HB2.out
        have x0 := hs2.c0
        have x1 := hs2.c1
        have x4 := hs2.c4
        obtain ⟨y0, y1, y2, y3, yf⟩ := hw2.cells
        simp only at y0 y1 y2 y3
        rw [hp] at y1
        have qf2 := hw2.vt.free
        have hvc2 : ∀ i, i < 4 → w2.cell? ⟨q, i, none⟩ = some (.int .i64 (sgAt k.v i)) := fun i hi => by rw [hw2.vt.cell, ic_get _ _ (by have := hw2.len; simp only at this ⊢; omega)]; rfl
        have z0 := hvc2 0 (by omega)
        have z1 := hvc2 1 (by omega)
        have z2 := hvc2 2 (by omega)
        have z3 := hvc2 3 (by omega)
        have hbl2 := hw2.at_.lt
        have hql2 := hw2.vt.lt
        clear hs2 hw2 hb2 hvc2 r1 gp c0 c1 c2 c3 c4 b0 b1 b2 b3 v0 v1 v2 v3
        rw [hv] at x1
        clear hv
        go_wp2_with fail
        go_region
        all_goals
          go_wp2_with fail
          refine (HNx.out _ _ _ _ ((HW2.out.drewN 1).setV 3 (by omega) (999) (by omega) (by omega))).mono ?_
          rintro e w3 ⟨rfl, j, rfl⟩
          have HWf : Hid (WRep B2 _ r b q m iv2 _) := ((HW2.out.drewN 1).setV 3 (by omega) (999) (by omega) (by omega)).drewN j
          obtain ⟨b0', b1', b2', b3', bf'⟩ := HWf.out.cells
          clear y0 y1 y2 y3
          go_wp2_with fail
          try simp only [Exit.inBlock, Exit.then]
          refine bodyPost_ret (results_none rfl _ _ _) rfl ?_
          refine ⟨rfl, iv2, ?_, ?_⟩
          · rw [HE'.out]; exact HWf.out.set 1 _ rfl rfl HWf.out.inp
          · exact (below_drewN ((below_drewN HB2.out 1).setCell HW2.out.gq _) j).setCell HW2.out.gb _
    by_cases q2 : hd < -999
    · have hcl : clampI hd = -999 := by unfold clampI; rw [if_neg q1, if_pos q2]
      rw [hcl] at HE2
      have HE : Hid (_ = _) := HE2.out
      clear HE2 hcl
      rcases (show u.var = 0 ∨ u.var = 1 ∨ u.var = 2 ∨ u.var = 3 by omega) with hv | hv | hv | hv
      all_goals rw [hv] at HE
      · have HE' : Hid (stpR m.st k = ⟨k.st, nextR m.st p 0, k.v.set 0 (-999), k.inp.tail⟩) := HE.out
        go_enter Try.func33, Try.ntmps33
        go_wp2_with fail
        go_quiet (fail)
        obtain ⟨w1, hW1⟩ : ∃ w1, w1 = w.drewN nq := ⟨_, rfl⟩
        rw [← hW1]
        have k1 : ∀ a, w1.cell? a = w.cell? a := fun a => by rw [hW1]; rfl
        have k2 : ∀ a, w1.frozen? a = w.frozen? a := fun a => by rw [hW1]; rfl
        rw [← k1] at r1 gp c0 c1 c2 c3 c4 b0 b1 b2 b3 v0 v1 v2 v3
        have bf1 : ∀ i, w1.frozen? ⟨b, i, none⟩ = false := fun i => (k2 _).trans (bf i)
        have qf1 : ∀ i, w1.frozen? ⟨q, i, none⟩ = false := fun i => (k2 _).trans (qf i)
        have HW1 : Hid (WRep B2 w1 r b q m iv k) := by rw [hW1]; exact HW.out.drewN _
        have HB1 : Hid (Below B2 w w1) := by rw [hW1]; exact below_drewN (Below.refl _ _) _
        have HSum1 := HSum.out w1 ⟨_, hW1⟩
        have HSm : Hid (∀ n, Calls Try.prog 49 #[.slice (some ⟨Y, 0, none⟩) 4 4, .slice (some ⟨q, 0, none⟩) 4 4] (w1.drewN n) fun e w' => e = .returned (.int .i64 sm) ∧ ∃ j, w' = (w1.drewN n).drewN j) := HSum1
        clear k1 k2 hW1 HSum1 bf qf
        go_wp2_with fail
        go_quiet (first | (go_at_call 49; refine Calls.quiet_of (HSm.out _)))
        go_wp2_with fail
        refine (HTk.out _ (HW1.out.drewN _)).mono ?_
        rintro e w2 ⟨rfl, iv2, hw2, hb2⟩
        have HW2 : Hid (WRep B2 w2 r b q m iv2 ⟨k.st, k.pt, k.v, k.inp.tail⟩) := hw2
        have HB2 : Hid (Below B2 w w2) := (below_drewN HB1.out nq).trans hb2
        have hs2 := HS'.out.keep HB2.out
        have x0 := hs2.c0
        have x1 := hs2.c1
        have x4 := hs2.c4
        obtain ⟨y0, y1, y2, y3, yf⟩ := hw2.cells
        simp only at y0 y1 y2 y3
        rw [hp] at y1
        have qf2 := hw2.vt.free
        have hvc2 : ∀ i, i < 4 → w2.cell? ⟨q, i, none⟩ = some (.int .i64 (sgAt k.v i)) := fun i hi => by rw [hw2.vt.cell, ic_get _ _ (by have := hw2.len; simp only at this ⊢; omega)]; rfl
        have z0 := hvc2 0 (by omega)
        have z1 := hvc2 1 (by omega)
        have z2 := hvc2 2 (by omega)
        have z3 := hvc2 3 (by omega)
        have hbl2 := hw2.at_.lt
        have hql2 := hw2.vt.lt
        clear hs2 hw2 hb2 hvc2 r1 gp c0 c1 c2 c3 c4 b0 b1 b2 b3 v0 v1 v2 v3
        rw [hv] at x1
        clear hv
        go_wp2_with fail
        go_region
        all_goals
          go_wp2_with fail
          refine (HNx.out _ _ _ _ ((HW2.out.drewN 1).setV 0 (by omega) (-999) (by omega) (by omega))).mono ?_
          rintro e w3 ⟨rfl, j, rfl⟩
          have HWf : Hid (WRep B2 _ r b q m iv2 _) := ((HW2.out.drewN 1).setV 0 (by omega) (-999) (by omega) (by omega)).drewN j
          obtain ⟨b0', b1', b2', b3', bf'⟩ := HWf.out.cells
          clear y0 y1 y2 y3
          go_wp2_with fail
          try simp only [Exit.inBlock, Exit.then]
          refine bodyPost_ret (results_none rfl _ _ _) rfl ?_
          refine ⟨rfl, iv2, ?_, ?_⟩
          · rw [HE'.out]; exact HWf.out.set 1 _ rfl rfl HWf.out.inp
          · exact (below_drewN ((below_drewN HB2.out 1).setCell HW2.out.gq _) j).setCell HW2.out.gb _
      · have HE' : Hid (stpR m.st k = ⟨k.st, nextR m.st p 0, k.v.set 1 (-999), k.inp.tail⟩) := HE.out
        go_enter Try.func33, Try.ntmps33
        go_wp2_with fail
        go_quiet (fail)
        obtain ⟨w1, hW1⟩ : ∃ w1, w1 = w.drewN nq := ⟨_, rfl⟩
        rw [← hW1]
        have k1 : ∀ a, w1.cell? a = w.cell? a := fun a => by rw [hW1]; rfl
        have k2 : ∀ a, w1.frozen? a = w.frozen? a := fun a => by rw [hW1]; rfl
        rw [← k1] at r1 gp c0 c1 c2 c3 c4 b0 b1 b2 b3 v0 v1 v2 v3
        have bf1 : ∀ i, w1.frozen? ⟨b, i, none⟩ = false := fun i => (k2 _).trans (bf i)
        have qf1 : ∀ i, w1.frozen? ⟨q, i, none⟩ = false := fun i => (k2 _).trans (qf i)
        have HW1 : Hid (WRep B2 w1 r b q m iv k) := by rw [hW1]; exact HW.out.drewN _
        have HB1 : Hid (Below B2 w w1) := by rw [hW1]; exact below_drewN (Below.refl _ _) _
        have HSum1 := HSum.out w1 ⟨_, hW1⟩
        have HSm : Hid (∀ n, Calls Try.prog 49 #[.slice (some ⟨Y, 0, none⟩) 4 4, .slice (some ⟨q, 0, none⟩) 4 4] (w1.drewN n) fun e w' => e = .returned (.int .i64 sm) ∧ ∃ j, w' = (w1.drewN n).drewN j) := HSum1
        clear k1 k2 hW1 HSum1 bf qf
        go_wp2_with fail
        go_quiet (first | (go_at_call 49; refine Calls.quiet_of (HSm.out _)))
        go_wp2_with fail
        refine (HTk.out _ (HW1.out.drewN _)).mono ?_
        rintro e w2 ⟨rfl, iv2, hw2, hb2⟩
        have HW2 : Hid (WRep B2 w2 r b q m iv2 ⟨k.st, k.pt, k.v, k.inp.tail⟩) := hw2
        have HB2 : Hid (Below B2 w w2) := (below_drewN HB1.out nq).trans hb2
        have hs2 := HS'.out.keep HB2.out
        have x0 := hs2.c0
        have x1 := hs2.c1
        have x4 := hs2.c4
        obtain ⟨y0, y1, y2, y3, yf⟩ := hw2.cells
        simp only at y0 y1 y2 y3
        rw [hp] at y1
        have qf2 := hw2.vt.free
        have hvc2 : ∀ i, i < 4 → w2.cell? ⟨q, i, none⟩ = some (.int .i64 (sgAt k.v i)) := fun i hi => by rw [hw2.vt.cell, ic_get _ _ (by have := hw2.len; simp only at this ⊢; omega)]; rfl
        have z0 := hvc2 0 (by omega)
        have z1 := hvc2 1 (by omega)
        have z2 := hvc2 2 (by omega)
        have z3 := hvc2 3 (by omega)
        have hbl2 := hw2.at_.lt
        have hql2 := hw2.vt.lt
        clear hs2 hw2 hb2 hvc2 r1 gp c0 c1 c2 c3 c4 b0 b1 b2 b3 v0 v1 v2 v3
        rw [hv] at x1
        clear hv
        go_wp2_with fail
        go_region
        all_goals
          go_wp2_with fail
          refine (HNx.out _ _ _ _ ((HW2.out.drewN 1).setV 1 (by omega) (-999) (by omega) (by omega))).mono ?_
          rintro e w3 ⟨rfl, j, rfl⟩
          have HWf : Hid (WRep B2 _ r b q m iv2 _) := ((HW2.out.drewN 1).setV 1 (by omega) (-999) (by omega) (by omega)).drewN j
          obtain ⟨b0', b1', b2', b3', bf'⟩ := HWf.out.cells
          clear y0 y1 y2 y3
          go_wp2_with fail
          try simp only [Exit.inBlock, Exit.then]
          refine bodyPost_ret (results_none rfl _ _ _) rfl ?_
          refine ⟨rfl, iv2, ?_, ?_⟩
          · rw [HE'.out]; exact HWf.out.set 1 _ rfl rfl HWf.out.inp
          · exact (below_drewN ((below_drewN HB2.out 1).setCell HW2.out.gq _) j).setCell HW2.out.gb _
      · have HE' : Hid (stpR m.st k = ⟨k.st, nextR m.st p 0, k.v.set 2 (-999), k.inp.tail⟩) := HE.out
        go_enter Try.func33, Try.ntmps33
        go_wp2_with fail
        go_quiet (fail)
        obtain ⟨w1, hW1⟩ : ∃ w1, w1 = w.drewN nq := ⟨_, rfl⟩
        rw [← hW1]
        have k1 : ∀ a, w1.cell? a = w.cell? a := fun a => by rw [hW1]; rfl
        have k2 : ∀ a, w1.frozen? a = w.frozen? a := fun a => by rw [hW1]; rfl
        rw [← k1] at r1 gp c0 c1 c2 c3 c4 b0 b1 b2 b3 v0 v1 v2 v3
        have bf1 : ∀ i, w1.frozen? ⟨b, i, none⟩ = false := fun i => (k2 _).trans (bf i)
        have qf1 : ∀ i, w1.frozen? ⟨q, i, none⟩ = false := fun i => (k2 _).trans (qf i)
        have HW1 : Hid (WRep B2 w1 r b q m iv k) := by rw [hW1]; exact HW.out.drewN _
        have HB1 : Hid (Below B2 w w1) := by rw [hW1]; exact below_drewN (Below.refl _ _) _
        have HSum1 := HSum.out w1 ⟨_, hW1⟩
        have HSm : Hid (∀ n, Calls Try.prog 49 #[.slice (some ⟨Y, 0, none⟩) 4 4, .slice (some ⟨q, 0, none⟩) 4 4] (w1.drewN n) fun e w' => e = .returned (.int .i64 sm) ∧ ∃ j, w' = (w1.drewN n).drewN j) := HSum1
        clear k1 k2 hW1 HSum1 bf qf
        go_wp2_with fail
        go_quiet (first | (go_at_call 49; refine Calls.quiet_of (HSm.out _)))
        go_wp2_with fail
        refine (HTk.out _ (HW1.out.drewN _)).mono ?_
        rintro e w2 ⟨rfl, iv2, hw2, hb2⟩
        have HW2 : Hid (WRep B2 w2 r b q m iv2 ⟨k.st, k.pt, k.v, k.inp.tail⟩) := hw2
        have HB2 : Hid (Below B2 w w2) := (below_drewN HB1.out nq).trans hb2
        have hs2 := HS'.out.keep HB2.out
        have x0 := hs2.c0
        have x1 := hs2.c1
        have x4 := hs2.c4
        obtain ⟨y0, y1, y2, y3, yf⟩ := hw2.cells
        simp only at y0 y1 y2 y3
        rw [hp] at y1
        have qf2 := hw2.vt.free
        have hvc2 : ∀ i, i < 4 → w2.cell? ⟨q, i, none⟩ = some (.int .i64 (sgAt k.v i)) := fun i hi => by rw [hw2.vt.cell, ic_get _ _ (by have := hw2.len; simp only at this ⊢; omega)]; rfl
        have z0 := hvc2 0 (by omega)
        have z1 := hvc2 1 (by omega)
        have z2 := hvc2 2 (by omega)
        have z3 := hvc2 3 (by omega)
        have hbl2 := hw2.at_.lt
        have hql2 := hw2.vt.lt
        clear hs2 hw2 hb2 hvc2 r1 gp c0 c1 c2 c3 c4 b0 b1 b2 b3 v0 v1 v2 v3
        rw [hv] at x1
        clear hv
        go_wp2_with fail
        go_region
        all_goals
          go_wp2_with fail
          refine (HNx.out _ _ _ _ ((HW2.out.drewN 1).setV 2 (by omega) (-999) (by omega) (by omega))).mono ?_
          rintro e w3 ⟨rfl, j, rfl⟩
          have HWf : Hid (WRep B2 _ r b q m iv2 _) := ((HW2.out.drewN 1).setV 2 (by omega) (-999) (by omega) (by omega)).drewN j
          obtain ⟨b0', b1', b2', b3', bf'⟩ := HWf.out.cells
          clear y0 y1 y2 y3
          go_wp2_with fail
          try simp only [Exit.inBlock, Exit.then]
          refine bodyPost_ret (results_none rfl _ _ _) rfl ?_
          refine ⟨rfl, iv2, ?_, ?_⟩
          · rw [HE'.out]; exact HWf.out.set 1 _ rfl rfl HWf.out.inp
          · exact (below_drewN ((below_drewN HB2.out 1).setCell HW2.out.gq _) j).setCell HW2.out.gb _
      · have HE' : Hid (stpR m.st k = ⟨k.st, nextR m.st p 0, k.v.set 3 (-999), k.inp.tail⟩) := HE.out
        go_enter Try.func33, Try.ntmps33
        go_wp2_with fail
        go_quiet (fail)
        obtain ⟨w1, hW1⟩ : ∃ w1, w1 = w.drewN nq := ⟨_, rfl⟩
        rw [← hW1]
        have k1 : ∀ a, w1.cell? a = w.cell? a := fun a => by rw [hW1]; rfl
        have k2 : ∀ a, w1.frozen? a = w.frozen? a := fun a => by rw [hW1]; rfl
        rw [← k1] at r1 gp c0 c1 c2 c3 c4 b0 b1 b2 b3 v0 v1 v2 v3
        have bf1 : ∀ i, w1.frozen? ⟨b, i, none⟩ = false := fun i => (k2 _).trans (bf i)
        have qf1 : ∀ i, w1.frozen? ⟨q, i, none⟩ = false := fun i => (k2 _).trans (qf i)
        have HW1 : Hid (WRep B2 w1 r b q m iv k) := by rw [hW1]; exact HW.out.drewN _
        have HB1 : Hid (Below B2 w w1) := by rw [hW1]; exact below_drewN (Below.refl _ _) _
        have HSum1 := HSum.out w1 ⟨_, hW1⟩
        have HSm : Hid (∀ n, Calls Try.prog 49 #[.slice (some ⟨Y, 0, none⟩) 4 4, .slice (some ⟨q, 0, none⟩) 4 4] (w1.drewN n) fun e w' => e = .returned (.int .i64 sm) ∧ ∃ j, w' = (w1.drewN n).drewN j) := HSum1
        clear k1 k2 hW1 HSum1 bf qf
        go_wp2_with fail
        go_quiet (first | (go_at_call 49; refine Calls.quiet_of (HSm.out _)))
        go_wp2_with fail
        refine (HTk.out _ (HW1.out.drewN _)).mono ?_
        rintro e w2 ⟨rfl, iv2, hw2, hb2⟩
        have HW2 : Hid (WRep B2 w2 r b q m iv2 ⟨k.st, k.pt, k.v, k.inp.tail⟩) := hw2
        have HB2 : Hid (Below B2 w w2) := (below_drewN HB1.out nq).trans hb2
        have hs2 := HS'.out.keep HB2.out
        have x0 := hs2.c0
        have x1 := hs2.c1
        have x4 := hs2.c4
        obtain ⟨y0, y1, y2, y3, yf⟩ := hw2.cells
        simp only at y0 y1 y2 y3
        rw [hp] at y1
        have qf2 := hw2.vt.free
        have hvc2 : ∀ i, i < 4 → w2.cell? ⟨q, i, none⟩ = some (.int .i64 (sgAt k.v i)) := fun i hi => by rw [hw2.vt.cell, ic_get _ _ (by have := hw2.len; simp only at this ⊢; omega)]; rfl
        have z0 := hvc2 0 (by omega)
        have z1 := hvc2 1 (by omega)
        have z2 := hvc2 2 (by omega)
        have z3 := hvc2 3 (by omega)
        have hbl2 := hw2.at_.lt
        have hql2 := hw2.vt.lt
        clear hs2 hw2 hb2 hvc2 r1 gp c0 c1 c2 c3 c4 b0 b1 b2 b3 v0 v1 v2 v3
        rw [hv] at x1
        clear hv
        go_wp2_with fail
        go_region
        all_goals
          go_wp2_with fail
          refine (HNx.out _ _ _ _ ((HW2.out.drewN 1).setV 3 (by omega) (-999) (by omega) (by omega))).mono ?_
          rintro e w3 ⟨rfl, j, rfl⟩
          have HWf : Hid (WRep B2 _ r b q m iv2 _) := ((HW2.out.drewN 1).setV 3 (by omega) (-999) (by omega) (by omega)).drewN j
          obtain ⟨b0', b1', b2', b3', bf'⟩ := HWf.out.cells
          clear y0 y1 y2 y3
          go_wp2_with fail
          try simp only [Exit.inBlock, Exit.then]
          refine bodyPost_ret (results_none rfl _ _ _) rfl ?_
          refine ⟨rfl, iv2, ?_, ?_⟩
          · rw [HE'.out]; exact HWf.out.set 1 _ rfl rfl HWf.out.inp
          · exact (below_drewN ((below_drewN HB2.out 1).setCell HW2.out.gq _) j).setCell HW2.out.gb _
    · have hcl : clampI hd = hd := by unfold clampI; rw [if_neg q1, if_neg q2]
      rw [hcl] at HE2
      have HE : Hid (_ = _) := HE2.out
      clear HE2 hcl
      rcases (show u.var = 0 ∨ u.var = 1 ∨ u.var = 2 ∨ u.var = 3 by omega) with hv | hv | hv | hv
      all_goals rw [hv] at HE
      · have HE' : Hid (stpR m.st k = ⟨k.st, nextR m.st p 0, k.v.set 0 (hd), k.inp.tail⟩) := HE.out
        go_enter Try.func33, Try.ntmps33
        go_wp2_with fail
        go_quiet (fail)
        obtain ⟨w1, hW1⟩ : ∃ w1, w1 = w.drewN nq := ⟨_, rfl⟩
        rw [← hW1]
        have k1 : ∀ a, w1.cell? a = w.cell? a := fun a => by rw [hW1]; rfl
        have k2 : ∀ a, w1.frozen? a = w.frozen? a := fun a => by rw [hW1]; rfl
        rw [← k1] at r1 gp c0 c1 c2 c3 c4 b0 b1 b2 b3 v0 v1 v2 v3
        have bf1 : ∀ i, w1.frozen? ⟨b, i, none⟩ = false := fun i => (k2 _).trans (bf i)
        have qf1 : ∀ i, w1.frozen? ⟨q, i, none⟩ = false := fun i => (k2 _).trans (qf i)
        have HW1 : Hid (WRep B2 w1 r b q m iv k) := by rw [hW1]; exact HW.out.drewN _
        have HB1 : Hid (Below B2 w w1) := by rw [hW1]; exact below_drewN (Below.refl _ _) _
        have HSum1 := HSum.out w1 ⟨_, hW1⟩
        have HSm : Hid (∀ n, Calls Try.prog 49 #[.slice (some ⟨Y, 0, none⟩) 4 4, .slice (some ⟨q, 0, none⟩) 4 4] (w1.drewN n) fun e w' => e = .returned (.int .i64 sm) ∧ ∃ j, w' = (w1.drewN n).drewN j) := HSum1
        clear k1 k2 hW1 HSum1 bf qf
        go_wp2_with fail
        go_quiet (first | (go_at_call 49; refine Calls.quiet_of (HSm.out _)))
        go_wp2_with fail
        refine (HTk.out _ (HW1.out.drewN _)).mono ?_
        rintro e w2 ⟨rfl, iv2, hw2, hb2⟩
        have HW2 : Hid (WRep B2 w2 r b q m iv2 ⟨k.st, k.pt, k.v, k.inp.tail⟩) := hw2
        have HB2 : Hid (Below B2 w w2) := (below_drewN HB1.out nq).trans hb2
        have hs2 := HS'.out.keep HB2.out
        have x0 := hs2.c0
        have x1 := hs2.c1
        have x4 := hs2.c4
        obtain ⟨y0, y1, y2, y3, yf⟩ := hw2.cells
        simp only at y0 y1 y2 y3
        rw [hp] at y1
        have qf2 := hw2.vt.free
        have hvc2 : ∀ i, i < 4 → w2.cell? ⟨q, i, none⟩ = some (.int .i64 (sgAt k.v i)) := fun i hi => by rw [hw2.vt.cell, ic_get _ _ (by have := hw2.len; simp only at this ⊢; omega)]; rfl
        have z0 := hvc2 0 (by omega)
        have z1 := hvc2 1 (by omega)
        have z2 := hvc2 2 (by omega)
        have z3 := hvc2 3 (by omega)
        have hbl2 := hw2.at_.lt
        have hql2 := hw2.vt.lt
        clear hs2 hw2 hb2 hvc2 r1 gp c0 c1 c2 c3 c4 b0 b1 b2 b3 v0 v1 v2 v3
        rw [hv] at x1
        clear hv
        go_wp2_with fail
        go_region
        all_goals
          go_wp2_with fail
          refine (HNx.out _ _ _ _ ((HW2.out.drewN 1).setV 0 (by omega) (hd) (by omega) (by omega))).mono ?_
          rintro e w3 ⟨rfl, j, rfl⟩
          have HWf : Hid (WRep B2 _ r b q m iv2 _) := ((HW2.out.drewN 1).setV 0 (by omega) (hd) (by omega) (by omega)).drewN j
          obtain ⟨b0', b1', b2', b3', bf'⟩ := HWf.out.cells
          clear y0 y1 y2 y3
          go_wp2_with fail
          try simp only [Exit.inBlock, Exit.then]
          refine bodyPost_ret (results_none rfl _ _ _) rfl ?_
          refine ⟨rfl, iv2, ?_, ?_⟩
          · rw [HE'.out]; exact HWf.out.set 1 _ rfl rfl HWf.out.inp
          · exact (below_drewN ((below_drewN HB2.out 1).setCell HW2.out.gq _) j).setCell HW2.out.gb _
      · have HE' : Hid (stpR m.st k = ⟨k.st, nextR m.st p 0, k.v.set 1 (hd), k.inp.tail⟩) := HE.out
        go_enter Try.func33, Try.ntmps33
        go_wp2_with fail
        go_quiet (fail)
        obtain ⟨w1, hW1⟩ : ∃ w1, w1 = w.drewN nq := ⟨_, rfl⟩
        rw [← hW1]
        have k1 : ∀ a, w1.cell? a = w.cell? a := fun a => by rw [hW1]; rfl
        have k2 : ∀ a, w1.frozen? a = w.frozen? a := fun a => by rw [hW1]; rfl
        rw [← k1] at r1 gp c0 c1 c2 c3 c4 b0 b1 b2 b3 v0 v1 v2 v3
        have bf1 : ∀ i, w1.frozen? ⟨b, i, none⟩ = false := fun i => (k2 _).trans (bf i)
        have qf1 : ∀ i, w1.frozen? ⟨q, i, none⟩ = false := fun i => (k2 _).trans (qf i)
        have HW1 : Hid (WRep B2 w1 r b q m iv k) := by rw [hW1]; exact HW.out.drewN _
        have HB1 : Hid (Below B2 w w1) := by rw [hW1]; exact below_drewN (Below.refl _ _) _
        have HSum1 := HSum.out w1 ⟨_, hW1⟩
        have HSm : Hid (∀ n, Calls Try.prog 49 #[.slice (some ⟨Y, 0, none⟩) 4 4, .slice (some ⟨q, 0, none⟩) 4 4] (w1.drewN n) fun e w' => e = .returned (.int .i64 sm) ∧ ∃ j, w' = (w1.drewN n).drewN j) := HSum1
        clear k1 k2 hW1 HSum1 bf qf
        go_wp2_with fail
        go_quiet (first | (go_at_call 49; refine Calls.quiet_of (HSm.out _)))
        go_wp2_with fail
        refine (HTk.out _ (HW1.out.drewN _)).mono ?_
        rintro e w2 ⟨rfl, iv2, hw2, hb2⟩
        have HW2 : Hid (WRep B2 w2 r b q m iv2 ⟨k.st, k.pt, k.v, k.inp.tail⟩) := hw2
        have HB2 : Hid (Below B2 w w2) := (below_drewN HB1.out nq).trans hb2
        have hs2 := HS'.out.keep HB2.out
        have x0 := hs2.c0
        have x1 := hs2.c1
        have x4 := hs2.c4
        obtain ⟨y0, y1, y2, y3, yf⟩ := hw2.cells
        simp only at y0 y1 y2 y3
        rw [hp] at y1
        have qf2 := hw2.vt.free
        have hvc2 : ∀ i, i < 4 → w2.cell? ⟨q, i, none⟩ = some (.int .i64 (sgAt k.v i)) := fun i hi => by rw [hw2.vt.cell, ic_get _ _ (by have := hw2.len; simp only at this ⊢; omega)]; rfl
        have z0 := hvc2 0 (by omega)
        have z1 := hvc2 1 (by omega)
        have z2 := hvc2 2 (by omega)
        have z3 := hvc2 3 (by omega)
        have hbl2 := hw2.at_.lt
        have hql2 := hw2.vt.lt
        clear hs2 hw2 hb2 hvc2 r1 gp c0 c1 c2 c3 c4 b0 b1 b2 b3 v0 v1 v2 v3
        rw [hv] at x1
        clear hv
        go_wp2_with fail
        go_region
        all_goals
          go_wp2_with fail
          refine (HNx.out _ _ _ _ ((HW2.out.drewN 1).setV 1 (by omega) (hd) (by omega) (by omega))).mono ?_
          rintro e w3 ⟨rfl, j, rfl⟩
          have HWf : Hid (WRep B2 _ r b q m iv2 _) := ((HW2.out.drewN 1).setV 1 (by omega) (hd) (by omega) (by omega)).drewN j
          obtain ⟨b0', b1', b2', b3', bf'⟩ := HWf.out.cells
          clear y0 y1 y2 y3
          go_wp2_with fail
          try simp only [Exit.inBlock, Exit.then]
          refine bodyPost_ret (results_none rfl _ _ _) rfl ?_
          refine ⟨rfl, iv2, ?_, ?_⟩
          · rw [HE'.out]; exact HWf.out.set 1 _ rfl rfl HWf.out.inp
          · exact (below_drewN ((below_drewN HB2.out 1).setCell HW2.out.gq _) j).setCell HW2.out.gb _
      · have HE' : Hid (stpR m.st k = ⟨k.st, nextR m.st p 0, k.v.set 2 (hd), k.inp.tail⟩) := HE.out
        go_enter Try.func33, Try.ntmps33
        go_wp2_with fail
        go_quiet (fail)
        obtain ⟨w1, hW1⟩ : ∃ w1, w1 = w.drewN nq := ⟨_, rfl⟩
        rw [← hW1]
        have k1 : ∀ a, w1.cell? a = w.cell? a := fun a => by rw [hW1]; rfl
        have k2 : ∀ a, w1.frozen? a = w.frozen? a := fun a => by rw [hW1]; rfl
        rw [← k1] at r1 gp c0 c1 c2 c3 c4 b0 b1 b2 b3 v0 v1 v2 v3
        have bf1 : ∀ i, w1.frozen? ⟨b, i, none⟩ = false := fun i => (k2 _).trans (bf i)
        have qf1 : ∀ i, w1.frozen? ⟨q, i, none⟩ = false := fun i => (k2 _).trans (qf i)
        have HW1 : Hid (WRep B2 w1 r b q m iv k) := by rw [hW1]; exact HW.out.drewN _
        have HB1 : Hid (Below B2 w w1) := by rw [hW1]; exact below_drewN (Below.refl _ _) _
        have HSum1 := HSum.out w1 ⟨_, hW1⟩
        have HSm : Hid (∀ n, Calls Try.prog 49 #[.slice (some ⟨Y, 0, none⟩) 4 4, .slice (some ⟨q, 0, none⟩) 4 4] (w1.drewN n) fun e w' => e = .returned (.int .i64 sm) ∧ ∃ j, w' = (w1.drewN n).drewN j) := HSum1
        clear k1 k2 hW1 HSum1 bf qf
        go_wp2_with fail
        go_quiet (first | (go_at_call 49; refine Calls.quiet_of (HSm.out _)))
        go_wp2_with fail
        refine (HTk.out _ (HW1.out.drewN _)).mono ?_
        rintro e w2 ⟨rfl, iv2, hw2, hb2⟩
        have HW2 : Hid (WRep B2 w2 r b q m iv2 ⟨k.st, k.pt, k.v, k.inp.tail⟩) := hw2
        have HB2 : Hid (Below B2 w w2) := (below_drewN HB1.out nq).trans hb2
        have hs2 := HS'.out.keep HB2.out
        have x0 := hs2.c0
        have x1 := hs2.c1
        have x4 := hs2.c4
        obtain ⟨y0, y1, y2, y3, yf⟩ := hw2.cells
        simp only at y0 y1 y2 y3
        rw [hp] at y1
        have qf2 := hw2.vt.free
        have hvc2 : ∀ i, i < 4 → w2.cell? ⟨q, i, none⟩ = some (.int .i64 (sgAt k.v i)) := fun i hi => by rw [hw2.vt.cell, ic_get _ _ (by have := hw2.len; simp only at this ⊢; omega)]; rfl
        have z0 := hvc2 0 (by omega)
        have z1 := hvc2 1 (by omega)
        have z2 := hvc2 2 (by omega)
        have z3 := hvc2 3 (by omega)
        have hbl2 := hw2.at_.lt
        have hql2 := hw2.vt.lt
        clear hs2 hw2 hb2 hvc2 r1 gp c0 c1 c2 c3 c4 b0 b1 b2 b3 v0 v1 v2 v3
        rw [hv] at x1
        clear hv
        go_wp2_with fail
        go_region
        all_goals
          go_wp2_with fail
          refine (HNx.out _ _ _ _ ((HW2.out.drewN 1).setV 2 (by omega) (hd) (by omega) (by omega))).mono ?_
          rintro e w3 ⟨rfl, j, rfl⟩
          have HWf : Hid (WRep B2 _ r b q m iv2 _) := ((HW2.out.drewN 1).setV 2 (by omega) (hd) (by omega) (by omega)).drewN j
          obtain ⟨b0', b1', b2', b3', bf'⟩ := HWf.out.cells
          clear y0 y1 y2 y3
          go_wp2_with fail
          try simp only [Exit.inBlock, Exit.then]
          refine bodyPost_ret (results_none rfl _ _ _) rfl ?_
          refine ⟨rfl, iv2, ?_, ?_⟩
          · rw [HE'.out]; exact HWf.out.set 1 _ rfl rfl HWf.out.inp
          · exact (below_drewN ((below_drewN HB2.out 1).setCell HW2.out.gq _) j).setCell HW2.out.gb _
      · have HE' : Hid (stpR m.st k = ⟨k.st, nextR m.st p 0, k.v.set 3 (hd), k.inp.tail⟩) := HE.out
        go_enter Try.func33, Try.ntmps33
        go_wp2_with fail
        go_quiet (fail)
        obtain ⟨w1, hW1⟩ : ∃ w1, w1 = w.drewN nq := ⟨_, rfl⟩
        rw [← hW1]
        have k1 : ∀ a, w1.cell? a = w.cell? a := fun a => by rw [hW1]; rfl
        have k2 : ∀ a, w1.frozen? a = w.frozen? a := fun a => by rw [hW1]; rfl
        rw [← k1] at r1 gp c0 c1 c2 c3 c4 b0 b1 b2 b3 v0 v1 v2 v3
        have bf1 : ∀ i, w1.frozen? ⟨b, i, none⟩ = false := fun i => (k2 _).trans (bf i)
        have qf1 : ∀ i, w1.frozen? ⟨q, i, none⟩ = false := fun i => (k2 _).trans (qf i)
        have HW1 : Hid (WRep B2 w1 r b q m iv k) := by rw [hW1]; exact HW.out.drewN _
        have HB1 : Hid (Below B2 w w1) := by rw [hW1]; exact below_drewN (Below.refl _ _) _
        have HSum1 := HSum.out w1 ⟨_, hW1⟩
        have HSm : Hid (∀ n, Calls Try.prog 49 #[.slice (some ⟨Y, 0, none⟩) 4 4, .slice (some ⟨q, 0, none⟩) 4 4] (w1.drewN n) fun e w' => e = .returned (.int .i64 sm) ∧ ∃ j, w' = (w1.drewN n).drewN j) := HSum1
        clear k1 k2 hW1 HSum1 bf qf
        go_wp2_with fail
        go_quiet (first | (go_at_call 49; refine Calls.quiet_of (HSm.out _)))
        go_wp2_with fail
        refine (HTk.out _ (HW1.out.drewN _)).mono ?_
        rintro e w2 ⟨rfl, iv2, hw2, hb2⟩
        have HW2 : Hid (WRep B2 w2 r b q m iv2 ⟨k.st, k.pt, k.v, k.inp.tail⟩) := hw2
        have HB2 : Hid (Below B2 w w2) := (below_drewN HB1.out nq).trans hb2
        have hs2 := HS'.out.keep HB2.out
        have x0 := hs2.c0
        have x1 := hs2.c1
        have x4 := hs2.c4
        obtain ⟨y0, y1, y2, y3, yf⟩ := hw2.cells
        simp only at y0 y1 y2 y3
        rw [hp] at y1
        have qf2 := hw2.vt.free
        have hvc2 : ∀ i, i < 4 → w2.cell? ⟨q, i, none⟩ = some (.int .i64 (sgAt k.v i)) := fun i hi => by rw [hw2.vt.cell, ic_get _ _ (by have := hw2.len; simp only at this ⊢; omega)]; rfl
        have z0 := hvc2 0 (by omega)
        have z1 := hvc2 1 (by omega)
        have z2 := hvc2 2 (by omega)
        have z3 := hvc2 3 (by omega)
        have hbl2 := hw2.at_.lt
        have hql2 := hw2.vt.lt
        clear hs2 hw2 hb2 hvc2 r1 gp c0 c1 c2 c3 c4 b0 b1 b2 b3 v0 v1 v2 v3
        rw [hv] at x1
        clear hv
        go_wp2_with fail
        go_region
        all_goals
          go_wp2_with fail
          refine (HNx.out _ _ _ _ ((HW2.out.drewN 1).setV 3 (by omega) (hd) (by omega) (by omega))).mono ?_
          rintro e w3 ⟨rfl, j, rfl⟩
          have HWf : Hid (WRep B2 _ r b q m iv2 _) := ((HW2.out.drewN 1).setV 3 (by omega) (hd) (by omega) (by omega)).drewN j
          obtain ⟨b0', b1', b2', b3', bf'⟩ := HWf.out.cells
          clear y0 y1 y2 y3
          go_wp2_with fail
          try simp only [Exit.inBlock, Exit.then]
          refine bodyPost_ret (results_none rfl _ _ _) rfl ?_
          refine ⟨rfl, iv2, ?_, ?_⟩
          · rw [HE'.out]; exact HWf.out.set 1 _ rfl rfl HWf.out.inp
          · exact (below_drewN ((below_drewN HB2.out 1).setCell HW2.out.gq _) j).setCell HW2.out.gb _

end Go.Proofs.Ytffajooegiempaa

namespace Go.Proofs.Ytffajooegiempaa
open Go.RowKit
variable {B2 : Nat} {w : World} {r : Nat} {m : Rd}

set_option maxRecDepth 100000 in
set_option maxHeartbeats 3200000 in
theorem r_stepc {b q : Nat} {iv : Value} {k : Wk} (h : WRep B2 w r b q m iv k) (hS : SOk m.st) (hL : k.inp.length ≤ 1073741824) (h0 : 0 ≤ k.pt) (h1 : k.pt < m.st.length) (k61 : (m.st.getD k.pt.toNat noSt).kind ≠ 61) :
    Calls Try.prog 33 #[.pointer (some ⟨b, 0, none⟩), .pointer (some ⟨r, 0, none⟩)] w fun e w' => e = .returned (.tuple #[]) ∧ WStep B2 w r b q m (stpR m.st k) w' := by
  obtain ⟨p, hp⟩ : ∃ p : Nat, k.pt = p := ⟨k.pt.toNat, by omega⟩
  have hpl : p < m.st.length := by omega
  have hpi : (p : Int) < (m.st.length : Int) := by omega
  obtain ⟨g, cap, X, Y, hs⟩ := h.rd.stmt p hpl
  have hmem : m.st.getD p noSt ∈ m.st := List.mem_of_getElem? (Rep.gets hpl)
  have hsgl := hS.sgl _ hmem
  obtain ⟨hn0, hn1⟩ := hS.num _ hmem
  obtain ⟨hv0, hv3, hsg⟩ := hS.gd _ hmem
  obtain ⟨b0, b1, b2, b3, bf⟩ := h.cells
  rw [hp] at b1
  have qf := h.vt.free
  have hvc : ∀ i, i < 4 → w.cell? ⟨q, i, none⟩ = some (.int .i64 (sgAt k.v i)) := fun i hi => by rw [h.vt.cell, ic_get _ _ (by have := h.len; omega)]; rfl
  have v0 := hvc 0 (by omega)
  have v1 := hvc 1 (by omega)
  have v2 := hvc 2 (by omega)
  have v3 := hvc 3 (by omega)
  have hbq : b ≠ q := h.at_.ne h.vt (by decide)
  have hqb : q ≠ b := Ne.symm hbq
  have hbl := h.at_.lt
  have hql := h.vt.lt
  have HS' : Hid (SAt w B2 r p m.st.length (m.st.getD p noSt) g cap X Y) := hs
  obtain ⟨r1, gp, c0, c1, c2, c3, c4, sg, lr, lg, lX, lY⟩ := hs
  have HW : Hid (WRep B2 w r b q m iv k) := h
  have HSum : Hid (∀ w1, (∃ n0, w1 = w.drewN n0) → ∀ n, Calls Try.prog 49 #[.slice (some ⟨Y, 0, none⟩) 4 4, .slice (some ⟨q, 0, none⟩) 4 4] (w1.drewN n) fun e w' => e = .returned (.int .i64 (sumTo (m.st.getD p noSt).sg k.v 4)) ∧ ∃ j, w' = (w1.drewN n).drewN j) := by
    rintro w1 ⟨n0, rfl⟩ n
    exact r_sum _ _ Y q (fun i => sgAt_mem' _ i hsg) HW.out.v _ ((sg.drewN n0).drewN n) ((HW.out.vt.drewN n0).drewN n) hsgl HW.out.len
  have hsum := sumTo_le (fun i => sgAt_mem' (m.st.getD p noSt).sg i hsg) h.v 4
  have HNx : Hid (∀ iv' k' w1 way, WRep B2 w1 r b q m iv' k' → Calls Try.prog 31 #[.pointer (some ⟨r, 0, none⟩), .int .i64 (p : Int), .int .i64 way] w1 fun e w' => e = .returned (.int .i64 (nextR m.st p way)) ∧ ∃ j, w' = w1.drewN j) := fun iv' k' w1 way h1 => next_of h1 hS.len p hpl way
  have HTk : Hid (∀ w1, WRep B2 w1 r b q m iv k → Calls Try.prog 50 #[.pointer (some ⟨b, 0, none⟩)] w1 fun e w' => e = .returned (.int .i64 (k.inp.headD 0)) ∧ WStep B2 w1 r b q m ⟨k.st, k.pt, k.v, k.inp.tail⟩ w') := fun w1 h1 => r_take h1 hL
  have HE0 : Hid (stpR m.st k = stpRu m.st p (m.st.getD p noSt) k) := by show stpR m.st k = _; unfold stpR; rw [hp, Int.toNat_natCast]
  clear h hS sg hsg hmem hsgl hvc
  rw [hp, Int.toNat_natCast] at k61
  generalize m.st.getD p noSt = u at *
  unfold stpRu at HE0
  generalize sumTo u.sg k.v 4 = sm at *
  have e1 : -3996 ≤ sm := by omega
  have e2 : sm ≤ 3996 := by omega
  have hw : IntKind.i64.wrap (sm + u.num) = sm + u.num := by rw [IntKind.wrap_i64]; omega
  clear hsum
  have HE1 : Hid (_ = _) := HE0.out.trans (if_neg k61)
  have q61 : (u.kind == 61) = false := by simpa using k61
  clear HE0 k61
  cases hst : u.star
  · rw [hst] at c2 HE1
    have HE2 : Hid (_ = _) := HE1.out.trans (if_neg (by decide))
    clear HE1 hst
    by_cases hle : sm ≤ u.num
    · have HE : Hid (stpR m.st k = ⟨k.st, nextR m.st p 0, k.v, k.inp⟩) := HE2.out.trans (if_pos hle)
      have hdl : decide (sm ≤ u.num) = true := by simpa using hle
      clear HE2
      go_enter Try.func33, Try.ntmps33
      go_wp2_with fail
      go_quiet (fail)
      obtain ⟨w1, hW1⟩ : ∃ w1, w1 = w.drewN nq := ⟨_, rfl⟩
      rw [← hW1]
      have k1 : ∀ a, w1.cell? a = w.cell? a := fun a => by rw [hW1]; rfl
      have k2 : ∀ a, w1.frozen? a = w.frozen? a := fun a => by rw [hW1]; rfl
      rw [← k1] at r1 gp c0 c1 c2 c3 c4 b0 b1 b2 b3 v0 v1 v2 v3
      have bf1 : ∀ i, w1.frozen? ⟨b, i, none⟩ = false := fun i => (k2 _).trans (bf i)
      have qf1 : ∀ i, w1.frozen? ⟨q, i, none⟩ = false := fun i => (k2 _).trans (qf i)
      have HW1 : Hid (WRep B2 w1 r b q m iv k) := by rw [hW1]; exact HW.out.drewN _
      have HB1 : Hid (Below B2 w w1) := by rw [hW1]; exact below_drewN (Below.refl _ _) _
      have HSum1 := HSum.out w1 ⟨_, hW1⟩
      have HSm : Hid (∀ n, Calls Try.prog 49 #[.slice (some ⟨Y, 0, none⟩) 4 4, .slice (some ⟨q, 0, none⟩) 4 4] (w1.drewN n) fun e w' => e = .returned (.int .i64 sm) ∧ ∃ j, w' = (w1.drewN n).drewN j) := HSum1
      clear k1 k2 hW1 HSum1 bf qf
      go_wp2_with fail
      go_quiet (first | (go_at_call 49; refine Calls.quiet_of (HSm.out _)))
      go_wp2_with fail
      refine (HNx.out _ _ _ _ (HW1.out.drewN _)).mono ?_
      rintro e w2 ⟨rfl, j, rfl⟩
      have HWf : Hid (WRep B2 _ r b q m iv k) := HW1.out.drewN (nq + j)
      obtain ⟨b0', b1', b2', b3', bf'⟩ := HWf.out.cells
      clear b0 b1 b2 b3
      go_wp2_with fail
      go_end0
      refine ⟨rfl, iv, ?_, ?_⟩
      · rw [HE.out]; exact HWf.out.set (k' := ⟨k.st, nextR m.st p 0, k.v, k.inp⟩) 1 _ rfl rfl HWf.out.inp
      · exact (below_drewN HB1.out (nq + j)).setCell (by exact HW1.out.gb) _
    · have HE3 : Hid (_ = _) := HE2.out.trans (if_neg hle)
      have hdl : decide (sm ≤ u.num) = false := by simpa using hle
      clear HE2
      by_cases k33 : u.kind = 33
      · have HE : Hid (stpR m.st k = ⟨3, k.pt, k.v, k.inp⟩) := HE3.out.trans (if_pos k33)
        rw [k33] at c0
        clear HE3 k33 q61
        go_enter Try.func33, Try.ntmps33
        go_wp2_with fail
        go_quiet (fail)
        obtain ⟨w1, hW1⟩ : ∃ w1, w1 = w.drewN nq := ⟨_, rfl⟩
        rw [← hW1]
        have k1 : ∀ a, w1.cell? a = w.cell? a := fun a => by rw [hW1]; rfl
        have k2 : ∀ a, w1.frozen? a = w.frozen? a := fun a => by rw [hW1]; rfl
        rw [← k1] at r1 gp c0 c1 c2 c3 c4 b0 b1 b2 b3 v0 v1 v2 v3
        have bf1 : ∀ i, w1.frozen? ⟨b, i, none⟩ = false := fun i => (k2 _).trans (bf i)
        have qf1 : ∀ i, w1.frozen? ⟨q, i, none⟩ = false := fun i => (k2 _).trans (qf i)
        have HW1 : Hid (WRep B2 w1 r b q m iv k) := by rw [hW1]; exact HW.out.drewN _
        have HB1 : Hid (Below B2 w w1) := by rw [hW1]; exact below_drewN (Below.refl _ _) _
        have HSum1 := HSum.out w1 ⟨_, hW1⟩
        have HSm : Hid (∀ n, Calls Try.prog 49 #[.slice (some ⟨Y, 0, none⟩) 4 4, .slice (some ⟨q, 0, none⟩) 4 4] (w1.drewN n) fun e w' => e = .returned (.int .i64 sm) ∧ ∃ j, w' = (w1.drewN n).drewN j) := HSum1
        clear k1 k2 hW1 HSum1 bf qf
        go_wp2_with fail
        go_quiet (first | (go_at_call 49; refine Calls.quiet_of (HSm.out _)))
        go_wp2_with fail
        go_end0
        exact ⟨rfl, iv, by rw [HE.out]; exact (HW1.out.drewN _).set 0 _ rfl rfl (HW1.out.drewN _).inp, (below_drewN HB1.out _).setCell HW1.out.gb _⟩
      · have HE : Hid (stpR m.st k = ⟨k.st, nextR m.st p 1, k.v, k.inp⟩) := HE3.out.trans (if_neg k33)
        have q33 : (u.kind == 33) = false := by simpa using k33
        clear HE3 k33
        go_enter Try.func33, Try.ntmps33
        go_wp2_with fail
        go_quiet (fail)
        obtain ⟨w1, hW1⟩ : ∃ w1, w1 = w.drewN nq := ⟨_, rfl⟩
        rw [← hW1]
        have k1 : ∀ a, w1.cell? a = w.cell? a := fun a => by rw [hW1]; rfl
        have k2 : ∀ a, w1.frozen? a = w.frozen? a := fun a => by rw [hW1]; rfl
        rw [← k1] at r1 gp c0 c1 c2 c3 c4 b0 b1 b2 b3 v0 v1 v2 v3
        have bf1 : ∀ i, w1.frozen? ⟨b, i, none⟩ = false := fun i => (k2 _).trans (bf i)
        have qf1 : ∀ i, w1.frozen? ⟨q, i, none⟩ = false := fun i => (k2 _).trans (qf i)
        have HW1 : Hid (WRep B2 w1 r b q m iv k) := by rw [hW1]; exact HW.out.drewN _
        have HB1 : Hid (Below B2 w w1) := by rw [hW1]; exact below_drewN (Below.refl _ _) _
        have HSum1 := HSum.out w1 ⟨_, hW1⟩
        have HSm : Hid (∀ n, Calls Try.prog 49 #[.slice (some ⟨Y, 0, none⟩) 4 4, .slice (some ⟨q, 0, none⟩) 4 4] (w1.drewN n) fun e w' => e = .returned (.int .i64 sm) ∧ ∃ j, w' = (w1.drewN n).drewN j) := HSum1
        clear k1 k2 hW1 HSum1 bf qf
        go_wp2_with fail
        go_quiet (first | (go_at_call 49; refine Calls.quiet_of (HSm.out _)))
        go_wp2_with fail
        refine (HNx.out _ _ _ _ (HW1.out.drewN _)).mono ?_
        rintro e w2 ⟨rfl, j, rfl⟩
        have HWf : Hid (WRep B2 _ r b q m iv k) := HW1.out.drewN (nq + j)
        obtain ⟨b0', b1', b2', b3', bf'⟩ := HWf.out.cells
        clear b0 b1 b2 b3
        go_wp2_with fail
        go_end0
        refine ⟨rfl, iv, ?_, ?_⟩
        · rw [HE.out]; exact HWf.out.set (k' := ⟨k.st, nextR m.st p 1, k.v, k.inp⟩) 1 _ rfl rfl HWf.out.inp
        · exact (below_drewN HB1.out (nq + j)).setCell (by exact HW1.out.gb) _
  · rw [hst] at c2 HE1
    have HE2 : Hid (_ = _) := HE1.out.trans (if_pos rfl)
    clear HE1 hst
    generalize k.inp.headD 0 = hd at *
    by_cases hz : hd = 0
    · have HE3 : Hid (_ = _) := HE2.out.trans (if_neg (fun e => e hz))
      subst hz
      clear HE2
      by_cases k33 : u.kind = 33
      · have HE : Hid (stpR m.st k = ⟨3, k.pt, k.v, k.inp.tail⟩) := HE3.out.trans (if_pos k33)
        clear HE3
        go_enter Try.func33, Try.ntmps33
        go_wp2_with fail
        go_quiet (fail)
        obtain ⟨w1, hW1⟩ : ∃ w1, w1 = w.drewN nq := ⟨_, rfl⟩
        rw [← hW1]
        have k1 : ∀ a, w1.cell? a = w.cell? a := fun a => by rw [hW1]; rfl
        have k2 : ∀ a, w1.frozen? a = w.frozen? a := fun a => by rw [hW1]; rfl
        rw [← k1] at r1 gp c0 c1 c2 c3 c4 b0 b1 b2 b3 v0 v1 v2 v3
        have bf1 : ∀ i, w1.frozen? ⟨b, i, none⟩ = false := fun i => (k2 _).trans (bf i)
        have qf1 : ∀ i, w1.frozen? ⟨q, i, none⟩ = false := fun i => (k2 _).trans (qf i)
        have HW1 : Hid (WRep B2 w1 r b q m iv k) := by rw [hW1]; exact HW.out.drewN _
        have HB1 : Hid (Below B2 w w1) := by rw [hW1]; exact below_drewN (Below.refl _ _) _
        have HSum1 := HSum.out w1 ⟨_, hW1⟩
        have HSm : Hid (∀ n, Calls Try.prog 49 #[.slice (some ⟨Y, 0, none⟩) 4 4, .slice (some ⟨q, 0, none⟩) 4 4] (w1.drewN n) fun e w' => e = .returned (.int .i64 sm) ∧ ∃ j, w' = (w1.drewN n).drewN j) := HSum1
        clear k1 k2 hW1 HSum1 bf qf
        go_wp2_with fail
        go_quiet (first | (go_at_call 49; refine Calls.quiet_of (HSm.out _)))
        go_wp2_with fail
        refine (HTk.out _ (HW1.out.drewN _)).mono ?_
        rintro e w2 ⟨rfl, iv2, hw2, hb2⟩
        have HW2 : Hid (WRep B2 w2 r b q m iv2 ⟨k.st, k.pt, k.v, k.inp.tail⟩) := hw2
        have HB2 : Hid (Below B2 w w2) := (below_drewN HB1.out nq).trans hb2
        have hs2 := HS'.out.keep HB2.out
        have x0 := hs2.c0
        have x1 := hs2.c1
        have x4 := hs2.c4
        obtain ⟨y0, y1, y2, y3, yf⟩ := hw2.cells
        simp only at y0 y1 y2 y3
        rw [hp] at y1
        have qf2 := hw2.vt.free
        have hvc2 : ∀ i, i < 4 → w2.cell? ⟨q, i, none⟩ = some (.int .i64 (sgAt k.v i)) := fun i hi => by rw [hw2.vt.cell, ic_get _ _ (by have := hw2.len; simp only at this ⊢; omega)]; rfl
        have z0 := hvc2 0 (by omega)
        have z1 := hvc2 1 (by omega)
        have z2 := hvc2 2 (by omega)
        have z3 := hvc2 3 (by omega)
        have hbl2 := hw2.at_.lt
        have hql2 := hw2.vt.lt
        clear hs2 hw2 hb2 hvc2 r1 gp c0 c1 c2 c3 c4 b0 b1 b2 b3 v0 v1 v2 v3
        rw [k33] at x0
        clear k33 q61
        go_wp2_with fail
        go_end0
        exact ⟨rfl, iv2, by rw [HE.out]; exact HW2.out.set 0 _ rfl rfl HW2.out.inp, HB2.out.setCell HW2.out.gb _⟩
      · have HE : Hid (stpR m.st k = ⟨k.st, nextR m.st p 1, k.v, k.inp.tail⟩) := HE3.out.trans (if_neg k33)
        have q33 : (u.kind == 33) = false := by simpa using k33
        clear HE3 k33
        go_enter Try.func33, Try.ntmps33
        go_wp2_with fail
        go_quiet (fail)
        obtain ⟨w1, hW1⟩ : ∃ w1, w1 = w.drewN nq := ⟨_, rfl⟩
        rw [← hW1]
        have k1 : ∀ a, w1.cell? a = w.cell? a := fun a => by rw [hW1]; rfl
        have k2 : ∀ a, w1.frozen? a = w.frozen? a := fun a => by rw [hW1]; rfl
        rw [← k1] at r1 gp c0 c1 c2 c3 c4 b0 b1 b2 b3 v0 v1 v2 v3
        have bf1 : ∀ i, w1.frozen? ⟨b, i, none⟩ = false := fun i => (k2 _).trans (bf i)
        have qf1 : ∀ i, w1.frozen? ⟨q, i, none⟩ = false := fun i => (k2 _).trans (qf i)
        have HW1 : Hid (WRep B2 w1 r b q m iv k) := by rw [hW1]; exact HW.out.drewN _
        have HB1 : Hid (Below B2 w w1) := by rw [hW1]; exact below_drewN (Below.refl _ _) _
        have HSum1 := HSum.out w1 ⟨_, hW1⟩
        have HSm : Hid (∀ n, Calls Try.prog 49 #[.slice (some ⟨Y, 0, none⟩) 4 4, .slice (some ⟨q, 0, none⟩) 4 4] (w1.drewN n) fun e w' => e = .returned (.int .i64 sm) ∧ ∃ j, w' = (w1.drewN n).drewN j) := HSum1
        clear k1 k2 hW1 HSum1 bf qf
        go_wp2_with fail
        go_quiet (first | (go_at_call 49; refine Calls.quiet_of (HSm.out _)))
        go_wp2_with fail
        refine (HTk.out _ (HW1.out.drewN _)).mono ?_
        rintro e w2 ⟨rfl, iv2, hw2, hb2⟩
        have HW2 : Hid (WRep B2 w2 r b q m iv2 ⟨k.st, k.pt, k.v, k.inp.tail⟩) := hw2
        have HB2 : Hid (Below B2 w w2) := (below_drewN HB1.out nq).trans hb2
        have hs2 := HS'.out.keep HB2.out
        have x0 := hs2.c0
        have x1 := hs2.c1
        have x4 := hs2.c4
        obtain ⟨y0, y1, y2, y3, yf⟩ := hw2.cells
        simp only at y0 y1 y2 y3
        rw [hp] at y1
        have qf2 := hw2.vt.free
        have hvc2 : ∀ i, i < 4 → w2.cell? ⟨q, i, none⟩ = some (.int .i64 (sgAt k.v i)) := fun i hi => by rw [hw2.vt.cell, ic_get _ _ (by have := hw2.len; simp only at this ⊢; omega)]; rfl
        have z0 := hvc2 0 (by omega)
        have z1 := hvc2 1 (by omega)
        have z2 := hvc2 2 (by omega)
        have z3 := hvc2 3 (by omega)
        have hbl2 := hw2.at_.lt
        have hql2 := hw2.vt.lt
        clear hs2 hw2 hb2 hvc2 r1 gp c0 c1 c2 c3 c4 b0 b1 b2 b3 v0 v1 v2 v3
        go_wp2_with fail
        refine (HNx.out _ _ _ _ HW2.out).mono ?_
        rintro e w3 ⟨rfl, j, rfl⟩
        have HWf : Hid (WRep B2 _ r b q m iv2 _) := HW2.out.drewN j
        obtain ⟨b0', b1', b2', b3', bf'⟩ := HWf.out.cells
        clear y0 y1 y2 y3
        go_wp2_with fail
        go_end0
        refine ⟨rfl, iv2, ?_, ?_⟩
        · rw [HE.out]; exact HWf.out.set (k' := ⟨k.st, nextR m.st p 1, k.v, k.inp.tail⟩) 1 _ rfl rfl HWf.out.inp
        · exact (below_drewN HB2.out j).setCell (by exact HW2.out.gb) _
    · have HE : Hid (stpR m.st k = ⟨k.st, nextR m.st p 0, k.v, k.inp.tail⟩) := HE2.out.trans (if_pos hz)
      have hzb : (hd != 0) = true := by rw [bne_iff_ne]; exact hz
      clear HE2
      go_enter Try.func33, Try.ntmps33
      go_wp2_with fail
      go_quiet (fail)
      obtain ⟨w1, hW1⟩ : ∃ w1, w1 = w.drewN nq := ⟨_, rfl⟩
      rw [← hW1]
      have k1 : ∀ a, w1.cell? a = w.cell? a := fun a => by rw [hW1]; rfl
      have k2 : ∀ a, w1.frozen? a = w.frozen? a := fun a => by rw [hW1]; rfl
      rw [← k1] at r1 gp c0 c1 c2 c3 c4 b0 b1 b2 b3 v0 v1 v2 v3
      have bf1 : ∀ i, w1.frozen? ⟨b, i, none⟩ = false := fun i => (k2 _).trans (bf i)
      have qf1 : ∀ i, w1.frozen? ⟨q, i, none⟩ = false := fun i => (k2 _).trans (qf i)
      have HW1 : Hid (WRep B2 w1 r b q m iv k) := by rw [hW1]; exact HW.out.drewN _
      have HB1 : Hid (Below B2 w w1) := by rw [hW1]; exact below_drewN (Below.refl _ _) _
      have HSum1 := HSum.out w1 ⟨_, hW1⟩
      have HSm : Hid (∀ n, Calls Try.prog 49 #[.slice (some ⟨Y, 0, none⟩) 4 4, .slice (some ⟨q, 0, none⟩) 4 4] (w1.drewN n) fun e w' => e = .returned (.int .i64 sm) ∧ ∃ j, w' = (w1.drewN n).drewN j) := HSum1
      clear k1 k2 hW1 HSum1 bf qf
      go_wp2_with fail
      go_quiet (first | (go_at_call 49; refine Calls.quiet_of (HSm.out _)))
      go_wp2_with fail
      refine (HTk.out _ (HW1.out.drewN _)).mono ?_
      rintro e w2 ⟨rfl, iv2, hw2, hb2⟩
      have HW2 : Hid (WRep B2 w2 r b q m iv2 ⟨k.st, k.pt, k.v, k.inp.tail⟩) := hw2
      have HB2 : Hid (Below B2 w w2) := (below_drewN HB1.out nq).trans hb2
      have hs2 := HS'.out.keep HB2.out
      have x0 := hs2.c0
      have x1 := hs2.c1
      have x4 := hs2.c4
      obtain ⟨y0, y1, y2, y3, yf⟩ := hw2.cells
      simp only at y0 y1 y2 y3
      rw [hp] at y1
      have qf2 := hw2.vt.free
      have hvc2 : ∀ i, i < 4 → w2.cell? ⟨q, i, none⟩ = some (.int .i64 (sgAt k.v i)) := fun i hi => by rw [hw2.vt.cell, ic_get _ _ (by have := hw2.len; simp only at this ⊢; omega)]; rfl
      have z0 := hvc2 0 (by omega)
      have z1 := hvc2 1 (by omega)
      have z2 := hvc2 2 (by omega)
      have z3 := hvc2 3 (by omega)
      have hbl2 := hw2.at_.lt
      have hql2 := hw2.vt.lt
      clear hs2 hw2 hb2 hvc2 r1 gp c0 c1 c2 c3 c4 b0 b1 b2 b3 v0 v1 v2 v3
      go_wp2_with fail
      refine (HNx.out _ _ _ _ HW2.out).mono ?_
      rintro e w3 ⟨rfl, j, rfl⟩
      have HWf : Hid (WRep B2 _ r b q m iv2 _) := HW2.out.drewN j
      obtain ⟨b0', b1', b2', b3', bf'⟩ := HWf.out.cells
      clear y0 y1 y2 y3
      go_wp2_with fail
      go_end0
      refine ⟨rfl, iv2, ?_, ?_⟩
      · rw [HE.out]; exact HWf.out.set (k' := ⟨k.st, nextR m.st p 0, k.v, k.inp.tail⟩) 1 _ rfl rfl HWf.out.inp
      · exact (below_drewN HB2.out j).setCell (by exact HW2.out.gb) _

end Go.Proofs.Ytffajooegiempaa

/- A run stays within its program. -/
namespace Go.Proofs.Ytffajooegiempaa
variable {F : List Ds} {L : List Int} {s : Ms} {x : Ds}

theorem firstGo_in (p b fr : Int) : ∀ (l : List Ds) (i : Nat), firstGo p b fr l i = -1 ∨ ((i : Int) ≤ firstGo p b fr l i ∧ firstGo p b fr l i < ((i + l.length : Nat) : Int)) := by
  intro l
  induction l with
  | nil => intro i; exact .inl rfl
  | cons y l ih =>
    intro i
    rw [firstGo]
    split
    · right; simp only [List.length_cons]; omega
    · rcases ih (i + 1) with h | h
      · exact .inl h
      · right; simp only [List.length_cons]; omega
theorem firstP_in (p b fr : Int) (h : firstP F p b fr ≠ -1) : 0 ≤ firstP F p b fr ∧ firstP F p b fr < F.length := by
  rcases firstGo_in p b fr F 0 with e | e
  · exact absurd e h
  · unfold firstP; omega
theorem followP_in : ∀ (n : Nat) (pt : Int), 0 ≤ followP F n pt ∧ followP F n pt ≤ F.length := by
  intro n
  induction n with
  | zero => intro pt; unfold followP; omega
  | succ n ih =>
    intro pt
    rw [followP]
    split
    · omega
    split
    · rename_i h
      have := firstP_in _ _ _ h
      omega
    split
    · rename_i h
      unfold isRepP at h
      simp only [Bool.and_eq_true, decide_eq_true_eq] at h
      omega
    · exact ih _
theorem nextP_in (pt way : Int) (h : (nextP F pt way).2 = 0) : 0 ≤ (nextP F pt way).1 ∧ (nextP F pt way).1 ≤ F.length := by
  unfold nextP at h ⊢
  by_cases h1 : pt < 0 ∨ (F.length : Int) ≤ pt
  · rw [if_pos h1] at h; simp at h
  rw [if_neg h1] at h ⊢
  by_cases h2 : way < 0 ∨ waysP (F.getD pt.toNat (newDs 0 0)).kind ≤ way
  · rw [if_pos h2] at h; simp at h
  rw [if_neg h2] at h ⊢
  split
  · exact followP_in _ _
  split
  · rename_i h3
    have := firstP_in _ _ _ h3
    simp only; omega
  split
  · simp only; omega
  · exact followP_in _ _

def InR (F : List Ds) (s : Ms) : Prop := s.st = 0 → 0 ≤ s.pt ∧ s.pt < F.length
theorem InR.ent (p : Int) (h0 : 0 ≤ p) (h1 : p ≤ F.length) : InR F (entP F.length s p) := by
  intro h
  unfold entP at h ⊢
  simp only at h ⊢
  split at h
  · cases h
  · omega
theorem InR.lea (h : InR F s) (way : Int) : InR F (leaP F s way) := by
  unfold leaP
  split
  · rename_i e
    have := nextP_in s.pt way e
    exact InR.ent _ this.1 this.2
  · exact h
theorem InR.stp (h : InR F s) : InR F (stpP F L s) := by
  unfold stpP
  split
  · exact h
  split
  · unfold asgP
    split
    · exact fun e => absurd e (by decide : ¬ (2 : Int) = 0)
    · refine InR.lea ?_ 0; exact h
  split
  · unfold astP
    split
    · refine InR.lea ?_ 0; exact h
    · exact fun e => absurd e (by decide : ¬ (3 : Int) = 0)
  · unfold braP; refine InR.lea ?_ _; exact h

/-- The run, whole. -/
def finP (F : List Ds) (L : List Int) (steps : Int) : Ms := runP F L (min steps.toNat 2000) (entP F.length ⟨0, 0, 0, [0, 0, 0, 0]⟩ 0)

end Go.Proofs.Ytffajooegiempaa

/- The program's run and the document's. -/
namespace Go.Proofs.Ytffajooegiempaa
variable {F : List Ds} {S : List St} {L : List Int}

def runR (S : List St) : Nat → Wk → Wk
  | 0, k => k
  | n + 1, k => if k.st = 0 ∧ k.pt < S.length then runR S n (stpR S k) else k

/-- The two runs stand alike. -/
structure Alike (n : Nat) (L : List Int) (s : Ms) (k : Wk) : Prop where
  pt : s.pt = k.pt
  v : s.v = k.v
  inp : k.inp = L.drop s.used
  st : s.st = if k.pt = n then 1 else k.st
  lo : 0 ≤ k.pt
  hi : k.pt ≤ n

theorem inP_head (L : List Int) (u : Nat) : (inP L u).1 = (L.drop u).headD 0 ∧ L.drop (inP L u).2 = (L.drop u).tail := by
  unfold inP
  split
  · rename_i h
    rw [List.drop_eq_getElem_cons h]
    simp [List.getD, h]
  · rename_i h
    rw [List.drop_of_length_le (by omega)]
    simp

theorem lea_alike {p : Nat} (hW : Whole F S) (hl : F.length ≤ 20) (hp : p < F.length) (way : Int) (hw0 : 0 ≤ way) (hw1 : way < waysR (S.getD p noSt)) {s : Ms} {k : Wk} (hs : s.pt = p) (h0 : s.st = 0) (hv : s.v = k.v) (hi : k.inp = L.drop s.used) (hk : k.st = 0) (hkp : k.pt = nextR S p way) :
    Alike F.length L (leaP F s way) k := by
  have hn := next_same hW hl p hp way
  rw [if_neg (by omega)] at hn
  unfold leaP
  rw [hs, hn, if_pos rfl]
  have hin := nextP_in (F := F) p way (by rw [hn])
  rw [hn] at hin
  exact ⟨hkp.symm, hv, hi, by show (if nextR S p way = F.length then 1 else s.st) = _; rw [hkp, h0, hk], by rw [hkp]; exact hin.1, by rw [hkp]; exact hin.2⟩

theorem stp_alike (hW : Whole F S) (hl : F.length ≤ 20) {s : Ms} {k : Wk} (h : Alike F.length L s k) (h0 : s.st = 0) (hk0 : k.st = 0) (hlt : k.pt < F.length) : Alike F.length L (stpP F L s) (stpR S k) := by
  obtain ⟨p, hp⟩ : ∃ p : Nat, k.pt = p := ⟨k.pt.toNat, by have := h.lo; omega⟩
  have hpl : p < F.length := by omega
  have hlen := hW.1.len
  have hx : F[p]? = some (F.getD p (newDs 0 0)) := gets' hpl
  have hu : S[p]? = some (S.getD p noSt) := by rw [List.getD_eq_getElem?_getD, List.getElem?_eq_getElem (by omega)]; rfl
  obtain ⟨c1, c2, c3, c4, c5⟩ := hW.1.cor p _ _ hx hu
  have hspt : s.pt = p := by rw [h.pt, hp]
  have hin := inP_head L s.used
  have hlea := fun (way : Int) (hw0 : 0 ≤ way) (hw1 : way < waysR (S.getD p noSt)) (s' : Ms) (k' : Wk) => lea_alike (L := L) (s := s') (k := k') hW hl hpl way hw0 hw1
  unfold stpP stpR
  rw [if_neg (by omega), hspt, hp, Int.toNat_natCast]
  generalize F.getD p (newDs 0 0) = x at *
  generalize S.getD p noSt = u at *
  have hpn : ¬ (p : Int) = (F.length : Int) := by omega
  have ks : (if (p : Int) = (F.length : Int) then (1 : Int) else 0) = 0 := if_neg hpn
  unfold stpRu
  by_cases k0 : x.kind = 0
  · have hk61 : u.kind = 61 := by rw [c1, k0]; rfl
    have hwy : waysR u = 1 := by unfold waysR; rw [if_pos (.inl hk61)]
    rw [if_pos k0, if_pos hk61]
    unfold asgP
    rw [c3, c2, c4, c5]
    cases ha : x.any
    · have hv : valP L x s = (sumTo x.sg s.v 4 + x.num, s.used) := by unfold valP; rw [ha]; rfl
      rw [hv, if_neg (show ¬ false = true by decide), ← h.v]
      simp only
      split
      · exact ⟨by rw [hspt, hp], rfl, h.inp, by show (2 : Int) = if k.pt = _ then _ else _; rw [hp, if_neg hpn], by show 0 ≤ k.pt; omega, by show k.pt ≤ _; omega⟩
      · exact hlea 0 (by omega) (by omega) _ _ hspt h0 rfl h.inp hk0 rfl
    · have hv : valP L x s = (clampI (k.inp.headD 0), (inP L s.used).2) := by unfold valP; rw [ha, if_pos rfl, hin.1, ← h.inp]
      have hcl := clampI_le (k.inp.headD 0)
      rw [hv, if_pos (show true = true from rfl)]
      simp only
      rw [if_neg (show ¬ (999 < clampI (k.inp.headD 0) ∨ clampI (k.inp.headD 0) < -999) by omega)]
      exact hlea 0 (by omega) (by omega) _ _ hspt h0 (by rw [← h.v]) (by show k.inp.tail = _; rw [h.inp, ← hin.2]) hk0 rfl
  have hk61 : u.kind ≠ 61 := by
    rw [c1]; unfold kindOf; rw [if_neg k0]
    split
    · decide
    · split <;> decide
  rw [if_neg k0, if_neg hk61]
  by_cases k1 : x.kind = 1
  · have hk33 : u.kind = 33 := by rw [c1, k1]; rfl
    have hwy : waysR u = 1 := by unfold waysR; rw [if_pos (.inr hk33)]
    rw [if_pos k1]
    unfold astP
    rw [c3, c4, c5]
    cases ha : x.any
    · have hv : holP L x s = (decide (sumTo x.sg s.v 4 ≤ x.num), s.used) := by unfold holP; rw [ha]; rfl
      rw [hv, if_neg (show ¬ false = true by decide), ← h.v]
      by_cases hle : sumTo x.sg s.v 4 ≤ x.num
      · simp only [decide_eq_true_eq]
        rw [if_pos hle, if_pos hle]
        exact hlea 0 (by omega) (by omega) _ _ hspt h0 rfl h.inp hk0 rfl
      · simp only [decide_eq_true_eq]
        rw [if_neg hle, if_neg hle, if_pos hk33]
        exact ⟨by rw [hspt, hp], rfl, h.inp, by show (3 : Int) = if k.pt = _ then _ else _; rw [hp, if_neg hpn], by show 0 ≤ k.pt; omega, by show k.pt ≤ _; omega⟩
    · have hv : holP L x s = (k.inp.headD 0 != 0, (inP L s.used).2) := by unfold holP; rw [ha, if_pos rfl, hin.1, ← h.inp]
      rw [hv, if_pos (show true = true from rfl)]
      by_cases hz : k.inp.headD 0 = 0
      · simp only [bne_iff_ne]
        rw [if_neg (fun e => e hz), if_neg (fun e => e hz), if_pos hk33]
        exact ⟨by rw [hspt, hp], h.v, by show k.inp.tail = _; rw [h.inp, ← hin.2], by show (3 : Int) = if k.pt = _ then _ else _; rw [hp, if_neg hpn], by show 0 ≤ k.pt; omega, by show k.pt ≤ _; omega⟩
      · simp only [bne_iff_ne]
        rw [if_pos hz, if_pos hz]
        exact hlea 0 (by omega) (by omega) _ _ hspt h0 h.v (by show k.inp.tail = _; rw [h.inp, ← hin.2]) hk0 rfl
  · have hk33 : u.kind ≠ 33 := by
      rw [c1]; unfold kindOf; rw [if_neg k0, if_neg k1]
      split <;> decide
    have hwy : waysR u = 2 := by unfold waysR; rw [if_neg (fun e => e.elim hk61 hk33)]
    rw [if_neg k1]
    unfold braP
    rw [c3, c4, c5]
    cases ha : x.any
    · have hv : holP L x s = (decide (sumTo x.sg s.v 4 ≤ x.num), s.used) := by unfold holP; rw [ha]; rfl
      rw [hv, if_neg (show ¬ false = true by decide), ← h.v]
      by_cases hle : sumTo x.sg s.v 4 ≤ x.num
      · simp only [decide_eq_true_eq]
        rw [if_pos hle, if_pos hle]
        exact hlea 0 (by omega) (by omega) _ _ hspt h0 rfl h.inp hk0 rfl
      · simp only [decide_eq_true_eq]
        rw [if_neg hle, if_neg hle, if_neg hk33]
        exact hlea 1 (by omega) (by omega) _ _ hspt h0 rfl h.inp hk0 rfl
    · have hv : holP L x s = (k.inp.headD 0 != 0, (inP L s.used).2) := by unfold holP; rw [ha, if_pos rfl, hin.1, ← h.inp]
      rw [hv, if_pos (show true = true from rfl)]
      by_cases hz : k.inp.headD 0 = 0
      · simp only [bne_iff_ne]
        rw [if_neg (fun e => e hz), if_neg (fun e => e hz), if_neg hk33]
        exact hlea 1 (by omega) (by omega) _ _ hspt h0 h.v (by show k.inp.tail = _; rw [h.inp, ← hin.2]) hk0 rfl
      · simp only [bne_iff_ne]
        rw [if_pos hz, if_pos hz]
        exact hlea 0 (by omega) (by omega) _ _ hspt h0 h.v (by show k.inp.tail = _; rw [h.inp, ← hin.2]) hk0 rfl

theorem run_alike (hW : Whole F S) (hl : F.length ≤ 20) : ∀ (n : Nat) {s : Ms} {k : Wk}, Alike F.length L s k → Alike F.length L (runP F L n s) (runR S n k) := by
  intro n
  have hlen := hW.1.len
  induction n with
  | zero => intro s k h; exact h
  | succ n ih =>
    intro s k h
    have hs := h.st
    have hlo := h.lo
    have hhi := h.hi
    rw [runP, runR]
    by_cases h0 : s.st = 0
    · have hlt : k.pt < F.length := by
        rcases Int.lt_or_eq_of_le hhi with e | e
        · exact e
        · rw [if_pos e] at hs; omega
      rw [if_neg (by omega)] at hs
      rw [if_pos h0, if_pos ⟨by omega, by omega⟩]
      exact ih (stp_alike hW hl h h0 (by omega) hlt)
    · rw [if_neg h0, if_neg (fun e => h0 (by rw [hs, if_neg (by omega)]; exact e.1))]
      exact h

/-- The document's run, whole. -/
def finR (S : List St) (L : List Int) (steps : Int) : Wk := runR S (min steps.toNat 2000) ⟨0, 0, [0, 0, 0, 0], L⟩
theorem fin_alike (hW : Whole F S) (hl : F.length ≤ 20) (L : List Int) (steps : Int) : Alike F.length L (finP F L steps) (finR S L steps) :=
  run_alike hW hl _ ⟨rfl, rfl, rfl, rfl, Int.le_refl _, by show (0 : Int) ≤ _; omega⟩

theorem stpR_inp (S : List St) (k : Wk) : (stpR S k).inp.length ≤ k.inp.length := by
  have ht : k.inp.tail.length ≤ k.inp.length := by simp
  unfold stpR stpRu
  split
  · split
    · exact ht
    · split <;> exact Nat.le_refl _
  · split
    · split
      · exact ht
      · split <;> exact ht
    · split
      · exact Nat.le_refl _
      · split <;> exact Nat.le_refl _

/-- The document's run stays within the program. -/
theorem stpR_in (hW : Whole F S) (hl : F.length ≤ 20) {k : Wk} (hk0 : k.st = 0) (hlo : 0 ≤ k.pt) (hlt : k.pt < F.length) : 0 ≤ (stpR S k).pt ∧ (stpR S k).pt ≤ F.length := by
  have h : Alike F.length k.inp ⟨0, 0, k.pt, k.v⟩ k := ⟨rfl, rfl, rfl, by show (0 : Int) = _; rw [if_neg (by omega), hk0], hlo, by omega⟩
  have := stp_alike hW hl h rfl hk0 hlt
  exact ⟨this.lo, this.hi⟩

end Go.Proofs.Ytffajooegiempaa

namespace Go.Proofs.Ytffajooegiempaa
open Go.RowKit

def vv (l : List Int) : Value := .agg #[.int .i64 (sgAt l 0), .int .i64 (sgAt l 1), .int .i64 (sgAt l 2), .int .i64 (sgAt l 3)]

set_option maxRecDepth 100000 in
set_option maxHeartbeats 1600000 in
theorem x_sum (x : Ds) (l : List Int) (hx : ∀ i, -1 ≤ sgAt x.sg i ∧ sgAt x.sg i ≤ 1) (hv : ∀ i, -999 ≤ sgAt l i ∧ sgAt l i ≤ 999) (w : World) :
    Calls Try.prog 88 #[dsv x, vv l] w fun e w' => e = .returned (.int .i64 (sumTo x.sg l 4)) ∧ Below w.heap.size w w' := by
  unfold dsv vv
  obtain ⟨w0, hw0⟩ : ∃ w0, w0 = (w.alloc (.cells #[.int .i64 x.kind, .int .i64 x.target, .bool x.any, .int .i64 (sgAt x.sg 0), .int .i64 (sgAt x.sg 1), .int .i64 (sgAt x.sg 2), .int .i64 (sgAt x.sg 3), .int .i64 x.num, .int .i64 x.parent, .int .i64 x.block] tDs)).alloc (.cells #[.int .i64 (sgAt l 0), .int .i64 (sgAt l 1), .int .i64 (sgAt l 2), .int .i64 (sgAt l 3)] 77) := ⟨_, rfl⟩
  have HW0 : Hid (w0 = _) := hw0
  clear hw0
  have HB : Hid (Below w.heap.size w w0) := by rw [HW0.out]; exact ((Below.refl _ _).alloc (Nat.le_refl _) _).alloc (by simp) _
  go_enter Try.func88, Try.ntmps88
  go_wp2_with fail
  go_loopw [5, 6] (fun sm i wr => ∃ (j k : Nat), j ≤ 4 ∧ i = .int .i64 j ∧ sm = .int .i64 (sumTo x.sg l j) ∧ wr = w0.drewN k) (fun _ i _ => 4 - (intOf i).toNat)
  case atStart => exact ⟨0, 0, by omega, rfl, rfl, HW0.out.symm⟩
  case round =>
    obtain ⟨j, k, hj, rfl, rfl, hwr⟩ := hrel
    have HW : Hid (∃ k, wr = w0.drewN k) := ⟨k, hwr⟩
    have k1 : ∀ a, wr.cell? a = w0.cell? a := fun a => by rw [hwr]; rfl
    have q0 : ∀ i : Nat, wr.cell? ⟨w.heap.size, i, none⟩ = #[.int .i64 x.kind, .int .i64 x.target, .bool x.any, .int .i64 (sgAt x.sg 0), .int .i64 (sgAt x.sg 1), .int .i64 (sgAt x.sg 2), .int .i64 (sgAt x.sg 3), .int .i64 x.num, .int .i64 x.parent, .int .i64 x.block][i]? := by
      intro i
      rw [k1, HW0.out, World.cell?_alloc_past _ _ _ (by simp)]
      exact World.cell?_alloc_at _ _ _ _ rfl
    have q1 : ∀ i : Nat, wr.cell? ⟨w.heap.size + 1, i, none⟩ = #[.int .i64 (sgAt l 0), .int .i64 (sgAt l 1), .int .i64 (sgAt l 2), .int .i64 (sgAt l 3)][i]? := by
      intro i
      rw [k1, HW0.out]
      exact World.cell?_alloc_at _ _ _ _ (by simp)
    have a0 := q0 3
    have a1 := q0 4
    have a2 := q0 5
    have a3 := q0 6
    have b0 := q1 0
    have b1 := q1 1
    have b2 := q1 2
    have b3 := q1 3
    simp at a0 a1 a2 a3 b0 b1 b2 b3
    have hsz : w.heap.size + 1 < wr.heap.size := by rw [hwr, HW0.out]; simp
    clear hwr k1 q0 q1
    rcases (show j = 0 ∨ j = 1 ∨ j = 2 ∨ j = 3 ∨ j = 4 by omega) with rfl | rfl | rfl | rfl | rfl
    · have hp := mul_sg (sgAt x.sg 0) (sgAt l 0) (hx 0).1 (hx 0).2 (hv 0).1 (hv 0).2
      have hs := sumTo_le hx hv 0
      have hmw : wrap64 (sgAt x.sg 0 * sgAt l 0) = sgAt x.sg 0 * sgAt l 0 := by unfold wrap64; omega
      have hL : Hid (sumTo x.sg l (0 + 1) = sumTo x.sg l 0 + sgAt x.sg 0 * sgAt l 0) := rfl
      have hlo : -4000 ≤ sumTo x.sg l 0 := by omega
      have hhi : sumTo x.sg l 0 ≤ 4000 := by omega
      clear hs
      generalize sumTo x.sg l 0 = sm at *
      go_wp2_with fail
      go_quiet (fail)
      go_wp2_with fail
      go_roundw
      case rel => obtain ⟨k', e⟩ := HW.out; exact ⟨0 + 1, _, by omega, rfl, by rw [hL.out], by rw [e]; exact drewN_two _ _ _⟩
      case measure => simp [intOf]
    · have hp := mul_sg (sgAt x.sg 1) (sgAt l 1) (hx 1).1 (hx 1).2 (hv 1).1 (hv 1).2
      have hs := sumTo_le hx hv 1
      have hmw : wrap64 (sgAt x.sg 1 * sgAt l 1) = sgAt x.sg 1 * sgAt l 1 := by unfold wrap64; omega
      have hL : Hid (sumTo x.sg l (1 + 1) = sumTo x.sg l 1 + sgAt x.sg 1 * sgAt l 1) := rfl
      have hlo : -4000 ≤ sumTo x.sg l 1 := by omega
      have hhi : sumTo x.sg l 1 ≤ 4000 := by omega
      clear hs
      generalize sumTo x.sg l 1 = sm at *
      go_wp2_with fail
      go_quiet (fail)
      go_wp2_with fail
      go_roundw
      case rel => obtain ⟨k', e⟩ := HW.out; exact ⟨1 + 1, _, by omega, rfl, by rw [hL.out], by rw [e]; exact drewN_two _ _ _⟩
      case measure => simp [intOf]
    · have hp := mul_sg (sgAt x.sg 2) (sgAt l 2) (hx 2).1 (hx 2).2 (hv 2).1 (hv 2).2
      have hs := sumTo_le hx hv 2
      have hmw : wrap64 (sgAt x.sg 2 * sgAt l 2) = sgAt x.sg 2 * sgAt l 2 := by unfold wrap64; omega
      have hL : Hid (sumTo x.sg l (2 + 1) = sumTo x.sg l 2 + sgAt x.sg 2 * sgAt l 2) := rfl
      have hlo : -4000 ≤ sumTo x.sg l 2 := by omega
      have hhi : sumTo x.sg l 2 ≤ 4000 := by omega
      clear hs
      generalize sumTo x.sg l 2 = sm at *
      go_wp2_with fail
      go_quiet (fail)
      go_wp2_with fail
      go_roundw
      case rel => obtain ⟨k', e⟩ := HW.out; exact ⟨2 + 1, _, by omega, rfl, by rw [hL.out], by rw [e]; exact drewN_two _ _ _⟩
      case measure => simp [intOf]
    · have hp := mul_sg (sgAt x.sg 3) (sgAt l 3) (hx 3).1 (hx 3).2 (hv 3).1 (hv 3).2
      have hs := sumTo_le hx hv 3
      have hmw : wrap64 (sgAt x.sg 3 * sgAt l 3) = sgAt x.sg 3 * sgAt l 3 := by unfold wrap64; omega
      have hL : Hid (sumTo x.sg l (3 + 1) = sumTo x.sg l 3 + sgAt x.sg 3 * sgAt l 3) := rfl
      have hlo : -4000 ≤ sumTo x.sg l 3 := by omega
      have hhi : sumTo x.sg l 3 ≤ 4000 := by omega
      clear hs
      generalize sumTo x.sg l 3 = sm at *
      go_wp2_with fail
      go_quiet (fail)
      go_wp2_with fail
      go_roundw
      case rel => obtain ⟨k', e⟩ := HW.out; exact ⟨3 + 1, _, by omega, rfl, by rw [hL.out], by rw [e]; exact drewN_two _ _ _⟩
      case measure => simp [intOf]
    · go_wp2_with fail
      go_ret
      refine ⟨rfl, ?_⟩
      obtain ⟨k', e⟩ := HW.out
      rw [e]
      exact below_drewN HB.out _

end Go.Proofs.Ytffajooegiempaa

namespace Go.Proofs.Ytffajooegiempaa
open Go.RowKit
variable {w : World} {m : Nat} {pv iv : Value} {L : List Int} {s : Ms} {F : List Ds}

set_option maxRecDepth 100000 in
set_option maxHeartbeats 1600000 in
theorem x_value (x : Ds) (hx : DsOk x) (h : At w m (mCells pv iv s) tM) (hi : Inp w m iv L) (ho : MsOk L s) (hL : L.length ≤ 1073741824) :
    Calls Try.prog 78 #[.pointer (some ⟨m, 0, none⟩), dsv x] w fun e w' => e = .returned (.int .i64 (valP L x s).1) ∧ MPost m w pv iv ⟨(valP L x s).2, s.st, s.pt, s.v⟩ w' := by
  have hlt := h.lt
  have HB : Hid (∀ o, Below w.heap.size w (w.alloc o)) := fun o => (Below.refl _ _).alloc (Nat.le_refl _) _
  have HA : Hid (At w m _ tM) := h
  have HI : Hid (Inp w m iv L) := hi
  have HO : Hid (MsOk L s) := ho
  have HX : Hid (DsOk x) := hx
  cases ha : x.any
  · have HE : Hid (valP L x s = (sumTo x.sg s.v 4 + x.num, s.used)) := by show valP L x s = _; unfold valP; rw [ha]; rfl
    obtain ⟨c0, c1, c2, c3, c4, c5, c6, c7, c8, cf⟩ := mcells h
    have hsum := sumTo_le hx.sg ho.v 4
    obtain ⟨hn0, hn1⟩ := hx.num
    have HS : Hid (∀ w1, Below (w.heap.size + 1) (w.alloc (.cells (dsCells x) tDs)) w1 → Calls Try.prog 88 #[dsv x, vv s.v] w1 fun e w' => e = .returned (.int .i64 (sumTo x.sg s.v 4)) ∧ w'.cell? ⟨w.heap.size, 7, none⟩ = some (.int .i64 x.num) ∧ Hid (Below w.heap.size w w')) := by
      intro w1 hb1
      refine (x_sum x s.v HX.out.sg HO.out.v w1).mono ?_
      rintro e w2 ⟨rfl, hb2⟩
      have hsz := hb1.size
      simp at hsz
      refine ⟨rfl, ?_, ((HB.out _).trans (hb1.mono (by omega))).trans (hb2.mono (by omega))⟩
      rw [hb2.cell (by show w.heap.size < _; omega), hb1.cell (by show w.heap.size < _; omega), World.cell?_alloc_at _ _ _ _ rfl]
      rfl
    unfold dsv vv dsCells at *
    rw [ha] at *
    generalize sumTo x.sg s.v 4 = sm at *
    have e1 : -3996 ≤ sm := by omega
    have e2 : sm ≤ 3996 := by omega
    have hw : IntKind.i64.wrap (sm + x.num) = sm + x.num := by rw [IntKind.wrap_i64]; omega
    clear h hi ho hx hsum ha
    go_enter Try.func78, Try.ntmps78
    go_wp2_with fail
    go_region_with (go_at_call 88; refine (HS.out _ (by first | exact Below.refl _ _ | exact (Below.refl _ _).drew)).mono ?_; rintro e w1 ⟨rfl, hN, hB⟩)
    all_goals
      go_wp2_with fail
      go_ret
      refine ⟨by rw [HE.out]; first | rfl | (show Ending.returned (Value.int .i64 (IntKind.i64.wrap (sm + x.num))) = _; rw [hw]), ?_, ?_⟩
      · rw [HE.out]; exact HA.out.keep hB.out hlt
      · exact Onl.of hB.out m
  · have HE : Hid (valP L x s = (clampI (inP L s.used).1, (inP L s.used).2)) := by show valP L x s = _; unfold valP; rw [ha]; rfl
    have HIn : Hid (∀ w', Below w.heap.size w w' → Calls Try.prog 86 #[.pointer (some ⟨m, 0, none⟩)] w' fun e w2 => e = .returned (.int .i64 (inP L s.used).1) ∧ MPost m w' pv iv ⟨(inP L s.used).2, s.st, s.pt, s.v⟩ w2) :=
      fun w' hb => x_input (HA.out.keep hb hlt) (HI.out.keep ⟨hb.os, hb.tape, hb.output, hb.size, fun k hk => hb.block k (by omega)⟩) HO.out.used hL
    unfold dsv at *
    rw [ha] at *
    generalize inP L s.used = y at *
    clear h hi ho hx ha
    go_enter Try.func78, Try.ntmps78
    go_wp2_with fail
    refine (HIn.out _ (HB.out _)).mono ?_
    rintro e w2 ⟨rfl, hat, hb2⟩
    have HA2 : Hid (At w2 m _ tM) := hat
    clear hat
    go_wp2_with fail
    refine (x_clamp _ _).mono ?_
    rintro e w3 ⟨rfl, rfl⟩
    go_wp2_with fail
    go_ret
    refine ⟨by rw [HE.out]; rfl, ?_, ?_⟩
    · rw [HE.out]; exact HA2.out
    · exact (Onl.of (HB.out _) m).trans hb2

end Go.Proofs.Ytffajooegiempaa

namespace Go.Proofs.Ytffajooegiempaa
open Go.RowKit
variable {w : World} {m : Nat} {pv iv : Value} {L : List Int} {s : Ms} {F : List Ds}

set_option maxRecDepth 100000 in
set_option maxHeartbeats 1600000 in
theorem x_holds (x : Ds) (hx : DsOk x) (h : At w m (mCells pv iv s) tM) (hi : Inp w m iv L) (ho : MsOk L s) (hL : L.length ≤ 1073741824) :
    Calls Try.prog 80 #[.pointer (some ⟨m, 0, none⟩), dsv x] w fun e w' => e = .returned (.bool (holP L x s).1) ∧ MPost m w pv iv ⟨(holP L x s).2, s.st, s.pt, s.v⟩ w' := by
  have hlt := h.lt
  have HB : Hid (∀ o, Below w.heap.size w (w.alloc o)) := fun o => (Below.refl _ _).alloc (Nat.le_refl _) _
  have HA : Hid (At w m _ tM) := h
  have HI : Hid (Inp w m iv L) := hi
  have HO : Hid (MsOk L s) := ho
  have HX : Hid (DsOk x) := hx
  cases ha : x.any
  · have HE : Hid (holP L x s = (decide (sumTo x.sg s.v 4 ≤ x.num), s.used)) := by show holP L x s = _; unfold holP; rw [ha]; rfl
    obtain ⟨c0, c1, c2, c3, c4, c5, c6, c7, c8, cf⟩ := mcells h
    have hsum := sumTo_le hx.sg ho.v 4
    obtain ⟨hn0, hn1⟩ := hx.num
    have HS : Hid (∀ w1, Below (w.heap.size + 1) (w.alloc (.cells (dsCells x) tDs)) w1 → Calls Try.prog 88 #[dsv x, vv s.v] w1 fun e w' => e = .returned (.int .i64 (sumTo x.sg s.v 4)) ∧ w'.cell? ⟨w.heap.size, 7, none⟩ = some (.int .i64 x.num) ∧ Hid (Below w.heap.size w w')) := by
      intro w1 hb1
      refine (x_sum x s.v HX.out.sg HO.out.v w1).mono ?_
      rintro e w2 ⟨rfl, hb2⟩
      have hsz := hb1.size
      simp at hsz
      refine ⟨rfl, ?_, ((HB.out _).trans (hb1.mono (by omega))).trans (hb2.mono (by omega))⟩
      rw [hb2.cell (by show w.heap.size < _; omega), hb1.cell (by show w.heap.size < _; omega), World.cell?_alloc_at _ _ _ _ rfl]
      rfl
    unfold dsv vv dsCells at *
    rw [ha] at *
    generalize sumTo x.sg s.v 4 = sm at *
    have e1 : -3996 ≤ sm := by omega
    have e2 : sm ≤ 3996 := by omega
    clear h hi ho hx hsum ha
    go_enter Try.func80, Try.ntmps80
    go_wp2_with fail
    go_region_with (go_at_call 88; refine (HS.out _ (by first | exact Below.refl _ _ | exact (Below.refl _ _).drew)).mono ?_; rintro e w1 ⟨rfl, hN, hB⟩)
    all_goals
      go_wp2_with fail
      go_ret
      refine ⟨by rw [HE.out]; rfl, ?_, ?_⟩
      · rw [HE.out]; exact HA.out.keep hB.out hlt
      · exact Onl.of hB.out m
  · have HE : Hid (holP L x s = ((inP L s.used).1 != 0, (inP L s.used).2)) := by show holP L x s = _; unfold holP; rw [ha]; rfl
    have HIn : Hid (∀ w', Below w.heap.size w w' → Calls Try.prog 86 #[.pointer (some ⟨m, 0, none⟩)] w' fun e w2 => e = .returned (.int .i64 (inP L s.used).1) ∧ MPost m w' pv iv ⟨(inP L s.used).2, s.st, s.pt, s.v⟩ w2) :=
      fun w' hb => x_input (HA.out.keep hb hlt) (HI.out.keep ⟨hb.os, hb.tape, hb.output, hb.size, fun k hk => hb.block k (by omega)⟩) HO.out.used hL
    unfold dsv at *
    rw [ha] at *
    generalize inP L s.used = y at *
    clear h hi ho hx ha
    go_enter Try.func80, Try.ntmps80
    go_wp2_with fail
    refine (HIn.out _ (HB.out _)).mono ?_
    rintro e w2 ⟨rfl, hat, hb2⟩
    have HA2 : Hid (At w2 m _ tM) := hat
    clear hat
    go_wp2_with fail
    go_ret
    refine ⟨by rw [HE.out]; rfl, ?_, ?_⟩
    · rw [HE.out]; exact HA2.out
    · exact (Onl.of (HB.out _) m).trans hb2

end Go.Proofs.Ytffajooegiempaa

namespace Go.Proofs.Ytffajooegiempaa
open Go.RowKit
variable {w : World} {m : Nat} {pv iv : Value} {L : List Int} {s : Ms} {F : List Ds}

set_option maxRecDepth 100000 in
set_option maxHeartbeats 800000 in
theorem x_enter (h : At w m (mCells pv iv s) tM) (hp : PAt w m pv F) (hl : F.length ≤ 20) (p : Int) :
    Calls Try.prog 47 #[.pointer (some ⟨m, 0, none⟩), .int .i64 p] w fun e w' => e = .returned (.tuple #[]) ∧ MPost m w pv iv (entP F.length s p) w' := by
  obtain ⟨c0, c1, c2, c3, c4, c5, c6, c7, c8, cf⟩ := mcells h
  obtain ⟨ao, cap, rfl, -⟩ := hp
  have hlt := h.lt
  have HA : Hid (At w m _ tM) := h
  by_cases hq : p = F.length
  · have HE : Hid (entP F.length s p = ⟨s.used, 1, p, s.v⟩) := by show entP _ _ _ = _; unfold entP; rw [if_pos hq]
    have hb : (p == (F.length : Int)) = true := by rw [beq_iff_eq]; exact hq
    clear h hq
    go_enter Try.func47, Try.ntmps47
    go_wp2_with fail
    refine (d_end _ F.length cap _ hl).mono ?_
    rintro e w2 ⟨rfl, o, rfl⟩
    go_wp2_with fail
    go_end0
    refine ⟨rfl, ?_, ?_⟩
    · rw [HE.out]
      exact ((HA.out.put 4 (.int .i64 p)).put 3 (.int .i64 1)).alloc o
    · exact (((Onl.refl m w).setCell _ _).setCell _ _).alloc _
  · have HE : Hid (entP F.length s p = ⟨s.used, s.st, p, s.v⟩) := by show entP _ _ _ = _; unfold entP; rw [if_neg hq]
    have hb : (p == (F.length : Int)) = false := by rw [beq_eq_false_iff_ne]; exact hq
    clear h hq
    go_enter Try.func47, Try.ntmps47
    go_wp2_with fail
    refine (d_end _ F.length cap _ hl).mono ?_
    rintro e w2 ⟨rfl, o, rfl⟩
    go_wp2_with fail
    go_end0
    refine ⟨rfl, ?_, ?_⟩
    · rw [HE.out]
      exact (HA.out.put 4 (.int .i64 p)).alloc o
    · exact ((Onl.refl m w).setCell _ _).alloc _

/-- What a program in memory keeps to. -/
structure FOk (F : List Ds) : Prop where
  len : F.length ≤ 20
  par : ∀ (k : Nat) (x : Ds), F[k]? = some x → -1 ≤ x.parent ∧ x.parent < (k : Int)
  ds : ∀ (k : Nat) (x : Ds), F[k]? = some x → DsOk x

set_option maxRecDepth 100000 in
set_option maxHeartbeats 1600000 in
theorem x_leave (h : At w m (mCells pv iv s) tM) (hp : PAt w m pv F) (hF : FOk F) (h0 : 0 ≤ s.pt) (h1 : s.pt < F.length) (way : Int) :
    Calls Try.prog 79 #[.pointer (some ⟨m, 0, none⟩), .int .i64 way] w fun e w' => e = .returned (.tuple #[]) ∧ MPost m w pv iv (leaP F s way) w' := by
  obtain ⟨c0, c1, c2, c3, c4, c5, c6, c7, c8, cf⟩ := mcells h
  have HP : Hid (PAt w m pv F) := hp
  obtain ⟨ao, cap, hpv, hg⟩ := hp
  obtain ⟨g, rfl, hgm, hrow⟩ := hg (by omega)
  have hlt := h.lt
  have HA : Hid (At w m _ tM) := h
  have HF : Hid (FOk F) := hF
  have HR : Hid (PRow w g F) := hrow
  obtain ⟨k, hk⟩ : ∃ k : Nat, s.pt = k := ⟨s.pt.toNat, by omega⟩
  have hkl : k < F.length := by omega
  have HN : Hid (∀ w1, Below w.heap.size w w1 → Calls Try.prog 29 #[.agg #[.slice (some ⟨g, 0, none⟩) F.length cap], .int .i64 (k : Int), .int .i64 way] w1 fun e w' => e = .returned (.tuple #[.int .i64 (nextP F k way).1, .int .i64 (nextP F k way).2]) ∧ Hid (Below w.heap.size w w')) := by
    intro w1 hb1
    refine (d_next_in (HR.out.keep hb1) HF.out.len HF.out.par k hkl way).mono ?_
    rintro e w2 ⟨rfl, hb2⟩
    exact ⟨rfl, hb1.trans (hb2.mono hb1.size)⟩
  have HE0 : Hid (leaP F s way = if (nextP F k way).2 = 0 then entP F.length s (nextP F k way).1 else s) := by show leaP F s way = _; unfold leaP; rw [hk]
  have HEn : Hid (∀ w1 p, Below w.heap.size w w1 → Calls Try.prog 47 #[.pointer (some ⟨m, 0, none⟩), .int .i64 p] w1 fun e w' => e = .returned (.tuple #[]) ∧ MPost m w1 pv iv (entP F.length s p) w') := by
    intro w1 p hb1
    exact x_enter (HA.out.keep hb1 hlt) (HP.out.keep (hb1.mono (by omega))) HF.out.len p
  rw [hpv] at c0
  rw [hk] at c4
  generalize nextP F k way = nx at *
  obtain ⟨n1, n2⟩ := nx
  simp only at HE0 HN
  clear h hrow hg hF
  by_cases hz : n2 = 0
  · subst hz
    have HE : Hid (leaP F s way = entP F.length s n1) := HE0.out.trans (if_pos rfl)
    clear HE0
    go_enter Try.func79, Try.ntmps79
    go_wp2_with fail
    go_region_with (go_at_call 29; refine (HN.out _ (by first | exact Below.refl _ _ | exact (Below.refl _ _).drew)).mono ?_; rintro e w1 ⟨rfl, hB⟩)
    all_goals
      go_wp2_with fail
      refine (HEn.out _ _ hB.out).mono ?_
      rintro e w2 ⟨rfl, hat, hb2⟩
      have HA2 : Hid (At w2 m _ tM) := hat
      clear hat
      go_wp2_with fail
      go_end0
      exact ⟨rfl, by rw [HE.out]; exact HA2.out, (Onl.of hB.out m).trans hb2⟩
  · have hz' : (n2 == 0) = false := by simpa using hz
    have HE : Hid (leaP F s way = s) := HE0.out.trans (if_neg hz)
    clear HE0
    go_enter Try.func79, Try.ntmps79
    go_wp2_with fail
    go_region_with (go_at_call 29; refine (HN.out _ (by first | exact Below.refl _ _ | exact (Below.refl _ _).drew)).mono ?_; rintro e w1 ⟨rfl, hB⟩)
    all_goals
      go_wp2_with fail
      go_end0
      exact ⟨rfl, by rw [HE.out]; exact HA.out.keep hB.out hlt, Onl.of hB.out m⟩

end Go.Proofs.Ytffajooegiempaa

namespace Go.Proofs.Ytffajooegiempaa
open Go.RowKit
variable {w : World} {m : Nat} {pv iv : Value} {L : List Int} {s : Ms} {F : List Ds}

/-- A machine of a run, as it lies in memory. -/
structure MRep (w : World) (m : Nat) (pv iv : Value) (F : List Ds) (L : List Int) (s : Ms) : Prop where
  at_ : At w m (mCells pv iv s) tM
  prog : PAt w m pv F
  inp : Inp w m iv L
  ok : MsOk L s
theorem MRep.next (h : MRep w m pv iv F L s) {w' : World} {s' : Ms} (ha : At w' m (mCells pv iv s') tM) (ho : Onl m w w') (hk : MsOk L s') : MRep w' m pv iv F L s' :=
  have hb : Below m w w' := ho.below (Nat.le_refl _) (Nat.le_of_lt h.at_.lt)
  ⟨ha, h.prog.keep hb, h.inp.keep hb, hk⟩
theorem MRep.same (h : MRep w m pv iv F L s) {w' : World} (ho : Below w.heap.size w w') : MRep w' m pv iv F L s :=
  have hb : Below m w w' := ho.mono (Nat.le_of_lt h.at_.lt)
  ⟨h.at_.keep ho h.at_.lt, h.prog.keep hb, h.inp.keep hb, h.ok⟩

theorem box_cells (w : World) (x : Ds) : At (w.alloc (.cells #[.int .i64 x.kind, .int .i64 x.target, .bool x.any, .int .i64 (sgAt x.sg 0), .int .i64 (sgAt x.sg 1), .int .i64 (sgAt x.sg 2), .int .i64 (sgAt x.sg 3), .int .i64 x.num, .int .i64 x.parent, .int .i64 x.block] tDs)) w.heap.size (dsCells x) tDs := At.new _ _ _

/-- The values behind an assignment. -/
theorem mCells_set (pv iv : Value) (s : Ms) (hl : s.v.length = 4) (t : Nat) (ht : t < 4) (y : Int) (u : Nat) : (mCells pv iv ⟨u, s.st, s.pt, s.v⟩).setIfInBounds (5 + t) (.int .i64 y) = mCells pv iv ⟨u, s.st, s.pt, s.v.set t y⟩ := by
  unfold mCells
  simp only [sgAt_set _ _ _ _ (show t < s.v.length by omega)]
  rcases (show t = 0 ∨ t = 1 ∨ t = 2 ∨ t = 3 by omega) with rfl | rfl | rfl | rfl <;> rfl

set_option maxRecDepth 100000 in
set_option maxHeartbeats 1600000 in
theorem x_assign (x : Ds) (hx : DsOk x) (h : MRep w m pv iv F L s) (hF : FOk F) (hL : L.length ≤ 1073741824) (h0 : 0 ≤ s.pt) (h1 : s.pt < F.length) :
    Calls Try.prog 63 #[.pointer (some ⟨m, 0, none⟩), dsv x] w fun e w' => e = .returned (.tuple #[]) ∧ MPost m w pv iv (asgP F L x s) w' := by
  have hlt := h.at_.lt
  have HM : Hid (MRep w m pv iv F L s) := h
  have HX : Hid (DsOk x) := hx
  have HF : Hid (FOk F) := hF
  have HB : Hid (∀ o, Below w.heap.size w (w.alloc o)) := fun o => (Below.refl _ _).alloc (Nat.le_refl _) _
  obtain ⟨kd, tg, an, sg, nm, pa, bl⟩ := x
  have HV : Hid (∀ o, Calls Try.prog 78 #[.pointer (some ⟨m, 0, none⟩), dsv ⟨kd, tg, an, sg, nm, pa, bl⟩] (w.alloc o) fun e w' => e = .returned (.int .i64 (valP L ⟨kd, tg, an, sg, nm, pa, bl⟩ s).1) ∧ Hid (MPost m (w.alloc o) pv iv ⟨(valP L ⟨kd, tg, an, sg, nm, pa, bl⟩ s).2, s.st, s.pt, s.v⟩ w')) := fun o =>
    have h' := HM.out.same (HB.out o)
    x_value ⟨kd, tg, an, sg, nm, pa, bl⟩ HX.out h'.at_ h'.inp h'.ok hL
  have HU : Hid ((valP L ⟨kd, tg, an, sg, nm, pa, bl⟩ s).2 ≤ L.length) := valP_used h.ok
  have HE0 : Hid (asgP F L ⟨kd, tg, an, sg, nm, pa, bl⟩ s = if 999 < (valP L ⟨kd, tg, an, sg, nm, pa, bl⟩ s).1 ∨ (valP L ⟨kd, tg, an, sg, nm, pa, bl⟩ s).1 < -999 then ⟨(valP L ⟨kd, tg, an, sg, nm, pa, bl⟩ s).2, 2, s.pt, s.v⟩ else leaP F ⟨(valP L ⟨kd, tg, an, sg, nm, pa, bl⟩ s).2, s.st, s.pt, s.v.set tg.toNat (valP L ⟨kd, tg, an, sg, nm, pa, bl⟩ s).1⟩ 0) := rfl
  have HBox := (show Hid (At _ _ _ _) from box_cells w ⟨kd, tg, an, sg, nm, pa, bl⟩)
  have ht := hx.tg
  unfold dsv at *
  simp only at ht HBox HV ⊢
  generalize valP L ⟨kd, tg, an, sg, nm, pa, bl⟩ s = y at *
  obtain ⟨y, u⟩ := y
  simp only at HE0 HV HU
  clear h hF hx
  obtain ⟨ht0, ht3⟩ := ht
  by_cases hov : 999 < y ∨ y < -999
  · have HE : Hid (_ = _) := HE0.out.trans (if_pos hov)
    have hd : (decide (999 < y) || decide (y < -999)) = true := by simpa using hov
    clear HE0
    rcases hov with hov | hov
    all_goals
      go_enter Try.func63, Try.ntmps63
      go_wp2_with fail
      refine (HV.out _).mono ?_
      rintro e w1 ⟨rfl, hp⟩
      obtain ⟨c0, c1, c2, c3, c4, c5, c6, c7, c8, cf⟩ := mcells hp.out.1
      have hl1 := hp.out.1.lt
      go_wp2_with fail
      try simp only [Exit.inBlock, Exit.then]
      refine bodyPost_ret (results_none rfl _ _ _) rfl ?_
      exact ⟨rfl, by rw [HE.out]; exact hp.out.1.put 3 _, ((Onl.of (HB.out _) m).trans hp.out.2).setCell _ _⟩
  · have HE1 : Hid (_ = _) := HE0.out.trans (if_neg hov)
    have hy0 : ¬ 999 < y := fun e => hov (.inl e)
    have hy1 : ¬ y < -999 := fun e => hov (.inr e)
    clear HE0 hov
    have HLv : Hid (∀ (t : Nat), t < 4 → ∀ w1, MRep w1 m pv iv F L ⟨u, s.st, s.pt, s.v⟩ → ∀ w2, w2 = (w1.setCell ⟨m, 5 + t, none⟩ (.int .i64 y)).drew → Calls Try.prog 79 #[.pointer (some ⟨m, 0, none⟩), .int .i64 0] w2 fun e w' => e = .returned (.tuple #[]) ∧ Hid (MPost m w1 pv iv (leaP F ⟨u, s.st, s.pt, s.v.set t y⟩ 0) w')) := by
      intro t ht w1 h1' w2 hw2
      have hat := h1'.at_.put (5 + t) (.int .i64 y)
      rw [mCells_set pv iv s HM.out.ok.len t ht y u] at hat
      have hat : At w2 m (mCells pv iv ⟨u, s.st, s.pt, s.v.set t y⟩) tM := by rw [hw2]; exact hat
      have ho : Onl m w1 w2 := by rw [hw2]; exact ((Onl.refl m w1).setCell (5 + t) (.int .i64 y)).drewN 1
      have hok : MsOk L ⟨u, s.st, s.pt, s.v.set t y⟩ := by
        refine ⟨by simp only [List.length_set]; exact HM.out.ok.len, fun i => ?_, HU.out⟩
        have hl := HM.out.ok.len
        simp only
        rw [sgAt_set _ _ _ _ (by omega)]
        split
        · omega
        · exact HM.out.ok.v i
      have h2 := h1'.next hat ho hok
      refine (x_leave h2.at_ h2.prog HF.out h0 h1 0).mono ?_
      rintro e w3 ⟨rfl, ha, ho3⟩
      exact ⟨rfl, ha, ho.trans ho3⟩
    have HMu : Hid (∀ o w1, MPost m (w.alloc o) pv iv ⟨u, s.st, s.pt, s.v⟩ w1 → MRep w1 m pv iv F L ⟨u, s.st, s.pt, s.v⟩) := fun o w1 hp => (HM.out.same (HB.out o)).next hp.1 hp.2 ⟨HM.out.ok.len, HM.out.ok.v, HU.out⟩
    rcases (show tg = 0 ∨ tg = 1 ∨ tg = 2 ∨ tg = 3 by omega) with rfl | rfl | rfl | rfl
    · have HE : Hid (asgP F L ⟨kd, 0, an, sg, nm, pa, bl⟩ s = leaP F ⟨u, s.st, s.pt, s.v.set 0 y⟩ 0) := HE1.out
      clear HE1
      go_enter Try.func63, Try.ntmps63
      go_wp2_with fail
      refine (HV.out _).mono ?_
      rintro e w1 ⟨rfl, hp⟩
      obtain ⟨c0, c1, c2, c3, c4, c5, c6, c7, c8, cf⟩ := mcells hp.out.1
      have hl1 := hp.out.1.lt
      have b1 : w1.cell? ⟨w.heap.size, 1, none⟩ = some (.int .i64 0) := by
        rw [hp.out.2.cell (by simp) (by omega)]
        exact HBox.out.cell 1
      go_wp2_with fail
      go_region
      all_goals
        go_wp2_with fail
        refine (HLv.out 0 (by omega) w1 (HMu.out _ _ hp.out) _ rfl).mono ?_
        rintro e w2 ⟨rfl, hp2⟩
        go_wp2_with fail
        go_end0
        exact ⟨rfl, by rw [HE.out]; exact hp2.out.1, ((Onl.of (HB.out _) m).trans hp.out.2).trans hp2.out.2⟩
    · have HE : Hid (asgP F L ⟨kd, 1, an, sg, nm, pa, bl⟩ s = leaP F ⟨u, s.st, s.pt, s.v.set 1 y⟩ 0) := HE1.out
      clear HE1
      go_enter Try.func63, Try.ntmps63
      go_wp2_with fail
      refine (HV.out _).mono ?_
      rintro e w1 ⟨rfl, hp⟩
      obtain ⟨c0, c1, c2, c3, c4, c5, c6, c7, c8, cf⟩ := mcells hp.out.1
      have hl1 := hp.out.1.lt
      have b1 : w1.cell? ⟨w.heap.size, 1, none⟩ = some (.int .i64 1) := by
        rw [hp.out.2.cell (by simp) (by omega)]
        exact HBox.out.cell 1
      go_wp2_with fail
      go_region
      all_goals
        go_wp2_with fail
        refine (HLv.out 1 (by omega) w1 (HMu.out _ _ hp.out) _ rfl).mono ?_
        rintro e w2 ⟨rfl, hp2⟩
        go_wp2_with fail
        go_end0
        exact ⟨rfl, by rw [HE.out]; exact hp2.out.1, ((Onl.of (HB.out _) m).trans hp.out.2).trans hp2.out.2⟩
    · have HE : Hid (asgP F L ⟨kd, 2, an, sg, nm, pa, bl⟩ s = leaP F ⟨u, s.st, s.pt, s.v.set 2 y⟩ 0) := HE1.out
      clear HE1
      go_enter Try.func63, Try.ntmps63
      go_wp2_with fail
      refine (HV.out _).mono ?_
      rintro e w1 ⟨rfl, hp⟩
      obtain ⟨c0, c1, c2, c3, c4, c5, c6, c7, c8, cf⟩ := mcells hp.out.1
      have hl1 := hp.out.1.lt
      have b1 : w1.cell? ⟨w.heap.size, 1, none⟩ = some (.int .i64 2) := by
        rw [hp.out.2.cell (by simp) (by omega)]
        exact HBox.out.cell 1
      go_wp2_with fail
      go_region
      all_goals
        go_wp2_with fail
        refine (HLv.out 2 (by omega) w1 (HMu.out _ _ hp.out) _ rfl).mono ?_
        rintro e w2 ⟨rfl, hp2⟩
        go_wp2_with fail
        go_end0
        exact ⟨rfl, by rw [HE.out]; exact hp2.out.1, ((Onl.of (HB.out _) m).trans hp.out.2).trans hp2.out.2⟩
    · have HE : Hid (asgP F L ⟨kd, 3, an, sg, nm, pa, bl⟩ s = leaP F ⟨u, s.st, s.pt, s.v.set 3 y⟩ 0) := HE1.out
      clear HE1
      go_enter Try.func63, Try.ntmps63
      go_wp2_with fail
      refine (HV.out _).mono ?_
      rintro e w1 ⟨rfl, hp⟩
      obtain ⟨c0, c1, c2, c3, c4, c5, c6, c7, c8, cf⟩ := mcells hp.out.1
      have hl1 := hp.out.1.lt
      have b1 : w1.cell? ⟨w.heap.size, 1, none⟩ = some (.int .i64 3) := by
        rw [hp.out.2.cell (by simp) (by omega)]
        exact HBox.out.cell 1
      go_wp2_with fail
      go_region
      all_goals
        go_wp2_with fail
        refine (HLv.out 3 (by omega) w1 (HMu.out _ _ hp.out) _ rfl).mono ?_
        rintro e w2 ⟨rfl, hp2⟩
        go_wp2_with fail
        go_end0
        exact ⟨rfl, by rw [HE.out]; exact hp2.out.1, ((Onl.of (HB.out _) m).trans hp.out.2).trans hp2.out.2⟩

end Go.Proofs.Ytffajooegiempaa

namespace Go.Proofs.Ytffajooegiempaa
open Go.RowKit
variable {w : World} {m : Nat} {pv iv : Value} {L : List Int} {s : Ms} {F : List Ds}

set_option maxRecDepth 100000 in
set_option maxHeartbeats 1600000 in
theorem x_assert (x : Ds) (hx : DsOk x) (h : MRep w m pv iv F L s) (hF : FOk F) (hL : L.length ≤ 1073741824) (h0 : 0 ≤ s.pt) (h1 : s.pt < F.length) :
    Calls Try.prog 64 #[.pointer (some ⟨m, 0, none⟩), dsv x] w fun e w' => e = .returned (.tuple #[]) ∧ MPost m w pv iv (astP F L x s) w' := by
  have hlt := h.at_.lt
  have HM : Hid (MRep w m pv iv F L s) := h
  have HX : Hid (DsOk x) := hx
  have HF : Hid (FOk F) := hF
  have HB : Hid (∀ o, Below w.heap.size w (w.alloc o)) := fun o => (Below.refl _ _).alloc (Nat.le_refl _) _
  have HV : Hid (∀ o, Calls Try.prog 80 #[.pointer (some ⟨m, 0, none⟩), dsv x] (w.alloc o) fun e w' => e = .returned (.bool (holP L x s).1) ∧ Hid (MPost m (w.alloc o) pv iv ⟨(holP L x s).2, s.st, s.pt, s.v⟩ w')) := fun o =>
    have h' := HM.out.same (HB.out o)
    x_holds x HX.out h'.at_ h'.inp h'.ok hL
  have HU : Hid ((holP L x s).2 ≤ L.length) := holP_used h.ok
  have HE0 : Hid (astP F L x s = if (holP L x s).1 = true then leaP F ⟨(holP L x s).2, s.st, s.pt, s.v⟩ 0 else ⟨(holP L x s).2, 3, s.pt, s.v⟩) := rfl
  unfold dsv at *
  generalize holP L x s = y at *
  obtain ⟨y, u⟩ := y
  simp only at HE0 HV HU
  clear h hF hx
  cases y
  · have HE : Hid (_ = _) := HE0.out.trans (if_neg (by decide))
    clear HE0
    go_enter Try.func64, Try.ntmps64
    go_wp2_with fail
    refine (HV.out _).mono ?_
    rintro e w1 ⟨rfl, hp⟩
    obtain ⟨c0, c1, c2, c3, c4, c5, c6, c7, c8, cf⟩ := mcells hp.out.1
    have hl1 := hp.out.1.lt
    go_wp2_with fail
    try simp only [Exit.inBlock, Exit.then]
    refine bodyPost_ret (results_none rfl _ _ _) rfl ?_
    exact ⟨rfl, by rw [HE.out]; exact hp.out.1.put 3 _, ((Onl.of (HB.out _) m).trans hp.out.2).setCell _ _⟩
  · have HE : Hid (_ = _) := HE0.out.trans (if_pos rfl)
    clear HE0
    have HLv : Hid (∀ o w1 (way : Int), MPost m (w.alloc o) pv iv ⟨u, s.st, s.pt, s.v⟩ w1 → Calls Try.prog 79 #[.pointer (some ⟨m, 0, none⟩), .int .i64 way] w1 fun e w' => e = .returned (.tuple #[]) ∧ Hid (MPost m w pv iv (leaP F ⟨u, s.st, s.pt, s.v⟩ way) w')) := by
      intro o w1 way hp
      have h2 := (HM.out.same (HB.out o)).next hp.1 hp.2 ⟨HM.out.ok.len, HM.out.ok.v, HU.out⟩
      refine (x_leave h2.at_ h2.prog HF.out h0 h1 way).mono ?_
      rintro e w3 ⟨rfl, ha, ho3⟩
      exact ⟨rfl, ha, ((Onl.of (HB.out o) m).trans hp.2).trans ho3⟩
    go_enter Try.func64, Try.ntmps64
    go_wp2_with fail
    refine (HV.out _).mono ?_
    rintro e w1 ⟨rfl, hp⟩
    go_wp2_with fail
    refine (HLv.out _ _ 0 hp.out).mono ?_
    rintro e w2 ⟨rfl, hp2⟩
    go_wp2_with fail
    go_end0
    exact ⟨rfl, by rw [HE.out]; exact hp2.out.1, hp2.out.2⟩

set_option maxRecDepth 100000 in
set_option maxHeartbeats 1600000 in
theorem x_branch (x : Ds) (hx : DsOk x) (h : MRep w m pv iv F L s) (hF : FOk F) (hL : L.length ≤ 1073741824) (h0 : 0 ≤ s.pt) (h1 : s.pt < F.length) :
    Calls Try.prog 65 #[.pointer (some ⟨m, 0, none⟩), dsv x] w fun e w' => e = .returned (.tuple #[]) ∧ MPost m w pv iv (braP F L x s) w' := by
  have hlt := h.at_.lt
  have HM : Hid (MRep w m pv iv F L s) := h
  have HX : Hid (DsOk x) := hx
  have HF : Hid (FOk F) := hF
  have HB : Hid (∀ o, Below w.heap.size w (w.alloc o)) := fun o => (Below.refl _ _).alloc (Nat.le_refl _) _
  have HV : Hid (∀ o, Calls Try.prog 80 #[.pointer (some ⟨m, 0, none⟩), dsv x] (w.alloc o) fun e w' => e = .returned (.bool (holP L x s).1) ∧ Hid (MPost m (w.alloc o) pv iv ⟨(holP L x s).2, s.st, s.pt, s.v⟩ w')) := fun o =>
    have h' := HM.out.same (HB.out o)
    x_holds x HX.out h'.at_ h'.inp h'.ok hL
  have HU : Hid ((holP L x s).2 ≤ L.length) := holP_used h.ok
  have HE0 : Hid (braP F L x s = leaP F ⟨(holP L x s).2, s.st, s.pt, s.v⟩ (if (holP L x s).1 = true then 0 else 1)) := rfl
  unfold dsv at *
  generalize holP L x s = y at *
  obtain ⟨y, u⟩ := y
  simp only at HE0 HV HU
  clear h hF hx
  have HLv : Hid (∀ o w1 (way : Int), MPost m (w.alloc o) pv iv ⟨u, s.st, s.pt, s.v⟩ w1 → Calls Try.prog 79 #[.pointer (some ⟨m, 0, none⟩), .int .i64 way] w1 fun e w' => e = .returned (.tuple #[]) ∧ Hid (MPost m w pv iv (leaP F ⟨u, s.st, s.pt, s.v⟩ way) w')) := by
    intro o w1 way hp
    have h2 := (HM.out.same (HB.out o)).next hp.1 hp.2 ⟨HM.out.ok.len, HM.out.ok.v, HU.out⟩
    refine (x_leave h2.at_ h2.prog HF.out h0 h1 way).mono ?_
    rintro e w3 ⟨rfl, ha, ho3⟩
    exact ⟨rfl, ha, ((Onl.of (HB.out o) m).trans hp.2).trans ho3⟩
  cases y
  · have HE : Hid (braP F L x s = leaP F ⟨u, s.st, s.pt, s.v⟩ 1) := HE0.out
    clear HE0
    go_enter Try.func65, Try.ntmps65
    go_wp2_with fail
    refine (HV.out _).mono ?_
    rintro e w1 ⟨rfl, hp⟩
    go_wp2_with fail
    refine (HLv.out _ _ 1 hp.out).mono ?_
    rintro e w2 ⟨rfl, hp2⟩
    go_wp2_with fail
    go_end0
    exact ⟨rfl, by rw [HE.out]; exact hp2.out.1, hp2.out.2⟩
  · have HE : Hid (braP F L x s = leaP F ⟨u, s.st, s.pt, s.v⟩ 0) := HE0.out
    clear HE0
    go_enter Try.func65, Try.ntmps65
    go_wp2_with fail
    refine (HV.out _).mono ?_
    rintro e w1 ⟨rfl, hp⟩
    go_wp2_with fail
    refine (HLv.out _ _ 0 hp.out).mono ?_
    rintro e w2 ⟨rfl, hp2⟩
    go_wp2_with fail
    go_end0
    exact ⟨rfl, by rw [HE.out]; exact hp2.out.1, hp2.out.2⟩

end Go.Proofs.Ytffajooegiempaa

namespace Go.Proofs.Ytffajooegiempaa
open Go.RowKit
variable {w : World} {m : Nat} {pv iv : Value} {L : List Int} {s : Ms} {F : List Ds}

theorem below10 {w w1 : World} (h : Below w.heap.size w w1) (v0 v1 v2 v3 v4 v5 v6 v7 v8 v9 : Value) : Below w.heap.size w ((((((((((w1.setCell ⟨w.heap.size, 0, none⟩ v0).setCell ⟨w.heap.size, 1, none⟩ v1).setCell ⟨w.heap.size, 2, none⟩ v2).setCell ⟨w.heap.size, 3, none⟩ v3).setCell ⟨w.heap.size, 4, none⟩ v4).setCell ⟨w.heap.size, 5, none⟩ v5).setCell ⟨w.heap.size, 6, none⟩ v6).setCell ⟨w.heap.size, 7, none⟩ v7).setCell ⟨w.heap.size, 8, none⟩ v8).setCell ⟨w.heap.size, 9, none⟩ v9) := (Below.setCell (p := ⟨w.heap.size, 9, none⟩) (Below.setCell (p := ⟨w.heap.size, 8, none⟩) (Below.setCell (p := ⟨w.heap.size, 7, none⟩) (Below.setCell (p := ⟨w.heap.size, 6, none⟩) (Below.setCell (p := ⟨w.heap.size, 5, none⟩) (Below.setCell (p := ⟨w.heap.size, 4, none⟩) (Below.setCell (p := ⟨w.heap.size, 3, none⟩) (Below.setCell (p := ⟨w.heap.size, 2, none⟩) (Below.setCell (p := ⟨w.heap.size, 1, none⟩) (Below.setCell (p := ⟨w.heap.size, 0, none⟩) h (Nat.le_refl w.heap.size) v0) (Nat.le_refl w.heap.size) v1) (Nat.le_refl w.heap.size) v2) (Nat.le_refl w.heap.size) v3) (Nat.le_refl w.heap.size) v4) (Nat.le_refl w.heap.size) v5) (Nat.le_refl w.heap.size) v6) (Nat.le_refl w.heap.size) v7) (Nat.le_refl w.heap.size) v8) (Nat.le_refl w.heap.size) v9)

set_option maxRecDepth 100000 in
set_option maxHeartbeats 1600000 in
theorem x_step (h : MRep w m pv iv F L s) (hF : FOk F) (hL : L.length ≤ 1073741824) (h0 : 0 ≤ s.pt) (h1 : s.pt < F.length) :
    Calls Try.prog 48 #[.pointer (some ⟨m, 0, none⟩)] w fun e w' => e = .returned (.tuple #[]) ∧ MPost m w pv iv (stpP F L s) w' := by
  obtain ⟨c0, c1, c2, c3, c4, c5, c6, c7, c8, cf⟩ := mcells h.at_
  have hlt := h.at_.lt
  have HM : Hid (MRep w m pv iv F L s) := h
  have HF : Hid (FOk F) := hF
  obtain ⟨ao, cap, hpv, hg⟩ := h.prog
  obtain ⟨g, rfl, hgm, hrow⟩ := hg (by omega)
  obtain ⟨k, hk⟩ : ∃ k : Nat, s.pt = k := ⟨s.pt.toNat, by omega⟩
  have hkl : k < F.length := by omega
  have hki : (k : Int) < (F.length : Int) := by omega
  have HAt : Hid (∀ w1, Below w.heap.size w w1 → Calls Try.prog 60 #[.agg #[.slice (some ⟨g, 0, none⟩) F.length cap], .int .i64 (k : Int)] w1 fun e w' => e = .returned (.tuple #[dsv (F.getD k (newDs 0 0)), .int .i64 0]) ∧ Below w.heap.size w w') := fun w1 hb => (d_at_in (hrow.keep hb) k hkl).mono fun e w' h => ⟨h.1, hb.trans (h.2.mono hb.size)⟩
  have HAt2 : Calls Try.prog 60 #[.agg #[.slice (some ⟨g, 0, none⟩) F.length cap], .int .i64 (k : Int)] (w.alloc (.cells #[.int .i64 0, .int .i64 0, .bool false, .int .i64 0, .int .i64 0, .int .i64 0, .int .i64 0, .int .i64 0, .int .i64 0, .int .i64 0] tDs)).drew fun e w' => e = .returned (.tuple #[dsv (F.getD k (newDs 0 0)), .int .i64 0]) ∧ Hid (Below w.heap.size w w' ∧ At w' w.heap.size #[.int .i64 0, .int .i64 0, .bool false, .int .i64 0, .int .i64 0, .int .i64 0, .int .i64 0, .int .i64 0, .int .i64 0, .int .i64 0] tDs) := by
    have hb : Below w.heap.size w (w.alloc (.cells #[.int .i64 0, .int .i64 0, .bool false, .int .i64 0, .int .i64 0, .int .i64 0, .int .i64 0, .int .i64 0, .int .i64 0, .int .i64 0] tDs)).drew := ((Below.refl _ _).alloc (Nat.le_refl _) _).drew
    refine (d_at_in (hrow.keep hb) k hkl).mono ?_
    rintro e w' ⟨rfl, h⟩
    exact ⟨rfl, hb.trans (h.mono hb.size), At.keep (w := (w.alloc (.cells #[.int .i64 0, .int .i64 0, .bool false, .int .i64 0, .int .i64 0, .int .i64 0, .int .i64 0, .int .i64 0, .int .i64 0, .int .i64 0] tDs)).drew) (At.new w _ _) h (by show w.heap.size < (w.heap.push _).size; simp)⟩
  have HX : Hid (DsOk (F.getD k (newDs 0 0))) := hF.ds k _ (gets' hkl)
  have HE0 : Hid (stpP F L s = if (F.getD k (newDs 0 0)).kind = 0 then asgP F L (F.getD k (newDs 0 0)) s else if (F.getD k (newDs 0 0)).kind = 1 then astP F L (F.getD k (newDs 0 0)) s else braP F L (F.getD k (newDs 0 0)) s) := by
    show stpP F L s = _
    unfold stpP
    rw [if_neg (by omega), hk, Int.toNat_natCast]
  have hge : ¬ (F.length : Int) ≤ (k : Int) := by omega
  have hk0 : ¬ (k : Int) < 0 := by omega
  rw [hpv] at c0
  rw [hk] at c4
  generalize F.getD k (newDs 0 0) = x at *
  have hgs : g < w.heap.size := by omega
  clear h hrow hg hF c1 c2 c3 c5 c6 c7 c8
  by_cases k0 : x.kind = 0
  · have HE : Hid (_ = _) := HE0.out.trans (if_pos k0)
    clear HE0
    have HC : Hid (∀ w1, Below w.heap.size w w1 → Calls Try.prog 63 #[.pointer (some ⟨m, 0, none⟩), dsv x] w1 fun e w' => e = .returned (.tuple #[]) ∧ Hid (MPost m w pv iv (asgP F L x s) w')) := by
      intro w1 hb
      refine (x_assign x HX.out (HM.out.same hb) HF.out hL h0 h1).mono ?_
      rintro e w2 ⟨rfl, ha, ho⟩
      exact ⟨rfl, ha, (Onl.of hb m).trans ho⟩
    unfold dsv at HC HAt HAt2
    rw [k0] at HAt HAt2 HC
    clear k0
    go_enter Try.func48, Try.ntmps48
    go_wp2_with fail
    go_region_with (go_at_call 60; first
      | (refine (HAt.out _ (by exact (Below.refl _ _).drew)).mono ?_
         rintro e w1 ⟨rfl, hb1⟩
         have HW1 : Hid (Below w.heap.size w w1) := hb1
         have hl1 : m < w1.heap.size := Nat.lt_of_lt_of_le hlt HW1.out.size
         clear hb1)
      | (refine HAt2.mono ?_
         rintro e w1 ⟨rfl, hb1⟩
         have HW1 : Hid (Below w.heap.size w w1) := hb1.out.1
         have hl1 : m < w1.heap.size := Nat.lt_of_lt_of_le hlt HW1.out.size
         have hz := hb1.out.2
         have hl2 : w.heap.size < w1.heap.size := hz.lt
         have z0 := hz.cell 0
         have z1 := hz.cell 1
         have z2 := hz.cell 2
         have z3 := hz.cell 3
         have z4 := hz.cell 4
         have z5 := hz.cell 5
         have z6 := hz.cell 6
         have z7 := hz.cell 7
         have z8 := hz.cell 8
         have z9 := hz.cell 9
         have zf := hz.free
         simp at z0 z1 z2 z3 z4 z5 z6 z7 z8 z9
         clear hb1 hz))
    all_goals
      go_wp2_with fail
      refine (HC.out _ (by with_reducible (first | exact HW1.out.alloc HW1.out.size _ | exact below10 HW1.out _ _ _ _ _ _ _ _ _ _))).mono ?_
      rintro e w2 ⟨rfl, hp2⟩
      go_wp2_with fail
      go_end0
      exact ⟨rfl, by rw [HE.out]; exact hp2.out.1, hp2.out.2⟩
  by_cases k1 : x.kind = 1
  · have HE : Hid (_ = _) := (HE0.out.trans (if_neg k0)).trans (if_pos k1)
    clear HE0
    have HC : Hid (∀ w1, Below w.heap.size w w1 → Calls Try.prog 64 #[.pointer (some ⟨m, 0, none⟩), dsv x] w1 fun e w' => e = .returned (.tuple #[]) ∧ Hid (MPost m w pv iv (astP F L x s) w')) := by
      intro w1 hb
      refine (x_assert x HX.out (HM.out.same hb) HF.out hL h0 h1).mono ?_
      rintro e w2 ⟨rfl, ha, ho⟩
      exact ⟨rfl, ha, (Onl.of hb m).trans ho⟩
    unfold dsv at HC HAt HAt2
    rw [k1] at HAt HAt2 HC
    clear k0 k1
    go_enter Try.func48, Try.ntmps48
    go_wp2_with fail
    go_region_with (go_at_call 60; first
      | (refine (HAt.out _ (by exact (Below.refl _ _).drew)).mono ?_
         rintro e w1 ⟨rfl, hb1⟩
         have HW1 : Hid (Below w.heap.size w w1) := hb1
         have hl1 : m < w1.heap.size := Nat.lt_of_lt_of_le hlt HW1.out.size
         clear hb1)
      | (refine HAt2.mono ?_
         rintro e w1 ⟨rfl, hb1⟩
         have HW1 : Hid (Below w.heap.size w w1) := hb1.out.1
         have hl1 : m < w1.heap.size := Nat.lt_of_lt_of_le hlt HW1.out.size
         have hz := hb1.out.2
         have hl2 : w.heap.size < w1.heap.size := hz.lt
         have z0 := hz.cell 0
         have z1 := hz.cell 1
         have z2 := hz.cell 2
         have z3 := hz.cell 3
         have z4 := hz.cell 4
         have z5 := hz.cell 5
         have z6 := hz.cell 6
         have z7 := hz.cell 7
         have z8 := hz.cell 8
         have z9 := hz.cell 9
         have zf := hz.free
         simp at z0 z1 z2 z3 z4 z5 z6 z7 z8 z9
         clear hb1 hz))
    all_goals
      go_wp2_with fail
      refine (HC.out _ (by with_reducible (first | exact HW1.out.alloc HW1.out.size _ | exact below10 HW1.out _ _ _ _ _ _ _ _ _ _))).mono ?_
      rintro e w2 ⟨rfl, hp2⟩
      go_wp2_with fail
      go_end0
      exact ⟨rfl, by rw [HE.out]; exact hp2.out.1, hp2.out.2⟩
  · have HE : Hid (_ = _) := (HE0.out.trans (if_neg k0)).trans (if_neg k1)
    clear HE0
    have HC : Hid (∀ w1, Below w.heap.size w w1 → Calls Try.prog 65 #[.pointer (some ⟨m, 0, none⟩), dsv x] w1 fun e w' => e = .returned (.tuple #[]) ∧ Hid (MPost m w pv iv (braP F L x s) w')) := by
      intro w1 hb
      refine (x_branch x HX.out (HM.out.same hb) HF.out hL h0 h1).mono ?_
      rintro e w2 ⟨rfl, ha, ho⟩
      exact ⟨rfl, ha, (Onl.of hb m).trans ho⟩
    unfold dsv at HC HAt HAt2
    have q0 : (x.kind == 0) = false := by simpa using k0
    have q1 : (x.kind == 1) = false := by simpa using k1
    clear k0 k1
    go_enter Try.func48, Try.ntmps48
    go_wp2_with fail
    go_region_with (go_at_call 60; first
      | (refine (HAt.out _ (by exact (Below.refl _ _).drew)).mono ?_
         rintro e w1 ⟨rfl, hb1⟩
         have HW1 : Hid (Below w.heap.size w w1) := hb1
         have hl1 : m < w1.heap.size := Nat.lt_of_lt_of_le hlt HW1.out.size
         clear hb1)
      | (refine HAt2.mono ?_
         rintro e w1 ⟨rfl, hb1⟩
         have HW1 : Hid (Below w.heap.size w w1) := hb1.out.1
         have hl1 : m < w1.heap.size := Nat.lt_of_lt_of_le hlt HW1.out.size
         have hz := hb1.out.2
         have hl2 : w.heap.size < w1.heap.size := hz.lt
         have z0 := hz.cell 0
         have z1 := hz.cell 1
         have z2 := hz.cell 2
         have z3 := hz.cell 3
         have z4 := hz.cell 4
         have z5 := hz.cell 5
         have z6 := hz.cell 6
         have z7 := hz.cell 7
         have z8 := hz.cell 8
         have z9 := hz.cell 9
         have zf := hz.free
         simp at z0 z1 z2 z3 z4 z5 z6 z7 z8 z9
         clear hb1 hz))
    all_goals
      go_wp2_with fail
      refine (HC.out _ (by with_reducible (first | exact HW1.out.alloc HW1.out.size _ | exact below10 HW1.out _ _ _ _ _ _ _ _ _ _))).mono ?_
      rintro e w2 ⟨rfl, hp2⟩
      go_wp2_with fail
      go_end0
      exact ⟨rfl, by rw [HE.out]; exact hp2.out.1, hp2.out.2⟩

end Go.Proofs.Ytffajooegiempaa

namespace Go.Proofs.Ytffajooegiempaa
open Go.RowKit
variable {w : World} {L : List Int} {F : List Ds}

theorem Try.infoN : (Try.prog.info? tN).map (fun i => (i.zero, i.size, i.bytes)) = some (some (.int .i64 0), 1, 8) := by kernel_rfl

/-- What comes out of a run. -/
def RunPost (w : World) (f : Ms) : Ending → World → Prop := fun e w' => ∃ g c, e = .returned (.tuple #[.int .i64 f.st, .int .i64 f.pt, .slice (some ⟨g, 0, none⟩) 4 4]) ∧ w.heap.size ≤ g ∧ At w' g c tN ∧ c.size = 4 ∧ c.toList = [.int .i64 (sgAt f.v 0), .int .i64 (sgAt f.v 1), .int .i64 (sgAt f.v 2), .int .i64 (sgAt f.v 3)] ∧ Below w.heap.size w w'

theorem mrep_first {pv iv : Value} {o : Obj} (hp : PAt w w.heap.size pv F) (hi : Inp w w.heap.size iv L) : MRep ((w.alloc o).alloc (.cells (mCells pv iv ⟨0, 0, 0, [0, 0, 0, 0]⟩) tM)) (w.heap.size + 1) pv iv F L ⟨0, 0, 0, [0, 0, 0, 0]⟩ := by
  have hb : Below w.heap.size w ((w.alloc o).alloc (.cells (mCells pv iv ⟨0, 0, 0, [0, 0, 0, 0]⟩) tM)) := ((Below.refl _ _).alloc (Nat.le_refl _) _).alloc (by simp) _
  refine ⟨?_, ?_, ?_, ⟨rfl, fun i => ?_, Nat.zero_le _⟩⟩
  · have := At.new (w.alloc o) (mCells pv iv ⟨0, 0, 0, [0, 0, 0, 0]⟩) tM
    simpa using this
  · obtain ⟨ao, cap, hv, h0⟩ := hp.keep hb
    exact ⟨ao, cap, hv, fun hn => by obtain ⟨g, h1, h2, h3⟩ := h0 hn; exact ⟨g, h1, by omega, h3⟩⟩
  · obtain ⟨ao, cap, hv, hc, h0⟩ := hi.keep hb
    exact ⟨ao, cap, hv, hc, fun hn => by obtain ⟨b, off, h1, h2, h3⟩ := h0 hn; exact ⟨b, off, h1, by omega, h3⟩⟩
  · have : sgAt [0, 0, 0, 0] i = 0 := by
      unfold sgAt
      match i with
      | 0 | 1 | 2 | 3 => rfl
      | n + 4 => rfl
    show -999 ≤ sgAt [0, 0, 0, 0] i ∧ sgAt [0, 0, 0, 0] i ≤ 999
    omega

set_option maxRecDepth 100000 in
set_option maxHeartbeats 3200000 in
theorem x_run {pv iv : Value} (hp : PAt w w.heap.size pv F) (hi : Inp w w.heap.size iv L) (hF : FOk F) (hL : L.length ≤ 1073741824) (steps : Int) :
    Calls Try.prog 32 #[.agg #[pv], iv, .int .i64 steps] w (RunPost w (finP F L steps)) := by
  obtain ⟨i0, hi0, hz0, hz1, hz2⟩ := info_parts Try.infoN
  have hmk : ∀ w, (Instr.makeSlice 29 (.int .i64 0) (.int .i64 4)).run Try.prog w = .ok (.slice (some ⟨w.heap.size, 0, none⟩) 0 4) (w.alloc (.cells #[.int .i64 0, .int .i64 0, .int .i64 0, .int .i64 0] tN)) := fun _ => by kernel_rfl
  have hix : ∀ (a b c d : Int) (w : World), (Instr.index 77 (.agg #[.int .i64 a, .int .i64 b, .int .i64 c, .int .i64 d]) (.int .i64 0)).run Try.prog w = .ok (.int .i64 a) w ∧ (Instr.index 77 (.agg #[.int .i64 a, .int .i64 b, .int .i64 c, .int .i64 d]) (.int .i64 1)).run Try.prog w = .ok (.int .i64 b) w ∧ (Instr.index 77 (.agg #[.int .i64 a, .int .i64 b, .int .i64 c, .int .i64 d]) (.int .i64 2)).run Try.prog w = .ok (.int .i64 c) w ∧ (Instr.index 77 (.agg #[.int .i64 a, .int .i64 b, .int .i64 c, .int .i64 d]) (.int .i64 3)).run Try.prog w = .ok (.int .i64 d) w := fun _ _ _ _ _ => ⟨by kernel_rfl, by kernel_rfl, by kernel_rfl, by kernel_rfl⟩
  have HM0 : Hid (∀ o, MRep ((w.alloc o).alloc (.cells (mCells pv iv ⟨0, 0, 0, [0, 0, 0, 0]⟩) tM)) (w.heap.size + 1) pv iv F L ⟨0, 0, 0, [0, 0, 0, 0]⟩) := fun o => mrep_first hp hi
  have HB0 : Hid (∀ o o', Below w.heap.size w ((w.alloc o).alloc o')) := fun o o' => ((Below.refl _ _).alloc (Nat.le_refl _) _).alloc (by simp) _
  have HF : Hid (FOk F) := hF
  have HEn : Hid (∀ o w1, w1 = (w.alloc o).alloc (.cells (mCells pv iv ⟨0, 0, 0, [0, 0, 0, 0]⟩) tM) → Calls Try.prog 47 #[.pointer (some ⟨w.heap.size + 1, 0, none⟩), .int .i64 0] w1 fun e w2 => e = .returned (.tuple #[]) ∧ Hid (MRep w2 (w.heap.size + 1) pv iv F L (entP F.length ⟨0, 0, 0, [0, 0, 0, 0]⟩ 0) ∧ Below w.heap.size w w2)) := by
    intro o w1 hw1
    have h1 := HM0.out o
    rw [← hw1] at h1
    have hb := HB0.out o (.cells (mCells pv iv ⟨0, 0, 0, [0, 0, 0, 0]⟩) tM)
    rw [← hw1] at hb
    refine (x_enter h1.at_ h1.prog HF.out.len 0).mono ?_
    rintro e w2 ⟨rfl, ha, ho⟩
    exact ⟨rfl, h1.next ha ho ⟨h1.ok.len, h1.ok.v, h1.ok.used⟩, hb.trans (ho.below (by omega) hb.size)⟩
  have HS : Hid (∀ w1 s, MRep w1 (w.heap.size + 1) pv iv F L s → InR F s → s.st = 0 → Calls Try.prog 48 #[.pointer (some ⟨w.heap.size + 1, 0, none⟩)] w1 fun e w2 => e = .returned (.tuple #[]) ∧ Hid (MRep w2 (w.heap.size + 1) pv iv F L (stpP F L s) ∧ Onl (w.heap.size + 1) w1 w2)) := by
    intro w1 s h1 hr hs
    obtain ⟨q0, q1⟩ := hr hs
    refine (x_step h1 HF.out hL q0 q1).mono ?_
    rintro e w2 ⟨rfl, ha, ho⟩
    exact ⟨rfl, h1.next ha ho (h1.ok.stp HF.out.ds), ho⟩
  obtain ⟨N, hN⟩ : ∃ N : Nat, N = min steps.toNat 2000 := ⟨_, rfl⟩
  have HFin : Hid (finP F L steps = runP F L N (entP F.length ⟨0, 0, 0, [0, 0, 0, 0]⟩ 0)) := by show finP F L steps = _; rw [hN]; rfl
  have hN1 : N ≤ 2000 := by omega
  have hN2 : 0 < N → (N : Int) ≤ steps := by omega
  have hN3 : N < 2000 → steps ≤ N := by omega
  obtain ⟨pa, pcap, rfl, -⟩ := hp
  obtain ⟨ia, icap, rfl, -, -⟩ := hi
  clear hN hF
  generalize finP F L steps = fin at *
  unfold mCells at HEn
  go_enter Try.func32, Try.ntmps32
  go_wp2_with fail
  refine (HEn.out _ _ rfl).mono ?_
  rintro e w2 ⟨rfl, hm2⟩
  go_wp2_with fail
  go_loopw [10] (fun i wr => ∃ (j : Nat) (s : Ms), j ≤ N ∧ i = .int .i64 j ∧ Hid (MRep wr (w.heap.size + 1) (.slice pa F.length pcap) (.slice ia L.length icap) F L s ∧ Below w.heap.size w wr ∧ InR F s ∧ fin = runP F L (N - j) s)) (fun i _ => N - (intOf i).toNat)
  case atStart => exact ⟨0, _, Nat.zero_le _, rfl, hm2.out.1, hm2.out.2, InR.ent _ (by omega) (by omega), HFin.out⟩
  case round =>
    obtain ⟨j, s, hj, rfl, HR⟩ := hrel
    obtain ⟨c0, c1, c2, c3, c4, c5, c6, c7, c8, cf⟩ := mcells HR.out.1.at_
    have hltm := HR.out.1.at_.lt
    have hszw := HR.out.2.1.size
    by_cases hgo : j < N ∧ s.st = 0
    · obtain ⟨hjN, hst⟩ := hgo
      rw [hst] at c3
      have hj1 : (j : Int) < steps := by omega
      have hj2 : (j : Int) < 2000 := by omega
      have hstep := HS.out wr s HR.out.1 HR.out.2.2.1 hst
      have HN : Hid (fin = runP F L (N - (j + 1)) (stpP F L s)) := by
        show fin = _
        rw [HR.out.2.2.2, show N - j = (N - (j + 1)) + 1 by omega, runP, if_pos hst]
      clear c0 c1 c2 c4 c5 c6 c7 c8
      go_wp2_with fail
      refine hstep.mono ?_
      rintro e w3 ⟨rfl, hm3⟩
      go_wp2_with fail
      go_roundw
      case rel => exact ⟨j + 1, _, by omega, by go_num, hm3.out.1, HR.out.2.1.trans (hm3.out.2.below (by omega) hszw), HR.out.2.2.1.stp, HN.out⟩
      case measure => simp [intOf]; omega
    · have HFi : Hid (fin = s) := by
        show fin = s
        rw [HR.out.2.2.2]
        cases hq : N - j with
        | zero => rfl
        | succ q => rw [runP, if_neg (fun e => hgo ⟨by omega, e⟩)]
      obtain ⟨w4, rfl⟩ : ∃ w4, w4 = wr := ⟨_, rfl⟩
      have hms := hltm
      have HMs : Hid (At w4 (w.heap.size + 1) _ tM) := HR.out.1.at_
      have HBw : Hid (Below w.heap.size w w4) := HR.out.2.1
      have hown0 := World.ownsRow_made (base := w4.heap.size) (e := tN) (size := 1) w4 #[.int .i64 0, .int .i64 0, .int .i64 0, .int .i64 0] 4 (Nat.le_refl _) (by decide) rfl
      have HOw : Hid (World.ownsRow _ _ _ _ _ _ _) := hown0
      clear hown0
      by_cases hj1 : (j : Int) < steps
      · by_cases hj2 : (j : Int) < 2000
        · have hst : s.st ≠ 0 := fun e => hgo ⟨by omega, e⟩
          have hsb : (s.st == 0) = false := by simpa using hst
          clear hgo hst
          go_wp2_with fail
          go_loopw [11, 36] (fun sl i wr => ∃ (q : Nat), q ≤ 4 ∧ i = .int .i64 q ∧ sl = .slice (some ⟨w4.heap.size, 0, none⟩) q 4 ∧ Hid (wr.ownsRow w4.heap.size tN 1 (.slice (some ⟨w4.heap.size, 0, none⟩) q 4) q ([.int .i64 (sgAt s.v 0), .int .i64 (sgAt s.v 1), .int .i64 (sgAt s.v 2), .int .i64 (sgAt s.v 3)].take q) ∧ Below w4.heap.size w4 wr)) (fun _ i _ => 4 - (intOf i).toNat)
          case atStart => exact ⟨0, by omega, rfl, rfl, HOw.out, (Below.refl _ _).alloc (Nat.le_refl _) _⟩
          case round =>
            obtain ⟨q, hq, rfl, rfl, HQ⟩ := hrel
            rcases (show q = 0 ∨ q = 1 ∨ q = 2 ∨ q = 3 ∨ q = 4 by omega) with rfl | rfl | rfl | rfl | rfl
            · have b2 : wr.cell? ⟨w.heap.size + 1, 3, none⟩ = some (.int .i64 s.st) := (HQ.out.2.cell (by exact hms)).trans c3
              obtain ⟨x0, x1, x2, x3⟩ := hix (sgAt s.v 0) (sgAt s.v 1) (sgAt s.v 2) (sgAt s.v 3) wr
              have y0 : (Instr.index 77 (.agg #[.int .i64 (sgAt s.v 0), .int .i64 (sgAt s.v 1), .int .i64 (sgAt s.v 2), .int .i64 (sgAt s.v 3)]) (.int .i64 ((0 : Nat) : Int))).run Try.prog wr = .ok (.int .i64 (sgAt s.v 0)) wr := x0
              have y1 : (Instr.index 77 (.agg #[.int .i64 (sgAt s.v 0), .int .i64 (sgAt s.v 1), .int .i64 (sgAt s.v 2), .int .i64 (sgAt s.v 3)]) (.int .i64 ((1 : Nat) : Int))).run Try.prog wr = .ok (.int .i64 (sgAt s.v 1)) wr := x1
              have y2 : (Instr.index 77 (.agg #[.int .i64 (sgAt s.v 0), .int .i64 (sgAt s.v 1), .int .i64 (sgAt s.v 2), .int .i64 (sgAt s.v 3)]) (.int .i64 ((2 : Nat) : Int))).run Try.prog wr = .ok (.int .i64 (sgAt s.v 2)) wr := x2
              have y3 : (Instr.index 77 (.agg #[.int .i64 (sgAt s.v 0), .int .i64 (sgAt s.v 1), .int .i64 (sgAt s.v 2), .int .i64 (sgAt s.v 3)]) (.int .i64 ((3 : Nat) : Int))).run Try.prog wr = .ok (.int .i64 (sgAt s.v 3)) wr := x3
              go_wp2_with (at_builtin; refine wpList_append_fits _ rfl (.tmp 39) (.tmp 41) 29 rfl w4.heap.size tN i0 1 Try.underlying29 hi0 hz1 w4.heap.size 0 4 _ rfl (HQ.out.1.alloc _) ⟨wr.heap.size, 0, none⟩ 1 1 [.int .i64 (sgAt s.v 0)] rfl rfl (by intro t u ht; match t, ht with | 0, ht => simp at ht; subst ht; exact World.cell?_alloc_at _ _ _ _ rfl) (by intro u hu; simp at hu; subst hu; rfl) (by omega) ?_; intro w5 hown5 hgrow5)
              go_roundw
              case rel => exact ⟨0 + 1, by omega, rfl, rfl, hown5, (HQ.out.2.alloc HQ.out.2.size _).grown hgrow5 (by have := HQ.out.2.size; simp; omega) (fun k hk => by cases hk; exact Nat.le_refl _)⟩
              case measure => simp [intOf]
            · have b2 : wr.cell? ⟨w.heap.size + 1, 3, none⟩ = some (.int .i64 s.st) := (HQ.out.2.cell (by exact hms)).trans c3
              obtain ⟨x0, x1, x2, x3⟩ := hix (sgAt s.v 0) (sgAt s.v 1) (sgAt s.v 2) (sgAt s.v 3) wr
              have y0 : (Instr.index 77 (.agg #[.int .i64 (sgAt s.v 0), .int .i64 (sgAt s.v 1), .int .i64 (sgAt s.v 2), .int .i64 (sgAt s.v 3)]) (.int .i64 ((0 : Nat) : Int))).run Try.prog wr = .ok (.int .i64 (sgAt s.v 0)) wr := x0
              have y1 : (Instr.index 77 (.agg #[.int .i64 (sgAt s.v 0), .int .i64 (sgAt s.v 1), .int .i64 (sgAt s.v 2), .int .i64 (sgAt s.v 3)]) (.int .i64 ((1 : Nat) : Int))).run Try.prog wr = .ok (.int .i64 (sgAt s.v 1)) wr := x1
              have y2 : (Instr.index 77 (.agg #[.int .i64 (sgAt s.v 0), .int .i64 (sgAt s.v 1), .int .i64 (sgAt s.v 2), .int .i64 (sgAt s.v 3)]) (.int .i64 ((2 : Nat) : Int))).run Try.prog wr = .ok (.int .i64 (sgAt s.v 2)) wr := x2
              have y3 : (Instr.index 77 (.agg #[.int .i64 (sgAt s.v 0), .int .i64 (sgAt s.v 1), .int .i64 (sgAt s.v 2), .int .i64 (sgAt s.v 3)]) (.int .i64 ((3 : Nat) : Int))).run Try.prog wr = .ok (.int .i64 (sgAt s.v 3)) wr := x3
              go_wp2_with (at_builtin; refine wpList_append_fits _ rfl (.tmp 39) (.tmp 41) 29 rfl w4.heap.size tN i0 1 Try.underlying29 hi0 hz1 w4.heap.size 1 4 _ rfl (HQ.out.1.alloc _) ⟨wr.heap.size, 0, none⟩ 1 1 [.int .i64 (sgAt s.v 1)] rfl rfl (by intro t u ht; match t, ht with | 0, ht => simp at ht; subst ht; exact World.cell?_alloc_at _ _ _ _ rfl) (by intro u hu; simp at hu; subst hu; rfl) (by omega) ?_; intro w5 hown5 hgrow5)
              go_roundw
              case rel => exact ⟨1 + 1, by omega, rfl, rfl, hown5, (HQ.out.2.alloc HQ.out.2.size _).grown hgrow5 (by have := HQ.out.2.size; simp; omega) (fun k hk => by cases hk; exact Nat.le_refl _)⟩
              case measure => simp [intOf]
            · have b2 : wr.cell? ⟨w.heap.size + 1, 3, none⟩ = some (.int .i64 s.st) := (HQ.out.2.cell (by exact hms)).trans c3
              obtain ⟨x0, x1, x2, x3⟩ := hix (sgAt s.v 0) (sgAt s.v 1) (sgAt s.v 2) (sgAt s.v 3) wr
              have y0 : (Instr.index 77 (.agg #[.int .i64 (sgAt s.v 0), .int .i64 (sgAt s.v 1), .int .i64 (sgAt s.v 2), .int .i64 (sgAt s.v 3)]) (.int .i64 ((0 : Nat) : Int))).run Try.prog wr = .ok (.int .i64 (sgAt s.v 0)) wr := x0
              have y1 : (Instr.index 77 (.agg #[.int .i64 (sgAt s.v 0), .int .i64 (sgAt s.v 1), .int .i64 (sgAt s.v 2), .int .i64 (sgAt s.v 3)]) (.int .i64 ((1 : Nat) : Int))).run Try.prog wr = .ok (.int .i64 (sgAt s.v 1)) wr := x1
              have y2 : (Instr.index 77 (.agg #[.int .i64 (sgAt s.v 0), .int .i64 (sgAt s.v 1), .int .i64 (sgAt s.v 2), .int .i64 (sgAt s.v 3)]) (.int .i64 ((2 : Nat) : Int))).run Try.prog wr = .ok (.int .i64 (sgAt s.v 2)) wr := x2
              have y3 : (Instr.index 77 (.agg #[.int .i64 (sgAt s.v 0), .int .i64 (sgAt s.v 1), .int .i64 (sgAt s.v 2), .int .i64 (sgAt s.v 3)]) (.int .i64 ((3 : Nat) : Int))).run Try.prog wr = .ok (.int .i64 (sgAt s.v 3)) wr := x3
              go_wp2_with (at_builtin; refine wpList_append_fits _ rfl (.tmp 39) (.tmp 41) 29 rfl w4.heap.size tN i0 1 Try.underlying29 hi0 hz1 w4.heap.size 2 4 _ rfl (HQ.out.1.alloc _) ⟨wr.heap.size, 0, none⟩ 1 1 [.int .i64 (sgAt s.v 2)] rfl rfl (by intro t u ht; match t, ht with | 0, ht => simp at ht; subst ht; exact World.cell?_alloc_at _ _ _ _ rfl) (by intro u hu; simp at hu; subst hu; rfl) (by omega) ?_; intro w5 hown5 hgrow5)
              go_roundw
              case rel => exact ⟨2 + 1, by omega, rfl, rfl, hown5, (HQ.out.2.alloc HQ.out.2.size _).grown hgrow5 (by have := HQ.out.2.size; simp; omega) (fun k hk => by cases hk; exact Nat.le_refl _)⟩
              case measure => simp [intOf]
            · have b2 : wr.cell? ⟨w.heap.size + 1, 3, none⟩ = some (.int .i64 s.st) := (HQ.out.2.cell (by exact hms)).trans c3
              obtain ⟨x0, x1, x2, x3⟩ := hix (sgAt s.v 0) (sgAt s.v 1) (sgAt s.v 2) (sgAt s.v 3) wr
              have y0 : (Instr.index 77 (.agg #[.int .i64 (sgAt s.v 0), .int .i64 (sgAt s.v 1), .int .i64 (sgAt s.v 2), .int .i64 (sgAt s.v 3)]) (.int .i64 ((0 : Nat) : Int))).run Try.prog wr = .ok (.int .i64 (sgAt s.v 0)) wr := x0
              have y1 : (Instr.index 77 (.agg #[.int .i64 (sgAt s.v 0), .int .i64 (sgAt s.v 1), .int .i64 (sgAt s.v 2), .int .i64 (sgAt s.v 3)]) (.int .i64 ((1 : Nat) : Int))).run Try.prog wr = .ok (.int .i64 (sgAt s.v 1)) wr := x1
              have y2 : (Instr.index 77 (.agg #[.int .i64 (sgAt s.v 0), .int .i64 (sgAt s.v 1), .int .i64 (sgAt s.v 2), .int .i64 (sgAt s.v 3)]) (.int .i64 ((2 : Nat) : Int))).run Try.prog wr = .ok (.int .i64 (sgAt s.v 2)) wr := x2
              have y3 : (Instr.index 77 (.agg #[.int .i64 (sgAt s.v 0), .int .i64 (sgAt s.v 1), .int .i64 (sgAt s.v 2), .int .i64 (sgAt s.v 3)]) (.int .i64 ((3 : Nat) : Int))).run Try.prog wr = .ok (.int .i64 (sgAt s.v 3)) wr := x3
              go_wp2_with (at_builtin; refine wpList_append_fits _ rfl (.tmp 39) (.tmp 41) 29 rfl w4.heap.size tN i0 1 Try.underlying29 hi0 hz1 w4.heap.size 3 4 _ rfl (HQ.out.1.alloc _) ⟨wr.heap.size, 0, none⟩ 1 1 [.int .i64 (sgAt s.v 3)] rfl rfl (by intro t u ht; match t, ht with | 0, ht => simp at ht; subst ht; exact World.cell?_alloc_at _ _ _ _ rfl) (by intro u hu; simp at hu; subst hu; rfl) (by omega) ?_; intro w5 hown5 hgrow5)
              go_roundw
              case rel => exact ⟨3 + 1, by omega, rfl, rfl, hown5, (HQ.out.2.alloc HQ.out.2.size _).grown hgrow5 (by have := HQ.out.2.size; simp; omega) (fun k hk => by cases hk; exact Nat.le_refl _)⟩
              case measure => simp [intOf]
            · have b3 : wr.cell? ⟨w.heap.size + 1, 3, none⟩ = some (.int .i64 s.st) := (HQ.out.2.cell (by exact hms)).trans c3
              have b4 : wr.cell? ⟨w.heap.size + 1, 4, none⟩ = some (.int .i64 s.pt) := (HQ.out.2.cell (by exact hms)).trans c4
              go_wp2_with fail
              go_quiet (fail)
              go_wp2_with fail
              go_ret3
              obtain ⟨⟨_, hrow⟩, hbq⟩ := HQ.out
              rcases hrow with ⟨e, _⟩ | ⟨g, cap, cur, e, hg, hh, hn4, hc4, hsz, htk⟩
              · cases e
              · cases e
                refine ⟨_, cur, by rw [HFi.out]; rfl, HBw.out.size, At.drewN hh _, by omega, ?_, below_drewN (HBw.out.trans (hbq.mono HBw.out.size)) _⟩
                rw [HFi.out]
                rw [← List.take_of_length_le (l := cur.toList) (i := 4 * 1) (by simp; omega), htk]
                rfl
        · clear hgo
          go_wp2_with fail
          go_loopw [11, 36] (fun sl i wr => ∃ (q : Nat), q ≤ 4 ∧ i = .int .i64 q ∧ sl = .slice (some ⟨w4.heap.size, 0, none⟩) q 4 ∧ Hid (wr.ownsRow w4.heap.size tN 1 (.slice (some ⟨w4.heap.size, 0, none⟩) q 4) q ([.int .i64 (sgAt s.v 0), .int .i64 (sgAt s.v 1), .int .i64 (sgAt s.v 2), .int .i64 (sgAt s.v 3)].take q) ∧ Below w4.heap.size w4 wr)) (fun _ i _ => 4 - (intOf i).toNat)
          case atStart => exact ⟨0, by omega, rfl, rfl, HOw.out, (Below.refl _ _).alloc (Nat.le_refl _) _⟩
          case round =>
            obtain ⟨q, hq, rfl, rfl, HQ⟩ := hrel
            rcases (show q = 0 ∨ q = 1 ∨ q = 2 ∨ q = 3 ∨ q = 4 by omega) with rfl | rfl | rfl | rfl | rfl
            · have b2 : wr.cell? ⟨w.heap.size + 1, 3, none⟩ = some (.int .i64 s.st) := (HQ.out.2.cell (by exact hms)).trans c3
              obtain ⟨x0, x1, x2, x3⟩ := hix (sgAt s.v 0) (sgAt s.v 1) (sgAt s.v 2) (sgAt s.v 3) wr
              have y0 : (Instr.index 77 (.agg #[.int .i64 (sgAt s.v 0), .int .i64 (sgAt s.v 1), .int .i64 (sgAt s.v 2), .int .i64 (sgAt s.v 3)]) (.int .i64 ((0 : Nat) : Int))).run Try.prog wr = .ok (.int .i64 (sgAt s.v 0)) wr := x0
              have y1 : (Instr.index 77 (.agg #[.int .i64 (sgAt s.v 0), .int .i64 (sgAt s.v 1), .int .i64 (sgAt s.v 2), .int .i64 (sgAt s.v 3)]) (.int .i64 ((1 : Nat) : Int))).run Try.prog wr = .ok (.int .i64 (sgAt s.v 1)) wr := x1
              have y2 : (Instr.index 77 (.agg #[.int .i64 (sgAt s.v 0), .int .i64 (sgAt s.v 1), .int .i64 (sgAt s.v 2), .int .i64 (sgAt s.v 3)]) (.int .i64 ((2 : Nat) : Int))).run Try.prog wr = .ok (.int .i64 (sgAt s.v 2)) wr := x2
              have y3 : (Instr.index 77 (.agg #[.int .i64 (sgAt s.v 0), .int .i64 (sgAt s.v 1), .int .i64 (sgAt s.v 2), .int .i64 (sgAt s.v 3)]) (.int .i64 ((3 : Nat) : Int))).run Try.prog wr = .ok (.int .i64 (sgAt s.v 3)) wr := x3
              go_wp2_with (at_builtin; refine wpList_append_fits _ rfl (.tmp 39) (.tmp 41) 29 rfl w4.heap.size tN i0 1 Try.underlying29 hi0 hz1 w4.heap.size 0 4 _ rfl (HQ.out.1.alloc _) ⟨wr.heap.size, 0, none⟩ 1 1 [.int .i64 (sgAt s.v 0)] rfl rfl (by intro t u ht; match t, ht with | 0, ht => simp at ht; subst ht; exact World.cell?_alloc_at _ _ _ _ rfl) (by intro u hu; simp at hu; subst hu; rfl) (by omega) ?_; intro w5 hown5 hgrow5)
              go_roundw
              case rel => exact ⟨0 + 1, by omega, rfl, rfl, hown5, (HQ.out.2.alloc HQ.out.2.size _).grown hgrow5 (by have := HQ.out.2.size; simp; omega) (fun k hk => by cases hk; exact Nat.le_refl _)⟩
              case measure => simp [intOf]
            · have b2 : wr.cell? ⟨w.heap.size + 1, 3, none⟩ = some (.int .i64 s.st) := (HQ.out.2.cell (by exact hms)).trans c3
              obtain ⟨x0, x1, x2, x3⟩ := hix (sgAt s.v 0) (sgAt s.v 1) (sgAt s.v 2) (sgAt s.v 3) wr
              have y0 : (Instr.index 77 (.agg #[.int .i64 (sgAt s.v 0), .int .i64 (sgAt s.v 1), .int .i64 (sgAt s.v 2), .int .i64 (sgAt s.v 3)]) (.int .i64 ((0 : Nat) : Int))).run Try.prog wr = .ok (.int .i64 (sgAt s.v 0)) wr := x0
              have y1 : (Instr.index 77 (.agg #[.int .i64 (sgAt s.v 0), .int .i64 (sgAt s.v 1), .int .i64 (sgAt s.v 2), .int .i64 (sgAt s.v 3)]) (.int .i64 ((1 : Nat) : Int))).run Try.prog wr = .ok (.int .i64 (sgAt s.v 1)) wr := x1
              have y2 : (Instr.index 77 (.agg #[.int .i64 (sgAt s.v 0), .int .i64 (sgAt s.v 1), .int .i64 (sgAt s.v 2), .int .i64 (sgAt s.v 3)]) (.int .i64 ((2 : Nat) : Int))).run Try.prog wr = .ok (.int .i64 (sgAt s.v 2)) wr := x2
              have y3 : (Instr.index 77 (.agg #[.int .i64 (sgAt s.v 0), .int .i64 (sgAt s.v 1), .int .i64 (sgAt s.v 2), .int .i64 (sgAt s.v 3)]) (.int .i64 ((3 : Nat) : Int))).run Try.prog wr = .ok (.int .i64 (sgAt s.v 3)) wr := x3
              go_wp2_with (at_builtin; refine wpList_append_fits _ rfl (.tmp 39) (.tmp 41) 29 rfl w4.heap.size tN i0 1 Try.underlying29 hi0 hz1 w4.heap.size 1 4 _ rfl (HQ.out.1.alloc _) ⟨wr.heap.size, 0, none⟩ 1 1 [.int .i64 (sgAt s.v 1)] rfl rfl (by intro t u ht; match t, ht with | 0, ht => simp at ht; subst ht; exact World.cell?_alloc_at _ _ _ _ rfl) (by intro u hu; simp at hu; subst hu; rfl) (by omega) ?_; intro w5 hown5 hgrow5)
              go_roundw
              case rel => exact ⟨1 + 1, by omega, rfl, rfl, hown5, (HQ.out.2.alloc HQ.out.2.size _).grown hgrow5 (by have := HQ.out.2.size; simp; omega) (fun k hk => by cases hk; exact Nat.le_refl _)⟩
              case measure => simp [intOf]
            · have b2 : wr.cell? ⟨w.heap.size + 1, 3, none⟩ = some (.int .i64 s.st) := (HQ.out.2.cell (by exact hms)).trans c3
              obtain ⟨x0, x1, x2, x3⟩ := hix (sgAt s.v 0) (sgAt s.v 1) (sgAt s.v 2) (sgAt s.v 3) wr
              have y0 : (Instr.index 77 (.agg #[.int .i64 (sgAt s.v 0), .int .i64 (sgAt s.v 1), .int .i64 (sgAt s.v 2), .int .i64 (sgAt s.v 3)]) (.int .i64 ((0 : Nat) : Int))).run Try.prog wr = .ok (.int .i64 (sgAt s.v 0)) wr := x0
              have y1 : (Instr.index 77 (.agg #[.int .i64 (sgAt s.v 0), .int .i64 (sgAt s.v 1), .int .i64 (sgAt s.v 2), .int .i64 (sgAt s.v 3)]) (.int .i64 ((1 : Nat) : Int))).run Try.prog wr = .ok (.int .i64 (sgAt s.v 1)) wr := x1
              have y2 : (Instr.index 77 (.agg #[.int .i64 (sgAt s.v 0), .int .i64 (sgAt s.v 1), .int .i64 (sgAt s.v 2), .int .i64 (sgAt s.v 3)]) (.int .i64 ((2 : Nat) : Int))).run Try.prog wr = .ok (.int .i64 (sgAt s.v 2)) wr := x2
              have y3 : (Instr.index 77 (.agg #[.int .i64 (sgAt s.v 0), .int .i64 (sgAt s.v 1), .int .i64 (sgAt s.v 2), .int .i64 (sgAt s.v 3)]) (.int .i64 ((3 : Nat) : Int))).run Try.prog wr = .ok (.int .i64 (sgAt s.v 3)) wr := x3
              go_wp2_with (at_builtin; refine wpList_append_fits _ rfl (.tmp 39) (.tmp 41) 29 rfl w4.heap.size tN i0 1 Try.underlying29 hi0 hz1 w4.heap.size 2 4 _ rfl (HQ.out.1.alloc _) ⟨wr.heap.size, 0, none⟩ 1 1 [.int .i64 (sgAt s.v 2)] rfl rfl (by intro t u ht; match t, ht with | 0, ht => simp at ht; subst ht; exact World.cell?_alloc_at _ _ _ _ rfl) (by intro u hu; simp at hu; subst hu; rfl) (by omega) ?_; intro w5 hown5 hgrow5)
              go_roundw
              case rel => exact ⟨2 + 1, by omega, rfl, rfl, hown5, (HQ.out.2.alloc HQ.out.2.size _).grown hgrow5 (by have := HQ.out.2.size; simp; omega) (fun k hk => by cases hk; exact Nat.le_refl _)⟩
              case measure => simp [intOf]
            · have b2 : wr.cell? ⟨w.heap.size + 1, 3, none⟩ = some (.int .i64 s.st) := (HQ.out.2.cell (by exact hms)).trans c3
              obtain ⟨x0, x1, x2, x3⟩ := hix (sgAt s.v 0) (sgAt s.v 1) (sgAt s.v 2) (sgAt s.v 3) wr
              have y0 : (Instr.index 77 (.agg #[.int .i64 (sgAt s.v 0), .int .i64 (sgAt s.v 1), .int .i64 (sgAt s.v 2), .int .i64 (sgAt s.v 3)]) (.int .i64 ((0 : Nat) : Int))).run Try.prog wr = .ok (.int .i64 (sgAt s.v 0)) wr := x0
              have y1 : (Instr.index 77 (.agg #[.int .i64 (sgAt s.v 0), .int .i64 (sgAt s.v 1), .int .i64 (sgAt s.v 2), .int .i64 (sgAt s.v 3)]) (.int .i64 ((1 : Nat) : Int))).run Try.prog wr = .ok (.int .i64 (sgAt s.v 1)) wr := x1
              have y2 : (Instr.index 77 (.agg #[.int .i64 (sgAt s.v 0), .int .i64 (sgAt s.v 1), .int .i64 (sgAt s.v 2), .int .i64 (sgAt s.v 3)]) (.int .i64 ((2 : Nat) : Int))).run Try.prog wr = .ok (.int .i64 (sgAt s.v 2)) wr := x2
              have y3 : (Instr.index 77 (.agg #[.int .i64 (sgAt s.v 0), .int .i64 (sgAt s.v 1), .int .i64 (sgAt s.v 2), .int .i64 (sgAt s.v 3)]) (.int .i64 ((3 : Nat) : Int))).run Try.prog wr = .ok (.int .i64 (sgAt s.v 3)) wr := x3
              go_wp2_with (at_builtin; refine wpList_append_fits _ rfl (.tmp 39) (.tmp 41) 29 rfl w4.heap.size tN i0 1 Try.underlying29 hi0 hz1 w4.heap.size 3 4 _ rfl (HQ.out.1.alloc _) ⟨wr.heap.size, 0, none⟩ 1 1 [.int .i64 (sgAt s.v 3)] rfl rfl (by intro t u ht; match t, ht with | 0, ht => simp at ht; subst ht; exact World.cell?_alloc_at _ _ _ _ rfl) (by intro u hu; simp at hu; subst hu; rfl) (by omega) ?_; intro w5 hown5 hgrow5)
              go_roundw
              case rel => exact ⟨3 + 1, by omega, rfl, rfl, hown5, (HQ.out.2.alloc HQ.out.2.size _).grown hgrow5 (by have := HQ.out.2.size; simp; omega) (fun k hk => by cases hk; exact Nat.le_refl _)⟩
              case measure => simp [intOf]
            · have b3 : wr.cell? ⟨w.heap.size + 1, 3, none⟩ = some (.int .i64 s.st) := (HQ.out.2.cell (by exact hms)).trans c3
              have b4 : wr.cell? ⟨w.heap.size + 1, 4, none⟩ = some (.int .i64 s.pt) := (HQ.out.2.cell (by exact hms)).trans c4
              go_wp2_with fail
              go_quiet (fail)
              go_wp2_with fail
              go_ret3
              obtain ⟨⟨_, hrow⟩, hbq⟩ := HQ.out
              rcases hrow with ⟨e, _⟩ | ⟨g, cap, cur, e, hg, hh, hn4, hc4, hsz, htk⟩
              · cases e
              · cases e
                refine ⟨_, cur, by rw [HFi.out]; rfl, HBw.out.size, At.drewN hh _, by omega, ?_, below_drewN (HBw.out.trans (hbq.mono HBw.out.size)) _⟩
                rw [HFi.out]
                rw [← List.take_of_length_le (l := cur.toList) (i := 4 * 1) (by simp; omega), htk]
                rfl
      · clear hgo
        go_wp2_with fail
        go_loopw [11, 36] (fun sl i wr => ∃ (q : Nat), q ≤ 4 ∧ i = .int .i64 q ∧ sl = .slice (some ⟨w4.heap.size, 0, none⟩) q 4 ∧ Hid (wr.ownsRow w4.heap.size tN 1 (.slice (some ⟨w4.heap.size, 0, none⟩) q 4) q ([.int .i64 (sgAt s.v 0), .int .i64 (sgAt s.v 1), .int .i64 (sgAt s.v 2), .int .i64 (sgAt s.v 3)].take q) ∧ Below w4.heap.size w4 wr)) (fun _ i _ => 4 - (intOf i).toNat)
        case atStart => exact ⟨0, by omega, rfl, rfl, HOw.out, (Below.refl _ _).alloc (Nat.le_refl _) _⟩
        case round =>
          obtain ⟨q, hq, rfl, rfl, HQ⟩ := hrel
          rcases (show q = 0 ∨ q = 1 ∨ q = 2 ∨ q = 3 ∨ q = 4 by omega) with rfl | rfl | rfl | rfl | rfl
          · have b2 : wr.cell? ⟨w.heap.size + 1, 3, none⟩ = some (.int .i64 s.st) := (HQ.out.2.cell (by exact hms)).trans c3
            obtain ⟨x0, x1, x2, x3⟩ := hix (sgAt s.v 0) (sgAt s.v 1) (sgAt s.v 2) (sgAt s.v 3) wr
            have y0 : (Instr.index 77 (.agg #[.int .i64 (sgAt s.v 0), .int .i64 (sgAt s.v 1), .int .i64 (sgAt s.v 2), .int .i64 (sgAt s.v 3)]) (.int .i64 ((0 : Nat) : Int))).run Try.prog wr = .ok (.int .i64 (sgAt s.v 0)) wr := x0
            have y1 : (Instr.index 77 (.agg #[.int .i64 (sgAt s.v 0), .int .i64 (sgAt s.v 1), .int .i64 (sgAt s.v 2), .int .i64 (sgAt s.v 3)]) (.int .i64 ((1 : Nat) : Int))).run Try.prog wr = .ok (.int .i64 (sgAt s.v 1)) wr := x1
            have y2 : (Instr.index 77 (.agg #[.int .i64 (sgAt s.v 0), .int .i64 (sgAt s.v 1), .int .i64 (sgAt s.v 2), .int .i64 (sgAt s.v 3)]) (.int .i64 ((2 : Nat) : Int))).run Try.prog wr = .ok (.int .i64 (sgAt s.v 2)) wr := x2
            have y3 : (Instr.index 77 (.agg #[.int .i64 (sgAt s.v 0), .int .i64 (sgAt s.v 1), .int .i64 (sgAt s.v 2), .int .i64 (sgAt s.v 3)]) (.int .i64 ((3 : Nat) : Int))).run Try.prog wr = .ok (.int .i64 (sgAt s.v 3)) wr := x3
            go_wp2_with (at_builtin; refine wpList_append_fits _ rfl (.tmp 39) (.tmp 41) 29 rfl w4.heap.size tN i0 1 Try.underlying29 hi0 hz1 w4.heap.size 0 4 _ rfl (HQ.out.1.alloc _) ⟨wr.heap.size, 0, none⟩ 1 1 [.int .i64 (sgAt s.v 0)] rfl rfl (by intro t u ht; match t, ht with | 0, ht => simp at ht; subst ht; exact World.cell?_alloc_at _ _ _ _ rfl) (by intro u hu; simp at hu; subst hu; rfl) (by omega) ?_; intro w5 hown5 hgrow5)
            go_roundw
            case rel => exact ⟨0 + 1, by omega, rfl, rfl, hown5, (HQ.out.2.alloc HQ.out.2.size _).grown hgrow5 (by have := HQ.out.2.size; simp; omega) (fun k hk => by cases hk; exact Nat.le_refl _)⟩
            case measure => simp [intOf]
          · have b2 : wr.cell? ⟨w.heap.size + 1, 3, none⟩ = some (.int .i64 s.st) := (HQ.out.2.cell (by exact hms)).trans c3
            obtain ⟨x0, x1, x2, x3⟩ := hix (sgAt s.v 0) (sgAt s.v 1) (sgAt s.v 2) (sgAt s.v 3) wr
            have y0 : (Instr.index 77 (.agg #[.int .i64 (sgAt s.v 0), .int .i64 (sgAt s.v 1), .int .i64 (sgAt s.v 2), .int .i64 (sgAt s.v 3)]) (.int .i64 ((0 : Nat) : Int))).run Try.prog wr = .ok (.int .i64 (sgAt s.v 0)) wr := x0
            have y1 : (Instr.index 77 (.agg #[.int .i64 (sgAt s.v 0), .int .i64 (sgAt s.v 1), .int .i64 (sgAt s.v 2), .int .i64 (sgAt s.v 3)]) (.int .i64 ((1 : Nat) : Int))).run Try.prog wr = .ok (.int .i64 (sgAt s.v 1)) wr := x1
            have y2 : (Instr.index 77 (.agg #[.int .i64 (sgAt s.v 0), .int .i64 (sgAt s.v 1), .int .i64 (sgAt s.v 2), .int .i64 (sgAt s.v 3)]) (.int .i64 ((2 : Nat) : Int))).run Try.prog wr = .ok (.int .i64 (sgAt s.v 2)) wr := x2
            have y3 : (Instr.index 77 (.agg #[.int .i64 (sgAt s.v 0), .int .i64 (sgAt s.v 1), .int .i64 (sgAt s.v 2), .int .i64 (sgAt s.v 3)]) (.int .i64 ((3 : Nat) : Int))).run Try.prog wr = .ok (.int .i64 (sgAt s.v 3)) wr := x3
            go_wp2_with (at_builtin; refine wpList_append_fits _ rfl (.tmp 39) (.tmp 41) 29 rfl w4.heap.size tN i0 1 Try.underlying29 hi0 hz1 w4.heap.size 1 4 _ rfl (HQ.out.1.alloc _) ⟨wr.heap.size, 0, none⟩ 1 1 [.int .i64 (sgAt s.v 1)] rfl rfl (by intro t u ht; match t, ht with | 0, ht => simp at ht; subst ht; exact World.cell?_alloc_at _ _ _ _ rfl) (by intro u hu; simp at hu; subst hu; rfl) (by omega) ?_; intro w5 hown5 hgrow5)
            go_roundw
            case rel => exact ⟨1 + 1, by omega, rfl, rfl, hown5, (HQ.out.2.alloc HQ.out.2.size _).grown hgrow5 (by have := HQ.out.2.size; simp; omega) (fun k hk => by cases hk; exact Nat.le_refl _)⟩
            case measure => simp [intOf]
          · have b2 : wr.cell? ⟨w.heap.size + 1, 3, none⟩ = some (.int .i64 s.st) := (HQ.out.2.cell (by exact hms)).trans c3
            obtain ⟨x0, x1, x2, x3⟩ := hix (sgAt s.v 0) (sgAt s.v 1) (sgAt s.v 2) (sgAt s.v 3) wr
            have y0 : (Instr.index 77 (.agg #[.int .i64 (sgAt s.v 0), .int .i64 (sgAt s.v 1), .int .i64 (sgAt s.v 2), .int .i64 (sgAt s.v 3)]) (.int .i64 ((0 : Nat) : Int))).run Try.prog wr = .ok (.int .i64 (sgAt s.v 0)) wr := x0
            have y1 : (Instr.index 77 (.agg #[.int .i64 (sgAt s.v 0), .int .i64 (sgAt s.v 1), .int .i64 (sgAt s.v 2), .int .i64 (sgAt s.v 3)]) (.int .i64 ((1 : Nat) : Int))).run Try.prog wr = .ok (.int .i64 (sgAt s.v 1)) wr := x1
            have y2 : (Instr.index 77 (.agg #[.int .i64 (sgAt s.v 0), .int .i64 (sgAt s.v 1), .int .i64 (sgAt s.v 2), .int .i64 (sgAt s.v 3)]) (.int .i64 ((2 : Nat) : Int))).run Try.prog wr = .ok (.int .i64 (sgAt s.v 2)) wr := x2
            have y3 : (Instr.index 77 (.agg #[.int .i64 (sgAt s.v 0), .int .i64 (sgAt s.v 1), .int .i64 (sgAt s.v 2), .int .i64 (sgAt s.v 3)]) (.int .i64 ((3 : Nat) : Int))).run Try.prog wr = .ok (.int .i64 (sgAt s.v 3)) wr := x3
            go_wp2_with (at_builtin; refine wpList_append_fits _ rfl (.tmp 39) (.tmp 41) 29 rfl w4.heap.size tN i0 1 Try.underlying29 hi0 hz1 w4.heap.size 2 4 _ rfl (HQ.out.1.alloc _) ⟨wr.heap.size, 0, none⟩ 1 1 [.int .i64 (sgAt s.v 2)] rfl rfl (by intro t u ht; match t, ht with | 0, ht => simp at ht; subst ht; exact World.cell?_alloc_at _ _ _ _ rfl) (by intro u hu; simp at hu; subst hu; rfl) (by omega) ?_; intro w5 hown5 hgrow5)
            go_roundw
            case rel => exact ⟨2 + 1, by omega, rfl, rfl, hown5, (HQ.out.2.alloc HQ.out.2.size _).grown hgrow5 (by have := HQ.out.2.size; simp; omega) (fun k hk => by cases hk; exact Nat.le_refl _)⟩
            case measure => simp [intOf]
          · have b2 : wr.cell? ⟨w.heap.size + 1, 3, none⟩ = some (.int .i64 s.st) := (HQ.out.2.cell (by exact hms)).trans c3
            obtain ⟨x0, x1, x2, x3⟩ := hix (sgAt s.v 0) (sgAt s.v 1) (sgAt s.v 2) (sgAt s.v 3) wr
            have y0 : (Instr.index 77 (.agg #[.int .i64 (sgAt s.v 0), .int .i64 (sgAt s.v 1), .int .i64 (sgAt s.v 2), .int .i64 (sgAt s.v 3)]) (.int .i64 ((0 : Nat) : Int))).run Try.prog wr = .ok (.int .i64 (sgAt s.v 0)) wr := x0
            have y1 : (Instr.index 77 (.agg #[.int .i64 (sgAt s.v 0), .int .i64 (sgAt s.v 1), .int .i64 (sgAt s.v 2), .int .i64 (sgAt s.v 3)]) (.int .i64 ((1 : Nat) : Int))).run Try.prog wr = .ok (.int .i64 (sgAt s.v 1)) wr := x1
            have y2 : (Instr.index 77 (.agg #[.int .i64 (sgAt s.v 0), .int .i64 (sgAt s.v 1), .int .i64 (sgAt s.v 2), .int .i64 (sgAt s.v 3)]) (.int .i64 ((2 : Nat) : Int))).run Try.prog wr = .ok (.int .i64 (sgAt s.v 2)) wr := x2
            have y3 : (Instr.index 77 (.agg #[.int .i64 (sgAt s.v 0), .int .i64 (sgAt s.v 1), .int .i64 (sgAt s.v 2), .int .i64 (sgAt s.v 3)]) (.int .i64 ((3 : Nat) : Int))).run Try.prog wr = .ok (.int .i64 (sgAt s.v 3)) wr := x3
            go_wp2_with (at_builtin; refine wpList_append_fits _ rfl (.tmp 39) (.tmp 41) 29 rfl w4.heap.size tN i0 1 Try.underlying29 hi0 hz1 w4.heap.size 3 4 _ rfl (HQ.out.1.alloc _) ⟨wr.heap.size, 0, none⟩ 1 1 [.int .i64 (sgAt s.v 3)] rfl rfl (by intro t u ht; match t, ht with | 0, ht => simp at ht; subst ht; exact World.cell?_alloc_at _ _ _ _ rfl) (by intro u hu; simp at hu; subst hu; rfl) (by omega) ?_; intro w5 hown5 hgrow5)
            go_roundw
            case rel => exact ⟨3 + 1, by omega, rfl, rfl, hown5, (HQ.out.2.alloc HQ.out.2.size _).grown hgrow5 (by have := HQ.out.2.size; simp; omega) (fun k hk => by cases hk; exact Nat.le_refl _)⟩
            case measure => simp [intOf]
          · have b3 : wr.cell? ⟨w.heap.size + 1, 3, none⟩ = some (.int .i64 s.st) := (HQ.out.2.cell (by exact hms)).trans c3
            have b4 : wr.cell? ⟨w.heap.size + 1, 4, none⟩ = some (.int .i64 s.pt) := (HQ.out.2.cell (by exact hms)).trans c4
            go_wp2_with fail
            go_quiet (fail)
            go_wp2_with fail
            go_ret3
            obtain ⟨⟨_, hrow⟩, hbq⟩ := HQ.out
            rcases hrow with ⟨e, _⟩ | ⟨g, cap, cur, e, hg, hh, hn4, hc4, hsz, htk⟩
            · cases e
            · cases e
              refine ⟨_, cur, by rw [HFi.out]; rfl, HBw.out.size, At.drewN hh _, by omega, ?_, below_drewN (HBw.out.trans (hbq.mono HBw.out.size)) _⟩
              rw [HFi.out]
              rw [← List.take_of_length_le (l := cur.toList) (i := 4 * 1) (by simp; omega), htk]
              rfl

end Go.Proofs.Ytffajooegiempaa

namespace Go.Proofs.Ytffajooegiempaa
open Go.RowKit

theorem results_tmp4 {fn : Func} {t u v x : Tmp} (h : fn.results = #[.tmp t, .tmp u, .tmp v, .tmp x]) (tmps : Array Value) (P : Program) (w : World) :
    (results fn tmps).run P w = .ok (.tuple #[tmps.getD t undef, tmps.getD u undef, tmps.getD v undef, tmps.getD x undef]) w := by
  simp [results, h]

theorem prog_gd {l : List Int} {m : Rd} (hp : progOf l = some m) : AllGd m ∧ Ok m := by
  obtain ⟨_, ⟨n, hr⟩, _⟩ := progOf_some hp
  exact gd_from (m := init) (fun s hs => absurd hs (by simp [init])) Ok.init hr
theorem sgAt_mem (l : List Int) (i : Nat) (h : ∀ x, x ∈ l → -1 ≤ x ∧ x ≤ 1) : -1 ≤ sgAt l i ∧ sgAt l i ≤ 1 := by
  unfold sgAt
  rw [List.getD_eq_getElem?_getD]
  cases e : l[i]? with
  | none => simp
  | some x => exact h x (List.mem_of_getElem? e)
theorem fok_of {l : List Int} {m : Rd} {F : List Ds} (hp : progOf l = some m) (hW : Whole F m.st) : FOk F := by
  obtain ⟨hg, ok⟩ := prog_gd hp
  have hl := hW.1.len
  refine ⟨by have := ok.len; omega, hW.par, fun k x hx => ?_⟩
  have hk : k < F.length := by
    rcases Nat.lt_or_ge k F.length with h' | h'
    · exact h'
    · simp [List.getElem?_eq_none h'] at hx
  obtain ⟨u, hu⟩ : ∃ u, m.st[k]? = some u := ⟨m.st[k]'(by omega), List.getElem?_eq_getElem _⟩
  obtain ⟨_, c1, _, c3, c4⟩ := hW.1.cor k x u hx hu
  have hm := List.mem_of_getElem? hu
  obtain ⟨g1, g2, g3⟩ := hg u hm
  have hn := ok.nums u hm
  exact ⟨by rw [← c3]; exact ok.sgl u hm, fun i => by rw [← c3]; exact sgAt_mem _ _ g3, by rw [← c4]; exact hn, by rw [← c1]; exact ⟨g1, g2⟩⟩

/-- What Run answers: the document's words, over the program's machine. -/
def RunSays (w : World) (l : List Int) (L : List Int) (steps : Int) : Ending → World → Prop := fun e w' => Below w.heap.size w w' ∧
  ((progOf l = none ∧ e = .returned (.tuple #[.int .i64 0, .int .i64 0, .slice none 0 0, .int .i64 1])) ∨
   ∃ m F, progOf l = some m ∧ Whole F m.st ∧ FOk F ∧ ∃ g c, e = .returned (.tuple #[.int .i64 (finP F L steps).st, .int .i64 (finP F L steps).pt, .slice (some ⟨g, 0, none⟩) 4 4, .int .i64 0]) ∧ w.heap.size ≤ g ∧ At w' g c tN ∧ c.size = 4 ∧
     c.toList = [.int .i64 (sgAt (finP F L steps).v 0), .int .i64 (sgAt (finP F L steps).v 1), .int .i64 (sgAt (finP F L steps).v 2), .int .i64 (sgAt (finP F L steps).v 3)])

set_option maxRecDepth 100000 in
set_option maxHeartbeats 800000 in
theorem d_wrun (s : ByteArray) (iv : Value) (L : List Int) (steps : Int) (w : World) (hm : s.size ≤ maxLen) (hi : Inp w w.heap.size iv L) (hL : L.length ≤ 1073741824) :
    Calls Try.prog 13 #[.string s, iv, .int .i64 steps] w (RunSays w (bytesOf s) L steps) := by
  have hr := d_read s w hm
  have hl := bytesOf_len s
  have HI : Hid (Inp w w.heap.size iv L) := hi
  have bad : progOf (bytesOf s) = none → (∀ e w', DReadPost w s e w' → ∃ c : Int, e = .returned (.tuple #[.agg #[.slice none 0 0], .int .i64 1, .int .i64 c]) ∧ Below w.heap.size w w') →
      Calls Try.prog 13 #[.string s, iv, .int .i64 steps] w (RunSays w (bytesOf s) L steps) := by
    intro hp hq
    have HE : Hid (progOf (bytesOf s) = none) := hp
    have hr' := hr.mono hq
    clear hr hp hq hm hl hi
    go_enter Try.func13, Try.ntmps13
    go_wp2_with fail
    refine hr'.mono ?_
    rintro e w1 ⟨c, rfl, hb⟩
    go_wp2_with fail
    try simp only [Exit.inBlock, Exit.then]
    refine bodyPost_ret (results_tmp4 rfl _ _ _) rfl ?_
    exact ⟨hb.alloc hb.size _, .inl ⟨HE.out, rfl⟩⟩
  by_cases h160 : 160 < s.size
  · refine bad (by unfold progOf; rw [if_pos (by omega)]) ?_
    rintro e w' ⟨hb, h | h | h⟩
    · exact ⟨0, h.2, hb⟩
    · exact absurd h.1 (by omega)
    · exact absurd h.1 (by omega)
  rcases prog_whole s (by omega) with ⟨hg, hp⟩ | ⟨m, hg, hp, hW⟩
  · refine bad hp ?_
    rintro e w' ⟨hb, h | h | h⟩
    · exact absurd h.1 h160
    · exact ⟨_, h.2.2, hb⟩
    · exact absurd h.2.1 (by rw [hg]; decide)
  clear bad
  have hr' := hr.mono (R' := fun e w' => ∃ v, e = .returned (.tuple #[.agg #[v], .int .i64 0, .int .i64 0]) ∧ Below w.heap.size w w' ∧ w'.ownsRow w.heap.size tDs 10 v (readZ s).2.length (flat (readZ s).2)) (by
    rintro e w' ⟨hb, h | h | h⟩
    · exact absurd h.1 h160
    · exact absurd h.2.1 (by rw [hg]; decide)
    · obtain ⟨_, _, v, he, hrow⟩ := h
      exact ⟨v, he, hb, hrow⟩)
  have HP : Hid (progOf (bytesOf s) = some m) := hp
  have HW : Hid (Whole (readZ s).2 m.st) := hW
  have HFo : Hid (FOk (readZ s).2) := fok_of hp hW
  clear hr hm hl h160 hg hp hW
  generalize (readZ s).2 = F at *
  have HRun : Hid (∀ w1 o v, Below w.heap.size w w1 → w1.ownsRow w.heap.size tDs 10 v F.length (flat F) → Calls Try.prog 32 #[.agg #[v], iv, .int .i64 steps] (w1.alloc o) fun e w' => ∃ g, e = .returned (.tuple #[.int .i64 (finP F L steps).st, .int .i64 (finP F L steps).pt, .slice (some ⟨g, 0, none⟩) 4 4]) ∧ Hid (RunSays w (bytesOf s) L steps (.returned (.tuple #[.int .i64 (finP F L steps).st, .int .i64 (finP F L steps).pt, .slice (some ⟨g, 0, none⟩) 4 4, .int .i64 0])) w')) := by
    intro w1 o v hb hrow
    have hba : Below w1.heap.size w1 (w1.alloc o) := (Below.refl _ _).alloc (Nat.le_refl _) _
    have hPA : PAt (w1.alloc o) (w1.alloc o).heap.size v F := by
      obtain ⟨h1, h2⟩ := id hrow
      rcases h2 with ⟨rfl, e⟩ | ⟨g, cap, c, rfl, _⟩
      · exact ⟨none, 0, by rw [e], fun hn => absurd e hn⟩
      · have hlt := (hrow.lt g rfl).2
        exact ⟨_, cap, rfl, fun _ => ⟨g, rfl, by simp; omega, (prow_of hrow rfl hlt).keep hba⟩⟩
    have hIn : Inp (w1.alloc o) (w1.alloc o).heap.size iv L := by
      obtain ⟨ao, cap, hv, hc, h0⟩ := HI.out.keep (hb.alloc hb.size o)
      have := hb.size
      exact ⟨ao, cap, hv, hc, fun hn => by obtain ⟨b, off, q1, q2, q3⟩ := h0 hn; exact ⟨b, off, q1, by simp; omega, q3⟩⟩
    refine (x_run hPA hIn HFo.out hL steps).mono ?_
    rintro e w2 ⟨g, c, rfl, hg, hat, hsz, hls, hb2⟩
    have hs := hb.size
    simp at hg
    exact ⟨g, rfl, (hb.alloc hb.size o).trans (hb2.mono (by simp; omega)), .inr ⟨m, F, HP.out, HW.out, HFo.out, g, c, rfl, by omega, hat, hsz, hls⟩⟩
  clear hi
  go_enter Try.func13, Try.ntmps13
  go_wp2_with fail
  refine hr'.mono ?_
  rintro e w1 ⟨v, rfl, hb, hrow⟩
  have HRow : Hid (World.ownsRow _ _ _ _ _ _ _) := hrow
  obtain ⟨ao, cap, rfl⟩ : ∃ ao cap, v = .slice ao F.length cap := by
    obtain ⟨_, h2⟩ := hrow
    rcases h2 with ⟨rfl, e⟩ | ⟨g, cap, c, rfl, _⟩
    · exact ⟨none, 0, by rw [e]⟩
    · exact ⟨_, cap, rfl⟩
  clear hrow
  go_wp2_with fail
  refine (HRun.out _ _ _ hb HRow.out).mono ?_
  rintro e w2 ⟨g, rfl, hsay⟩
  go_wp2_with fail
  try simp only [Exit.inBlock, Exit.then]
  refine bodyPost_ret (results_tmp4 rfl _ _ _) rfl ?_
  exact hsay.out

end Go.Proofs.Ytffajooegiempaa

namespace Go.Proofs.Ytffajooegiempaa
open Go.RowKit
variable {w : World}

/-- What the document's Run answers. -/
def RRunSays (w : World) (l : List Int) (L : List Int) (steps : Int) : Ending → World → Prop := fun e w' => Below w.heap.size w w' ∧
  ((progOf l = none ∧ e = .returned (.tuple #[.int .i64 0, .int .i64 0, .slice none 0 0, .int .i64 1])) ∨
   ∃ m, progOf l = some m ∧ ∃ q, e = .returned (.tuple #[.int .i64 (if (finR m.st L steps).pt = m.st.length then 1 else (finR m.st L steps).st), .int .i64 (finR m.st L steps).pt, .slice (some ⟨q, 0, none⟩) 4 4, .int .i64 0]) ∧ w.heap.size ≤ q ∧ At w' q (ic (finR m.st L steps).v) tN ∧ (finR m.st L steps).v.length = 4)

theorem wrep_first {r B2 : Nat} {m : Rd} {iv : Value} {L : List Int} (h : RAt B2 w r m) (hB : B2 ≤ w.heap.size) (hi : Inp w B2 iv L) (w2 : World)
    (hw2 : w2 = (w.alloc (.cells #[.int .i64 0, .int .i64 0, .int .i64 0, .int .i64 0] tN)).alloc (.cells #[.int .i64 0, .int .i64 0, .slice (some ⟨w.heap.size, 0, none⟩) 4 4, iv] tW)) : WRep B2 w2 r (w.heap.size + 1) w.heap.size m iv ⟨0, 0, [0, 0, 0, 0], L⟩ ∧ Below B2 w w2 := by
  have hb : Below w.heap.size w w2 := by rw [hw2]; exact ((Below.refl _ _).alloc (Nat.le_refl _) _).alloc (by simp) _
  have hb2 := hb.mono hB
  refine ⟨⟨h.keep hb2, ?_, ?_, hi.keep hb2, rfl, fun i => ?_, by omega, hB⟩, hb2⟩
  · rw [hw2]
    have := At.new (w.alloc (.cells #[.int .i64 0, .int .i64 0, .int .i64 0, .int .i64 0] tN)) #[.int .i64 0, .int .i64 0, .slice (some ⟨w.heap.size, 0, none⟩) 4 4, iv] tW
    rw [show (w.alloc (.cells #[.int .i64 0, .int .i64 0, .int .i64 0, .int .i64 0] tN)).heap.size = w.heap.size + 1 by simp] at this
    exact this
  · rw [hw2]
    exact (At.new w #[.int .i64 0, .int .i64 0, .int .i64 0, .int .i64 0] tN).alloc _
  · have : sgAt [0, 0, 0, 0] i = 0 := by
      unfold sgAt
      match i with
      | 0 | 1 | 2 | 3 => rfl
      | n + 4 => rfl
    show -999 ≤ sgAt [0, 0, 0, 0] i ∧ sgAt [0, 0, 0, 0] i ≤ 999
    omega

theorem RAt.slen {r B2 : Nat} {m : Rd} (h : RAt B2 w r m) : ∃ ao cap, w.cell? ⟨r, 1, none⟩ = some (.slice ao m.st.length cap) ∧ r < B2 := by
  obtain ⟨B, vs, vo, P, Q, O, h1, h2⟩ := h.rep
  obtain ⟨ao, cap, hv⟩ := h1.slen'
  exact ⟨ao, cap, by rw [← hv]; exact h1.rdc.2.1, h2⟩

set_option maxRecDepth 100000 in
set_option maxHeartbeats 3200000 in
theorem ref_run (s : ByteArray) (iv : Value) (L : List Int) (steps : Int) (hm : s.size ≤ maxLen) (hi : Inp w w.heap.size iv L) (hL : L.length ≤ 1073741824) :
    Calls Try.prog 14 #[.string s, iv, .int .i64 steps] w (RRunSays w (bytesOf s) L steps) := by
  have hs := ref_scan s w hm
  cases hp : progOf (bytesOf s) with
  | none =>
    have HP : Hid (progOf (bytesOf s) = none) := hp
    have h1 := progOf_none hp
    generalize scanOf (bytesOf s) = x at *
    obtain ⟨a, b, c⟩ := x
    have h2 : b = 1 := h1
    subst h2
    simp only [three] at hs
    clear hm hp h1 hi
    go_enter Try.func14, Try.ntmps14
    go_wp2_with fail
    refine hs.mono ?_
    rintro e w1 ⟨rfl, hb⟩
    go_wp2_with fail
    try simp only [Exit.inBlock, Exit.then]
    refine bodyPost_ret (results_tmp4 rfl _ _ _) rfl ?_
    exact ⟨hb, .inl ⟨HP.out, rfl⟩⟩
  | some m =>
    rw [(progOf_some hp).2.2.2] at hs
    simp only [three] at hs
    have HP : Hid (progOf (bytesOf s) = some m) := hp
    have hr := fun w => ref_again hp w
    obtain ⟨F, hW⟩ : ∃ F, Whole F m.st := by
      rcases prog_whole s (by rw [← bytesOf_len]; exact (progOf_some hp).1) with ⟨_, e⟩ | ⟨m', _, e, hW⟩
      · rw [hp] at e; cases e
      · rw [hp] at e; cases e; exact ⟨_, hW⟩
    have HW : Hid (Whole F m.st) := hW
    obtain ⟨hgd, ok⟩ := prog_gd hp
    have HSo : Hid (SOk m.st) := ⟨ok.len, ok.sgl, ok.nums, hgd⟩
    have hFl : F.length = m.st.length := hW.1.len
    have HFl : Hid (F.length = m.st.length) := hFl
    have hl20 : m.st.length ≤ 20 := ok.len
    have hmk : ∀ w, (Instr.makeSlice 29 (.int .i64 4) (.int .i64 4)).run Try.prog w = .ok (.slice (some ⟨w.heap.size, 0, none⟩) 4 4) (w.alloc (.cells #[.int .i64 0, .int .i64 0, .int .i64 0, .int .i64 0] tN)) := fun _ => by kernel_rfl
    have HI : Hid (Inp w w.heap.size iv L) := hi
    obtain ⟨ia, icap, rfl, -, -⟩ := hi
    obtain ⟨N, hN⟩ : ∃ N : Nat, N = min steps.toNat 2000 := ⟨_, rfl⟩
    have HFin : Hid (finR m.st L steps = runR m.st N ⟨0, 0, [0, 0, 0, 0], L⟩) := by show finR _ _ _ = _; rw [hN]; rfl
    have hN1 : N ≤ 2000 := by omega
    have hN2 : 0 < N → (N : Int) ≤ steps := by omega
    have hN3 : N < 2000 → steps ≤ N := by omega
    have HSt : Hid (∀ B2 w1 r b q iv' k, WRep B2 w1 r b q m iv' k → k.inp.length ≤ 1073741824 → 0 ≤ k.pt → k.pt < m.st.length → Calls Try.prog 33 #[.pointer (some ⟨b, 0, none⟩), .pointer (some ⟨r, 0, none⟩)] w1 fun e w' => e = .returned (.tuple #[]) ∧ WStep B2 w1 r b q m (stpR m.st k) w') := by
      intro B2 w1 r b q iv' k h1 h2 h3 h4
      by_cases k61 : (m.st.getD k.pt.toNat noSt).kind = 61
      · exact r_step61 h1 HSo.out h2 h3 h4 k61
      · exact r_stepc h1 HSo.out h2 h3 h4 k61
    clear hN hW hp hm hgd ok hFl
    obtain ⟨fin, hfq⟩ : ∃ fin, finR m.st L steps = fin := ⟨_, rfl⟩
    rw [hfq] at HFin
    have HFq : Hid (finR m.st L steps = fin) := hfq
    clear hfq
    go_enter Try.func14, Try.ntmps14
    go_wp2_with fail
    refine hs.mono ?_
    rintro e w1 ⟨rfl, hb⟩
    have HB1 : Hid (Below w.heap.size w w1) := hb
    clear hb hs
    go_wp2_with fail
    refine (hr _).mono ?_
    rintro e w2 ⟨n, rfl, hb2, hlen, vs, vo, P, Q, O, hrep⟩
    have hs1 := HB1.out.size
    have hs2 := hb2.size
    have hr1 : w1.heap.size < w2.heap.size := hrep.rd.lt
    have HB2 : Hid (Below w.heap.size w w2) := HB1.out.trans (hb2.mono hs1)
    have HRA : Hid (RAt w2.heap.size w2 w1.heap.size m) := ⟨_, w2, _, _, _, _, _, hrep, Nat.le_refl _, Below.refl _ _⟩
    have HI2 : Hid (Inp w2 w2.heap.size (.slice ia L.length icap) L) := by
      obtain ⟨ao, cap, hv, hc, h0⟩ := HI.out.keep HB2.out
      exact ⟨ao, cap, hv, hc, fun hn => by obtain ⟨b, off, q1, q2, q3⟩ := h0 hn; exact ⟨b, off, q1, by omega, q3⟩⟩
    have HWf := wrep_first HRA.out (Nat.le_refl _) HI2.out _ rfl
    have HWF : Hid (_ ∧ _) := HWf
    clear hb2 hr HWf hrep
    go_wp2_with fail
    go_loopw [17] (fun i wr => ∃ (j : Nat) (iv' : Value) (k : Wk), j ≤ N ∧ i = .int .i64 j ∧ Hid (WRep w2.heap.size wr w1.heap.size (w2.heap.size + 1) w2.heap.size m iv' k ∧ Below w2.heap.size w2 wr ∧ 0 ≤ k.pt ∧ k.pt ≤ m.st.length ∧ k.inp.length ≤ 1073741824 ∧ fin = runR m.st (N - j) k)) (fun i _ => N - (intOf i).toNat)
    case atStart => exact ⟨0, _, _, Nat.zero_le _, rfl, HWF.out.1, HWF.out.2, Int.le_refl _, by show (0 : Int) ≤ _; omega, hL, HFin.out⟩
    case round =>
      obtain ⟨j, iv', k, hj, rfl, HR⟩ := hrel
      obtain ⟨b0, b1, b2, b3, bf⟩ := HR.out.1.cells
      obtain ⟨ao, cap, r1, -⟩ := HR.out.1.rd.slen
      have hblt := HR.out.1.at_.lt
      have hwsz := HR.out.2.1.size
      obtain ⟨hpt0, hpt1⟩ : 0 ≤ k.pt ∧ k.pt ≤ m.st.length := ⟨HR.out.2.2.1, HR.out.2.2.2.1⟩
      by_cases hgo : j < N ∧ k.st = 0 ∧ k.pt < m.st.length
      · obtain ⟨hjN, hst, hptl⟩ := hgo
        have hj1 : (j : Int) < steps := by omega
        have hj2 : (j : Int) < 2000 := by omega
        have hstep := HSt.out _ _ _ _ _ _ _ HR.out.1 HR.out.2.2.2.2.1 hpt0 hptl
        have HN : Hid (fin = runR m.st (N - (j + 1)) (stpR m.st k)) := by
          show fin = _
          rw [HR.out.2.2.2.2.2, show N - j = (N - (j + 1)) + 1 by omega, runR, if_pos ⟨hst, hptl⟩]
        have HIn : Hid (0 ≤ (stpR m.st k).pt ∧ (stpR m.st k).pt ≤ m.st.length) := by
          have := stpR_in HW.out (by rw [HFl.out]; exact hl20) hst hpt0 (by rw [HFl.out]; exact hptl)
          rw [HFl.out] at this
          exact this
        have HLi : Hid ((stpR m.st k).inp.length ≤ 1073741824) := Nat.le_trans (stpR_inp m.st k) HR.out.2.2.2.2.1
        rw [hst] at b0
        clear hst
        go_wp2_with fail
        go_quiet (fail)
        obtain ⟨w5, hW5⟩ : ∃ w5, w5 = wr.drewN nq := ⟨_, rfl⟩
        rw [← hW5]
        have HR5 : Hid (WRep w2.heap.size w5 w1.heap.size (w2.heap.size + 1) w2.heap.size m iv' k ∧ Below w2.heap.size w2 w5) := by rw [hW5]; exact ⟨HR.out.1.drewN _, below_drewN HR.out.2.1 _⟩
        have hst5 := HSt.out _ _ _ _ _ _ _ HR5.out.1 HR.out.2.2.2.2.1 hpt0 hptl
        clear hW5 hstep
        go_wp2_with fail
        refine hst5.mono ?_
        rintro e w6 ⟨rfl, iv6, hw6, hb6⟩
        have HW6 : Hid (WRep w2.heap.size w6 w1.heap.size (w2.heap.size + 1) w2.heap.size m iv6 (stpR m.st k) ∧ Below w2.heap.size w2 w6) := ⟨hw6, HR5.out.2.trans hb6⟩
        clear hw6 hb6 hst5
        go_wp2_with fail
        go_roundw
        case rel => exact ⟨j + 1, iv6, _, by omega, by go_num, HW6.out.1, HW6.out.2, HIn.out.1, HIn.out.2, HLi.out, HN.out⟩
        case measure => simp [intOf]; omega
      · have HFi : Hid (fin = k) := by
          show fin = k
          rw [HR.out.2.2.2.2.2]
          cases hq : N - j with
          | zero => rfl
          | succ q => rw [runR, if_neg (fun e => hgo ⟨by omega, e.1, e.2⟩)]
        by_cases hj1 : (j : Int) < steps
        · by_cases hj2 : (j : Int) < 2000
          · by_cases hst : k.st = 0
            · have hptl : ¬ k.pt < m.st.length := fun e => hgo ⟨by omega, hst, e⟩
              have hd : decide (k.pt < (m.st.length : Int)) = false := by simpa using hptl
              rw [hst] at b0
              have HS0 : Hid (k.st = 0) := hst
              have hend : k.pt = m.st.length := by omega
              clear hgo hst hptl
              go_wp2_with fail
              go_quiet (fail)
              obtain ⟨w5, hW5⟩ : ∃ w5, w5 = wr.drewN nq := ⟨_, rfl⟩
              rw [← hW5]
              have k1 : ∀ a, w5.cell? a = wr.cell? a := fun a => by rw [hW5]; rfl
              have k2 : ∀ a, w5.frozen? a = wr.frozen? a := fun a => by rw [hW5]; rfl
              rw [← k1] at r1 b0 b1 b2
              have bf5 : ∀ i, w5.frozen? ⟨w2.heap.size + 1, i, none⟩ = false := fun i => (k2 _).trans (bf i)
              have HV5 : Hid (At w5 w2.heap.size (ic k.v) tN) := by rw [hW5]; exact HR.out.1.vt.drewN _
              have HB5 : Hid (Below w2.heap.size w2 w5) := by rw [hW5]; exact below_drewN HR.out.2.1 _
              have hl5 : w2.heap.size + 1 < w5.heap.size := by rw [hW5]; exact hblt
              have HLn : Hid (k.v.length = 4) := HR.out.1.len
              have hne5 : w2.heap.size ≠ w2.heap.size + 1 := by omega
              clear k1 k2 hW5 bf
              have hbe : (k.pt == (m.st.length : Int)) = true := by rw [beq_iff_eq]; exact hend
              have HSt2 : Hid ((if k.pt = m.st.length then (1 : Int) else k.st) = 1) := if_pos hend
              clear hend
              go_wp2_with fail
              go_quiet (fail)
              go_wp2_with fail
              go_quiet (fail)
              go_wp2_with fail
              try simp only [Exit.inBlock, Exit.then]
              refine bodyPost_ret (results_tmp4 rfl _ _ _) rfl ?_
              refine ⟨?_, .inr ⟨m, HP.out, w2.heap.size, ?_, by omega, ?_, ?_⟩⟩
              · exact below_drewN (((below_drewN (HB2.out.trans (HB5.out.mono (by omega))) _)).setCell (by show w.heap.size ≤ w2.heap.size + 1; omega) _) _
              · rw [HFq.out, HFi.out, HSt2.out]; rfl
              · rw [HFq.out, HFi.out]; exact ((HV5.out.drewN _).other 0 _ hne5).drewN _
              · rw [HFq.out, HFi.out]; exact HLn.out
            · have hsb : (k.st == 0) = false := by simpa using hst
              clear hgo hst
              go_wp2_with fail
              go_quiet (fail)
              obtain ⟨w5, hW5⟩ : ∃ w5, w5 = wr.drewN nq := ⟨_, rfl⟩
              rw [← hW5]
              have k1 : ∀ a, w5.cell? a = wr.cell? a := fun a => by rw [hW5]; rfl
              have k2 : ∀ a, w5.frozen? a = wr.frozen? a := fun a => by rw [hW5]; rfl
              rw [← k1] at r1 b0 b1 b2
              have bf5 : ∀ i, w5.frozen? ⟨w2.heap.size + 1, i, none⟩ = false := fun i => (k2 _).trans (bf i)
              have HV5 : Hid (At w5 w2.heap.size (ic k.v) tN) := by rw [hW5]; exact HR.out.1.vt.drewN _
              have HB5 : Hid (Below w2.heap.size w2 w5) := by rw [hW5]; exact below_drewN HR.out.2.1 _
              have hl5 : w2.heap.size + 1 < w5.heap.size := by rw [hW5]; exact hblt
              have HLn : Hid (k.v.length = 4) := HR.out.1.len
              have hne5 : w2.heap.size ≠ w2.heap.size + 1 := by omega
              clear k1 k2 hW5 bf
              by_cases hend : k.pt = m.st.length
              · have hbe : (k.pt == (m.st.length : Int)) = true := by rw [beq_iff_eq]; exact hend
                have HSt2 : Hid ((if k.pt = m.st.length then (1 : Int) else k.st) = 1) := if_pos hend
                clear hend
                go_wp2_with fail
                go_quiet (fail)
                go_wp2_with fail
                go_quiet (fail)
                go_wp2_with fail
                try simp only [Exit.inBlock, Exit.then]
                refine bodyPost_ret (results_tmp4 rfl _ _ _) rfl ?_
                refine ⟨?_, .inr ⟨m, HP.out, w2.heap.size, ?_, by omega, ?_, ?_⟩⟩
                · exact below_drewN (((below_drewN (HB2.out.trans (HB5.out.mono (by omega))) _)).setCell (by show w.heap.size ≤ w2.heap.size + 1; omega) _) _
                · rw [HFq.out, HFi.out, HSt2.out]; rfl
                · rw [HFq.out, HFi.out]; exact ((HV5.out.drewN _).other 0 _ hne5).drewN _
                · rw [HFq.out, HFi.out]; exact HLn.out
              · have hbe : (k.pt == (m.st.length : Int)) = false := by rw [beq_eq_false_iff_ne]; exact hend
                have HSt2 : Hid ((if k.pt = m.st.length then (1 : Int) else k.st) = k.st) := if_neg hend
                clear hend
                go_wp2_with fail
                go_quiet (fail)
                go_wp2_with fail
                go_quiet (fail)
                go_wp2_with fail
                try simp only [Exit.inBlock, Exit.then]
                refine bodyPost_ret (results_tmp4 rfl _ _ _) rfl ?_
                refine ⟨?_, .inr ⟨m, HP.out, w2.heap.size, ?_, by omega, ?_, ?_⟩⟩
                · exact below_drewN (below_drewN (HB2.out.trans (HB5.out.mono (by omega))) _) _
                · rw [HFq.out, HFi.out, HSt2.out]; rfl
                · rw [HFq.out, HFi.out]; exact HV5.out
                · rw [HFq.out, HFi.out]; exact HLn.out
          · have hd : decide ((j : Int) < 2000) = false := by simpa using hj2
            clear hgo
            go_wp2_with fail
            go_quiet (fail)
            obtain ⟨w5, hW5⟩ : ∃ w5, w5 = wr.drewN nq := ⟨_, rfl⟩
            rw [← hW5]
            have k1 : ∀ a, w5.cell? a = wr.cell? a := fun a => by rw [hW5]; rfl
            have k2 : ∀ a, w5.frozen? a = wr.frozen? a := fun a => by rw [hW5]; rfl
            rw [← k1] at r1 b0 b1 b2
            have bf5 : ∀ i, w5.frozen? ⟨w2.heap.size + 1, i, none⟩ = false := fun i => (k2 _).trans (bf i)
            have HV5 : Hid (At w5 w2.heap.size (ic k.v) tN) := by rw [hW5]; exact HR.out.1.vt.drewN _
            have HB5 : Hid (Below w2.heap.size w2 w5) := by rw [hW5]; exact below_drewN HR.out.2.1 _
            have hl5 : w2.heap.size + 1 < w5.heap.size := by rw [hW5]; exact hblt
            have HLn : Hid (k.v.length = 4) := HR.out.1.len
            have hne5 : w2.heap.size ≠ w2.heap.size + 1 := by omega
            clear k1 k2 hW5 bf
            by_cases hend : k.pt = m.st.length
            · have hbe : (k.pt == (m.st.length : Int)) = true := by rw [beq_iff_eq]; exact hend
              have HSt2 : Hid ((if k.pt = m.st.length then (1 : Int) else k.st) = 1) := if_pos hend
              clear hend
              go_wp2_with fail
              go_quiet (fail)
              go_wp2_with fail
              go_quiet (fail)
              go_wp2_with fail
              try simp only [Exit.inBlock, Exit.then]
              refine bodyPost_ret (results_tmp4 rfl _ _ _) rfl ?_
              refine ⟨?_, .inr ⟨m, HP.out, w2.heap.size, ?_, by omega, ?_, ?_⟩⟩
              · exact below_drewN (((below_drewN (HB2.out.trans (HB5.out.mono (by omega))) _)).setCell (by show w.heap.size ≤ w2.heap.size + 1; omega) _) _
              · rw [HFq.out, HFi.out, HSt2.out]; rfl
              · rw [HFq.out, HFi.out]; exact ((HV5.out.drewN _).other 0 _ hne5).drewN _
              · rw [HFq.out, HFi.out]; exact HLn.out
            · have hbe : (k.pt == (m.st.length : Int)) = false := by rw [beq_eq_false_iff_ne]; exact hend
              have HSt2 : Hid ((if k.pt = m.st.length then (1 : Int) else k.st) = k.st) := if_neg hend
              clear hend
              go_wp2_with fail
              go_quiet (fail)
              go_wp2_with fail
              go_quiet (fail)
              go_wp2_with fail
              try simp only [Exit.inBlock, Exit.then]
              refine bodyPost_ret (results_tmp4 rfl _ _ _) rfl ?_
              refine ⟨?_, .inr ⟨m, HP.out, w2.heap.size, ?_, by omega, ?_, ?_⟩⟩
              · exact below_drewN (below_drewN (HB2.out.trans (HB5.out.mono (by omega))) _) _
              · rw [HFq.out, HFi.out, HSt2.out]; rfl
              · rw [HFq.out, HFi.out]; exact HV5.out
              · rw [HFq.out, HFi.out]; exact HLn.out
        · have hd : decide ((j : Int) < steps) = false := by simpa using hj1
          clear hgo
          go_wp2_with fail
          go_quiet (fail)
          obtain ⟨w5, hW5⟩ : ∃ w5, w5 = wr.drewN nq := ⟨_, rfl⟩
          rw [← hW5]
          have k1 : ∀ a, w5.cell? a = wr.cell? a := fun a => by rw [hW5]; rfl
          have k2 : ∀ a, w5.frozen? a = wr.frozen? a := fun a => by rw [hW5]; rfl
          rw [← k1] at r1 b0 b1 b2
          have bf5 : ∀ i, w5.frozen? ⟨w2.heap.size + 1, i, none⟩ = false := fun i => (k2 _).trans (bf i)
          have HV5 : Hid (At w5 w2.heap.size (ic k.v) tN) := by rw [hW5]; exact HR.out.1.vt.drewN _
          have HB5 : Hid (Below w2.heap.size w2 w5) := by rw [hW5]; exact below_drewN HR.out.2.1 _
          have hl5 : w2.heap.size + 1 < w5.heap.size := by rw [hW5]; exact hblt
          have HLn : Hid (k.v.length = 4) := HR.out.1.len
          have hne5 : w2.heap.size ≠ w2.heap.size + 1 := by omega
          clear k1 k2 hW5 bf
          by_cases hend : k.pt = m.st.length
          · have hbe : (k.pt == (m.st.length : Int)) = true := by rw [beq_iff_eq]; exact hend
            have HSt2 : Hid ((if k.pt = m.st.length then (1 : Int) else k.st) = 1) := if_pos hend
            clear hend
            go_wp2_with fail
            go_quiet (fail)
            go_wp2_with fail
            go_quiet (fail)
            go_wp2_with fail
            try simp only [Exit.inBlock, Exit.then]
            refine bodyPost_ret (results_tmp4 rfl _ _ _) rfl ?_
            refine ⟨?_, .inr ⟨m, HP.out, w2.heap.size, ?_, by omega, ?_, ?_⟩⟩
            · exact below_drewN (((below_drewN (HB2.out.trans (HB5.out.mono (by omega))) _)).setCell (by show w.heap.size ≤ w2.heap.size + 1; omega) _) _
            · rw [HFq.out, HFi.out, HSt2.out]; rfl
            · rw [HFq.out, HFi.out]; exact ((HV5.out.drewN _).other 0 _ hne5).drewN _
            · rw [HFq.out, HFi.out]; exact HLn.out
          · have hbe : (k.pt == (m.st.length : Int)) = false := by rw [beq_eq_false_iff_ne]; exact hend
            have HSt2 : Hid ((if k.pt = m.st.length then (1 : Int) else k.st) = k.st) := if_neg hend
            clear hend
            go_wp2_with fail
            go_quiet (fail)
            go_wp2_with fail
            go_quiet (fail)
            go_wp2_with fail
            try simp only [Exit.inBlock, Exit.then]
            refine bodyPost_ret (results_tmp4 rfl _ _ _) rfl ?_
            refine ⟨?_, .inr ⟨m, HP.out, w2.heap.size, ?_, by omega, ?_, ?_⟩⟩
            · exact below_drewN (below_drewN (HB2.out.trans (HB5.out.mono (by omega))) _) _
            · rw [HFq.out, HFi.out, HSt2.out]; rfl
            · rw [HFq.out, HFi.out]; exact HV5.out
            · rw [HFq.out, HFi.out]; exact HLn.out

end Go.Proofs.Ytffajooegiempaa

namespace Go.Proofs.Ytffajooegiempaa
open Go.RowKit


set_option maxRecDepth 100000 in
set_option maxHeartbeats 800000 in
/-- A list that came out: the numbers that it is to have, and the caller's. -/
theorem l_result (w : World) (g cap : Nat) (b : Value) (l : List Int) (c : Array Value) (h : At w g c tN) (hs : c.size = cap) (hn : l.length ≤ cap) (hm : cap ≤ 1073741824)
    (hc : ∀ i, i < l.length → c[i]? = some (.int .i64 (l.getD i 0))) (hb : Reads w b l) (hb0 : ∀ n k, b ≠ .slice none n k) :
    Calls Try.prog 15 #[.slice (some ⟨g, 0, none⟩) l.length cap, b] w fun e w' => e = .returned (.bool true) ∧ Below g w w' := by
  have h1 := l_same w _ b l (by omega) (Reads.at_ h rfl hn hc) hb
  have h2 := fun k => l_mine (w.drewN k) g l.length cap c (h.drewN k) hs hn hm
  obtain ⟨bo, cb, rfl, -, -⟩ := hb
  obtain ⟨ba, rfl⟩ : ∃ a, bo = some a := by
    cases bo with
    | none => exact absurd rfl (hb0 _ _)
    | some a => exact ⟨a, rfl⟩
  have H2 : Hid (∀ k, Calls Try.prog 34 #[.slice (some ⟨g, 0, none⟩) l.length cap] (w.drewN k) fun e w' => e = .returned (.bool true) ∧ Below g (w.drewN k) w') := h2
  have hq1 : ∀ (w : World) (a : Option Addr) (n c : Nat), (binOp .eql 29 (.slice a n c) (.slice none 0 0)).run Try.prog w = .ok (.bool a.isNone) w := fun w a n c => Lib.run_eql_slice_nil w 29 tN a n c 0 0 Try.underlying29
  clear h hs hc hb0 h2
  go_enter Try.func15, Try.ntmps15
  go_wp2_with fail
  refine h1.mono ?_
  rintro e w1 ⟨rfl, k, hk⟩
  have h3 := H2.out k
  rw [← hk] at h3
  have HB : Hid (Below g w w1) := by rw [hk]; exact below_drewN (Below.refl _ _) k
  clear hk h1 H2
  go_wp2_with fail
  refine h3.mono ?_
  rintro e w2 ⟨rfl, hb2⟩
  go_wp2_with fail
  go_ret
  exact ⟨rfl, HB.out.trans hb2⟩

set_option maxRecDepth 100000 in
set_option maxHeartbeats 800000 in
theorem l_result_nil (w : World) : Calls Try.prog 15 #[.slice none 0 0, .slice none 0 0] w fun e w' => e = .returned (.bool true) ∧ ∃ k, w' = w.drewN k := by
  have h1 := l_same w (.slice none 0 0) (.slice none 0 0) [] (by simp) ⟨none, 0, rfl, Nat.le_refl _, fun h => absurd rfl h⟩ ⟨none, 0, rfl, Nat.le_refl _, fun h => absurd rfl h⟩
  have hq1 : ∀ (w : World) (a : Option Addr) (n c : Nat), (binOp .eql 29 (.slice a n c) (.slice none 0 0)).run Try.prog w = .ok (.bool a.isNone) w := fun w a n c => Lib.run_eql_slice_nil w 29 tN a n c 0 0 Try.underlying29
  have h2 := l_mine_nil
  go_enter Try.func15, Try.ntmps15
  go_wp2_with fail
  refine h1.mono ?_
  rintro e w1 ⟨rfl, k, hk⟩
  have HK : Hid (∃ k, w1 = w.drewN k) := ⟨k, hk⟩
  clear hk h1
  go_wp2_with fail
  refine (h2 _).mono ?_
  rintro e w2 ⟨rfl, rfl⟩
  go_wp2_with fail
  go_ret
  exact ⟨rfl, HK.out⟩

/-- What stands in a list that was handed over. -/
def lentCells (l : List Int) : Array Value := ic (l ++ [77, 77])

theorem splice_lent (l : List Int) : ((splice (List.replicate (l.length + 2) (Value.int .i64 0)) 0 (l.map (Value.int .i64))).toArray.setIfInBounds l.length (.int .i64 77)).setIfInBounds (l.length + 1) (.int .i64 77) = lentCells l := by
  unfold lentCells ic splice
  have e : (List.replicate (l.length + 2) (Value.int .i64 0)).drop (0 + (l.map (Value.int .i64)).length) = [.int .i64 0, .int .i64 0] := by
    rw [List.length_map, Nat.zero_add, List.drop_replicate, Nat.add_sub_cancel_left]; rfl
  rw [e]
  simp

set_option maxRecDepth 100000 in
set_option maxHeartbeats 1600000 in
theorem l_lent (w : World) (v : Value) (l : List Int) (hm : l.length ≤ 1073741824) (h : Reads w v l) :
    Calls Try.prog 12 #[v] w fun e w' => e = .returned (.slice (some ⟨w.heap.size, 0, none⟩) l.length (l.length + 2)) ∧ Below w.heap.size w w' ∧ At w' w.heap.size (lentCells l) tN ∧ w.heap.size < w'.heap.size := by
  have hmk : ∀ w, (Instr.makeSlice 29 (.int .i64 ((l.length : Int) + 2)) (.int .i64 ((l.length : Int) + 2))).run Try.prog w = .ok (.slice (some ⟨w.heap.size, 0, none⟩) (l.length + 2) (l.length + 2)) (w.alloc (.cells (List.replicate (l.length + 2) (Value.int .i64 0)).toArray tN)) := by
    intro w
    obtain ⟨i0, hi, hz0, hz1, hz2⟩ := info_parts (P := Try.prog) (e := tN) (z := .int .i64 0) (size := 1) (bytes := 8) (by kernel_rfl)
    have := run_make (P := Try.prog) w 29 tN i0 (.int .i64 0) Try.underlying29 hi hz0 .i64 .i64 ((l.length : Int) + 2) ((l.length : Int) + 2) (by omega) (Int.le_refl _) (by rw [hz2]; omega) (by omega)
    rw [this]
    have e1 : ((l.length : Int) + 2).toNat = l.length + 2 := by omega
    rw [e1, hz1]
    congr 2
    congr 1
    apply Array.ext
    · simp [size_madeCells]
    · intro i h1 h2
      simp [madeCells, Value.cells, Nat.mod_one]
  obtain ⟨ao, cap, rfl, hcap, h0⟩ := h
  have HMk : Hid (∀ w, (Instr.makeSlice 29 (.int .i64 ((l.length : Int) + 2)) (.int .i64 ((l.length : Int) + 2))).run Try.prog w = .ok (.slice (some ⟨w.heap.size, 0, none⟩) (l.length + 2) (l.length + 2)) (w.alloc (.cells (List.replicate (l.length + 2) (Value.int .i64 0)).toArray tN))) := hmk
  have H0 : Hid (l.length ≠ 0 → ∃ b off, ao = some ⟨b, off, none⟩ ∧ b < w.heap.size ∧ ∀ i, i < l.length → w.cell? ⟨b, off + i, none⟩ = some (.int .i64 (l.getD i 0))) := h0
  have HSp := (show Hid (_ = _) from splice_lent l)
  have HAl : Hid (At (w.alloc (.cells (List.replicate (l.length + 2) (Value.int .i64 0)).toArray tN)) w.heap.size (List.replicate (l.length + 2) (Value.int .i64 0)).toArray tN) := by
    show (w.heap.push _)[w.heap.size]? = _
    simp
  have HBe : Hid (Below w.heap.size w (w.alloc (.cells (List.replicate (l.length + 2) (Value.int .i64 0)).toArray tN))) := (Below.refl _ _).alloc (Nat.le_refl _) _
  obtain ⟨cs, hcs⟩ : ∃ cs, cs = l.map (Value.int .i64) := ⟨_, rfl⟩
  obtain ⟨cur, hcur⟩ : ∃ cur, cur = List.replicate (l.length + 2) (Value.int .i64 0) := ⟨_, rfl⟩
  rw [← hcur] at HAl HBe HMk
  rw [← hcs, ← hcur] at HSp
  have hmk' := HMk.out
  have HL1 : Hid (cs.length = l.length) := by show cs.length = _; rw [hcs]; simp
  have HL2 : Hid (cur.length = l.length + 2) := by show cur.length = _; rw [hcur]; simp
  have HCS : Hid (cs = l.map (Value.int .i64)) := hcs
  clear hmk h0 hcs hcur HMk
  generalize hn : l.length = n at *
  obtain ⟨w1, hcp, hat, hb1⟩ : ∃ w1, (Builtin.copy_ #[29, 29] tN #[.slice (some ⟨w.heap.size, 0, none⟩) (n + 2) (n + 2), .slice ao n cap]).run Try.prog (w.alloc (.cells cur.toArray tN)) = .ok (.int .i64 n) w1 ∧ At w1 w.heap.size (splice cur 0 cs).toArray tN ∧ Below w.heap.size w w1 := by
    by_cases hz : n = 0
    · have e0 : cs = [] := List.eq_nil_of_length_eq_zero (by rw [HL1.out]; exact hz)
      refine ⟨_, by rw [hz]; exact run_copy_none (P := Try.prog) _ 29 29 tN tN _ _ _ _ _ _ Try.underlying29 (by kernel_rfl) (by simp), ?_, HBe.out⟩
      have := HAl.out
      simpa [splice, e0] using this
    · obtain ⟨b, off, rfl, hlt, hc⟩ := H0.out hz
      have := run_copy_row (P := Try.prog) (w.alloc (.cells cur.toArray tN)) 29 29 tN tN w.heap.size 0 (n + 2) (n + 2) ⟨b, off, none⟩ n cap cur.toArray tN cs Try.underlying29 (by kernel_rfl) HAl.out (by rw [HL1.out]; simp) (by
        intro j v hj
        rw [HCS.out] at hj
        have hjl : j < n := by
          rcases Nat.lt_or_ge j n with h' | h'
          · exact h'
          · rw [List.getElem?_eq_none (by simp; omega)] at hj; cases hj
        have e1 : (⟨b, off, none⟩ : Addr).add j = ⟨b, off + j, none⟩ := by unfold Addr.add; split <;> simp_all
        rw [e1, HBe.out.cell (by exact hlt)]
        have := hc j hjl
        simp [List.getElem?_map, List.getElem?_eq_getElem (show j < l.length by omega)] at hj
        rw [← hj]
        simpa [List.getD, show j < l.length by omega] using this) (by
        have h1 := HL1.out
        have h2 := HL2.out
        simp only [List.size_toArray]; omega) (by
        intro u hu
        rw [HCS.out] at hu
        obtain ⟨x, _, rfl⟩ := List.mem_map.1 hu
        rfl)
      have e2 : goInt cs.length = .int .i64 n := by rw [HL1.out]; rfl
      rw [e2] at this
      refine ⟨_, this, ?_, below_setRow HBe.out (Nat.le_refl _) _⟩
      have h2 := setRow_heap (w.alloc (.cells cur.toArray tN)) w.heap.size cur.toArray (cur.toArray.toList.take 0 ++ cs ++ cur.toArray.toList.drop (0 + cs.length)).toArray tN (0, 0) HAl.out
      rw [show splice cur 0 cs = cur.toArray.toList.take 0 ++ cs ++ cur.toArray.toList.drop (0 + cs.length) by simp [splice]]
      exact h2
  have hsz : (splice cur 0 cs).toArray.size = n + 2 := by
    have := length_splice cur 0 cs (by rw [HL1.out, HL2.out]; omega)
    simp only [List.size_toArray]; rw [this]; exact HL2.out
  have hlt1 := hat.lt
  obtain ⟨x1, c1⟩ : ∃ x, w1.cell? ⟨w.heap.size, n, none⟩ = some x := ⟨(splice cur 0 cs).toArray[n]'(by omega), by rw [hat.cell]; exact Array.getElem?_eq_getElem _⟩
  obtain ⟨x2, c2⟩ : ∃ x, w1.cell? ⟨w.heap.size, n + 1, none⟩ = some x := ⟨(splice cur 0 cs).toArray[n + 1]'(by omega), by rw [hat.cell]; exact Array.getElem?_eq_getElem _⟩
  have f1 := hat.free n
  have f2 := hat.free (n + 1)
  have HAt : Hid (At w1 w.heap.size (splice cur 0 cs).toArray tN) := hat
  have HB1 : Hid (Below w.heap.size w w1) := hb1
  clear hat hsz hb1
  go_enter Try.func12, Try.ntmps12
  go_wp2_with fail
  go_ret
  refine ⟨rfl, (HB1.out.setCell (Nat.le_refl _) _).setCell (Nat.le_refl _) _, ?_, by simpa using hlt1⟩
  rw [← HSp.out]
  exact (HAt.out.put n _).put (n + 1) _

set_option maxRecDepth 100000 in
set_option maxHeartbeats 800000 in
theorem l_whole (w : World) (g : Nat) (v : Value) (l : List Int) (hm : l.length ≤ 1073741824) (h : At w g (lentCells l) tN) (hv : Reads w v l) :
    Calls Try.prog 16 #[.slice (some ⟨g, 0, none⟩) l.length (l.length + 2), v] w fun e w' => e = .returned (.bool true) ∧ ∃ k, w' = w.drewN k := by
  have hc : ∀ i, i < l.length → (lentCells l)[i]? = some (.int .i64 (l.getD i 0)) := by
    intro i hi
    unfold lentCells
    rw [ic_get _ _ (by simp; omega)]
    simp [List.getD, List.getElem?_append_left hi]
  have h1 := l_same w (.slice (some ⟨g, 0, none⟩) l.length (l.length + 2)) v l hm (Reads.at_ h rfl (by omega) hc) hv
  have c1 : w.cell? ⟨g, l.length, none⟩ = some (.int .i64 77) := by rw [h.cell]; unfold lentCells; rw [ic_get _ _ (by simp)]; simp [List.getD]
  have c2 : w.cell? ⟨g, l.length + 1, none⟩ = some (.int .i64 77) := by rw [h.cell]; unfold lentCells; rw [ic_get _ _ (by simp)]; simp [List.getD]
  obtain ⟨ao, cap, rfl, -, -⟩ := hv
  have hg := h.lt
  clear h hc
  generalize l.length = n at *
  go_enter Try.func16, Try.ntmps16
  go_wp2_with fail
  refine h1.mono ?_
  rintro e w1 ⟨rfl, k, hk⟩
  have c1' : w1.cell? ⟨g, n, none⟩ = some (.int .i64 77) := by rw [hk]; exact c1
  have c2' : w1.cell? ⟨g, n + 1, none⟩ = some (.int .i64 77) := by rw [hk]; exact c2
  have HK : Hid (∃ k, w1 = w.drewN k) := ⟨k, hk⟩
  clear hk h1 c1 c2
  go_wp2_with fail
  go_ret
  exact ⟨rfl, HK.out⟩

end Go.Proofs.Ytffajooegiempaa

namespace Go.Proofs.Ytffajooegiempaa
open Go.ChangeShapes Go.WideShapes Go.ChangeAt Go.RowKit Go.ChangeMaps

theorem Reads.inp {w : World} {v : Value} {l : List Int} (h : Reads w v l) : Inp w w.heap.size v l := h
theorem Reads.below {w w' : World} {v : Value} {l : List Int} {B : Nat} (h : Inp w B v l) (hb : Below B w w') (hs : B ≤ w.heap.size) : Reads w' v l := by
  obtain ⟨ao, cap, hv, hc, h0⟩ := h
  refine ⟨ao, cap, hv, hc, fun hn => ?_⟩
  obtain ⟨b, off, ha, hlt, hcell⟩ := h0 hn
  have := hb.size
  exact ⟨b, off, ha, by omega, fun i hi => (hb.cell (by exact hlt)).trans (hcell i hi)⟩

set_option maxRecDepth 100000 in
set_option maxHeartbeats 1600000 in
theorem runs_walk (s : ByteArray) (v : Value) (L : List Int) (steps : Int) (w : World) (hm : s.size ≤ maxLen) (hL : L.length ≤ maxLen) (hv : Reads w v L) :
    Calls Try.prog 5 #[.string s, v, .int .i64 steps] w fun e w' => e = .returned (.bool true) ∧ Below w.heap.size w w' := by
  unfold maxLen at hL
  by_cases hbig : 1073741824 < L.length
  · obtain ⟨ao, cap, rfl, -, -⟩ := hv
    have hb' : (1073741824 : Int) < (L.length : Int) := by omega
    go_enter Try.func5, Try.ntmps5
    go_wp2_with fail
    go_ret
    exact ⟨rfl, Below.refl _ _⟩
  have hL2 : L.length ≤ 1073741824 := by omega
  have hb' : ¬ (1073741824 : Int) < (L.length : Int) := by omega
  have hlent := l_lent w v L hL2 hv
  have HV : Hid (Reads w v L) := hv
  have HRun : Hid (∀ w1, Below w.heap.size w w1 → At w1 w.heap.size (lentCells L) tN → Calls Try.prog 13 #[.string s, .slice (some ⟨w.heap.size, 0, none⟩) L.length (L.length + 2), .int .i64 steps] w1 (RunSays w1 (bytesOf s) L steps)) := by
    intro w1 hb1 hat
    refine d_wrun s _ L steps w1 hm ?_ hL2
    have := hat.lt
    refine ⟨_, _, rfl, by omega, fun _ => ⟨w.heap.size, 0, rfl, this, fun i hi => ?_⟩⟩
    rw [Nat.zero_add, hat.cell]
    unfold lentCells
    rw [ic_get _ _ (by simp; omega)]
    simp [List.getD, List.getElem?_append_left hi]
  have HRef : Hid (∀ w1, Below w.heap.size w w1 → Calls Try.prog 14 #[.string s, v, .int .i64 steps] w1 (RRunSays w1 (bytesOf s) L steps)) := by
    intro w1 hb1
    exact ref_run s v L steps hm (HV.out.keep hb1).inp hL2
  obtain ⟨ao, cap, rfl, -, -⟩ := id hv
  clear hv hm hL hbig
  cases hp : progOf (bytesOf s) with
  | none =>
    have HP : Hid (progOf (bytesOf s) = none) := hp
    clear hp
    go_enter Try.func5, Try.ntmps5
    go_wp2_with fail
    refine hlent.mono ?_
    rintro e w1 ⟨rfl, hb1, hat1, hs1⟩
    have HB1 : Hid (Below w.heap.size w w1) := hb1
    have HA1 : Hid (At w1 w.heap.size (lentCells L) tN) := hat1
    clear hb1 hat1 hlent
    go_wp2_with fail
    refine (HRun.out w1 HB1.out HA1.out).mono ?_
    rintro e w2 ⟨hb2, ⟨-, rfl⟩ | ⟨m, F, e', -⟩⟩
    · have HB2 : Hid (Below w.heap.size w w2) := HB1.out.trans (hb2.mono (by omega))
      have HA2 : Hid (At w2 w.heap.size (lentCells L) tN) := HA1.out.keep hb2 hs1
      have hs2 : w1.heap.size ≤ w2.heap.size := hb2.size
      clear hb2
      go_wp2_with fail
      refine (HRef.out w2 HB2.out).mono ?_
      rintro e w3 ⟨hb3, ⟨-, rfl⟩ | ⟨m, e', -⟩⟩
      · have HB3 : Hid (Below w.heap.size w w3) := HB2.out.trans (hb3.mono (by omega))
        have HA3 : Hid (At w3 w.heap.size (lentCells L) tN) := HA2.out.keep hb3 (by omega)
        clear hb3
        go_wp2_with fail
        refine (l_result_nil w3).mono ?_
        rintro e w4 ⟨rfl, k, rfl⟩
        have hwh := l_whole (w3.drewN k) w.heap.size (.slice ao L.length cap) L hL2 (HA3.out.drewN k) (HV.out.keep (below_drewN HB3.out k))
        go_wp2_with fail
        refine hwh.mono ?_
        rintro e w5 ⟨rfl, k', rfl⟩
        go_wp2_with fail
        go_ret
        exact ⟨rfl, below_drewN HB3.out (k + k')⟩
      · rw [HP.out] at e'; cases e'
    · rw [HP.out] at e'; cases e'
  | some m =>
    have HP : Hid (progOf (bytesOf s) = some m) := hp
    clear hp
    go_enter Try.func5, Try.ntmps5
    go_wp2_with fail
    refine hlent.mono ?_
    rintro e w1 ⟨rfl, hb1, hat1, hs1⟩
    have HB1 : Hid (Below w.heap.size w w1) := hb1
    have HA1 : Hid (At w1 w.heap.size (lentCells L) tN) := hat1
    clear hb1 hat1 hlent
    go_wp2_with fail
    refine (HRun.out w1 HB1.out HA1.out).mono ?_
    rintro e w2 ⟨hb2, ⟨e', -⟩ | ⟨m', F, e', hW, hF, g, c, rfl, hg, hat, hsz, hls⟩⟩
    · rw [HP.out] at e'; cases e'
    · rw [HP.out] at e'
      cases e'
      have HB2 : Hid (Below w.heap.size w w2) := HB1.out.trans (hb2.mono (by omega))
      have HA2 : Hid (At w2 w.heap.size (lentCells L) tN) := HA1.out.keep hb2 hs1
      have hs2 : w1.heap.size ≤ w2.heap.size := hb2.size
      have hal := fin_alike hW hF.len L steps
      have hFl := hW.1.len
      have HG : Hid (At w2 g c tN ∧ c.size = 4 ∧ c.toList = _) := ⟨hat, hsz, hls⟩
      have hg2 := hat.lt
      clear hb2 hat hsz hls hW hF
      go_wp2_with fail
      refine (HRef.out w2 HB2.out).mono ?_
      rintro e w3 ⟨hb3, ⟨e', -⟩ | ⟨m', e', q, rfl, hq, hatq, hlq⟩⟩
      · rw [HP.out] at e'; cases e'
      · rw [HP.out] at e'
        cases e'
        have h1 : (finP F L steps).st = if (finR m.st L steps).pt = m.st.length then 1 else (finR m.st L steps).st := by rw [hal.st, hFl]
        have h2 := hal.pt
        have h3 := hal.v
        have HB3 : Hid (Below w.heap.size w w3) := HB2.out.trans (hb3.mono (by omega))
        have HA3 : Hid (At w3 w.heap.size (lentCells L) tN) := HA2.out.keep hb3 (by omega)
        have hres := l_result w3 g 4 (.slice (some ⟨q, 0, none⟩) 4 4) (finR m.st L steps).v c (HG.out.1.keep hb3 hg2) HG.out.2.1 (by omega) (by omega) (by
          intro i hi
          have := HG.out.2.2
          rw [← Array.getElem?_toList, this, h3]
          unfold sgAt
          rw [hlq] at hi
          rcases (show i = 0 ∨ i = 1 ∨ i = 2 ∨ i = 3 by omega) with rfl | rfl | rfl | rfl <;> rfl) (Reads.at_ hatq hlq (Nat.le_refl _) (fun i hi => by rw [ic_get _ _ (by omega)])) (by intro n k e; cases e)
        rw [hlq] at hres
        rw [h1, h2]
        have HRs : Hid (Calls Try.prog 15 #[.slice (some ⟨g, 0, none⟩) 4 4, .slice (some ⟨q, 0, none⟩) 4 4] w3 fun e w' => e = .returned (.bool true) ∧ Below g w3 w') := hres
        clear hb3 hatq hlq hal h1 h2 h3 hres HG
        generalize (if (finR m.st L steps).pt = m.st.length then (1 : Int) else (finR m.st L steps).st) = a at *
        generalize (finR m.st L steps).pt = b at *
        go_wp2_with fail
        refine HRs.out.mono ?_
        rintro e w4 ⟨rfl, hb4⟩
        have HB4 : Hid (Below w.heap.size w w4) := HB3.out.trans (hb4.mono (by omega))
        have hwh := l_whole w4 w.heap.size (.slice ao L.length cap) L hL2 (HA3.out.keep hb4 (by omega)) (HV.out.keep HB4.out)
        clear hb4
        go_wp2_with fail
        refine hwh.mono ?_
        rintro e w5 ⟨rfl, k', rfl⟩
        go_wp2_with fail
        go_ret
        exact ⟨rfl, below_drewN HB4.out k'⟩

theorem Try.ownR : ownKnob Try.prog.godebug = none := by kernel_rfl
theorem Try.laidOutR : laidOutB Try.prog = true := by kernel_rfl
theorem Try.cellsN : Try.prog.cellsOf tN = 1 := by kernel_rfl

set_option maxRecDepth 100000 in
theorem runs_lifted (os : Os) (started : os.Started) (H : Type) (enc : TypeId × Value → H) :
    ReturnsInHanded {} Try.checked os 5 .any (Rows.runsSpec.pre6 enc Try.prog Try.f5 Rows.runsRow.domain false) (Rows.runsSpec.post enc Try.prog Try.f5 false true false false) := by
  refine returnsInHanded_of_change (C := Try.checked) Try.ownR started (by kernel_rfl) Try.func5
    (ChangeSpec.witness6 (enc := enc) (C := Try.checked) false ⟨#[], #[.string ByteArray.empty, .slice none 0 0, .int .i64 0], []⟩ 8 (by kernel_rfl) (by kernel_rfl) (by kernel_rfl) (by kernel_rfl)) ?_
  intro W base args ds gs before hval0 hW _ _
  have hval : ∀ (j : Nat) t v, Try.f5.params[j]? = some t → args[j]? = some v → Value.okWide Try.prog W .any base t v := hval0
  have hW' := hW
  obtain ⟨p, q, hA0, hV, rfl, hfz, hnd⟩ := hW
  have hA : DataW.TrodAll enc Try.prog W 0 (fun _ => true) true Try.f5.params.toList args.toList ds p := hA0
  rw [Try.params5] at hA hval
  obtain ⟨v0, vs0, d0, ds0, p0, q0, hargs0, rfl, rfl, h0, r0⟩ := trodAll_cons hA
  obtain ⟨v1, vs1, d1, ds1, p1, q1, hargs1, rfl, rfl, h1, r1⟩ := trodAll_cons r0
  obtain ⟨v2, vs2, d2, ds2, p2, q2, hargs2, rfl, rfl, h2, r2⟩ := trodAll_cons r1
  obtain ⟨rfl, rfl, rfl⟩ := trodAll_nil r2
  obtain rfl : args = #[v0, v1, v2] := by cases args; simp_all
  obtain ⟨rfl, rfl⟩ := trodVars_none hV
  obtain ⟨s, rfl, rfl, rfl, hs⟩ := open_string Try.underlying9 (hval 0 9 v0 rfl rfl) h0
  obtain ⟨b, rfl, rfl, rfl, wb⟩ := open_int Try.underlying3 (hval 2 3 v2 rfl rfl) h2
  obtain ⟨a0, len, cap, rfl⟩ := okWide_slice Try.underlying29 (hval 1 29 v1 rfl rfl)
  clear hA0 hval0
  simp only [List.append_nil, List.nil_append] at hW'
  have hlt : ∀ x ∈ p1, x.block < W.heap.size := fun x hx => hW'.lt x (by simp [hx])
  have hrd : ∃ L, L.length ≤ maxLen ∧ Reads W (.slice a0 len cap) L := by
    obtain ⟨fuel, hf⟩ := h1
    rcases open_ints Try.underlying29 Try.underlying3 Try.cellsN hf with ⟨hcs, hx⟩ | ⟨a, len', cap', zs, hcs, _, hl, hm, hz, hx, hcell, hwz⟩
    · simp [Value.cells] at hcs
      obtain ⟨rfl, rfl, rfl⟩ := hcs
      exact ⟨[], Nat.zero_le _, none, 0, rfl, Nat.le_refl _, fun h => absurd rfl h⟩
    · simp [Value.cells] at hcs
      obtain ⟨rfl, rfl, rfl⟩ := hcs
      simp only [Prod.mk.injEq] at hx
      obtain ⟨rfl, rfl⟩ := hx
      simp only [if_true] at hz
      have htl : (zs.take len).length = len := by simp; omega
      refine ⟨zs.take len, by rw [htl]; exact Nat.le_trans hl hm, some a, cap, by rw [htl], by rw [htl]; exact hl, fun hn => ?_⟩
      rw [htl] at hn
      obtain ⟨bb, off, spot⟩ := a
      have hspot : spot = none := by simpa [Addr.add] using World.cell?_spot (hcell 0 (by omega))
      subst hspot
      refine ⟨bb, off, rfl, hlt (.cell bb off) (MemPlace.mem_row.2 ⟨0, by omega, by simp⟩), fun i hi => ?_⟩
      rw [htl] at hi
      rw [← add_plain, hcell i (by omega)]
      congr 2
      simp [List.getD, hi]
  obtain ⟨L, hLm, hR⟩ := hrd
  refine (runs_walk s _ L b W hs hLm hR).mono fun e W' ⟨he, hb⟩ => ?_
  subst he
  have hargs := Below.trod Try.laidOutR (by kernel_rfl) (of_decide_eq_true (by kernel_rfl)) h1 hb hlt
  have hall := trodAll_cons_mk (shut_string Try.underlying9 hs) (trodAll_cons_mk hargs (trodAll_cons_mk (shut_int Try.underlying3 wb) trodAll_mk0))
  simp only [List.append_nil, List.nil_append] at hall
  exact ⟨_, rfl, _, _, _, [], p1, [], hW', trodAll_cons_mk (shut_bool Try.underlying4 _) trodAll_mk0, hall, rfl, hb.frame _, fun h => by cases h⟩

theorem runs_holds : Rows.RunsSaid :=
  OpenClaim.holds_of_wide 5 Try.f5 rfl rfl rfl rfl rfl rfl rfl ⟨rfl, rfl, rfl, rfl, rfl⟩ rfl rfl rfl rfl rfl (by kernel_rfl) Try.func5 (by kernel_rfl)
    (of_decide_eq_true (by kernel_rfl)) (by unfold Func.isWrapper; first | (rw [if_pos (by decide +kernel)]; kernel_rfl) | (rw [if_neg (by decide +kernel)]; exact ⟨rfl, rfl⟩))
    (fun os started H enc _ => runs_lifted os started H enc)

end Go.Proofs.Ytffajooegiempaa

