import Derived.Test.YtffajooegiempabDoorJ16
namespace Go.Proofs.YtffajooegiempabDoor
open Go.RowKit
variable {w w' : World} {g cap b : Nat} {F : List Ds}

theorem ds_storeAt {c : Array Value} (h : At w b c tDs) (hc : c.size = 10) (y : Ds) : ∃ w1, (Instr.storeAt tDs (.pointer (some ⟨b, 0, none⟩)) (dsv y)).run Tryd.prog w = .ok () w1 ∧ At w1 b (dsCells y) tDs ∧ Onl b w w1 := by
  refine ⟨w.setRow b (dsCells y), ?_, setRow_heap w b c (dsCells y) tDs (0, 0) h, ⟨rfl, rfl, rfl, by simp [World.setRow], fun k _ hk => setRow_other w b k _ (fun e => hk e)⟩⟩
  simp only [Instr.storeAt, Instr.sureAddr, Sem.run_bind, Sem.run_pure, Result.andThen]
  exact run_storeVar_row w b tDs tDs c (dsCells y) h (by kernel_rfl) (by rw [hc]; rfl) (by simp [dsCells, Value.oneCell'])
/-- A whole statement is written, in a walk. -/
theorem wpList_store_ds {ops : Array Oper} {rest : List Oper} {o : Oper} {a : Act} {Q : Exit → Act → World → Prop} {c : Array Value} (hg : o.guard = none) (p x : Operand) (hop : o.op = Op.store tDs p x) (hp : a.eval p = .pointer (some ⟨b, 0, none⟩)) (y : Ds) (hx : a.eval x = dsv y) (hat : At w b c tDs) (hc : c.size = 10)
    (hK : ∀ w1, At w1 b (dsCells y) tDs → Onl b w w1 → wpList Tryd.prog ops Q rest (a.put o.dst undef) w1) : wpList Tryd.prog ops Q (o :: rest) a w := by
  refine wpList_plain hg fun K hK' => ?_
  obtain ⟨w1, h1, h2, h3⟩ := ds_storeAt hat hc y
  unfold Oper.wp
  simp [execOp, hop, hp, hx, h1, Result.andThen, Oper.upon]
  exact hK' _ _ (hK w1 h2 h3)
set_option maxRecDepth 100000 in
set_option maxHeartbeats 1600000 in
theorem d_with_out (ao : Option Addr) (n : Nat) (hn : n ≤ 20) (p way : Int) (hp : p < 0 ∨ (n : Int) ≤ p) :
    Calls Tryd.prog 35 #[.agg #[.slice ao n cap], .int .i64 p, .int .i64 way] w fun e w' => e = .returned (.tuple #[dsv zDs, .int .i64 2]) ∧ Below w.heap.size w w' := by
  obtain ⟨w0, hw0⟩ : ∃ w0, w0 = (w.alloc (.cells #[.slice ao n cap] 66)).alloc (.cells (dsCells zDs) tDs) := ⟨_, rfl⟩
  have HB0 : Hid (Below w.heap.size w w0 ∧ At w0 (w.heap.size + 1) (dsCells zDs) tDs ∧ w0.heap.size = w.heap.size + 2) := by
    refine ⟨by rw [hw0]; exact ((Below.refl _ _).alloc (Nat.le_refl _) _).alloc (by simp) _, ?_, by rw [hw0]; simp⟩
    have := At.new (w.alloc (.cells #[.slice ao n cap] 66)) (dsCells zDs) tDs
    rw [show (w.alloc (.cells #[.slice ao n cap] 66)).heap.size = w.heap.size + 1 by simp] at this
    rw [hw0]; exact this
  obtain ⟨BW, hBW⟩ : ∃ BW : World → Prop, BW = fun w' => Below w0.heap.size w0 w' := ⟨_, rfl⟩
  have hat0 : Calls Tryd.prog 32 #[.agg #[.slice ao n cap], .int .i64 p] w0 fun e w' => e = .returned (.tuple #[dsv zDs, .int .i64 2]) ∧ BW w' := by rw [hBW]; exact d_at_out ao n hn p hp
  clear hp
  rw [hw0] at hat0
  unfold dsv dsCells zDs newDs at hat0
  go_enter Tryd.func35, Tryd.ntmps35
  go_wp2_with fail
  refine hat0.mono ?_
  rintro e w1 ⟨rfl, hb1⟩
  obtain ⟨w2, hw2⟩ : ∃ w2, w2 = w1.alloc (.cells (dsCells zDs) tDs) := ⟨_, rfl⟩
  have H2 : Hid (Below w.heap.size w w2 ∧ At w2 (w.heap.size + 1) (dsCells zDs) tDs ∧ At w2 w1.heap.size (dsCells zDs) tDs ∧ w.heap.size + 2 ≤ w1.heap.size ∧ w2.heap.size = w1.heap.size + 1) := by
    have s0 := HB0.out.2.2
    rw [hBW] at hb1
    have s1 := hb1.size
    have a1 := At.keep HB0.out.2.1 hb1 (by omega)
    refine ⟨?_, ?_, ?_, by omega, by rw [hw2]; simp⟩
    · rw [hw2]; exact (HB0.out.1.trans (hb1.mono (by omega))).alloc (by have := HB0.out.1.size; omega) _
    · rw [hw2]; exact At.allocH a1 _
    · rw [hw2]; exact At.new _ _ _
  have hs1 : w.heap.size + 2 ≤ w1.heap.size := H2.out.2.2.2.1
  clear hb1
  unfold dsCells zDs newDs at hw2
  rw [hw2] at H2
  go_wp2_with (first | (refine wpList_store_ds (b := w.heap.size + 1) (c := dsCells zDs) rfl (.tmp 6) (.tmp 18) rfl rfl zDs rfl H2.out.2.1 rfl ?_; intro w5 h5a h5b))
  have h5 : Hid (At w5 (w.heap.size + 1) (dsCells zDs) tDs ∧ Below w.heap.size w w5) := ⟨h5a, H2.out.1.trans (h5b.below (by omega) (by have := H2.out.1.size; exact this))⟩
  go_wp2_with fail
  try simp only [Exit.inBlock, Exit.then]
  refine bodyPost_ret (results_dc (b := w.heap.size + 1) (x := zDs) rfl _ rfl h5.out.1) rfl ?_
  exact ⟨rfl, h5.out.2⟩

set_option maxRecDepth 100000 in
set_option maxHeartbeats 1600000 in
theorem d_with_in (h : PRow w g F) (k : Nat) (hk : k < F.length) (way : Int) :
    Calls Tryd.prog 35 #[.agg #[.slice (some ⟨g, 0, none⟩) F.length cap], .int .i64 (k : Int), .int .i64 way] w fun e w' =>
      e = .returned (.tuple #[dsv (if way < 0 ∨ waysP (F.getD k (newDs 0 0)).kind ≤ way then zDs else F.getD k (newDs 0 0)), .int .i64 (if way < 0 ∨ waysP (F.getD k (newDs 0 0)).kind ≤ way then 2 else 0)]) ∧ Below w.heap.size w w' := by
  obtain ⟨w0, hw0⟩ : ∃ w0, w0 = (w.alloc (.cells #[.slice (some ⟨g, 0, none⟩) F.length cap] 66)).alloc (.cells (dsCells zDs) tDs) := ⟨_, rfl⟩
  have HB0 : Hid (Below w.heap.size w w0 ∧ At w0 (w.heap.size + 1) (dsCells zDs) tDs ∧ w0.heap.size = w.heap.size + 2) := by
    refine ⟨by rw [hw0]; exact ((Below.refl _ _).alloc (Nat.le_refl _) _).alloc (by simp) _, ?_, by rw [hw0]; simp⟩
    have := At.new (w.alloc (.cells #[.slice (some ⟨g, 0, none⟩) F.length cap] 66)) (dsCells zDs) tDs
    rw [show (w.alloc (.cells #[.slice (some ⟨g, 0, none⟩) F.length cap] 66)).heap.size = w.heap.size + 1 by simp] at this
    rw [hw0]; exact this
  obtain ⟨BW, hBW⟩ : ∃ BW : World → Prop, BW = fun w' => Below w0.heap.size w0 w' := ⟨_, rfl⟩
  have hat0 : Calls Tryd.prog 32 #[.agg #[.slice (some ⟨g, 0, none⟩) F.length cap], .int .i64 (k : Int)] w0 fun e w' => e = .returned (.tuple #[dsv (F.getD k (newDs 0 0)), .int .i64 0]) ∧ BW w' := by rw [hBW]; exact d_at_in (h.keep HB0.out.1) k hk
  generalize F.getD k (newDs 0 0) = x at *
  clear h hk
  by_cases hw0' : way < 0
  · rw [if_pos (.inl hw0'), if_pos (.inl hw0')]
    rw [hw0] at hat0
    unfold dsv dsCells zDs newDs at hat0
    go_enter Tryd.func35, Tryd.ntmps35
    go_wp2_with fail
    refine hat0.mono ?_
    rintro e w1 ⟨rfl, hb1⟩
    obtain ⟨w2, hw2⟩ : ∃ w2, w2 = w1.alloc (.cells (dsCells x) tDs) := ⟨_, rfl⟩
    have H2 : Hid (Below w.heap.size w w2 ∧ At w2 (w.heap.size + 1) (dsCells zDs) tDs ∧ At w2 w1.heap.size (dsCells x) tDs ∧ w.heap.size + 2 ≤ w1.heap.size ∧ w2.heap.size = w1.heap.size + 1) := by
      have s0 := HB0.out.2.2
      rw [hBW] at hb1
      have s1 := hb1.size
      have a1 := At.keep HB0.out.2.1 hb1 (by omega)
      refine ⟨?_, ?_, ?_, by omega, by rw [hw2]; simp⟩
      · rw [hw2]; exact (HB0.out.1.trans (hb1.mono (by omega))).alloc (by have := HB0.out.1.size; omega) _
      · rw [hw2]; exact At.allocH a1 _
      · rw [hw2]; exact At.new _ _ _
    have hs1 : w.heap.size + 2 ≤ w1.heap.size := H2.out.2.2.2.1
    clear hb1
    unfold dsCells at hw2
    rw [hw2] at H2
    go_wp2_with (first | (refine wpList_store_ds (b := w.heap.size + 1) (c := dsCells zDs) rfl (.tmp 6) (.tmp 28) rfl rfl zDs rfl H2.out.2.1 rfl ?_; intro w5 h5a h5b))
    have h5 : Hid (At w5 (w.heap.size + 1) (dsCells zDs) tDs ∧ Below w.heap.size w w5) := ⟨h5a, H2.out.1.trans (h5b.below (by omega) (by have := H2.out.1.size; exact this))⟩
    go_wp2_with fail
    try simp only [Exit.inBlock, Exit.then]
    refine bodyPost_ret (results_dc (b := w.heap.size + 1) (x := zDs) rfl _ rfl h5.out.1) rfl ?_
    exact ⟨rfl, h5.out.2⟩
  by_cases hw1 : waysP x.kind ≤ way
  · rw [if_pos (.inr hw1), if_pos (.inr hw1)]
    rw [hw0] at hat0
    unfold dsv dsCells zDs newDs at hat0
    go_enter Tryd.func35, Tryd.ntmps35
    go_wp2_with fail
    refine hat0.mono ?_
    rintro e w1 ⟨rfl, hb1⟩
    obtain ⟨w2, hw2⟩ : ∃ w2, w2 = w1.alloc (.cells (dsCells x) tDs) := ⟨_, rfl⟩
    have H2 : Hid (Below w.heap.size w w2 ∧ At w2 (w.heap.size + 1) (dsCells zDs) tDs ∧ At w2 w1.heap.size (dsCells x) tDs ∧ w.heap.size + 2 ≤ w1.heap.size ∧ w2.heap.size = w1.heap.size + 1) := by
      have s0 := HB0.out.2.2
      rw [hBW] at hb1
      have s1 := hb1.size
      have a1 := At.keep HB0.out.2.1 hb1 (by omega)
      refine ⟨?_, ?_, ?_, by omega, by rw [hw2]; simp⟩
      · rw [hw2]; exact (HB0.out.1.trans (hb1.mono (by omega))).alloc (by have := HB0.out.1.size; omega) _
      · rw [hw2]; exact At.allocH a1 _
      · rw [hw2]; exact At.new _ _ _
    have hs1 : w.heap.size + 2 ≤ w1.heap.size := H2.out.2.2.2.1
    clear hb1
    unfold dsCells at hw2
    rw [hw2] at H2
    go_wp2_with fail
    refine (d_ways _ _ _ _ _ _ _ _ _ _ _).mono ?_
    rintro e w3 ⟨rfl, o3, rfl⟩
    go_wp2_with (first | (refine wpList_store_ds (b := w.heap.size + 1) (c := dsCells zDs) rfl (.tmp 6) (.tmp 28) rfl rfl zDs rfl (At.allocH H2.out.2.1 _) rfl ?_; intro w5 h5a h5b))
    have h5 : Hid (At w5 (w.heap.size + 1) (dsCells zDs) tDs ∧ Below w.heap.size w w5) := ⟨h5a, (H2.out.1.alloc (by have := H2.out.1.size; exact this) _).trans (h5b.below (by omega) (by have := H2.out.1.size; simp at this ⊢; omega))⟩
    go_wp2_with fail
    try simp only [Exit.inBlock, Exit.then]
    refine bodyPost_ret (results_dc (b := w.heap.size + 1) (x := zDs) rfl _ rfl h5.out.1) rfl ?_
    exact ⟨rfl, h5.out.2⟩
  · rw [if_neg (fun e => e.elim hw0' hw1), if_neg (fun e => e.elim hw0' hw1)]
    rw [hw0] at hat0
    unfold dsv dsCells zDs newDs at hat0
    go_enter Tryd.func35, Tryd.ntmps35
    go_wp2_with fail
    refine hat0.mono ?_
    rintro e w1 ⟨rfl, hb1⟩
    obtain ⟨w2, hw2⟩ : ∃ w2, w2 = w1.alloc (.cells (dsCells x) tDs) := ⟨_, rfl⟩
    have H2 : Hid (Below w.heap.size w w2 ∧ At w2 (w.heap.size + 1) (dsCells zDs) tDs ∧ At w2 w1.heap.size (dsCells x) tDs ∧ w.heap.size + 2 ≤ w1.heap.size ∧ w2.heap.size = w1.heap.size + 1) := by
      have s0 := HB0.out.2.2
      rw [hBW] at hb1
      have s1 := hb1.size
      have a1 := At.keep HB0.out.2.1 hb1 (by omega)
      refine ⟨?_, ?_, ?_, by omega, by rw [hw2]; simp⟩
      · rw [hw2]; exact (HB0.out.1.trans (hb1.mono (by omega))).alloc (by have := HB0.out.1.size; omega) _
      · rw [hw2]; exact At.allocH a1 _
      · rw [hw2]; exact At.new _ _ _
    have hs1 : w.heap.size + 2 ≤ w1.heap.size := H2.out.2.2.2.1
    clear hb1
    unfold dsCells at hw2
    rw [hw2] at H2
    go_wp2_with fail
    refine (d_ways _ _ _ _ _ _ _ _ _ _ _).mono ?_
    rintro e w3 ⟨rfl, o3, rfl⟩
    go_wp2_with (first | (refine wpList_store_ds (b := w.heap.size + 1) (c := dsCells zDs) rfl (.tmp 6) (.tmp 29) rfl rfl x rfl (At.allocH H2.out.2.1 _) rfl ?_; intro w5 h5a h5b))
    have h5 : Hid (At w5 (w.heap.size + 1) (dsCells x) tDs ∧ Below w.heap.size w w5) := ⟨h5a, (H2.out.1.alloc (by have := H2.out.1.size; exact this) _).trans (h5b.below (by omega) (by have := H2.out.1.size; simp at this ⊢; omega))⟩
    go_wp2_with fail
    try simp only [Exit.inBlock, Exit.then]
    refine bodyPost_ret (results_dc (b := w.heap.size + 1) (x := x) rfl _ rfl h5.out.1) rfl ?_
    exact ⟨rfl, h5.out.2⟩

end Go.Proofs.YtffajooegiempabDoor

namespace Go.Proofs.YtffajooegiempabDoor
open Go.RowKit
variable {w : World}

theorem ov_tq {o : List Int} (ho : okL o) (he : ovE o = false) : TQ (ovM o) := by
  refine ⟨(raw_lay ho).tc he, (raw_lay ho).top (bd_lay ho) he, fun k hk => ?_⟩
  have hlo : Lo (8000 * 6 ^ 8 + 1) (sharp (lay o 32)) := sharp_lo (fun a _ => (lay_range o 32 ho.2 a).1)
  have y : -(8000 * 6 ^ 8 + 1) ≤ sharp (lay o 32) k := hlo k hk
  have z : (8000 * 6 ^ 8 + 1 : Int) = 13436928001 := by decide
  rw [z] at y
  show _ ≤ sharp (lay o 32) k
  omega
theorem ov_rng {o : List Int} (ho : okL o) : ∀ k, k < 64 → -20000000000 ≤ ovM o k ∧ ovM o k ≤ 1000000 := by
  intro k hk
  have hlo : Lo (8000 * 6 ^ 8 + 1) (sharp (lay o 32)) := sharp_lo (fun a _ => (lay_range o 32 ho.2 a).1)
  have y : -(8000 * 6 ^ 8 + 1) ≤ sharp (lay o 32) k := hlo k hk
  have z : (8000 * 6 ^ 8 + 1 : Int) = 13436928001 := by decide
  rw [z] at y
  have u := sharp_le (lay o 32) k
  have v := (lay_range o 32 ho.2 k).2
  show -20000000000 ≤ sharp (lay o 32) k ∧ sharp (lay o 32) k ≤ 1000000
  omega
theorem TQ.sh {C : Nat → Int} (h : TQ C) : Sh C := fun k hk => ⟨by have := h.lo k hk; omega, (h.top k hk).imp id (fun q => by omega)⟩
end Go.Proofs.YtffajooegiempabDoor

/- A run, plain: the program's machine. -/
namespace Go.Proofs.YtffajooegiempabDoor

structure Ms where
  used : Nat
  st : Int
  pt : Int
  v : List Int

def clampI (n : Int) : Int := if 999 < n then 999 else if n < -999 then -999 else n
def sumTo (a b : List Int) : Nat → Int
  | 0 => 0
  | j + 1 => sumTo a b j + sgAt a j * sgAt b j
def inP (L : List Int) (u : Nat) : Int × Nat := if u < L.length then (L.getD u 0, u + 1) else (0, u)
def valP (L : List Int) (x : Ds) (s : Ms) : Int × Nat := if x.any = true then (clampI (inP L s.used).1, (inP L s.used).2) else (sumTo x.sg s.v 4 + x.num, s.used)
def holP (L : List Int) (x : Ds) (s : Ms) : Bool × Nat := if x.any = true then ((inP L s.used).1 != 0, (inP L s.used).2) else (decide (sumTo x.sg s.v 4 ≤ x.num), s.used)
def entP (n : Nat) (s : Ms) (p : Int) : Ms := ⟨s.used, if p = n then 1 else s.st, p, s.v⟩
def leaP (F : List Ds) (s : Ms) (way : Int) : Ms := if (nextP F s.pt way).2 = 0 then entP F.length s (nextP F s.pt way).1 else s
def asgP (F : List Ds) (L : List Int) (x : Ds) (s : Ms) : Ms :=
  if 999 < (valP L x s).1 ∨ (valP L x s).1 < -999 then ⟨(valP L x s).2, 2, s.pt, s.v⟩ else leaP F ⟨(valP L x s).2, s.st, s.pt, s.v.set x.target.toNat (valP L x s).1⟩ 0
def astP (F : List Ds) (L : List Int) (x : Ds) (s : Ms) : Ms :=
  if (holP L x s).1 = true then leaP F ⟨(holP L x s).2, s.st, s.pt, s.v⟩ 0 else ⟨(holP L x s).2, 3, s.pt, s.v⟩
def braP (F : List Ds) (L : List Int) (x : Ds) (s : Ms) : Ms := leaP F ⟨(holP L x s).2, s.st, s.pt, s.v⟩ (if (holP L x s).1 = true then 0 else 1)
def stpP (F : List Ds) (L : List Int) (s : Ms) : Ms :=
  if s.pt < 0 ∨ (F.length : Int) ≤ s.pt then s else
    if (F.getD s.pt.toNat (newDs 0 0)).kind = 0 then asgP F L (F.getD s.pt.toNat (newDs 0 0)) s
    else if (F.getD s.pt.toNat (newDs 0 0)).kind = 1 then astP F L (F.getD s.pt.toNat (newDs 0 0)) s
    else braP F L (F.getD s.pt.toNat (newDs 0 0)) s
def runP (F : List Ds) (L : List Int) : Nat → Ms → Ms
  | 0, s => s
  | n + 1, s => if s.st = 0 then runP F L n (stpP F L s) else s

/-- What a statement keeps to. -/
structure DsOk (x : Ds) : Prop where
  len : x.sg.length = 4
  sg : ∀ i, -1 ≤ sgAt x.sg i ∧ sgAt x.sg i ≤ 1
  num : -99 ≤ x.num ∧ x.num ≤ 99
  tg : 0 ≤ x.target ∧ x.target ≤ 3
/-- What a machine keeps to. -/
structure MsOk (L : List Int) (s : Ms) : Prop where
  len : s.v.length = 4
  v : ∀ i, -999 ≤ sgAt s.v i ∧ sgAt s.v i ≤ 999
  used : s.used ≤ L.length

theorem mul_sg (a b : Int) (h0 : -1 ≤ a) (h1 : a ≤ 1) (h2 : -999 ≤ b) (h3 : b ≤ 999) : -999 ≤ a * b ∧ a * b ≤ 999 := by
  rcases (show a = -1 ∨ a = 0 ∨ a = 1 by omega) with rfl | rfl | rfl <;> omega
theorem sumTo_le {a b : List Int} (ha : ∀ i, -1 ≤ sgAt a i ∧ sgAt a i ≤ 1) (hb : ∀ i, -999 ≤ sgAt b i ∧ sgAt b i ≤ 999) : ∀ j : Nat, -(999 * (j : Int)) ≤ sumTo a b j ∧ sumTo a b j ≤ 999 * (j : Int) := by
  intro j
  induction j with
  | zero => simp [sumTo]
  | succ j ih =>
    have := mul_sg (sgAt a j) (sgAt b j) (ha j).1 (ha j).2 (hb j).1 (hb j).2
    unfold sumTo
    omega
theorem inP_used {L : List Int} {u : Nat} (h : u ≤ L.length) : (inP L u).2 ≤ L.length := by
  unfold inP; split <;> simp <;> omega
theorem clampI_le (n : Int) : -999 ≤ clampI n ∧ clampI n ≤ 999 := by
  unfold clampI; split
  · omega
  · split <;> omega
theorem sgAt_set (l : List Int) (i j : Nat) (x : Int) (hi : i < l.length) : sgAt (l.set i x) j = if j = i then x else sgAt l j := by
  unfold sgAt
  rw [List.getD_eq_getElem?_getD, List.getElem?_set]
  by_cases e : i = j
  · subst e; simp [hi]
  · rw [if_neg e, if_neg (Ne.symm e), List.getD_eq_getElem?_getD]

variable {F : List Ds} {L : List Int} {s : Ms} {x : Ds}
theorem MsOk.lea (h : MsOk L s) (way : Int) : MsOk L (leaP F s way) := by
  unfold leaP
  split
  · exact ⟨h.len, h.v, h.used⟩
  · exact h
theorem valP_used (h : MsOk L s) : (valP L x s).2 ≤ L.length := by
  unfold valP; split
  · exact inP_used h.used
  · exact h.used
theorem holP_used (h : MsOk L s) : (holP L x s).2 ≤ L.length := by
  unfold holP; split
  · exact inP_used h.used
  · exact h.used
theorem MsOk.asg (h : MsOk L s) (hx : DsOk x) : MsOk L (asgP F L x s) := by
  unfold asgP
  split
  · exact ⟨h.len, h.v, valP_used h⟩
  · rename_i hn
    refine MsOk.lea ⟨?_, ?_, ?_⟩ 0
    · simp only [List.length_set]; exact h.len
    · intro i
      have := hx.tg
      have hl := h.len
      rw [sgAt_set _ _ _ _ (by omega)]
      split
      · omega
      · exact h.v i
    · exact valP_used h
theorem MsOk.ast (h : MsOk L s) : MsOk L (astP F L x s) := by
  unfold astP
  split
  · exact MsOk.lea (s := ⟨(holP L x s).2, s.st, s.pt, s.v⟩) ⟨h.len, h.v, holP_used h⟩ 0
  · exact ⟨h.len, h.v, holP_used h⟩
theorem MsOk.bra (h : MsOk L s) : MsOk L (braP F L x s) := MsOk.lea (s := ⟨(holP L x s).2, s.st, s.pt, s.v⟩) ⟨h.len, h.v, holP_used h⟩ _
theorem MsOk.stp (h : MsOk L s) (hF : ∀ (k : Nat) (x : Ds), F[k]? = some x → DsOk x) : MsOk L (stpP F L s) := by
  unfold stpP
  split
  · exact h
  · rename_i hn
    have hk : s.pt.toNat < F.length := by omega
    have hx : DsOk (F.getD s.pt.toNat (newDs 0 0)) := hF s.pt.toNat _ (by rw [List.getD_eq_getElem?_getD, List.getElem?_eq_getElem hk]; rfl)
    split
    · exact h.asg hx
    split
    · exact h.ast
    · exact h.bra

end Go.Proofs.YtffajooegiempabDoor

/- A run stays within its program. -/
namespace Go.Proofs.YtffajooegiempabDoor
variable {F : List Ds} {L : List Int} {s : Ms} {x : Ds}

theorem firstGo_in (p b fr : Int) : ∀ (l : List Ds) (i : Nat), firstGo p b fr l i = -1 ∨ ((i : Int) ≤ firstGo p b fr l i ∧ firstGo p b fr l i < ((i + l.length : Nat) : Int)) := by
  intro l
  induction l with
  | nil => intro i; exact .inl rfl
  | cons y l ih =>
    intro i
    rw [firstGo]
    split
    · right; simp only [List.length_cons]; omega
    · rcases ih (i + 1) with h | h
      · exact .inl h
      · right; simp only [List.length_cons]; omega
theorem firstP_in (p b fr : Int) (h : firstP F p b fr ≠ -1) : 0 ≤ firstP F p b fr ∧ firstP F p b fr < F.length := by
  rcases firstGo_in p b fr F 0 with e | e
  · exact absurd e h
  · unfold firstP; omega
theorem followP_in : ∀ (n : Nat) (pt : Int), 0 ≤ followP F n pt ∧ followP F n pt ≤ F.length := by
  intro n
  induction n with
  | zero => intro pt; unfold followP; omega
  | succ n ih =>
    intro pt
    rw [followP]
    split
    · omega
    split
    · rename_i h
      have := firstP_in _ _ _ h
      omega
    split
    · rename_i h
      unfold isRepP at h
      simp only [Bool.and_eq_true, decide_eq_true_eq] at h
      omega
    · exact ih _
theorem nextP_in (pt way : Int) (h : (nextP F pt way).2 = 0) : 0 ≤ (nextP F pt way).1 ∧ (nextP F pt way).1 ≤ F.length := by
  unfold nextP at h ⊢
  by_cases h1 : pt < 0 ∨ (F.length : Int) ≤ pt
  · rw [if_pos h1] at h; simp at h
  rw [if_neg h1] at h ⊢
  by_cases h2 : way < 0 ∨ waysP (F.getD pt.toNat (newDs 0 0)).kind ≤ way
  · rw [if_pos h2] at h; simp at h
  rw [if_neg h2] at h ⊢
  split
  · exact followP_in _ _
  split
  · rename_i h3
    have := firstP_in _ _ _ h3
    simp only; omega
  split
  · simp only; omega
  · exact followP_in _ _

def InR (F : List Ds) (s : Ms) : Prop := s.st = 0 → 0 ≤ s.pt ∧ s.pt < F.length
theorem InR.ent (p : Int) (h0 : 0 ≤ p) (h1 : p ≤ F.length) : InR F (entP F.length s p) := by
  intro h
  unfold entP at h ⊢
  simp only at h ⊢
  split at h
  · cases h
  · omega
theorem InR.lea (h : InR F s) (way : Int) : InR F (leaP F s way) := by
  unfold leaP
  split
  · rename_i e
    have := nextP_in s.pt way e
    exact InR.ent _ this.1 this.2
  · exact h
theorem InR.stp (h : InR F s) : InR F (stpP F L s) := by
  unfold stpP
  split
  · exact h
  split
  · unfold asgP
    split
    · exact fun e => absurd e (by decide : ¬ (2 : Int) = 0)
    · refine InR.lea ?_ 0; exact h
  split
  · unfold astP
    split
    · refine InR.lea ?_ 0; exact h
    · exact fun e => absurd e (by decide : ¬ (3 : Int) = 0)
  · unfold braP; refine InR.lea ?_ _; exact h

/-- The run, whole. -/
def finP (F : List Ds) (L : List Int) (steps : Int) : Ms := runP F L (min steps.toNat 2000) (entP F.length ⟨0, 0, 0, [0, 0, 0, 0]⟩ 0)

end Go.Proofs.YtffajooegiempabDoor

/- States along a statement: what Safe and Post say of them. No Go in here. -/
namespace Go.Proofs.YtffajooegiempabDoor

/-- What a statement of a program keeps to. -/
structure DQ (x : Ds) : Prop where
  g : DsG x
  len : x.sg.length = 4
  tg : 0 ≤ x.target ∧ x.target < 4
  kd : x.kind = 0 ∨ x.kind = 1 ∨ x.kind = 2 ∨ x.kind = 3
  nz2 : nz x.sg ≤ 2
  fa : x.kind = 0 → nz x.sg ≤ 1
  fc : x.kind ≠ 0 → x.any = true ∨ 1 ≤ nz x.sg
theorem dq_of {l : List Int} {m : Rd} {F : List Ds} (hp : progOf l = some m) (hW : Whole F m.st) {k : Nat} (hk : k < F.length) : DQ (F.getD k (newDs 0 0)) := by
  have hD := dsg_of hp hW hk
  have hq := stq_of hp (show k < m.st.length by have := hW.1.len; omega)
  have hk0 := kind_0 hD.2
  obtain ⟨-, c1, c2, c3, c4⟩ := id hD.2
  refine ⟨hD.1, by rw [← c3]; exact hq.g.len, by rw [← c1]; exact ⟨hq.var.1, by have := hq.var.2; omega⟩, ?_, by rw [← c3]; exact hq.g.nz, fun h => by rw [← c3]; exact hq.fq.1 (hk0.1 h), fun h => by rw [← c3, ← c2]; exact hq.fq.2 (fun z => h (hk0.2 z))⟩
  obtain ⟨x, u, a0, c0, g, hx, hu, hcor, ha, hif, hfc, hC, hs, hr, hkk⟩ := hW.at_ k hk
  rw [getD_some hx]
  obtain ⟨x', u', hx', hu', _, _, _, _, hkd⟩ := hs
  rw [hx] at hx'
  cases hx'
  rcases hkd with ⟨hk01, _⟩ | ⟨hk3, _⟩ | ⟨hk2, _⟩
  · rcases hk01 with e | e
    · exact .inl e
    · exact .inr (.inl e)
  · exact .inr (.inr (.inr hk3))
  · exact .inr (.inr (.inl hk2))

/-- Which sides of which variables a sum has: a table of all sign lists. -/
def coS (s i : Nat) : Int := if s / 2 = i then (if s % 2 = 0 then 1 else -1) else 0
def tabC (l : List Int) : Bool := decide (2 < nz l) || ((List.range 4).all fun i => decide (gAt l i = if sd1 l = sd2 l then coS (sd1 l) i else coS (sd1 l) i + coS (sd2 l) i)) && (decide (1 < nz l) || decide (sd1 l = sd2 l) || decide (sd1 l = opp (sd2 l)))
theorem tabC_all : (sg3.all fun a => sg3.all fun b => sg3.all fun c => sg3.all fun d => tabC [a, b, c, d]) = true := by decide +kernel
theorem tabC_of {l : List Int} (hl : l.length = 4) (h : ∀ i, -1 ≤ gAt l i ∧ gAt l i ≤ 1) : tabC l = true := by
  obtain ⟨a, b, c, d, rfl⟩ := four_of hl
  have t := tabC_all
  simp only [List.all_eq_true] at t
  exact t a (mem_sg3 (h 0)) b (mem_sg3 (h 1)) c (mem_sg3 (h 2)) d (mem_sg3 (h 3))
theorem sd_co (V : Nat → Int) : ∀ s : Nat, s < 8 → sd V s = coS s 0 * V 0 + coS s 1 * V 1 + coS s 2 * V 2 + coS s 3 * V 3 := by
  intro s hs
  rcases (show s = 0 ∨ s = 1 ∨ s = 2 ∨ s = 3 ∨ s = 4 ∨ s = 5 ∨ s = 6 ∨ s = 7 by omega) with rfl | rfl | rfl | rfl | rfl | rfl | rfl | rfl <;> simp [sd, coS]
theorem sumTo_4 (l v : List Int) : sumTo l v 4 = gAt l 0 * gAt v 0 + gAt l 1 * gAt v 1 + gAt l 2 * gAt v 2 + gAt l 3 * gAt v 3 := by
  show 0 + sgAt l 0 * sgAt v 0 + sgAt l 1 * sgAt v 1 + sgAt l 2 * sgAt v 2 + sgAt l 3 * sgAt v 3 = _
  rw [Int.zero_add]
  rfl
theorem sum_sd {l : List Int} (hl : l.length = 4) (h : ∀ i, -1 ≤ gAt l i ∧ gAt l i ≤ 1) (h2 : nz l ≤ 2) (v : List Int) :
    sumTo l v 4 = if sd1 l = sd2 l then sd (gAt v) (sd1 l) else sd (gAt v) (sd1 l) + sd (gAt v) (sd2 l) := by
  have t := tabC_of hl h
  have a1 : sd1 l < 8 := (sdS_lt l 4 (Nat.le_refl _)).1
  have a2 : sd2 l < 8 := (sdS_lt l 4 (Nat.le_refl _)).2
  unfold tabC at t
  rw [decide_eq_false (by omega : ¬ 2 < nz l), Bool.false_or, Bool.and_eq_true] at t
  have t1 := List.all_eq_true.1 t.1
  have e : ∀ i, i < 4 → gAt l i = if sd1 l = sd2 l then coS (sd1 l) i else coS (sd1 l) i + coS (sd2 l) i := fun i hi => of_decide_eq_true (t1 i (by simpa using hi))
  rw [sumTo_4, e 0 (by omega), e 1 (by omega), e 2 (by omega), e 3 (by omega)]
  by_cases q : sd1 l = sd2 l
  · simp only [if_pos q]
    rw [sd_co _ _ a1]
  · simp only [if_neg q]
    rw [sd_co _ _ a1, sd_co _ _ a2]
    simp only [Int.add_mul]
    omega
theorem one_sd {l : List Int} (hl : l.length = 4) (h : ∀ i, -1 ≤ gAt l i ∧ gAt l i ≤ 1) (h1 : nz l ≤ 1) : sd1 l = sd2 l ∨ sd1 l = opp (sd2 l) := by
  have t := tabC_of hl h
  unfold tabC at t
  rw [decide_eq_false (by omega : ¬ 2 < nz l), Bool.false_or, Bool.and_eq_true, decide_eq_false (by omega : ¬ 1 < nz l), Bool.false_or, Bool.or_eq_true] at t
  exact t.2.imp of_decide_eq_true of_decide_eq_true

variable {M : Nat → Int} {v : List Int}

/-- A state's sum is at most its greatest. -/
theorem sum_gr (h : Sat (gAt v) M) {l : List Int} (hl : l.length = 4) (hs : ∀ i, -1 ≤ gAt l i ∧ gAt l i ≤ 1) (h2 : nz l ≤ 2) : grP M l = NB ∨ sumTo l v 4 ≤ grP M l := by
  have a1 : sd1 l < 8 := (sdS_lt l 4 (Nat.le_refl _)).1
  have a2 : sd2 l < 8 := (sdS_lt l 4 (Nat.le_refl _)).2
  have hq := h (sd1 l) (sd2 l) a1 a2
  rw [sum_sd hl hs h2]
  unfold grP mo
  by_cases q : sd1 l = sd2 l
  · rw [← q] at hq ⊢
    rw [if_pos rfl]
    by_cases n : M (sd1 l * 8 + sd1 l) = NB
    · rw [if_neg (fun z => z.2 n)]; exact .inl n
    · rw [if_pos ⟨rfl, n⟩]
      have hle := hq.resolve_left n
      have t := tdiv2 (M (sd1 l * 8 + sd1 l))
      right
      rcases Int.lt_or_le (M (sd1 l * 8 + sd1 l)) 0 with e | e
      · rw [t.2 e]; omega
      · rw [t.1 e]; omega
  · rw [if_neg q, if_neg (fun z => q z.1)]
    exact hq
theorem sum_ng {l : List Int} (v : List Int) : sumTo (ngL l) v 4 = -sumTo l v 4 := by
  rw [sumTo_4, sumTo_4]
  show -gAt l 0 * gAt v 0 + -gAt l 1 * gAt v 1 + -gAt l 2 * gAt v 2 + -gAt l 3 * gAt v 3 = _
  simp only [Int.neg_mul]
  omega
/-- The state behind a condition. -/
theorem sat_at (h : Sat (gAt v) M) (hT : TQ M) {l : List Int} (hl : l.length = 4) (hs : ∀ i, -1 ≤ gAt l i ∧ gAt l i ≤ 1) (h1 : 1 ≤ nz l) (h2 : nz l ≤ 2) {n : Int} (hn : n ≤ 1000) (hle : sumTo l v 4 ≤ n) :
    atE false M l n = false ∧ Sat (gAt v) (atM false M l n) := by
  obtain ⟨f, hf, hnf, hgr, hs1, hs2⟩ := grP_form hT.tc hl hs h1 h2
  unfold atE atM
  by_cases q : atS false M l n = true
  · rw [if_pos q, if_pos q]; exact ⟨rfl, h⟩
  · rw [if_neg q, if_neg q]
    have e : lm M (sd1 l) (sd2 l) n = sb M f n := by rw [hs1, hs2]; rfl
    rw [e]
    have hv : fval (gAt v) f ≤ n := by
      have s := sum_sd hl hs h2 v
      rw [hs1, hs2] at s
      unfold fval
      by_cases h8 : f < 8
      · obtain ⟨q1, q2⟩ := fs_lo f h8
        rw [if_pos (by rw [q1, q2]), q1] at s
        rw [if_pos h8]; omega
      · rw [if_neg (fs_hi f hf (by omega))] at s
        rw [if_neg h8]; omega
    have y := (sat_sb h hf hn hv).sharp
    exact ⟨y.some, y⟩
theorem gAt_set {l : List Int} {i : Nat} (hi : i < l.length) (j : Nat) (x : Int) : gAt (l.set i x) j = if j = i then x else gAt l j := sgAt_set l i j x hi
theorem sd_set {t : Nat} (hv : v.length = 4) (ht : t < 4) (c : Int) {i : Nat} (_hi : i < 8) : sd (gAt (v.set t c)) i = if i = 2 * t then c else if i = 2 * t + 1 then -c else sd (gAt v) i := by
  unfold sd
  rw [gAt_set (by omega)]
  by_cases e1 : i = 2 * t
  · rw [if_pos e1, if_pos (by omega), if_pos (by omega)]
  · by_cases e2 : i = 2 * t + 1
    · rw [if_neg e1, if_pos e2, if_neg (by omega), if_pos (by omega)]
    · rw [if_neg e1, if_neg e2, if_neg (by omega : ¬ i / 2 = t)]
theorem sat_bt (h : Sat (gAt v) M) (hv : v.length = 4) {t : Nat} (ht : t < 4) {lo hi c : Int} (hlo : -999 ≤ lo ∧ lo ≤ 999) (hhi : -999 ≤ hi ∧ hi ≤ 999) (h1 : lo ≤ c) (h2 : c ≤ hi) : Sat (gAt (v.set t c)) (sbT M t lo hi) := by
  intro i j hi' hj
  rw [sbT_at M ht hlo hhi hi' hj, sd_set hv ht c hi', sd_set hv ht c hj]
  have up : ∀ {i : Nat}, i < 8 → isT t i → (if i = 2 * t then c else if i = 2 * t + 1 then -c else sd (gAt v) i) ≤ uF M t lo hi i := fun {i} _ q => by
    unfold uF
    rcases q with q | q
    · rw [if_pos q, if_pos q]; exact h2
    · rw [if_neg (by omega), if_pos q, if_neg (by omega), if_pos q]; omega
  have no : ∀ {i : Nat}, ¬ isT t i → (if i = 2 * t then c else if i = 2 * t + 1 then -c else sd (gAt v) i) = sd (gAt v) i := fun {i} q => by
    rw [if_neg (fun z => q (.inl z)), if_neg (fun z => q (.inr z))]
  have mm : ∀ {j : Nat}, j < 8 → mo M j j = NB ∨ sd (gAt v) j ≤ mo M j j := fun {j} hj => by
    unfold mo
    by_cases n : M (j * 8 + j) = NB
    · rw [if_neg (fun z => z.2 n)]; exact .inl n
    · rw [if_pos ⟨rfl, n⟩]
      have hle := (h j j hj hj).resolve_left n
      have t := tdiv2 (M (j * 8 + j))
      right
      rcases Int.lt_or_le (M (j * 8 + j)) 0 with e | e
      · rw [t.2 e]; omega
      · rw [t.1 e]; omega
  have pls : ∀ {a b x y : Int}, x ≤ a → (b = NB ∨ y ≤ b) → pl a b = NB ∨ x + y ≤ pl a b := fun {a b x y} hx hy => by
    by_cases n : pl a b = NB
    · exact .inl n
    · obtain ⟨_, n2, e⟩ := pl_fin n
      have := hy.resolve_left n2
      right; omega
  unfold sbG
  by_cases ti : isT t i
  · rw [if_pos ti]
    by_cases tj : isT t j
    · rw [if_pos tj]
      by_cases e : i = j
      · rw [if_pos e]
        subst e
        right
        by_cases e2 : i = 2 * t
        · rw [if_pos e2, if_pos e2]; omega
        · have e3 : i = 2 * t + 1 := ti.resolve_left e2
          rw [if_neg e2, if_neg e2, if_pos e3]; omega
      · rw [if_neg e]
        have hq := h i j hi' hj
        have z : sd (gAt v) i + sd (gAt v) j = 0 := by
          have : j = opp i := (isT_eq ti tj).resolve_left (fun z => e z.symm)
          rw [this, sd_opp]; omega
        have z2 : (if i = 2 * t then c else if i = 2 * t + 1 then -c else sd (gAt v) i) + (if j = 2 * t then c else if j = 2 * t + 1 then -c else sd (gAt v) j) = 0 := by
          rcases ti with q | q <;> rcases tj with r | r
          · omega
          · rw [if_pos q, if_neg (by omega), if_pos r]; omega
          · rw [if_neg (by omega), if_pos q, if_pos r]; omega
          · omega
        rw [z2]
        rw [z] at hq
        exact hq
    · rw [if_neg tj, no tj]
      exact pls (up hi' ti) (mm hj)
  · rw [if_neg ti, no ti]
    by_cases tj : isT t j
    · rw [if_pos tj, Int.add_comm]
      exact pls (up hj tj) (mm hi')
    · rw [if_neg tj, no tj]
      exact h i j hi' hj
theorem sat_ss (h : Sat (gAt v) M) (hv : v.length = 4) {t f : Nat} (ht : t < 4) (hf : f < 8) {n : Int} : Sat (gAt (v.set t (sd (gAt v) f + n))) (ssF M t f n 64) := by
  intro i j hi hj
  rw [ss_at M t f n hi hj, sd_set hv ht _ hi, sd_set hv ht _ hj]
  have e : ∀ {i : Nat}, (if i = 2 * t then sd (gAt v) f + n else if i = 2 * t + 1 then -(sd (gAt v) f + n) else sd (gAt v) i) = sd (gAt v) (orgF t f i) + addF t n i := fun {i} => by
    unfold orgF addF
    by_cases e1 : i = 2 * t
    · rw [if_pos e1, if_pos e1, if_pos e1]
    · by_cases e2 : i = 2 * t + 1
      · rw [if_neg e1, if_pos e2, if_neg e1, if_pos e2, if_neg e1, if_pos e2, sd_opp]; omega
      · rw [if_neg e1, if_neg e2, if_neg e1, if_neg e2, if_neg e1, if_neg e2]; omega
  rw [e, e]
  by_cases q : pl (M (orgF t f i * 8 + orgF t f j)) (addF t n i + addF t n j) = NB
  · exact .inl q
  · obtain ⟨n1, _, e2⟩ := pl_fin q
    have := (h (orgF t f i) (orgF t f j) (org_lt hf hi) (org_lt hf hj)).resolve_left n1
    right
    omega
/-- The state behind an assignment. -/
theorem sat_as (h : Sat (gAt v) M) (hv : v.length = 4) {x : Ds} (hx : DQ x) (k0 : x.kind = 0) {c : Int} (hc : if x.any = true then -999 ≤ c ∧ c ≤ 999 else c = sumTo x.sg v 4 + x.num) : Sat (gAt (v.set x.target.toNat c)) (asM M x) := by
  have n := hx.g.num
  have ht := hx.tg
  unfold asM
  by_cases a : x.any = true
  · rw [if_pos a] at hc ⊢
    exact sat_bt h hv (by omega) ⟨by omega, by omega⟩ ⟨by omega, by omega⟩ hc.1 hc.2
  · rw [if_neg a] at hc ⊢
    have s := sum_sd hx.len hx.g.sg hx.nz2 v
    have o := one_sd hx.len hx.g.sg (hx.fa k0)
    by_cases q : sd1 x.sg = opp (sd2 x.sg)
    · rw [if_pos q]
      have ne : ¬ sd1 x.sg = sd2 x.sg := fun z => opp_ne (sd2 x.sg) (by rw [← q]; exact z)
      rw [if_neg ne, q, sd_opp] at s
      exact sat_bt h hv (by omega) ⟨by omega, by omega⟩ ⟨by omega, by omega⟩ (by omega) (by omega)
    · rw [if_neg q]
      have e := o.resolve_right q
      rw [if_pos e] at s
      rw [hc, s]
      exact sat_ss h hv (by omega) (sdS_lt x.sg 4 (Nat.le_refl _)).1

end Go.Proofs.YtffajooegiempabDoor

