import Derived.Test.YtffajooegiempabDoorJ20
namespace Go.Proofs.YtffajooegiempabDoor
open Go.RowKit
variable {w w' : World} {g cap b : Nat} {F : List Ds}

theorem ds_storeAt {c : Array Value} (h : At w b c tDs) (hc : c.size = 10) (y : Ds) : ∃ w1, (Instr.storeAt tDs (.pointer (some ⟨b, 0, none⟩)) (dsv y)).run Tryd.prog w = .ok () w1 ∧ At w1 b (dsCells y) tDs ∧ Onl b w w1 := by
  refine ⟨w.setRow b (dsCells y), ?_, setRow_heap w b c (dsCells y) tDs (0, 0) h, ⟨rfl, rfl, rfl, by simp [World.setRow], fun k _ hk => setRow_other w b k _ (fun e => hk e)⟩⟩
  simp only [Instr.storeAt, Instr.sureAddr, Sem.run_bind, Sem.run_pure, Result.andThen]
  exact run_storeVar_row w b tDs tDs c (dsCells y) h (by kernel_rfl) (by rw [hc]; rfl) (by simp [dsCells, Value.oneCell'])
/-- A whole statement is written, in a walk. -/
theorem wpList_store_ds {ops : Array Oper} {rest : List Oper} {o : Oper} {a : Act} {Q : Exit → Act → World → Prop} {c : Array Value} (hg : o.guard = none) (p x : Operand) (hop : o.op = Op.store tDs p x) (hp : a.eval p = .pointer (some ⟨b, 0, none⟩)) (y : Ds) (hx : a.eval x = dsv y) (hat : At w b c tDs) (hc : c.size = 10)
    (hK : ∀ w1, At w1 b (dsCells y) tDs → Onl b w w1 → wpList Tryd.prog ops Q rest (a.put o.dst undef) w1) : wpList Tryd.prog ops Q (o :: rest) a w := by
  refine wpList_plain hg fun K hK' => ?_
  obtain ⟨w1, h1, h2, h3⟩ := ds_storeAt hat hc y
  unfold Oper.wp
  simp [execOp, hop, hp, hx, h1, Result.andThen, Oper.upon]
  exact hK' _ _ (hK w1 h2 h3)
set_option maxRecDepth 100000 in
set_option maxHeartbeats 1600000 in
theorem d_with_out (ao : Option Addr) (n : Nat) (hn : n ≤ 20) (p way : Int) (hp : p < 0 ∨ (n : Int) ≤ p) :
    Calls Tryd.prog 35 #[.agg #[.slice ao n cap], .int .i64 p, .int .i64 way] w fun e w' => e = .returned (.tuple #[dsv zDs, .int .i64 2]) ∧ Below w.heap.size w w' := by
  obtain ⟨w0, hw0⟩ : ∃ w0, w0 = (w.alloc (.cells #[.slice ao n cap] 66)).alloc (.cells (dsCells zDs) tDs) := ⟨_, rfl⟩
  have HB0 : Hid (Below w.heap.size w w0 ∧ At w0 (w.heap.size + 1) (dsCells zDs) tDs ∧ w0.heap.size = w.heap.size + 2) := by
    refine ⟨by rw [hw0]; exact ((Below.refl _ _).alloc (Nat.le_refl _) _).alloc (by simp) _, ?_, by rw [hw0]; simp⟩
    have := At.new (w.alloc (.cells #[.slice ao n cap] 66)) (dsCells zDs) tDs
    rw [show (w.alloc (.cells #[.slice ao n cap] 66)).heap.size = w.heap.size + 1 by simp] at this
    rw [hw0]; exact this
  obtain ⟨BW, hBW⟩ : ∃ BW : World → Prop, BW = fun w' => Below w0.heap.size w0 w' := ⟨_, rfl⟩
  have hat0 : Calls Tryd.prog 32 #[.agg #[.slice ao n cap], .int .i64 p] w0 fun e w' => e = .returned (.tuple #[dsv zDs, .int .i64 2]) ∧ BW w' := by rw [hBW]; exact d_at_out ao n hn p hp
  clear hp
  rw [hw0] at hat0
  unfold dsv dsCells zDs newDs at hat0
  go_enter Tryd.func35, Tryd.ntmps35
  go_wp2_with fail
  refine hat0.mono ?_
  rintro e w1 ⟨rfl, hb1⟩
  obtain ⟨w2, hw2⟩ : ∃ w2, w2 = w1.alloc (.cells (dsCells zDs) tDs) := ⟨_, rfl⟩
  have H2 : Hid (Below w.heap.size w w2 ∧ At w2 (w.heap.size + 1) (dsCells zDs) tDs ∧ At w2 w1.heap.size (dsCells zDs) tDs ∧ w.heap.size + 2 ≤ w1.heap.size ∧ w2.heap.size = w1.heap.size + 1) := by
    have s0 := HB0.out.2.2
    rw [hBW] at hb1
    have s1 := hb1.size
    have a1 := At.keep HB0.out.2.1 hb1 (by omega)
    refine ⟨?_, ?_, ?_, by omega, by rw [hw2]; simp⟩
    · rw [hw2]; exact (HB0.out.1.trans (hb1.mono (by omega))).alloc (by have := HB0.out.1.size; omega) _
    · rw [hw2]; exact At.allocH a1 _
    · rw [hw2]; exact At.new _ _ _
  have hs1 : w.heap.size + 2 ≤ w1.heap.size := H2.out.2.2.2.1
  clear hb1
  unfold dsCells zDs newDs at hw2
  rw [hw2] at H2
  go_wp2_with (first | (refine wpList_store_ds (b := w.heap.size + 1) (c := dsCells zDs) rfl (.tmp 6) (.tmp 18) rfl rfl zDs rfl H2.out.2.1 rfl ?_; intro w5 h5a h5b))
  have h5 : Hid (At w5 (w.heap.size + 1) (dsCells zDs) tDs ∧ Below w.heap.size w w5) := ⟨h5a, H2.out.1.trans (h5b.below (by omega) (by have := H2.out.1.size; exact this))⟩
  go_wp2_with fail
  try simp only [Exit.inBlock, Exit.then]
  refine bodyPost_ret (results_dc (b := w.heap.size + 1) (x := zDs) rfl _ rfl h5.out.1) rfl ?_
  exact ⟨rfl, h5.out.2⟩

set_option maxRecDepth 100000 in
set_option maxHeartbeats 1600000 in
theorem d_with_in (h : PRow w g F) (k : Nat) (hk : k < F.length) (way : Int) :
    Calls Tryd.prog 35 #[.agg #[.slice (some ⟨g, 0, none⟩) F.length cap], .int .i64 (k : Int), .int .i64 way] w fun e w' =>
      e = .returned (.tuple #[dsv (if way < 0 ∨ waysP (F.getD k (newDs 0 0)).kind ≤ way then zDs else F.getD k (newDs 0 0)), .int .i64 (if way < 0 ∨ waysP (F.getD k (newDs 0 0)).kind ≤ way then 2 else 0)]) ∧ Below w.heap.size w w' := by
  obtain ⟨w0, hw0⟩ : ∃ w0, w0 = (w.alloc (.cells #[.slice (some ⟨g, 0, none⟩) F.length cap] 66)).alloc (.cells (dsCells zDs) tDs) := ⟨_, rfl⟩
  have HB0 : Hid (Below w.heap.size w w0 ∧ At w0 (w.heap.size + 1) (dsCells zDs) tDs ∧ w0.heap.size = w.heap.size + 2) := by
    refine ⟨by rw [hw0]; exact ((Below.refl _ _).alloc (Nat.le_refl _) _).alloc (by simp) _, ?_, by rw [hw0]; simp⟩
    have := At.new (w.alloc (.cells #[.slice (some ⟨g, 0, none⟩) F.length cap] 66)) (dsCells zDs) tDs
    rw [show (w.alloc (.cells #[.slice (some ⟨g, 0, none⟩) F.length cap] 66)).heap.size = w.heap.size + 1 by simp] at this
    rw [hw0]; exact this
  obtain ⟨BW, hBW⟩ : ∃ BW : World → Prop, BW = fun w' => Below w0.heap.size w0 w' := ⟨_, rfl⟩
  have hat0 : Calls Tryd.prog 32 #[.agg #[.slice (some ⟨g, 0, none⟩) F.length cap], .int .i64 (k : Int)] w0 fun e w' => e = .returned (.tuple #[dsv (F.getD k (newDs 0 0)), .int .i64 0]) ∧ BW w' := by rw [hBW]; exact d_at_in (h.keep HB0.out.1) k hk
  generalize F.getD k (newDs 0 0) = x at *
  clear h hk
  by_cases hw0' : way < 0
  · rw [if_pos (.inl hw0'), if_pos (.inl hw0')]
    rw [hw0] at hat0
    unfold dsv dsCells zDs newDs at hat0
    go_enter Tryd.func35, Tryd.ntmps35
    go_wp2_with fail
    refine hat0.mono ?_
    rintro e w1 ⟨rfl, hb1⟩
    obtain ⟨w2, hw2⟩ : ∃ w2, w2 = w1.alloc (.cells (dsCells x) tDs) := ⟨_, rfl⟩
    have H2 : Hid (Below w.heap.size w w2 ∧ At w2 (w.heap.size + 1) (dsCells zDs) tDs ∧ At w2 w1.heap.size (dsCells x) tDs ∧ w.heap.size + 2 ≤ w1.heap.size ∧ w2.heap.size = w1.heap.size + 1) := by
      have s0 := HB0.out.2.2
      rw [hBW] at hb1
      have s1 := hb1.size
      have a1 := At.keep HB0.out.2.1 hb1 (by omega)
      refine ⟨?_, ?_, ?_, by omega, by rw [hw2]; simp⟩
      · rw [hw2]; exact (HB0.out.1.trans (hb1.mono (by omega))).alloc (by have := HB0.out.1.size; omega) _
      · rw [hw2]; exact At.allocH a1 _
      · rw [hw2]; exact At.new _ _ _
    have hs1 : w.heap.size + 2 ≤ w1.heap.size := H2.out.2.2.2.1
    clear hb1
    unfold dsCells at hw2
    rw [hw2] at H2
    go_wp2_with (first | (refine wpList_store_ds (b := w.heap.size + 1) (c := dsCells zDs) rfl (.tmp 6) (.tmp 28) rfl rfl zDs rfl H2.out.2.1 rfl ?_; intro w5 h5a h5b))
    have h5 : Hid (At w5 (w.heap.size + 1) (dsCells zDs) tDs ∧ Below w.heap.size w w5) := ⟨h5a, H2.out.1.trans (h5b.below (by omega) (by have := H2.out.1.size; exact this))⟩
    go_wp2_with fail
    try simp only [Exit.inBlock, Exit.then]
    refine bodyPost_ret (results_dc (b := w.heap.size + 1) (x := zDs) rfl _ rfl h5.out.1) rfl ?_
    exact ⟨rfl, h5.out.2⟩
  by_cases hw1 : waysP x.kind ≤ way
  · rw [if_pos (.inr hw1), if_pos (.inr hw1)]
    rw [hw0] at hat0
    unfold dsv dsCells zDs newDs at hat0
    go_enter Tryd.func35, Tryd.ntmps35
    go_wp2_with fail
    refine hat0.mono ?_
    rintro e w1 ⟨rfl, hb1⟩
    obtain ⟨w2, hw2⟩ : ∃ w2, w2 = w1.alloc (.cells (dsCells x) tDs) := ⟨_, rfl⟩
    have H2 : Hid (Below w.heap.size w w2 ∧ At w2 (w.heap.size + 1) (dsCells zDs) tDs ∧ At w2 w1.heap.size (dsCells x) tDs ∧ w.heap.size + 2 ≤ w1.heap.size ∧ w2.heap.size = w1.heap.size + 1) := by
      have s0 := HB0.out.2.2
      rw [hBW] at hb1
      have s1 := hb1.size
      have a1 := At.keep HB0.out.2.1 hb1 (by omega)
      refine ⟨?_, ?_, ?_, by omega, by rw [hw2]; simp⟩
      · rw [hw2]; exact (HB0.out.1.trans (hb1.mono (by omega))).alloc (by have := HB0.out.1.size; omega) _
      · rw [hw2]; exact At.allocH a1 _
      · rw [hw2]; exact At.new _ _ _
    have hs1 : w.heap.size + 2 ≤ w1.heap.size := H2.out.2.2.2.1
    clear hb1
    unfold dsCells at hw2
    rw [hw2] at H2
    go_wp2_with fail
    refine (d_ways _ _ _ _ _ _ _ _ _ _ _).mono ?_
    rintro e w3 ⟨rfl, o3, rfl⟩
    go_wp2_with (first | (refine wpList_store_ds (b := w.heap.size + 1) (c := dsCells zDs) rfl (.tmp 6) (.tmp 28) rfl rfl zDs rfl (At.allocH H2.out.2.1 _) rfl ?_; intro w5 h5a h5b))
    have h5 : Hid (At w5 (w.heap.size + 1) (dsCells zDs) tDs ∧ Below w.heap.size w w5) := ⟨h5a, (H2.out.1.alloc (by have := H2.out.1.size; exact this) _).trans (h5b.below (by omega) (by have := H2.out.1.size; simp at this ⊢; omega))⟩
    go_wp2_with fail
    try simp only [Exit.inBlock, Exit.then]
    refine bodyPost_ret (results_dc (b := w.heap.size + 1) (x := zDs) rfl _ rfl h5.out.1) rfl ?_
    exact ⟨rfl, h5.out.2⟩
  · rw [if_neg (fun e => e.elim hw0' hw1), if_neg (fun e => e.elim hw0' hw1)]
    rw [hw0] at hat0
    unfold dsv dsCells zDs newDs at hat0
    go_enter Tryd.func35, Tryd.ntmps35
    go_wp2_with fail
    refine hat0.mono ?_
    rintro e w1 ⟨rfl, hb1⟩
    obtain ⟨w2, hw2⟩ : ∃ w2, w2 = w1.alloc (.cells (dsCells x) tDs) := ⟨_, rfl⟩
    have H2 : Hid (Below w.heap.size w w2 ∧ At w2 (w.heap.size + 1) (dsCells zDs) tDs ∧ At w2 w1.heap.size (dsCells x) tDs ∧ w.heap.size + 2 ≤ w1.heap.size ∧ w2.heap.size = w1.heap.size + 1) := by
      have s0 := HB0.out.2.2
      rw [hBW] at hb1
      have s1 := hb1.size
      have a1 := At.keep HB0.out.2.1 hb1 (by omega)
      refine ⟨?_, ?_, ?_, by omega, by rw [hw2]; simp⟩
      · rw [hw2]; exact (HB0.out.1.trans (hb1.mono (by omega))).alloc (by have := HB0.out.1.size; omega) _
      · rw [hw2]; exact At.allocH a1 _
      · rw [hw2]; exact At.new _ _ _
    have hs1 : w.heap.size + 2 ≤ w1.heap.size := H2.out.2.2.2.1
    clear hb1
    unfold dsCells at hw2
    rw [hw2] at H2
    go_wp2_with fail
    refine (d_ways _ _ _ _ _ _ _ _ _ _ _).mono ?_
    rintro e w3 ⟨rfl, o3, rfl⟩
    go_wp2_with (first | (refine wpList_store_ds (b := w.heap.size + 1) (c := dsCells zDs) rfl (.tmp 6) (.tmp 29) rfl rfl x rfl (At.allocH H2.out.2.1 _) rfl ?_; intro w5 h5a h5b))
    have h5 : Hid (At w5 (w.heap.size + 1) (dsCells x) tDs ∧ Below w.heap.size w w5) := ⟨h5a, (H2.out.1.alloc (by have := H2.out.1.size; exact this) _).trans (h5b.below (by omega) (by have := H2.out.1.size; simp at this ⊢; omega))⟩
    go_wp2_with fail
    try simp only [Exit.inBlock, Exit.then]
    refine bodyPost_ret (results_dc (b := w.heap.size + 1) (x := x) rfl _ rfl h5.out.1) rfl ?_
    exact ⟨rfl, h5.out.2⟩

end Go.Proofs.YtffajooegiempabDoor

namespace Go.Proofs.YtffajooegiempabDoor
open Go.RowKit
variable {w : World}

theorem ov_tq {o : List Int} (ho : okL o) (he : ovE o = false) : TQ (ovM o) := by
  refine ⟨(raw_lay ho).tc he, (raw_lay ho).top (bd_lay ho) he, fun k hk => ?_⟩
  have hlo : Lo (8000 * 6 ^ 8 + 1) (sharp (lay o 32)) := sharp_lo (fun a _ => (lay_range o 32 ho.2 a).1)
  have y : -(8000 * 6 ^ 8 + 1) ≤ sharp (lay o 32) k := hlo k hk
  have z : (8000 * 6 ^ 8 + 1 : Int) = 13436928001 := by decide
  rw [z] at y
  show _ ≤ sharp (lay o 32) k
  omega
theorem ov_rng {o : List Int} (ho : okL o) : ∀ k, k < 64 → -20000000000 ≤ ovM o k ∧ ovM o k ≤ 1000000 := by
  intro k hk
  have hlo : Lo (8000 * 6 ^ 8 + 1) (sharp (lay o 32)) := sharp_lo (fun a _ => (lay_range o 32 ho.2 a).1)
  have y : -(8000 * 6 ^ 8 + 1) ≤ sharp (lay o 32) k := hlo k hk
  have z : (8000 * 6 ^ 8 + 1 : Int) = 13436928001 := by decide
  rw [z] at y
  have u := sharp_le (lay o 32) k
  have v := (lay_range o 32 ho.2 k).2
  show -20000000000 ≤ sharp (lay o 32) k ∧ sharp (lay o 32) k ≤ 1000000
  omega
theorem TQ.sh {C : Nat → Int} (h : TQ C) : Sh C := fun k hk => ⟨by have := h.lo k hk; omega, (h.top k hk).imp id (fun q => by omega)⟩
end Go.Proofs.YtffajooegiempabDoor

namespace Go.Proofs.YtffajooegiempabDoor
open Go.RowKit
variable {w w' : World} {g cap : Nat} {F : List Ds}

set_option maxRecDepth 100000 in
set_option maxHeartbeats 1600000 in
theorem d_isRepeat (h : PRow w g F) (hl : F.length ≤ 20) (p : Int) :
    Calls Tryd.prog 78 #[.agg #[.slice (some ⟨g, 0, none⟩) F.length cap], .int .i64 p] w fun e w' => e = .returned (.bool (isRepP F p)) ∧ Below w.heap.size w w' := by
  have hg := h.1
  have HP : Hid (PRow w g F) := h
  have HB : Hid (∀ o1, Below w.heap.size w (w.alloc o1)) := fun o1 => (Below.refl _ _).alloc (Nat.le_refl _) _
  by_cases hout : p < 0 ∨ (F.length : Int) ≤ p
  · have HE : Hid (isRepP F p = false) := by
      show isRepP F p = false
      unfold isRepP
      rcases hout with e | e
      · rw [decide_eq_false (by omega : ¬ 0 ≤ p)]; rfl
      · rw [decide_eq_false (by omega : ¬ p < F.length)]; simp
    have HAt : Hid (∀ w1, Calls Tryd.prog 32 #[.agg #[.slice (some ⟨g, 0, none⟩) F.length cap], .int .i64 p] w1 fun e w' => e = .returned (.tuple #[dsv zDs, .int .i64 2]) ∧ Below w1.heap.size w1 w') := fun w1 => d_at_out _ _ hl p hout
    clear h hout
    unfold dsv zDs at HAt
    go_enter Tryd.func78, Tryd.ntmps78
    go_wp2_with fail
    refine (HAt.out _).mono ?_
    rintro e w1 ⟨rfl, hb1⟩
    have H1 : Hid (Below w.heap.size w w1) := (HB.out _).trans (hb1.mono (by simp))
    have hs1 := H1.out.size
    clear hb1
    go_wp2_with fail
    go_ret
    exact ⟨by rw [HE.out]; rfl, H1.out.alloc hs1 _⟩
  · obtain ⟨k, rfl⟩ : ∃ k : Nat, p = k := ⟨p.toNat, by omega⟩
    have hk : k < F.length := by omega
    have HE : Hid (isRepP F k = ((F.getD k (newDs 0 0)).kind == 3)) := by
      show isRepP F k = _
      unfold isRepP
      rw [Int.toNat_natCast, decide_eq_true (by omega : (0 : Int) ≤ k), decide_eq_true (by omega : (k : Int) < F.length)]
      simp only [Bool.true_and]
      rfl
    have HAt : Hid (∀ w1, Below w.heap.size w w1 → Calls Tryd.prog 32 #[.agg #[.slice (some ⟨g, 0, none⟩) F.length cap], .int .i64 (k : Int)] w1 fun e w' => e = .returned (.tuple #[dsv (F.getD k (newDs 0 0)), .int .i64 0]) ∧ Below w1.heap.size w1 w') := fun w1 hb => d_at_in (HP.out.keep hb) k hk
    clear h hout
    generalize F.getD k (newDs 0 0) = x at *
    unfold dsv at HAt
    go_enter Tryd.func78, Tryd.ntmps78
    go_wp2_with fail
    refine (HAt.out _ (HB.out _)).mono ?_
    rintro e w1 ⟨rfl, hb1⟩
    have H1 : Hid (Below w.heap.size w w1) := (HB.out _).trans (hb1.mono (by simp))
    have hs1 := H1.out.size
    clear hb1
    go_wp2_with fail
    go_ret
    exact ⟨by rw [HE.out]; rfl, H1.out.alloc hs1 _⟩

end Go.Proofs.YtffajooegiempabDoor

namespace Go.Proofs.YtffajooegiempabDoor
open Go.RowKit
variable {w w' : World} {g cap : Nat} {F : List Ds}

set_option maxRecDepth 100000 in
set_option maxHeartbeats 1600000 in
theorem d_firstIn (h : PRow w g F) (hl : F.length ≤ 20) (p b fr : Int) :
    Calls Tryd.prog 50 #[.agg #[.slice (some ⟨g, 0, none⟩) F.length cap], .int .i64 p, .int .i64 b, .int .i64 fr] w fun e w' => e = .returned (.int .i64 (firstP F p b fr)) ∧ Below w.heap.size w w' := by
  have hg := h.1
  have HP : Hid (PRow w g F) := h
  clear h
  go_enter Tryd.func50, Tryd.ntmps50
  go_wp2_with fail
  go_loopw [14] (fun i wr => ∃ k : Nat, k ≤ F.length ∧ i = .int .i64 k ∧ Below w.heap.size w wr ∧ firstP F p b fr = firstGo p b fr (F.drop k) k) (fun i _ => F.length - (intOf i).toNat)
  case atStart => exact ⟨0, Nat.zero_le _, rfl, (Below.refl _ _).alloc (Nat.le_refl _) _, rfl⟩
  case round =>
    obtain ⟨k, hk, rfl, hbel, hfi⟩ := hrel
    have HF : Hid (_ = _) := hfi
    clear hfi
    by_cases hlt : k < F.length
    · have hki : (k : Int) < (F.length : Int) := by omega
      obtain ⟨c0, c1, c2, c3, c4, c5, c6, c7, c8, c9⟩ := (HP.out.keep hbel).2 k _ (gets' hlt)
      have HD : Hid (_ = _) := HF.out.trans (firstGo_drop hlt)
      have hsz := hbel.size
      have HB : Hid (Below _ _ _) := hbel
      clear HF hbel
      generalize F.getD k (newDs 0 0) = x at *
      by_cases hm : fr ≤ (k : Int)
      · by_cases hp : x.parent = p
        · have bp : (x.parent == p) = true := by simpa using hp
          by_cases hb : x.block = b
          · have bb : (x.block == b) = true := by simpa using hb
            have HE : Hid (_ = _) := HD.out.trans (if_pos ⟨hm, hp, hb⟩)
            clear HD hp hb
            go_wp2_with fail
            go_ret
            exact ⟨by rw [HE.out]; rfl, HB.out.alloc hsz _⟩
          · have bb : (x.block == b) = false := by simpa using hb
            have HE : Hid (_ = _) := HD.out.trans (if_neg (fun e => hb e.2.2))
            clear HD hp hb
            go_wp2_with fail
            go_roundw
            case rel => exact ⟨k + 1, by omega, by go_num, HB.out.alloc hsz _, HE.out⟩
            case measure => simp [intOf]; omega
        · have bp : (x.parent == p) = false := by simpa using hp
          have HE : Hid (_ = _) := HD.out.trans (if_neg (fun e => hp e.2.1))
          clear HD hp
          go_wp2_with fail
          go_roundw
          case rel => exact ⟨k + 1, by omega, by go_num, HB.out.alloc hsz _, HE.out⟩
          case measure => simp [intOf]; omega
      · have HE : Hid (_ = _) := HD.out.trans (if_neg (fun e => hm e.1))
        have hmd : decide (fr ≤ (k : Int)) = false := decide_eq_false hm
        clear HD
        go_wp2_with fail
        go_roundw
        case rel => exact ⟨k + 1, by omega, by go_num, HB.out.alloc hsz _, HE.out⟩
        case measure => simp [intOf]; omega
    · have hke : k = F.length := by omega
      have HE : Hid (firstP F p b fr = -1) := HF.out.trans (by rw [hke, List.drop_length]; rfl)
      have hnk : ¬ (k : Int) < (F.length : Int) := by omega
      clear HF hke
      go_wp2_with fail
      go_ret
      exact ⟨by rw [HE.out]; rfl, hbel⟩

end Go.Proofs.YtffajooegiempabDoor

namespace Go.Proofs.YtffajooegiempabDoor
open Go.RowKit

set_option maxHeartbeats 400000 in
theorem d_end (ao : Option Addr) (n cap : Nat) (w : World) (_hn : n ≤ 20) :
    Calls Tryd.prog 56 #[.agg #[.slice ao n cap]] w fun e w' => e = .returned (.int .i64 n) ∧ ∃ o, w' = w.alloc o := by
  go_enter Tryd.func56, Tryd.ntmps56
  go_wp2
  go_ret
  exact ⟨rfl, _, rfl⟩

end Go.Proofs.YtffajooegiempabDoor

namespace Go.Proofs.YtffajooegiempabDoor
open Go.RowKit
variable {w w' : World} {g cap : Nat} {F : List Ds}
def boxOf (g n cap : Nat) : Obj := .cells #[.slice (some ⟨g, 0, none⟩) n cap] 66

set_option maxRecDepth 100000 in
set_option maxHeartbeats 1600000 in
theorem d_following (h : PRow w g F) (hl : F.length ≤ 20) (hpar : ∀ (k : Nat) (x : Ds), F[k]? = some x → -1 ≤ x.parent ∧ x.parent < (k : Int)) (pt : Int) (hp0 : -1 ≤ pt) (hp1 : pt < 21) :
    Calls Tryd.prog 49 #[.agg #[.slice (some ⟨g, 0, none⟩) F.length cap], .int .i64 pt] w fun e w' => e = .returned (.int .i64 (followP F 21 pt)) ∧ Below w.heap.size w w' := by
  have hg := h.1
  have HP : Hid (PRow w g F) := h
  have HPar : Hid (∀ (k : Nat) (x : Ds), F[k]? = some x → -1 ≤ x.parent ∧ x.parent < (k : Int)) := hpar
  have HBox : Hid (Below w.heap.size w (w.alloc (boxOf g F.length cap))) := (Below.refl _ _).alloc (Nat.le_refl _) _
  clear h hpar
  go_enter Tryd.func49, Tryd.ntmps49
  go_wp2_with fail
  go_loopw [1] (fun q wr => ∃ (z : Int) (n : Nat), q = .int .i64 z ∧ -1 ≤ z ∧ z < n ∧ n ≤ 21 ∧ followP F 21 pt = followP F n z ∧ Below (w.heap.size + 1) (w.alloc (boxOf g F.length cap)) wr) (fun q _ => (intOf q + 1).toNat)
  case atStart => exact ⟨pt, 21, rfl, hp0, by omega, Nat.le_refl _, rfl, Below.refl _ _⟩
  case round =>
    obtain ⟨z, n, rfl, hz0, hzn, hn21, hfo, hbel⟩ := hrel
    have HF : Hid (_ = _) := hfo
    have hsz := hbel.size
    have hwsz : (w.alloc (boxOf g F.length cap)).heap.size = w.heap.size + 1 := by simp
    rw [hwsz] at hsz
    have hlt0 : w.heap.size < wr.heap.size := by omega
    have hbx : wr.cell? ⟨w.heap.size, 0, none⟩ = some (.slice (some ⟨g, 0, none⟩) F.length cap) := by
      rw [hbel.cell (p := ⟨w.heap.size, 0, none⟩) (by show w.heap.size < _; omega)]
      exact World.cell?_alloc_at (w := w) _ _ _ _ rfl
    have hbw : Below w.heap.size w wr := HBox.out.trans (hbel.mono (by omega))
    have HPr : Hid (PRow wr g F) := HP.out.keep hbw
    have HB : Hid (Below _ _ _) := hbel
    have HBW : Hid (Below _ _ _) := hbw
    clear hfo hbel hwsz hbw
    by_cases hneg : z < 0
    · have HE : Hid (followP F 21 pt = F.length) := HF.out.trans (by
        cases n with
        | zero => rfl
        | succ n => rw [followP, if_pos (.inl hneg)])
      go_wp2_with fail
      refine (d_end _ F.length cap _ hl).mono ?_
      rintro e w2 ⟨rfl, o, rfl⟩
      go_wp2_with fail
      go_ret
      exact ⟨by rw [HE.out]; rfl, HBW.out.alloc (by omega) _⟩
    obtain ⟨k, rfl⟩ : ∃ k : Nat, z = k := ⟨z.toNat, by omega⟩
    obtain ⟨n', rfl⟩ : ∃ n', n = n' + 1 := ⟨n - 1, by omega⟩
    by_cases hge : (F.length : Int) ≤ (k : Int)
    · have HE : Hid (followP F 21 pt = F.length) := HF.out.trans (by rw [followP, if_pos (.inr hge)])
      have hnk : ¬ (k : Int) < (F.length : Int) := by omega
      go_wp2_with fail
      refine (d_end _ F.length cap _ hl).mono ?_
      rintro e w2 ⟨rfl, o, rfl⟩
      go_wp2_with fail
      go_ret
      exact ⟨by rw [HE.out]; rfl, HBW.out.alloc (by omega) _⟩
    have hk : k < F.length := by omega
    have hki : (k : Int) < (F.length : Int) := by omega
    have HN : Hid (followP F 21 pt = if firstP F (F.getD k (newDs 0 0)).parent (F.getD k (newDs 0 0)).block ((k : Int) + 1) ≠ -1 then firstP F (F.getD k (newDs 0 0)).parent (F.getD k (newDs 0 0)).block ((k : Int) + 1) else if isRepP F (F.getD k (newDs 0 0)).parent = true then (F.getD k (newDs 0 0)).parent else followP F n' (F.getD k (newDs 0 0)).parent) := HF.out.trans (by
      rw [followP, if_neg (fun e => e.elim hneg hge), Int.toNat_natCast])
    obtain ⟨c0, c1, c2, c3, c4, c5, c6, c7, c8, c9⟩ := HPr.out.2 k _ (gets' hk)
    obtain ⟨q0, q1⟩ := HPar.out k _ (gets' hk)
    have hgr : g < wr.heap.size := by omega
    clear HF hneg hge
    generalize F.getD k (newDs 0 0) = x at *
    have hfi := fun (w2 : World) (hP : PRow w2 g F) => d_firstIn (cap := cap) hP hl x.parent x.block ((k : Int) + 1)
    have HFI : Hid (∀ (w2 : World) (hP : PRow w2 g F), Calls Tryd.prog 50 #[.agg #[.slice (some ⟨g, 0, none⟩) F.length cap], .int .i64 x.parent, .int .i64 x.block, .int .i64 ((k : Int) + 1)] w2 fun e w' => e = .returned (.int .i64 (firstP F x.parent x.block ((k : Int) + 1))) ∧ Below w2.heap.size w2 w') := hfi
    clear hfi
    generalize firstP F x.parent x.block ((k : Int) + 1) = fi at *
    go_wp2_with fail
    refine (HFI.out _ (HPr.out.keep ((Below.refl _ _).alloc (Nat.le_refl _) _))).mono ?_
    rintro e w2 ⟨rfl, hb2⟩
    have hsz2 := hb2.size
    simp at hsz2
    have hlt2 : w.heap.size < w2.heap.size := by omega
    have s8 : w2.cell? ⟨wr.heap.size, 8, none⟩ = some (.int .i64 x.parent) := by
      rw [hb2.cell (p := ⟨wr.heap.size, 8, none⟩) (by simp)]
      exact World.cell?_alloc_at (w := wr) _ _ _ _ rfl
    have hbx2 : w2.cell? ⟨w.heap.size, 0, none⟩ = some (.slice (some ⟨g, 0, none⟩) F.length cap) := by
      rw [hb2.cell (p := ⟨w.heap.size, 0, none⟩) (by simp; omega)]
      exact (World.cell?_alloc_past (w := wr) _ _ _ (by omega)).trans hbx
    have hch : Below wr.heap.size wr w2 := ((Below.refl _ _).alloc (Nat.le_refl _) _).trans (hb2.mono (by simp))
    have HCH : Hid (Below _ _ _) := hch
    clear hb2 hch c0 c1 c2 c3 c4 c5 c6 c7 c8 c9
    by_cases hf1 : fi = -1
    · subst hf1
      have HN2 : Hid (_ = _) := HN.out.trans (if_neg (by decide))
      have hre := d_isRepeat (cap := cap) (HPr.out.keep HCH.out) hl x.parent
      clear HN
      cases hrep : isRepP F x.parent
      · have HE : Hid (_ = _) := HN2.out.trans (if_neg (by rw [hrep]; decide))
        rw [hrep] at hre
        clear hrep HN2
        go_wp2_with fail
        refine hre.mono ?_
        rintro e w3 ⟨rfl, hb3⟩
        have s83 : w3.cell? ⟨wr.heap.size, 8, none⟩ = some (.int .i64 x.parent) := by
          rw [hb3.cell (p := ⟨wr.heap.size, 8, none⟩) (by show wr.heap.size < _; omega)]; exact s8
        have HB3 : Hid (Below _ _ _) := hb3
        clear hb3 hre
        go_wp2_with fail
        go_roundw
        case rel => exact ⟨x.parent, n', rfl, q0, by omega, by omega, HE.out, (HB.out.trans (HCH.out.mono hsz)).trans (HB3.out.mono (by omega))⟩
        case measure => simp [intOf]; omega
      · have HE : Hid (_ = _) := HN2.out.trans (if_pos hrep)
        rw [hrep] at hre
        clear hrep HN2
        go_wp2_with fail
        refine hre.mono ?_
        rintro e w3 ⟨rfl, hb3⟩
        have s83 : w3.cell? ⟨wr.heap.size, 8, none⟩ = some (.int .i64 x.parent) := by
          rw [hb3.cell (p := ⟨wr.heap.size, 8, none⟩) (by show wr.heap.size < _; omega)]; exact s8
        have HB3 : Hid (Below _ _ _) := hb3
        clear hb3 hre
        go_wp2_with fail
        go_ret
        exact ⟨by rw [HE.out]; rfl, (HBW.out.trans (HCH.out.mono (by omega))).trans (HB3.out.mono (by omega))⟩
    · have bf : (fi != -1) = true := by rw [bne_iff_ne]; exact hf1
      have HE : Hid (_ = _) := HN.out.trans (if_pos hf1)
      clear HN hf1
      go_wp2_with fail
      go_ret
      exact ⟨by rw [HE.out]; rfl, HBW.out.trans (HCH.out.mono (by omega))⟩

end Go.Proofs.YtffajooegiempabDoor

namespace Go.Proofs.YtffajooegiempabDoor
open Go.RowKit
variable {w w' : World} {g cap : Nat} {F : List Ds}

/-- Two numbers that come out. -/
def twoD (x : Int × Int) : Ending := .returned (.tuple #[.int .i64 x.1, .int .i64 x.2])

set_option maxRecDepth 100000 in
set_option maxHeartbeats 1600000 in
theorem d_next_out (ao : Option Addr) (n : Nat) (hn : n ≤ 20) (pt way : Int) (hp : pt < 0 ∨ (n : Int) ≤ pt) (w : World) :
    Calls Tryd.prog 34 #[.agg #[.slice ao n cap], .int .i64 pt, .int .i64 way] w fun e w' => e = twoD (0, 2) ∧ Below w.heap.size w w' := by
  have HB : Hid (∀ o1, Below w.heap.size w (w.alloc o1)) := fun o1 => (Below.refl _ _).alloc (Nat.le_refl _) _
  have HAt : Hid (∀ w1, Calls Tryd.prog 35 #[.agg #[.slice ao n cap], .int .i64 pt, .int .i64 way] w1 fun e w' => e = .returned (.tuple #[dsv zDs, .int .i64 2]) ∧ Below w1.heap.size w1 w') := fun w1 => d_with_out ao n hn pt way hp
  unfold dsv zDs newDs at HAt
  clear hp
  go_enter Tryd.func34, Tryd.ntmps34
  go_wp2_with fail
  refine (HAt.out _).mono ?_
  rintro e w1 ⟨rfl, hb1⟩
  have H1 : Hid (Below w.heap.size w w1) := (HB.out _).trans (hb1.mono (by simp))
  have hs1 := H1.out.size
  clear hb1
  go_wp2_with fail
  go_ret2
  exact ⟨rfl, H1.out.alloc hs1 _⟩

set_option maxRecDepth 100000 in
set_option maxHeartbeats 1600000 in
theorem d_next_in (h : PRow w g F) (hl : F.length ≤ 20) (hpar : ∀ (k : Nat) (x : Ds), F[k]? = some x → -1 ≤ x.parent ∧ x.parent < (k : Int)) (k : Nat) (hk : k < F.length) (way : Int) :
    Calls Tryd.prog 34 #[.agg #[.slice (some ⟨g, 0, none⟩) F.length cap], .int .i64 (k : Int), .int .i64 way] w fun e w' => e = twoD (nextP F k way) ∧ Below w.heap.size w w' := by
  have hg := h.1
  have hki : (k : Int) < (F.length : Int) := by omega
  have HP : Hid (PRow w g F) := h
  have HPar : Hid (∀ (k : Nat) (x : Ds), F[k]? = some x → -1 ≤ x.parent ∧ x.parent < (k : Int)) := hpar
  have HB : Hid (∀ o1, Below w.heap.size w (w.alloc o1)) := fun o1 => (Below.refl _ _).alloc (Nat.le_refl _) _
  have HN : Hid (nextP F k way = if way < 0 ∨ waysP (F.getD k (newDs 0 0)).kind ≤ way then (0, 2) else if blocksOf (F.getD k (newDs 0 0)).kind ≤ way then (followP F 21 k, 0) else if firstP F k way ((k : Int) + 1) ≠ -1 then (firstP F k way ((k : Int) + 1), 0) else if (F.getD k (newDs 0 0)).kind = 3 then ((k : Int), 0) else (followP F 21 k, 0)) := by
    show nextP F k way = _
    unfold nextP
    rw [if_neg (by omega), Int.toNat_natCast]
  have HAt : Hid (∀ w1, Below w.heap.size w w1 → Calls Tryd.prog 35 #[.agg #[.slice (some ⟨g, 0, none⟩) F.length cap], .int .i64 (k : Int), .int .i64 way] w1 fun e w' =>
      e = .returned (.tuple #[dsv (if way < 0 ∨ waysP (F.getD k (newDs 0 0)).kind ≤ way then zDs else F.getD k (newDs 0 0)), .int .i64 (if way < 0 ∨ waysP (F.getD k (newDs 0 0)).kind ≤ way then 2 else 0)]) ∧ Below w1.heap.size w1 w') := fun w1 hb => d_with_in (HP.out.keep hb) k hk way
  clear h hpar
  generalize F.getD k (newDs 0 0) = x at *
  by_cases hbad : way < 0 ∨ waysP x.kind ≤ way
  · have HE : Hid (_ = _) := HN.out.trans (if_pos hbad)
    rw [if_pos hbad, if_pos hbad] at HAt
    unfold dsv zDs newDs at HAt
    clear HN hbad
    go_enter Tryd.func34, Tryd.ntmps34
    go_wp2_with fail
    refine (HAt.out _ (HB.out _)).mono ?_
    rintro e w1 ⟨rfl, hb1⟩
    have p1 : w1.cell? ⟨w.heap.size, 0, none⟩ = some (.slice (some ⟨g, 0, none⟩) F.length cap) := by
      rw [hb1.cell (p := ⟨w.heap.size, 0, none⟩) (by simp)]
      exact World.cell?_alloc_at _ _ _ _ rfl
    have H1 : Hid (Below w.heap.size w w1) := (HB.out _).trans (hb1.mono (by simp))
    have hs1 : w.heap.size + 1 ≤ w1.heap.size := by have := hb1.size; simp at this; omega
    have hlt1 : w.heap.size < w1.heap.size := by omega
    have hB : Hid (∀ o1 o2 : Obj, Below w.heap.size w ((w1.alloc o1).alloc o2)) := fun o1 o2 => (H1.out.alloc (by omega) _).alloc (by simp; omega) _
    clear hb1
    go_wp2_with fail
    go_ret2
    exact ⟨by rw [HE.out]; rfl, H1.out.alloc (by omega) _⟩
  have HN2 : Hid (_ = _) := HN.out.trans (if_neg hbad)
  rw [if_neg hbad, if_neg hbad] at HAt
  unfold dsv at HAt
  clear HN hbad
  by_cases hb : blocksOf x.kind ≤ way
  · have HE : Hid (_ = _) := HN2.out.trans (if_pos hb)
    clear HN2
    go_enter Tryd.func34, Tryd.ntmps34
    go_wp2_with fail
    refine (HAt.out _ (HB.out _)).mono ?_
    rintro e w1 ⟨rfl, hb1⟩
    have p1 : w1.cell? ⟨w.heap.size, 0, none⟩ = some (.slice (some ⟨g, 0, none⟩) F.length cap) := by
      rw [hb1.cell (p := ⟨w.heap.size, 0, none⟩) (by simp)]
      exact World.cell?_alloc_at _ _ _ _ rfl
    have H1 : Hid (Below w.heap.size w w1) := (HB.out _).trans (hb1.mono (by simp))
    have hs1 : w.heap.size + 1 ≤ w1.heap.size := by have := hb1.size; simp at this; omega
    have hlt1 : w.heap.size < w1.heap.size := by omega
    have hB : Hid (∀ o1 o2 : Obj, Below w.heap.size w ((w1.alloc o1).alloc o2)) := fun o1 o2 => (H1.out.alloc (by omega) _).alloc (by simp; omega) _
    clear hb1
    go_wp2_with fail
    refine (d_blocks _ _ _ _ _ _ _ _ _ _ _).mono ?_
    rintro e w2 ⟨rfl, o2, rfl⟩
    go_wp2_with fail
    refine (d_following (HP.out.keep (hB.out _ _)) hl HPar.out (k : Int) (by omega) (by omega)).mono ?_
    rintro e w4 ⟨rfl, hb4⟩
    go_wp2_with fail
    go_ret2
    exact ⟨by rw [HE.out]; rfl, (hB.out _ _).trans (hb4.mono (by simp; omega))⟩
  have HN3 : Hid (_ = _) := HN2.out.trans (if_neg hb)
  clear HN2
  have HFI : Hid (∀ (w2 : World) (hP : PRow w2 g F), Calls Tryd.prog 50 #[.agg #[.slice (some ⟨g, 0, none⟩) F.length cap], .int .i64 (k : Int), .int .i64 way, .int .i64 ((k : Int) + 1)] w2 fun e w' => e = .returned (.int .i64 (firstP F k way ((k : Int) + 1))) ∧ Below w2.heap.size w2 w') := fun w2 hP => d_firstIn (cap := cap) hP hl k way ((k : Int) + 1)
  generalize firstP F k way ((k : Int) + 1) = fi at *
  by_cases hfi : fi = -1
  · subst hfi
    have HN4 : Hid (_ = _) := HN3.out.trans (if_neg (by decide))
    clear HN3
    by_cases h3 : x.kind = 3
    · have HE : Hid (_ = _) := HN4.out.trans (if_pos h3)
      clear HN4
      have HK : Hid (x.kind = 3) := h3
      clear h3
      go_enter Tryd.func34, Tryd.ntmps34
      go_wp2_with fail
      refine (HAt.out _ (HB.out _)).mono ?_
      rintro e w1 ⟨rfl, hb1⟩
      have p1 : w1.cell? ⟨w.heap.size, 0, none⟩ = some (.slice (some ⟨g, 0, none⟩) F.length cap) := by
        rw [hb1.cell (p := ⟨w.heap.size, 0, none⟩) (by simp)]
        exact World.cell?_alloc_at _ _ _ _ rfl
      have H1 : Hid (Below w.heap.size w w1) := (HB.out _).trans (hb1.mono (by simp))
      have hs1 : w.heap.size + 1 ≤ w1.heap.size := by have := hb1.size; simp at this; omega
      have hlt1 : w.heap.size < w1.heap.size := by omega
      have hB : Hid (∀ o1 o2 : Obj, Below w.heap.size w ((w1.alloc o1).alloc o2)) := fun o1 o2 => (H1.out.alloc (by omega) _).alloc (by simp; omega) _
      clear hb1
      go_wp2_with fail
      refine (d_blocks _ _ _ _ _ _ _ _ _ _ _).mono ?_
      rintro e w2 ⟨rfl, o2, rfl⟩
      go_wp2_with fail
      refine (HFI.out _ (HP.out.keep (hB.out _ _))).mono ?_
      rintro e w3 ⟨rfl, hb3⟩
      have hsz3 := hb3.size
      simp at hsz3
      have s0 : w3.cell? ⟨w1.heap.size, 0, none⟩ = some (.int .i64 x.kind) := by
        rw [hb3.cell (p := ⟨w1.heap.size, 0, none⟩) (by simp; omega), World.cell?_alloc_past _ _ _ (by simp)]
        exact World.cell?_alloc_at _ _ _ _ rfl
      have p0 : w3.cell? ⟨w.heap.size, 0, none⟩ = some (.slice (some ⟨g, 0, none⟩) F.length cap) := by
        rw [hb3.cell (p := ⟨w.heap.size, 0, none⟩) (by simp; omega), World.cell?_alloc_past _ _ _ (by simp; omega), World.cell?_alloc_past _ _ _ (by omega)]
        exact p1
      have HB3 : Hid (Below w.heap.size w w3) := (hB.out _ _).trans (hb3.mono (by simp; omega))
      clear hb3
      have s0' : w3.cell? ⟨w1.heap.size, 0, none⟩ = some (.int .i64 3) := by rw [s0, HK.out]
      clear s0
      go_wp2_with fail
      go_ret2
      exact ⟨by rw [HE.out]; rfl, HB3.out⟩
    · have HE : Hid (_ = _) := HN4.out.trans (if_neg h3)
      have b3 : (x.kind == 3) = false := by simpa using h3
      clear HN4 h3
      go_enter Tryd.func34, Tryd.ntmps34
      go_wp2_with fail
      refine (HAt.out _ (HB.out _)).mono ?_
      rintro e w1 ⟨rfl, hb1⟩
      have p1 : w1.cell? ⟨w.heap.size, 0, none⟩ = some (.slice (some ⟨g, 0, none⟩) F.length cap) := by
        rw [hb1.cell (p := ⟨w.heap.size, 0, none⟩) (by simp)]
        exact World.cell?_alloc_at _ _ _ _ rfl
      have H1 : Hid (Below w.heap.size w w1) := (HB.out _).trans (hb1.mono (by simp))
      have hs1 : w.heap.size + 1 ≤ w1.heap.size := by have := hb1.size; simp at this; omega
      have hlt1 : w.heap.size < w1.heap.size := by omega
      have hB : Hid (∀ o1 o2 : Obj, Below w.heap.size w ((w1.alloc o1).alloc o2)) := fun o1 o2 => (H1.out.alloc (by omega) _).alloc (by simp; omega) _
      clear hb1
      go_wp2_with fail
      refine (d_blocks _ _ _ _ _ _ _ _ _ _ _).mono ?_
      rintro e w2 ⟨rfl, o2, rfl⟩
      go_wp2_with fail
      refine (HFI.out _ (HP.out.keep (hB.out _ _))).mono ?_
      rintro e w3 ⟨rfl, hb3⟩
      have hsz3 := hb3.size
      simp at hsz3
      have s0 : w3.cell? ⟨w1.heap.size, 0, none⟩ = some (.int .i64 x.kind) := by
        rw [hb3.cell (p := ⟨w1.heap.size, 0, none⟩) (by simp; omega), World.cell?_alloc_past _ _ _ (by simp)]
        exact World.cell?_alloc_at _ _ _ _ rfl
      have p0 : w3.cell? ⟨w.heap.size, 0, none⟩ = some (.slice (some ⟨g, 0, none⟩) F.length cap) := by
        rw [hb3.cell (p := ⟨w.heap.size, 0, none⟩) (by simp; omega), World.cell?_alloc_past _ _ _ (by simp; omega), World.cell?_alloc_past _ _ _ (by omega)]
        exact p1
      have HB3 : Hid (Below w.heap.size w w3) := (hB.out _ _).trans (hb3.mono (by simp; omega))
      clear hb3
      go_wp2_with fail
      refine (d_following (HP.out.keep HB3.out) hl HPar.out (k : Int) (by omega) (by omega)).mono ?_
      rintro e w4 ⟨rfl, hb4⟩
      go_wp2_with fail
      go_ret2
      exact ⟨by rw [HE.out]; rfl, HB3.out.trans (hb4.mono HB3.out.size)⟩
  · have HE : Hid (_ = _) := HN3.out.trans (if_pos hfi)
    have bf : (fi != -1) = true := by rw [bne_iff_ne]; exact hfi
    clear HN3 hfi
    go_enter Tryd.func34, Tryd.ntmps34
    go_wp2_with fail
    refine (HAt.out _ (HB.out _)).mono ?_
    rintro e w1 ⟨rfl, hb1⟩
    have p1 : w1.cell? ⟨w.heap.size, 0, none⟩ = some (.slice (some ⟨g, 0, none⟩) F.length cap) := by
      rw [hb1.cell (p := ⟨w.heap.size, 0, none⟩) (by simp)]
      exact World.cell?_alloc_at _ _ _ _ rfl
    have H1 : Hid (Below w.heap.size w w1) := (HB.out _).trans (hb1.mono (by simp))
    have hs1 : w.heap.size + 1 ≤ w1.heap.size := by have := hb1.size; simp at this; omega
    have hlt1 : w.heap.size < w1.heap.size := by omega
    have hB : Hid (∀ o1 o2 : Obj, Below w.heap.size w ((w1.alloc o1).alloc o2)) := fun o1 o2 => (H1.out.alloc (by omega) _).alloc (by simp; omega) _
    clear hb1
    go_wp2_with fail
    refine (d_blocks _ _ _ _ _ _ _ _ _ _ _).mono ?_
    rintro e w2 ⟨rfl, o2, rfl⟩
    go_wp2_with fail
    refine (HFI.out _ (HP.out.keep (hB.out _ _))).mono ?_
    rintro e w3 ⟨rfl, hb3⟩
    have hsz3 := hb3.size
    simp at hsz3
    have s0 : w3.cell? ⟨w1.heap.size, 0, none⟩ = some (.int .i64 x.kind) := by
      rw [hb3.cell (p := ⟨w1.heap.size, 0, none⟩) (by simp; omega), World.cell?_alloc_past _ _ _ (by simp)]
      exact World.cell?_alloc_at _ _ _ _ rfl
    have p0 : w3.cell? ⟨w.heap.size, 0, none⟩ = some (.slice (some ⟨g, 0, none⟩) F.length cap) := by
      rw [hb3.cell (p := ⟨w.heap.size, 0, none⟩) (by simp; omega), World.cell?_alloc_past _ _ _ (by simp; omega), World.cell?_alloc_past _ _ _ (by omega)]
      exact p1
    have HB3 : Hid (Below w.heap.size w w3) := (hB.out _ _).trans (hb3.mono (by simp; omega))
    clear hb3
    clear s0
    go_wp2_with fail
    go_ret2
    exact ⟨by rw [HE.out]; rfl, HB3.out⟩

end Go.Proofs.YtffajooegiempabDoor

