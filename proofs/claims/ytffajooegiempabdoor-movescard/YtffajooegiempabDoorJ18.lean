import Derived.Test.YtffajooegiempabDoorJ17
namespace Go.Proofs.YtffajooegiempabDoor
open Go.RowKit
variable {w w' : World} {g cap b : Nat} {F : List Ds}

theorem ds_storeAt {c : Array Value} (h : At w b c tDs) (hc : c.size = 10) (y : Ds) : ∃ w1, (Instr.storeAt tDs (.pointer (some ⟨b, 0, none⟩)) (dsv y)).run Tryd.prog w = .ok () w1 ∧ At w1 b (dsCells y) tDs ∧ Onl b w w1 := by
  refine ⟨w.setRow b (dsCells y), ?_, setRow_heap w b c (dsCells y) tDs (0, 0) h, ⟨rfl, rfl, rfl, by simp [World.setRow], fun k _ hk => setRow_other w b k _ (fun e => hk e)⟩⟩
  simp only [Instr.storeAt, Instr.sureAddr, Sem.run_bind, Sem.run_pure, Result.andThen]
  exact run_storeVar_row w b tDs tDs c (dsCells y) h (by kernel_rfl) (by rw [hc]; rfl) (by simp [dsCells, Value.oneCell'])
/-- A whole statement is written, in a walk. -/
theorem wpList_store_ds {ops : Array Oper} {rest : List Oper} {o : Oper} {a : Act} {Q : Exit → Act → World → Prop} {c : Array Value} (hg : o.guard = none) (p x : Operand) (hop : o.op = Op.store tDs p x) (hp : a.eval p = .pointer (some ⟨b, 0, none⟩)) (y : Ds) (hx : a.eval x = dsv y) (hat : At w b c tDs) (hc : c.size = 10)
    (hK : ∀ w1, At w1 b (dsCells y) tDs → Onl b w w1 → wpList Tryd.prog ops Q rest (a.put o.dst undef) w1) : wpList Tryd.prog ops Q (o :: rest) a w := by
  refine wpList_plain hg fun K hK' => ?_
  obtain ⟨w1, h1, h2, h3⟩ := ds_storeAt hat hc y
  unfold Oper.wp
  simp [execOp, hop, hp, hx, h1, Result.andThen, Oper.upon]
  exact hK' _ _ (hK w1 h2 h3)
set_option maxRecDepth 100000 in
set_option maxHeartbeats 1600000 in
theorem d_with_out (ao : Option Addr) (n : Nat) (hn : n ≤ 20) (p way : Int) (hp : p < 0 ∨ (n : Int) ≤ p) :
    Calls Tryd.prog 35 #[.agg #[.slice ao n cap], .int .i64 p, .int .i64 way] w fun e w' => e = .returned (.tuple #[dsv zDs, .int .i64 2]) ∧ Below w.heap.size w w' := by
  obtain ⟨w0, hw0⟩ : ∃ w0, w0 = (w.alloc (.cells #[.slice ao n cap] 66)).alloc (.cells (dsCells zDs) tDs) := ⟨_, rfl⟩
  have HB0 : Hid (Below w.heap.size w w0 ∧ At w0 (w.heap.size + 1) (dsCells zDs) tDs ∧ w0.heap.size = w.heap.size + 2) := by
    refine ⟨by rw [hw0]; exact ((Below.refl _ _).alloc (Nat.le_refl _) _).alloc (by simp) _, ?_, by rw [hw0]; simp⟩
    have := At.new (w.alloc (.cells #[.slice ao n cap] 66)) (dsCells zDs) tDs
    rw [show (w.alloc (.cells #[.slice ao n cap] 66)).heap.size = w.heap.size + 1 by simp] at this
    rw [hw0]; exact this
  obtain ⟨BW, hBW⟩ : ∃ BW : World → Prop, BW = fun w' => Below w0.heap.size w0 w' := ⟨_, rfl⟩
  have hat0 : Calls Tryd.prog 32 #[.agg #[.slice ao n cap], .int .i64 p] w0 fun e w' => e = .returned (.tuple #[dsv zDs, .int .i64 2]) ∧ BW w' := by rw [hBW]; exact d_at_out ao n hn p hp
  clear hp
  rw [hw0] at hat0
  unfold dsv dsCells zDs newDs at hat0
  go_enter Tryd.func35, Tryd.ntmps35
  go_wp2_with fail
  refine hat0.mono ?_
  rintro e w1 ⟨rfl, hb1⟩
  obtain ⟨w2, hw2⟩ : ∃ w2, w2 = w1.alloc (.cells (dsCells zDs) tDs) := ⟨_, rfl⟩
  have H2 : Hid (Below w.heap.size w w2 ∧ At w2 (w.heap.size + 1) (dsCells zDs) tDs ∧ At w2 w1.heap.size (dsCells zDs) tDs ∧ w.heap.size + 2 ≤ w1.heap.size ∧ w2.heap.size = w1.heap.size + 1) := by
    have s0 := HB0.out.2.2
    rw [hBW] at hb1
    have s1 := hb1.size
    have a1 := At.keep HB0.out.2.1 hb1 (by omega)
    refine ⟨?_, ?_, ?_, by omega, by rw [hw2]; simp⟩
    · rw [hw2]; exact (HB0.out.1.trans (hb1.mono (by omega))).alloc (by have := HB0.out.1.size; omega) _
    · rw [hw2]; exact At.allocH a1 _
    · rw [hw2]; exact At.new _ _ _
  have hs1 : w.heap.size + 2 ≤ w1.heap.size := H2.out.2.2.2.1
  clear hb1
  unfold dsCells zDs newDs at hw2
  rw [hw2] at H2
  go_wp2_with (first | (refine wpList_store_ds (b := w.heap.size + 1) (c := dsCells zDs) rfl (.tmp 6) (.tmp 18) rfl rfl zDs rfl H2.out.2.1 rfl ?_; intro w5 h5a h5b))
  have h5 : Hid (At w5 (w.heap.size + 1) (dsCells zDs) tDs ∧ Below w.heap.size w w5) := ⟨h5a, H2.out.1.trans (h5b.below (by omega) (by have := H2.out.1.size; exact this))⟩
  go_wp2_with fail
  try simp only [Exit.inBlock, Exit.then]
  refine bodyPost_ret (results_dc (b := w.heap.size + 1) (x := zDs) rfl _ rfl h5.out.1) rfl ?_
  exact ⟨rfl, h5.out.2⟩

set_option maxRecDepth 100000 in
set_option maxHeartbeats 1600000 in
theorem d_with_in (h : PRow w g F) (k : Nat) (hk : k < F.length) (way : Int) :
    Calls Tryd.prog 35 #[.agg #[.slice (some ⟨g, 0, none⟩) F.length cap], .int .i64 (k : Int), .int .i64 way] w fun e w' =>
      e = .returned (.tuple #[dsv (if way < 0 ∨ waysP (F.getD k (newDs 0 0)).kind ≤ way then zDs else F.getD k (newDs 0 0)), .int .i64 (if way < 0 ∨ waysP (F.getD k (newDs 0 0)).kind ≤ way then 2 else 0)]) ∧ Below w.heap.size w w' := by
  obtain ⟨w0, hw0⟩ : ∃ w0, w0 = (w.alloc (.cells #[.slice (some ⟨g, 0, none⟩) F.length cap] 66)).alloc (.cells (dsCells zDs) tDs) := ⟨_, rfl⟩
  have HB0 : Hid (Below w.heap.size w w0 ∧ At w0 (w.heap.size + 1) (dsCells zDs) tDs ∧ w0.heap.size = w.heap.size + 2) := by
    refine ⟨by rw [hw0]; exact ((Below.refl _ _).alloc (Nat.le_refl _) _).alloc (by simp) _, ?_, by rw [hw0]; simp⟩
    have := At.new (w.alloc (.cells #[.slice (some ⟨g, 0, none⟩) F.length cap] 66)) (dsCells zDs) tDs
    rw [show (w.alloc (.cells #[.slice (some ⟨g, 0, none⟩) F.length cap] 66)).heap.size = w.heap.size + 1 by simp] at this
    rw [hw0]; exact this
  obtain ⟨BW, hBW⟩ : ∃ BW : World → Prop, BW = fun w' => Below w0.heap.size w0 w' := ⟨_, rfl⟩
  have hat0 : Calls Tryd.prog 32 #[.agg #[.slice (some ⟨g, 0, none⟩) F.length cap], .int .i64 (k : Int)] w0 fun e w' => e = .returned (.tuple #[dsv (F.getD k (newDs 0 0)), .int .i64 0]) ∧ BW w' := by rw [hBW]; exact d_at_in (h.keep HB0.out.1) k hk
  generalize F.getD k (newDs 0 0) = x at *
  clear h hk
  by_cases hw0' : way < 0
  · rw [if_pos (.inl hw0'), if_pos (.inl hw0')]
    rw [hw0] at hat0
    unfold dsv dsCells zDs newDs at hat0
    go_enter Tryd.func35, Tryd.ntmps35
    go_wp2_with fail
    refine hat0.mono ?_
    rintro e w1 ⟨rfl, hb1⟩
    obtain ⟨w2, hw2⟩ : ∃ w2, w2 = w1.alloc (.cells (dsCells x) tDs) := ⟨_, rfl⟩
    have H2 : Hid (Below w.heap.size w w2 ∧ At w2 (w.heap.size + 1) (dsCells zDs) tDs ∧ At w2 w1.heap.size (dsCells x) tDs ∧ w.heap.size + 2 ≤ w1.heap.size ∧ w2.heap.size = w1.heap.size + 1) := by
      have s0 := HB0.out.2.2
      rw [hBW] at hb1
      have s1 := hb1.size
      have a1 := At.keep HB0.out.2.1 hb1 (by omega)
      refine ⟨?_, ?_, ?_, by omega, by rw [hw2]; simp⟩
      · rw [hw2]; exact (HB0.out.1.trans (hb1.mono (by omega))).alloc (by have := HB0.out.1.size; omega) _
      · rw [hw2]; exact At.allocH a1 _
      · rw [hw2]; exact At.new _ _ _
    have hs1 : w.heap.size + 2 ≤ w1.heap.size := H2.out.2.2.2.1
    clear hb1
    unfold dsCells at hw2
    rw [hw2] at H2
    go_wp2_with (first | (refine wpList_store_ds (b := w.heap.size + 1) (c := dsCells zDs) rfl (.tmp 6) (.tmp 28) rfl rfl zDs rfl H2.out.2.1 rfl ?_; intro w5 h5a h5b))
    have h5 : Hid (At w5 (w.heap.size + 1) (dsCells zDs) tDs ∧ Below w.heap.size w w5) := ⟨h5a, H2.out.1.trans (h5b.below (by omega) (by have := H2.out.1.size; exact this))⟩
    go_wp2_with fail
    try simp only [Exit.inBlock, Exit.then]
    refine bodyPost_ret (results_dc (b := w.heap.size + 1) (x := zDs) rfl _ rfl h5.out.1) rfl ?_
    exact ⟨rfl, h5.out.2⟩
  by_cases hw1 : waysP x.kind ≤ way
  · rw [if_pos (.inr hw1), if_pos (.inr hw1)]
    rw [hw0] at hat0
    unfold dsv dsCells zDs newDs at hat0
    go_enter Tryd.func35, Tryd.ntmps35
    go_wp2_with fail
    refine hat0.mono ?_
    rintro e w1 ⟨rfl, hb1⟩
    obtain ⟨w2, hw2⟩ : ∃ w2, w2 = w1.alloc (.cells (dsCells x) tDs) := ⟨_, rfl⟩
    have H2 : Hid (Below w.heap.size w w2 ∧ At w2 (w.heap.size + 1) (dsCells zDs) tDs ∧ At w2 w1.heap.size (dsCells x) tDs ∧ w.heap.size + 2 ≤ w1.heap.size ∧ w2.heap.size = w1.heap.size + 1) := by
      have s0 := HB0.out.2.2
      rw [hBW] at hb1
      have s1 := hb1.size
      have a1 := At.keep HB0.out.2.1 hb1 (by omega)
      refine ⟨?_, ?_, ?_, by omega, by rw [hw2]; simp⟩
      · rw [hw2]; exact (HB0.out.1.trans (hb1.mono (by omega))).alloc (by have := HB0.out.1.size; omega) _
      · rw [hw2]; exact At.allocH a1 _
      · rw [hw2]; exact At.new _ _ _
    have hs1 : w.heap.size + 2 ≤ w1.heap.size := H2.out.2.2.2.1
    clear hb1
    unfold dsCells at hw2
    rw [hw2] at H2
    go_wp2_with fail
    refine (d_ways _ _ _ _ _ _ _ _ _ _ _).mono ?_
    rintro e w3 ⟨rfl, o3, rfl⟩
    go_wp2_with (first | (refine wpList_store_ds (b := w.heap.size + 1) (c := dsCells zDs) rfl (.tmp 6) (.tmp 28) rfl rfl zDs rfl (At.allocH H2.out.2.1 _) rfl ?_; intro w5 h5a h5b))
    have h5 : Hid (At w5 (w.heap.size + 1) (dsCells zDs) tDs ∧ Below w.heap.size w w5) := ⟨h5a, (H2.out.1.alloc (by have := H2.out.1.size; exact this) _).trans (h5b.below (by omega) (by have := H2.out.1.size; simp at this ⊢; omega))⟩
    go_wp2_with fail
    try simp only [Exit.inBlock, Exit.then]
    refine bodyPost_ret (results_dc (b := w.heap.size + 1) (x := zDs) rfl _ rfl h5.out.1) rfl ?_
    exact ⟨rfl, h5.out.2⟩
  · rw [if_neg (fun e => e.elim hw0' hw1), if_neg (fun e => e.elim hw0' hw1)]
    rw [hw0] at hat0
    unfold dsv dsCells zDs newDs at hat0
    go_enter Tryd.func35, Tryd.ntmps35
    go_wp2_with fail
    refine hat0.mono ?_
    rintro e w1 ⟨rfl, hb1⟩
    obtain ⟨w2, hw2⟩ : ∃ w2, w2 = w1.alloc (.cells (dsCells x) tDs) := ⟨_, rfl⟩
    have H2 : Hid (Below w.heap.size w w2 ∧ At w2 (w.heap.size + 1) (dsCells zDs) tDs ∧ At w2 w1.heap.size (dsCells x) tDs ∧ w.heap.size + 2 ≤ w1.heap.size ∧ w2.heap.size = w1.heap.size + 1) := by
      have s0 := HB0.out.2.2
      rw [hBW] at hb1
      have s1 := hb1.size
      have a1 := At.keep HB0.out.2.1 hb1 (by omega)
      refine ⟨?_, ?_, ?_, by omega, by rw [hw2]; simp⟩
      · rw [hw2]; exact (HB0.out.1.trans (hb1.mono (by omega))).alloc (by have := HB0.out.1.size; omega) _
      · rw [hw2]; exact At.allocH a1 _
      · rw [hw2]; exact At.new _ _ _
    have hs1 : w.heap.size + 2 ≤ w1.heap.size := H2.out.2.2.2.1
    clear hb1
    unfold dsCells at hw2
    rw [hw2] at H2
    go_wp2_with fail
    refine (d_ways _ _ _ _ _ _ _ _ _ _ _).mono ?_
    rintro e w3 ⟨rfl, o3, rfl⟩
    go_wp2_with (first | (refine wpList_store_ds (b := w.heap.size + 1) (c := dsCells zDs) rfl (.tmp 6) (.tmp 29) rfl rfl x rfl (At.allocH H2.out.2.1 _) rfl ?_; intro w5 h5a h5b))
    have h5 : Hid (At w5 (w.heap.size + 1) (dsCells x) tDs ∧ Below w.heap.size w w5) := ⟨h5a, (H2.out.1.alloc (by have := H2.out.1.size; exact this) _).trans (h5b.below (by omega) (by have := H2.out.1.size; simp at this ⊢; omega))⟩
    go_wp2_with fail
    try simp only [Exit.inBlock, Exit.then]
    refine bodyPost_ret (results_dc (b := w.heap.size + 1) (x := x) rfl _ rfl h5.out.1) rfl ?_
    exact ⟨rfl, h5.out.2⟩

end Go.Proofs.YtffajooegiempabDoor

namespace Go.Proofs.YtffajooegiempabDoor
open Go.RowKit
variable {w : World}

theorem ov_tq {o : List Int} (ho : okL o) (he : ovE o = false) : TQ (ovM o) := by
  refine ⟨(raw_lay ho).tc he, (raw_lay ho).top (bd_lay ho) he, fun k hk => ?_⟩
  have hlo : Lo (8000 * 6 ^ 8 + 1) (sharp (lay o 32)) := sharp_lo (fun a _ => (lay_range o 32 ho.2 a).1)
  have y : -(8000 * 6 ^ 8 + 1) ≤ sharp (lay o 32) k := hlo k hk
  have z : (8000 * 6 ^ 8 + 1 : Int) = 13436928001 := by decide
  rw [z] at y
  show _ ≤ sharp (lay o 32) k
  omega
theorem ov_rng {o : List Int} (ho : okL o) : ∀ k, k < 64 → -20000000000 ≤ ovM o k ∧ ovM o k ≤ 1000000 := by
  intro k hk
  have hlo : Lo (8000 * 6 ^ 8 + 1) (sharp (lay o 32)) := sharp_lo (fun a _ => (lay_range o 32 ho.2 a).1)
  have y : -(8000 * 6 ^ 8 + 1) ≤ sharp (lay o 32) k := hlo k hk
  have z : (8000 * 6 ^ 8 + 1 : Int) = 13436928001 := by decide
  rw [z] at y
  have u := sharp_le (lay o 32) k
  have v := (lay_range o 32 ho.2 k).2
  show -20000000000 ≤ sharp (lay o 32) k ∧ sharp (lay o 32) k ≤ 1000000
  omega
theorem TQ.sh {C : Nat → Int} (h : TQ C) : Sh C := fun k hk => ⟨by have := h.lo k hk; omega, (h.top k hk).imp id (fun q => by omega)⟩
theorem ss_sm {C : Nat → Int} (h : Sh C) {t f : Nat} (hf : f < 8) {n : Int} (hn : -999 ≤ n ∧ n ≤ 999) : Sm (ssF C t f n 64) := by
  intro k hk
  rw [show k = k / 8 * 8 + k % 8 by omega, ss_at C t f n (by omega) (by omega)]
  have a := org_lt (t := t) hf (show k / 8 < 8 by omega)
  have b := org_lt (t := t) hf (show k % 8 < 8 by omega)
  have c := h (orgF t f (k / 8) * 8 + orgF t f (k % 8)) (by omega)
  have d := add_rng (t := t) hn (k / 8)
  have e := add_rng (t := t) hn (k % 8)
  unfold pl
  split
  · unfold NB; omega
  · rename_i q
    have := c.2.resolve_left (fun z => q (.inl z))
    omega
theorem bt_sm {C : Nat → Int} (h : Sh C) {t : Nat} (ht : t < 4) {lo hi : Int} (hlo : -999 ≤ lo ∧ lo ≤ 999) (hhi : -999 ≤ hi ∧ hi ≤ 999) : Sm (sbT C t lo hi) :=
  lm_sm (lm_sm (sbF_sm h ht (by omega) hhi 8 (Nat.le_refl _)) ⟨by omega, .inr (by omega)⟩) ⟨by omega, .inr (by omega)⟩
theorem as_sm {C : Nat → Int} (h : Sh C) {x : Ds} (hx : DsG x) (ht : 0 ≤ x.target ∧ x.target < 4) : Sm (asM C x) := by
  have n := hx.num
  unfold asM
  split
  · exact bt_sm h (by omega) ⟨by omega, by omega⟩ ⟨by omega, by omega⟩
  · split
    · exact bt_sm h (by omega) ⟨by omega, by omega⟩ ⟨by omega, by omega⟩
    · exact ss_sm h (sdS_lt x.sg 4 (Nat.le_refl _)).1 ⟨by omega, by omega⟩
theorem at_sm {e : Bool} {M : Nat → Int} (hM : ∀ k, k < 64 → -20000000000 ≤ M k ∧ M k ≤ 1000000) {l : List Int} {n : Int} (hn : -1000 ≤ n ∧ n ≤ 1000) : Sm (atM e M l n) := by
  unfold atM
  split
  · intro k hk; have := hM k hk; omega
  · exact ah_sm (lm_rng hM hn) 64 (Nat.le_refl _)
theorem po_sm {e : Bool} {M : Nat → Int} (hM : ∀ k, k < 64 → -20000000000 ≤ M k ∧ M k ≤ 1000000) (hS : e = false → Sh M) {x : Ds} (hx : DsG x) (ht : 0 ≤ x.target ∧ x.target < 4) (way : Int) : Sm (poM e M x way) := by
  have n := hx.num
  have hm : Sm M := fun k hk => by have := hM k hk; omega
  unfold poM
  split
  · exact hm
  · rename_i h
    split
    · exact as_sm (hS (by simpa using h)) hx ht
    · split
      · exact hm
      · split
        · exact at_sm hM ⟨by omega, by omega⟩
        · exact at_sm hM ⟨by omega, by omega⟩

/-- What both answer. -/
def postC (s : ByteArray) (p way : Int) (o : List Int) : Int :=
  match progOf (bytesOf s) with
  | none => 1
  | some m => if way < 0 ∨ waysAt m p ≤ way then 2 else if gdB o = true then 0 else 3
def xAt (s : ByteArray) (p : Int) : Ds := (readZ s).2.getD p.toNat (newDs 0 0)
def PostOut (w : World) (c : Int) (e : Bool) (M : Nat → Int) : Ending → World → Prop := fun x w' => (c ≠ 0 ∧ Below w.heap.size w w' ∧ x = .returned (.tuple #[.slice none 0 0, .int .i64 c])) ∨ (c = 0 ∧ LSaysE w e M x w')
theorem ways_same {F : List Ds} {S : List St} (hW : Whole F S) {k : Nat} (hk : k < F.length) : waysP (F.getD k (newDs 0 0)).kind = waysR (S.getD k noSt) := by
  obtain ⟨x, u, a0, c0, g, hx, hu, hcor, ha, hif, hfc, hC, hs, hr, hkk⟩ := hW.at_ k hk
  rw [getD_some hx, getD_some hu]
  obtain ⟨x', u', hx', hu', _, _, _, _, hkd⟩ := hs
  rw [hx] at hx'
  rw [hu] at hu'
  cases hx'
  cases hu'
  have hkind := hcor.1
  unfold waysR
  rw [hkind]
  rcases hkd with ⟨hk01, _⟩ | ⟨hk3, _⟩ | ⟨hk2, _⟩
  · rcases hk01 with e | e <;> rw [e] <;> decide
  · rw [hk3]; decide
  · rw [hk2]; decide

set_option maxRecDepth 100000 in
set_option maxHeartbeats 3200000 in
theorem w_post (hG : Glob w) (s : ByteArray) (p way : Int) (u : Value) (o : List Int) (hm : s.size ≤ maxLen) (hu : Reads w u o) :
    Calls Tryd.prog 20 #[.string s, .int .i64 p, .int .i64 way, u] w (PostOut w (postC s p way o) (poE (ovE o) (ovM o) (xAt s p) way) (poM (ovE o) (ovM o) (xAt s p) way)) := by
  have hr := d_read s w hm
  have hl := bytesOf_len s
  have hz := o_zero
  have bad : progOf (bytesOf s) = none → (∀ e w', DReadPost w s e w' → ∃ c : Int, e = .returned (.tuple #[.agg #[.slice none 0 0], .int .i64 1, .int .i64 c]) ∧ Below w.heap.size w w') →
      Calls Tryd.prog 20 #[.string s, .int .i64 p, .int .i64 way, u] w (PostOut w (postC s p way o) (poE (ovE o) (ovM o) (xAt s p) way) (poM (ovE o) (ovM o) (xAt s p) way)) := by
    intro hp hq
    have HE : Hid (postC s p way o = 1) := by show postC _ _ _ _ = _; unfold postC; rw [hp]
    have hr' := hr.mono hq
    obtain ⟨au, cu, rfl, -, -⟩ := hu
    clear hr hp hq hm hl hG
    go_enter Tryd.func20, Tryd.ntmps20
    go_wp2_with fail
    refine hr'.mono ?_
    rintro e w1 ⟨c, rfl, hb⟩
    go_wp2_with fail
    go_ret2
    exact .inl ⟨by rw [HE.out]; decide, hb.alloc hb.size _, by rw [HE.out]; rfl⟩
  by_cases h160 : 160 < s.size
  · refine bad (by unfold progOf; rw [if_pos (by omega)]) ?_
    rintro e w' ⟨hb, h | h | h⟩
    · exact ⟨0, h.2, hb⟩
    · exact absurd h.1 (by omega)
    · exact absurd h.1 (by omega)
  rcases prog_whole s (by omega) with ⟨hg, hp⟩ | ⟨m, hg, hp, hW⟩
  · refine bad hp ?_
    rintro e w' ⟨hb, h | h | h⟩
    · exact absurd h.1 h160
    · exact ⟨_, h.2.2, hb⟩
    · exact absurd h.2.1 (by rw [hg]; decide)
  clear bad
  have hlen : (readZ s).2.length ≤ 20 := (rStmts_goes s 22 (-1) 0 0 ((0, false), []) ⟨Nat.zero_le _, Nat.zero_le _⟩).ok.len
  have hSl : (readZ s).2.length = m.st.length := hW.1.len
  have hr' := hr.mono (R' := fun e w' => ∃ v, e = .returned (.tuple #[.agg #[v], .int .i64 0, .int .i64 0]) ∧ Below w.heap.size w w' ∧ w'.ownsRow w.heap.size tDs 10 v (readZ s).2.length (flat (readZ s).2)) (by
    rintro e w' ⟨hb, h | h | h⟩
    · exact absurd h.1 h160
    · exact absurd h.2.1 (by rw [hg]; decide)
    · obtain ⟨_, _, v, he, hrow⟩ := h
      exact ⟨v, he, hb, hrow⟩)
  have HE : Hid (postC s p way o = if way < 0 ∨ waysAt m p ≤ way then 2 else if gdB o = true then 0 else 3) := by show postC _ _ _ _ = _; unfold postC; rw [hp]
  have HW : Hid (Whole (readZ s).2 m.st ∧ progOf (bytesOf s) = some m) := ⟨hW, hp⟩
  have HSl : Hid ((readZ s).2.length = m.st.length) := hSl
  have HG : Hid (Glob w) := hG
  have HU : Hid (Reads w u o) := hu
  have HX : Hid (xAt s p = (readZ s).2.getD p.toNat (newDs 0 0)) := rfl
  obtain ⟨au, cu, rfl, -, -⟩ := id hu
  clear hr hm hl h160 hg hp hW hSl hG hu
  generalize (readZ s).2 = F at *
  have two : ∀ {e : Ending} {w' : World}, postC s p way o = 2 → Below w.heap.size w w' → e = .returned (.tuple #[.slice none 0 0, .int .i64 2]) → PostOut w (postC s p way o) (poE (ovE o) (ovM o) (xAt s p) way) (poM (ovE o) (ovM o) (xAt s p) way) e w' := fun h1 h2 h3 => .inl ⟨by rw [h1]; decide, h2, by rw [h1]; exact h3⟩
  have HTwo : Hid (∀ {e : Ending} {w' : World}, postC s p way o = 2 → Below w.heap.size w w' → e = .returned (.tuple #[.slice none 0 0, .int .i64 2]) → PostOut w (postC s p way o) (poE (ovE o) (ovM o) (xAt s p) way) (poM (ovE o) (ovM o) (xAt s p) way) e w') := two
  clear two
  by_cases hout : p < 0 ∨ (F.length : Int) ≤ p
  · have HE2 : Hid (postC s p way o = 2) := by
      refine HE.out.trans (if_pos ?_)
      unfold waysAt
      rw [if_pos (by have := HSl.out; omega)]
      omega
    have HAt : Hid (∀ w1 ao cap, Calls Tryd.prog 35 #[.agg #[.slice ao F.length cap], .int .i64 p, .int .i64 way] w1 fun e w' => e = .returned (.tuple #[dsv zDs, .int .i64 2]) ∧ Below w1.heap.size w1 w') := fun w1 ao cap => d_with_out ao _ hlen p way hout
    unfold dsv zDs newDs at HAt
    clear HE
    go_enter Tryd.func20, Tryd.ntmps20
    go_wp2_with fail
    refine hr'.mono ?_
    rintro e w1 ⟨v, rfl, hb, hrow⟩
    obtain ⟨ao, cap, rfl⟩ : ∃ ao cap, v = .slice ao F.length cap := by
      obtain ⟨_, h2⟩ := hrow
      rcases h2 with ⟨rfl, e⟩ | ⟨g, cap, c, rfl, _⟩
      · exact ⟨none, 0, by rw [e]⟩
      · exact ⟨_, cap, rfl⟩
    clear hrow
    go_wp2_with fail
    refine (HAt.out _ ao cap).mono ?_
    rintro e w2 ⟨rfl, hb2⟩
    have H2 : Hid (Below w.heap.size w w2) := (hb.alloc hb.size _).trans (hb2.mono (by have := hb.size; simp; omega))
    clear hb hb2 hr'
    go_wp2_with fail
    go_ret2
    exact HTwo.out HE2.out (H2.out.alloc H2.out.size _) rfl
  · obtain ⟨k, rfl⟩ : ∃ k : Nat, p = k := ⟨p.toNat, by omega⟩
    have hk : k < F.length := by omega
    have HD := dsg_of HW.out.2 HW.out.1 hk
    have hq := stq_of HW.out.2 (show k < m.st.length by have := HSl.out; omega)
    have HDg : Hid (DsG (F.getD k (newDs 0 0)) ∧ 0 ≤ (F.getD k (newDs 0 0)).target ∧ (F.getD k (newDs 0 0)).target < 4) := ⟨HD.1, by rw [← HD.2.2.1]; exact ⟨hq.var.1, by have := hq.var.2; omega⟩⟩
    have HWy : Hid (waysAt m (k : Int) = waysP (F.getD k (newDs 0 0)).kind) := by
      show _ = _
      unfold waysAt
      rw [if_neg (by have := HSl.out; omega), Int.toNat_natCast, ways_same HW.out.1 hk]
    have HAt : Hid (∀ w1 g cap, PRow w1 g F → Calls Tryd.prog 35 #[.agg #[.slice (some ⟨g, 0, none⟩) F.length cap], .int .i64 (k : Int), .int .i64 way] w1 fun e w' => e = .returned (.tuple #[dsv (if way < 0 ∨ waysP (F.getD k (newDs 0 0)).kind ≤ way then zDs else F.getD k (newDs 0 0)), .int .i64 (if way < 0 ∨ waysP (F.getD k (newDs 0 0)).kind ≤ way then 2 else 0)]) ∧ Below w1.heap.size w1 w') := fun w1 g cap hP => d_with_in hP k hk way
    have HX2 : Hid (xAt s (k : Int) = F.getD k (newDs 0 0)) := by show _ = _; rw [HX.out, Int.toNat_natCast]
    clear hout HD hq HX
    generalize F.getD k (newDs 0 0) = x at *
    by_cases hwy : way < 0 ∨ waysP x.kind ≤ way
    · have HE2 : Hid (postC s k way o = 2) := HE.out.trans (if_pos (by rw [HWy.out]; exact hwy))
      have HAt2 : Hid (∀ w1 g cap, PRow w1 g F → Calls Tryd.prog 35 #[.agg #[.slice (some ⟨g, 0, none⟩) F.length cap], .int .i64 (k : Int), .int .i64 way] w1 fun e w' => e = .returned (.tuple #[dsv zDs, .int .i64 2]) ∧ Below w1.heap.size w1 w') := fun w1 g cap hP => by
        have := HAt.out w1 g cap hP
        rw [if_pos hwy, if_pos hwy] at this
        exact this
      unfold dsv zDs newDs at HAt2
      clear HE HAt hwy HWy
      go_enter Tryd.func20, Tryd.ntmps20
      go_wp2_with fail
      refine hr'.mono ?_
      rintro e w1 ⟨v, rfl, hb, hrow⟩
      obtain ⟨g, cap, rfl⟩ : ∃ g cap, v = .slice (some ⟨g, 0, none⟩) F.length cap := by
        obtain ⟨_, h2⟩ := hrow
        rcases h2 with ⟨_, e⟩ | ⟨g, cap, c, rfl, _⟩
        · omega
        · exact ⟨g, cap, rfl⟩
      have HPr : Hid (PRow w1 g F) := prow_of hrow rfl (hrow.lt g rfl).2
      clear hrow
      go_wp2_with fail
      refine (HAt2.out _ g cap (HPr.out.keep ((Below.refl _ _).alloc (Nat.le_refl _) _))).mono ?_
      rintro e w2 ⟨rfl, hb2⟩
      have H2 : Hid (Below w.heap.size w w2) := (hb.alloc hb.size _).trans (hb2.mono (by have := hb.size; simp; omega))
      clear hb hb2 hr'
      go_wp2_with fail
      go_ret2
      exact HTwo.out HE2.out (H2.out.alloc H2.out.size _) rfl
    · have HAt2 : Hid (∀ w1 g cap, PRow w1 g F → Calls Tryd.prog 35 #[.agg #[.slice (some ⟨g, 0, none⟩) F.length cap], .int .i64 (k : Int), .int .i64 way] w1 fun e w' => e = .returned (.tuple #[dsv x, .int .i64 0]) ∧ Below w1.heap.size w1 w') := fun w1 g cap hP => by
        have := HAt.out w1 g cap hP
        rw [if_neg hwy, if_neg hwy] at this
        exact this
      have HE1 : Hid (postC s k way o = if gdB o = true then 0 else 3) := HE.out.trans (if_neg (by rw [HWy.out]; exact hwy))
      clear HE HAt hwy HWy HTwo
      by_cases hok : okL o
      · have HE3 : Hid (postC s k way o = 0) := HE1.out.trans (if_pos (gdB_ok.2 hok))
        have HRd : Hid (∀ w1, Below w.heap.size w w1 → Calls Tryd.prog 24 #[.slice au o.length cu] w1 fun e w' => e = .returned (.tuple #[.agg (oc (ovE o) (ovM o)), .int .i64 0]) ∧ Below w1.heap.size w1 w') := fun w1 hb => o_read_ok (HG.out.keep hb HG.out.size) _ o hok (HU.out.keep hb)
        have HPo : Hid (∀ w1, Calls Tryd.prog 36 #[dsv x, .int .i64 way, .agg (oc (ovE o) (ovM o))] w1 fun e w' => e = .returned (.agg (oc (poE (ovE o) (ovM o) x way) (poM (ovE o) (ovM o) x way))) ∧ Below w1.heap.size w1 w') := fun w1 => e_post x HDg.out.1 HDg.out.2 way (ov_rng hok) (fun he => (ov_tq hok he).sh)
        have HSm : Hid (Sm (poM (ovE o) (ovM o) x way)) := po_sm (ov_rng hok) (fun he => (ov_tq hok he).sh) HDg.out.1 HDg.out.2 way
        have HLi : Hid (∀ w1, Below w.heap.size w w1 → Calls Tryd.prog 25 #[.agg (oc (poE (ovE o) (ovM o) x way) (poM (ovE o) (ovM o) x way))] w1 (LSays w1 (poE (ovE o) (ovM o) x way) (poM (ovE o) (ovM o) x way))) := fun w1 hb => o_list (HG.out.keep hb HG.out.size) HSm.out
        rw [HX2.out]
        clear HE1 hok HSm HX2
        generalize poE (ovE o) (ovM o) x way = e5 at *
        generalize poM (ovE o) (ovM o) x way = M5 at *
        generalize ovE o = e1 at *
        generalize ovM o = M at *
        unfold dsv at HAt2 HPo
        go_enter Tryd.func20, Tryd.ntmps20
        go_wp2_with fail
        refine hr'.mono ?_
        rintro e w1 ⟨v, rfl, hb, hrow⟩
        obtain ⟨g, cap, rfl⟩ : ∃ g cap, v = .slice (some ⟨g, 0, none⟩) F.length cap := by
          obtain ⟨_, h2⟩ := hrow
          rcases h2 with ⟨_, e⟩ | ⟨g, cap, c, rfl, _⟩
          · omega
          · exact ⟨g, cap, rfl⟩
        have HPr : Hid (PRow w1 g F) := prow_of hrow rfl (hrow.lt g rfl).2
        clear hrow
        go_wp2_with fail
        refine (HAt2.out _ g cap (HPr.out.keep ((Below.refl _ _).alloc (Nat.le_refl _) _))).mono ?_
        rintro e w2 ⟨rfl, hb2⟩
        have H2 : Hid (Below w.heap.size w w2) := (hb.alloc hb.size _).trans (hb2.mono (by have := hb.size; simp; omega))
        have hrd := fun ob => HRd.out (w2.alloc ob) (H2.out.alloc H2.out.size _)
        have HRd2 : Hid (∀ ob, Calls Tryd.prog 24 #[.slice au o.length cu] (w2.alloc ob) fun e w' => e = .returned (.tuple #[.agg (oc e1 M), .int .i64 0]) ∧ Below (w2.alloc ob).heap.size (w2.alloc ob) w') := hrd
        clear hb hb2 hr' hrd
        go_wp2_with fail
        refine (HRd2.out _).mono ?_
        rintro e w3 ⟨rfl, hb3⟩
        obtain ⟨w4, hst4, hat4, hb4, hs4⟩ := o_fresh w3 e1 M
        have hs3 : w2.heap.size + 1 ≤ w3.heap.size := by have := hb3.size; simpa using this
        have hA3 : At w3 w2.heap.size (dsCells x) tDs := At.keep (At.new w2 (dsCells x) tDs) hb3 (by simp)
        have H4 : Hid (OAt w4 w3.heap.size e1 M ∧ At w4 w2.heap.size (dsCells x) tDs ∧ Below w.heap.size w w4) := ⟨hat4, hA3.keep hb4 hA3.lt, ((H2.out.alloc H2.out.size _).trans (hb3.mono (by have := H2.out.size; simp; omega))).trans (hb4.mono (by have := H2.out.size; omega))⟩
        clear hb3 hat4 hb4 hA3
        have y0 : w4.cell? ⟨w2.heap.size, 0, none⟩ = some (.int .i64 x.kind) := H4.out.2.1.cell 0
        have y1 : w4.cell? ⟨w2.heap.size, 1, none⟩ = some (.int .i64 x.target) := H4.out.2.1.cell 1
        have y2 : w4.cell? ⟨w2.heap.size, 2, none⟩ = some (.bool x.any) := H4.out.2.1.cell 2
        have y3 : w4.cell? ⟨w2.heap.size, 3, none⟩ = some (.int .i64 (sgAt x.sg 0)) := H4.out.2.1.cell 3
        have y4 : w4.cell? ⟨w2.heap.size, 4, none⟩ = some (.int .i64 (sgAt x.sg 1)) := H4.out.2.1.cell 4
        have y5 : w4.cell? ⟨w2.heap.size, 5, none⟩ = some (.int .i64 (sgAt x.sg 2)) := H4.out.2.1.cell 5
        have y6 : w4.cell? ⟨w2.heap.size, 6, none⟩ = some (.int .i64 (sgAt x.sg 3)) := H4.out.2.1.cell 6
        have y7 : w4.cell? ⟨w2.heap.size, 7, none⟩ = some (.int .i64 x.num) := H4.out.2.1.cell 7
        have y8 : w4.cell? ⟨w2.heap.size, 8, none⟩ = some (.int .i64 x.parent) := H4.out.2.1.cell 8
        have y9 : w4.cell? ⟨w2.heap.size, 9, none⟩ = some (.int .i64 x.block) := H4.out.2.1.cell 9
        go_wp2_with (refine wpList_load_o rfl (.tmp 14) rfl rfl H4.out.1 ?_)
        refine (HPo.out w4).mono ?_
        rintro e w5 ⟨rfl, hb5⟩
        have H5 : Hid (Below w.heap.size w w5) := H4.out.2.2.trans (hb5.mono H4.out.2.2.size)
        obtain ⟨w6, hst6, hat6, hb6, hs6⟩ := o_fresh w5 e5 M5
        have H6 : Hid (OAt w6 w5.heap.size e5 M5 ∧ Below w.heap.size w w6) := ⟨hat6, H5.out.trans (hb6.mono H5.out.size)⟩
        have hli := HLi.out w6 H6.out.2
        clear hb5 hat6 hb6 HLi
        go_wp2_with (refine wpList_load_o rfl (.tmp 15) rfl rfl H6.out.1 ?_)
        refine hli.mono ?_
        intro y w7 hy
        obtain ⟨yy, rfl, a, nn, c, rfl⟩ := hy.val
        have HY : Hid (LSays w e5 M5 (.returned (.slice a nn c)) w7) := hy.from_ H6.out.2
        clear hy hli
        go_wp2_with fail
        go_ret2
        exact .inr ⟨HE3.out, _, HY.out, rfl⟩
      · have HE3 : Hid (postC s k way o = 3) := HE1.out.trans (if_neg (fun z => hok (gdB_ok.1 z)))
        have HRd : Hid (∀ w1, Below w.heap.size w w1 → Calls Tryd.prog 24 #[.slice au o.length cu] w1 fun e w' => e = .returned (.tuple #[.agg (oc false fun _ => 0), .int .i64 3]) ∧ Below w1.heap.size w1 w') := fun w1 hb => rdsNo HG.out hok HU.out w1 hb
        clear HE1 hok HX2
        unfold dsv at HAt2
        go_enter Tryd.func20, Tryd.ntmps20
        go_wp2_with fail
        refine hr'.mono ?_
        rintro e w1 ⟨v, rfl, hb, hrow⟩
        obtain ⟨g, cap, rfl⟩ : ∃ g cap, v = .slice (some ⟨g, 0, none⟩) F.length cap := by
          obtain ⟨_, h2⟩ := hrow
          rcases h2 with ⟨_, e⟩ | ⟨g, cap, c, rfl, _⟩
          · omega
          · exact ⟨g, cap, rfl⟩
        have HPr : Hid (PRow w1 g F) := prow_of hrow rfl (hrow.lt g rfl).2
        clear hrow
        go_wp2_with fail
        refine (HAt2.out _ g cap (HPr.out.keep ((Below.refl _ _).alloc (Nat.le_refl _) _))).mono ?_
        rintro e w2 ⟨rfl, hb2⟩
        have H2 : Hid (Below w.heap.size w w2) := (hb.alloc hb.size _).trans (hb2.mono (by have := hb.size; simp; omega))
        have HRd2 : Hid (∀ ob, Calls Tryd.prog 24 #[.slice au o.length cu] (w2.alloc ob) fun e w' => e = .returned (.tuple #[.agg (oc false fun _ => 0), .int .i64 3]) ∧ Below (w2.alloc ob).heap.size (w2.alloc ob) w') := fun ob => HRd.out (w2.alloc ob) (H2.out.alloc H2.out.size _)
        clear hb hb2 hr'
        go_wp2_with fail
        refine (HRd2.out _).mono ?_
        rintro e w3 ⟨rfl, hb3⟩
        obtain ⟨w4, hst4, hat4, hb4, hs4⟩ := o_fresh w3 false (fun _ => 0)
        have hs3 : w2.heap.size + 1 ≤ w3.heap.size := by have := hb3.size; simpa using this
        have H4 : Hid (Below w.heap.size w w4) := ((H2.out.alloc H2.out.size _).trans (hb3.mono (by have := H2.out.size; simp; omega))).trans (hb4.mono (by have := H2.out.size; omega))
        clear hb3 hat4 hb4
        go_wp2_with fail
        go_ret2
        exact .inl ⟨by rw [HE3.out]; decide, H4.out, by rw [HE3.out]; rfl⟩

end Go.Proofs.YtffajooegiempabDoor

/- A run, plain: the program's machine. -/
namespace Go.Proofs.YtffajooegiempabDoor

structure Ms where
  used : Nat
  st : Int
  pt : Int
  v : List Int

def clampI (n : Int) : Int := if 999 < n then 999 else if n < -999 then -999 else n
def sumTo (a b : List Int) : Nat → Int
  | 0 => 0
  | j + 1 => sumTo a b j + sgAt a j * sgAt b j
def inP (L : List Int) (u : Nat) : Int × Nat := if u < L.length then (L.getD u 0, u + 1) else (0, u)
def valP (L : List Int) (x : Ds) (s : Ms) : Int × Nat := if x.any = true then (clampI (inP L s.used).1, (inP L s.used).2) else (sumTo x.sg s.v 4 + x.num, s.used)
def holP (L : List Int) (x : Ds) (s : Ms) : Bool × Nat := if x.any = true then ((inP L s.used).1 != 0, (inP L s.used).2) else (decide (sumTo x.sg s.v 4 ≤ x.num), s.used)
def entP (n : Nat) (s : Ms) (p : Int) : Ms := ⟨s.used, if p = n then 1 else s.st, p, s.v⟩
def leaP (F : List Ds) (s : Ms) (way : Int) : Ms := if (nextP F s.pt way).2 = 0 then entP F.length s (nextP F s.pt way).1 else s
def asgP (F : List Ds) (L : List Int) (x : Ds) (s : Ms) : Ms :=
  if 999 < (valP L x s).1 ∨ (valP L x s).1 < -999 then ⟨(valP L x s).2, 2, s.pt, s.v⟩ else leaP F ⟨(valP L x s).2, s.st, s.pt, s.v.set x.target.toNat (valP L x s).1⟩ 0
def astP (F : List Ds) (L : List Int) (x : Ds) (s : Ms) : Ms :=
  if (holP L x s).1 = true then leaP F ⟨(holP L x s).2, s.st, s.pt, s.v⟩ 0 else ⟨(holP L x s).2, 3, s.pt, s.v⟩
def braP (F : List Ds) (L : List Int) (x : Ds) (s : Ms) : Ms := leaP F ⟨(holP L x s).2, s.st, s.pt, s.v⟩ (if (holP L x s).1 = true then 0 else 1)
def stpP (F : List Ds) (L : List Int) (s : Ms) : Ms :=
  if s.pt < 0 ∨ (F.length : Int) ≤ s.pt then s else
    if (F.getD s.pt.toNat (newDs 0 0)).kind = 0 then asgP F L (F.getD s.pt.toNat (newDs 0 0)) s
    else if (F.getD s.pt.toNat (newDs 0 0)).kind = 1 then astP F L (F.getD s.pt.toNat (newDs 0 0)) s
    else braP F L (F.getD s.pt.toNat (newDs 0 0)) s
def runP (F : List Ds) (L : List Int) : Nat → Ms → Ms
  | 0, s => s
  | n + 1, s => if s.st = 0 then runP F L n (stpP F L s) else s

/-- What a statement keeps to. -/
structure DsOk (x : Ds) : Prop where
  len : x.sg.length = 4
  sg : ∀ i, -1 ≤ sgAt x.sg i ∧ sgAt x.sg i ≤ 1
  num : -99 ≤ x.num ∧ x.num ≤ 99
  tg : 0 ≤ x.target ∧ x.target ≤ 3
/-- What a machine keeps to. -/
structure MsOk (L : List Int) (s : Ms) : Prop where
  len : s.v.length = 4
  v : ∀ i, -999 ≤ sgAt s.v i ∧ sgAt s.v i ≤ 999
  used : s.used ≤ L.length

theorem mul_sg (a b : Int) (h0 : -1 ≤ a) (h1 : a ≤ 1) (h2 : -999 ≤ b) (h3 : b ≤ 999) : -999 ≤ a * b ∧ a * b ≤ 999 := by
  rcases (show a = -1 ∨ a = 0 ∨ a = 1 by omega) with rfl | rfl | rfl <;> omega
theorem sumTo_le {a b : List Int} (ha : ∀ i, -1 ≤ sgAt a i ∧ sgAt a i ≤ 1) (hb : ∀ i, -999 ≤ sgAt b i ∧ sgAt b i ≤ 999) : ∀ j : Nat, -(999 * (j : Int)) ≤ sumTo a b j ∧ sumTo a b j ≤ 999 * (j : Int) := by
  intro j
  induction j with
  | zero => simp [sumTo]
  | succ j ih =>
    have := mul_sg (sgAt a j) (sgAt b j) (ha j).1 (ha j).2 (hb j).1 (hb j).2
    unfold sumTo
    omega
theorem inP_used {L : List Int} {u : Nat} (h : u ≤ L.length) : (inP L u).2 ≤ L.length := by
  unfold inP; split <;> simp <;> omega
theorem clampI_le (n : Int) : -999 ≤ clampI n ∧ clampI n ≤ 999 := by
  unfold clampI; split
  · omega
  · split <;> omega
theorem sgAt_set (l : List Int) (i j : Nat) (x : Int) (hi : i < l.length) : sgAt (l.set i x) j = if j = i then x else sgAt l j := by
  unfold sgAt
  rw [List.getD_eq_getElem?_getD, List.getElem?_set]
  by_cases e : i = j
  · subst e; simp [hi]
  · rw [if_neg e, if_neg (Ne.symm e), List.getD_eq_getElem?_getD]

variable {F : List Ds} {L : List Int} {s : Ms} {x : Ds}
theorem MsOk.lea (h : MsOk L s) (way : Int) : MsOk L (leaP F s way) := by
  unfold leaP
  split
  · exact ⟨h.len, h.v, h.used⟩
  · exact h
theorem valP_used (h : MsOk L s) : (valP L x s).2 ≤ L.length := by
  unfold valP; split
  · exact inP_used h.used
  · exact h.used
theorem holP_used (h : MsOk L s) : (holP L x s).2 ≤ L.length := by
  unfold holP; split
  · exact inP_used h.used
  · exact h.used
theorem MsOk.asg (h : MsOk L s) (hx : DsOk x) : MsOk L (asgP F L x s) := by
  unfold asgP
  split
  · exact ⟨h.len, h.v, valP_used h⟩
  · rename_i hn
    refine MsOk.lea ⟨?_, ?_, ?_⟩ 0
    · simp only [List.length_set]; exact h.len
    · intro i
      have := hx.tg
      have hl := h.len
      rw [sgAt_set _ _ _ _ (by omega)]
      split
      · omega
      · exact h.v i
    · exact valP_used h
theorem MsOk.ast (h : MsOk L s) : MsOk L (astP F L x s) := by
  unfold astP
  split
  · exact MsOk.lea (s := ⟨(holP L x s).2, s.st, s.pt, s.v⟩) ⟨h.len, h.v, holP_used h⟩ 0
  · exact ⟨h.len, h.v, holP_used h⟩
theorem MsOk.bra (h : MsOk L s) : MsOk L (braP F L x s) := MsOk.lea (s := ⟨(holP L x s).2, s.st, s.pt, s.v⟩) ⟨h.len, h.v, holP_used h⟩ _
theorem MsOk.stp (h : MsOk L s) (hF : ∀ (k : Nat) (x : Ds), F[k]? = some x → DsOk x) : MsOk L (stpP F L s) := by
  unfold stpP
  split
  · exact h
  · rename_i hn
    have hk : s.pt.toNat < F.length := by omega
    have hx : DsOk (F.getD s.pt.toNat (newDs 0 0)) := hF s.pt.toNat _ (by rw [List.getD_eq_getElem?_getD, List.getElem?_eq_getElem hk]; rfl)
    split
    · exact h.asg hx
    split
    · exact h.ast
    · exact h.bra

end Go.Proofs.YtffajooegiempabDoor

/- A run stays within its program. -/
namespace Go.Proofs.YtffajooegiempabDoor
variable {F : List Ds} {L : List Int} {s : Ms} {x : Ds}

theorem firstGo_in (p b fr : Int) : ∀ (l : List Ds) (i : Nat), firstGo p b fr l i = -1 ∨ ((i : Int) ≤ firstGo p b fr l i ∧ firstGo p b fr l i < ((i + l.length : Nat) : Int)) := by
  intro l
  induction l with
  | nil => intro i; exact .inl rfl
  | cons y l ih =>
    intro i
    rw [firstGo]
    split
    · right; simp only [List.length_cons]; omega
    · rcases ih (i + 1) with h | h
      · exact .inl h
      · right; simp only [List.length_cons]; omega
theorem firstP_in (p b fr : Int) (h : firstP F p b fr ≠ -1) : 0 ≤ firstP F p b fr ∧ firstP F p b fr < F.length := by
  rcases firstGo_in p b fr F 0 with e | e
  · exact absurd e h
  · unfold firstP; omega
theorem followP_in : ∀ (n : Nat) (pt : Int), 0 ≤ followP F n pt ∧ followP F n pt ≤ F.length := by
  intro n
  induction n with
  | zero => intro pt; unfold followP; omega
  | succ n ih =>
    intro pt
    rw [followP]
    split
    · omega
    split
    · rename_i h
      have := firstP_in _ _ _ h
      omega
    split
    · rename_i h
      unfold isRepP at h
      simp only [Bool.and_eq_true, decide_eq_true_eq] at h
      omega
    · exact ih _
theorem nextP_in (pt way : Int) (h : (nextP F pt way).2 = 0) : 0 ≤ (nextP F pt way).1 ∧ (nextP F pt way).1 ≤ F.length := by
  unfold nextP at h ⊢
  by_cases h1 : pt < 0 ∨ (F.length : Int) ≤ pt
  · rw [if_pos h1] at h; simp at h
  rw [if_neg h1] at h ⊢
  by_cases h2 : way < 0 ∨ waysP (F.getD pt.toNat (newDs 0 0)).kind ≤ way
  · rw [if_pos h2] at h; simp at h
  rw [if_neg h2] at h ⊢
  split
  · exact followP_in _ _
  split
  · rename_i h3
    have := firstP_in _ _ _ h3
    simp only; omega
  split
  · simp only; omega
  · exact followP_in _ _

def InR (F : List Ds) (s : Ms) : Prop := s.st = 0 → 0 ≤ s.pt ∧ s.pt < F.length
theorem InR.ent (p : Int) (h0 : 0 ≤ p) (h1 : p ≤ F.length) : InR F (entP F.length s p) := by
  intro h
  unfold entP at h ⊢
  simp only at h ⊢
  split at h
  · cases h
  · omega
theorem InR.lea (h : InR F s) (way : Int) : InR F (leaP F s way) := by
  unfold leaP
  split
  · rename_i e
    have := nextP_in s.pt way e
    exact InR.ent _ this.1 this.2
  · exact h
theorem InR.stp (h : InR F s) : InR F (stpP F L s) := by
  unfold stpP
  split
  · exact h
  split
  · unfold asgP
    split
    · exact fun e => absurd e (by decide : ¬ (2 : Int) = 0)
    · refine InR.lea ?_ 0; exact h
  split
  · unfold astP
    split
    · refine InR.lea ?_ 0; exact h
    · exact fun e => absurd e (by decide : ¬ (3 : Int) = 0)
  · unfold braP; refine InR.lea ?_ _; exact h

/-- The run, whole. -/
def finP (F : List Ds) (L : List Int) (steps : Int) : Ms := runP F L (min steps.toNat 2000) (entP F.length ⟨0, 0, 0, [0, 0, 0, 0]⟩ 0)

end Go.Proofs.YtffajooegiempabDoor

