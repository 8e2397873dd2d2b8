import Derived.Test.YtffajooegiempabDoorJ18
namespace Go.Proofs.YtffajooegiempabDoor
open Go.RowKit
variable {w : World} {e0 : Bool} {M : Nat → Int}

set_option maxRecDepth 100000 in
set_option maxHeartbeats 3200000 in
/-- A sum of no variable. -/
theorem o_setSum0 (h : Sh M) (t : Nat) (ht : t < 4) (l : List Int) (hl : ∀ i, -1 ≤ gAt l i ∧ gAt l i ≤ 1) (n : Int) (hn : -99 ≤ n ∧ n ≤ 99) (h1 : sd1 l = opp (sd2 l)) :
    Calls Tryd.prog 80 #[.agg (oc e0 M), .int .i64 (t : Int), v4 l, .int .i64 n] w fun e w' => e = .returned (.agg (oc e0 (sbT M t n n))) ∧ Below w.heap.size w w' := by
  have hz := o_zero
  have h8 := sdS_lt l 4 (Nat.le_refl _)
  have HSd : Hid (∀ w1, Calls Tryd.prog 77 #[v4 l] w1 fun e w' => e = .returned (.tuple #[.int .i64 ((sd1 l : Nat) : Int), .int .i64 ((sd2 l : Nat) : Int)]) ∧ Below w1.heap.size w1 w') := fun w1 => o_sides l hl
  have HSb : Hid (∀ w1, Calls Tryd.prog 79 #[.agg (oc e0 M), .int .i64 (t : Int), .int .i64 n, .int .i64 n] w1 fun e w' => e = .returned (.agg (oc e0 (sbT M t n n))) ∧ Below w1.heap.size w1 w') := fun w1 => o_setBetween h t ht n n ⟨by omega, by omega⟩ ⟨by omega, by omega⟩
  have hf8 : sd1 l < 8 := h8.1
  have hs8 : sd2 l < 8 := h8.2
  generalize sd1 l = f at *
  generalize sd2 l = s at *
  subst h1
  have HOp : Hid (∀ w1, Calls Tryd.prog 85 #[.int .i64 (s : Int)] w1 fun e w' => e = .returned (.int .i64 ((opp s : Nat) : Int)) ∧ w' = w1) := fun w1 => o_opposite s hs8 w1
  obtain ⟨w0, hw0⟩ : ∃ w0, w0 = ((w.alloc (.cells (oc e0 M) tO)).alloc (.cells (c4 l) tV4)).alloc (.cells (oc false fun _ => 0) tO) := ⟨_, rfl⟩
  have H0 : Hid (OAt w0 w.heap.size e0 M ∧ OAt w0 (w.heap.size + 2) false (fun _ => 0) ∧ Below w.heap.size w w0 ∧ w0.heap.size = w.heap.size + 3) := by
    refine ⟨by rw [hw0]; exact At.allocH (At.allocH (At.new _ _ _) _) _, ?_, by rw [hw0]; exact (((Below.refl _ _).alloc (Nat.le_refl _) _).alloc (by simp) _).alloc (by simp; omega) _, by rw [hw0]; simp⟩
    have := At.new ((w.alloc (.cells (oc e0 M) tO)).alloc (.cells (c4 l) tV4)) (oc false fun _ => 0) tO
    rw [show ((w.alloc (.cells (oc e0 M) tO)).alloc (.cells (c4 l) tV4)).heap.size = w.heap.size + 2 by simp] at this
    rw [hw0]; exact this
  obtain ⟨BW, hBW⟩ : ∃ BW : World → Prop, BW = fun w' => Below w0.heap.size w0 w' := ⟨_, rfl⟩
  have hsd : Calls Tryd.prog 77 #[v4 l] w0 fun e w' => e = .returned (.tuple #[.int .i64 ((opp s : Nat) : Int), .int .i64 (s : Int)]) ∧ BW w' := by rw [hBW]; exact HSd.out w0
  rw [hw0] at hsd
  unfold v4 c4 at hsd
  unfold v4
  clear HSd h8 h
  go_enter Tryd.func80, Tryd.ntmps80
  go_wp2_with fail
  refine hsd.mono ?_
  rintro e w1 ⟨rfl, hb1⟩
  rw [hBW] at hb1
  have H1 : Hid (OAt w1 w.heap.size e0 M ∧ OAt w1 (w.heap.size + 2) false (fun _ => 0) ∧ Below w.heap.size w w1 ∧ w.heap.size + 3 ≤ w1.heap.size) := by
    have s0 := H0.out.2.2.2
    have s1 := hb1.size
    exact ⟨At.keep H0.out.1 hb1 (by omega), At.keep H0.out.2.1 hb1 (by omega), H0.out.2.2.1.trans (hb1.mono (by omega)), by omega⟩
  clear hb1 hsd hBW hw0 H0
  have hop := HOp.out w1
  have hsb := HSb.out w1
  go_wp2_with fail
  refine hop.mono ?_
  rintro e w2 ⟨rfl, hw2⟩
  subst hw2
  clear hop
  go_wp2_with (refine wpList_load_o rfl (.tmp 4) rfl rfl H1.out.1 ?_)
  refine hsb.mono ?_
  rintro e w3 ⟨rfl, hb3⟩
  have H3 : Hid (OAt w3 (w.heap.size + 2) false (fun _ => 0) ∧ Below w.heap.size w w3) := by
    have s1 := H1.out.2.2.2
    exact ⟨At.keep H1.out.2.1 hb3 (by omega), H1.out.2.2.1.trans (hb3.mono (by omega))⟩
  clear hb3 hsb
  generalize hTT : sbT M t n n = T at *
  have HTT : Hid (sbT M t n n = T) := hTT
  clear hTT HSb
  obtain ⟨w7, hst7, hat7, ho7⟩ := o_store H3.out.1 e0 T
  have H7 : Hid (OAt w7 (w.heap.size + 2) e0 T ∧ Below w.heap.size w w7) := ⟨hat7, H3.out.2.trans (ho7.below (by omega) H3.out.2.size)⟩
  clear hat7 ho7
  go_wp2_with fail
  try simp only [Exit.inBlock, Exit.then]
  refine bodyPost_ret (results_o rfl _ rfl H7.out.1) rfl ?_
  exact ⟨by rw [HTT.out], H7.out.2⟩

/-- What an assignment makes of an octagon. -/
def asM (M : Nat → Int) (x : Ds) : Nat → Int := if x.any = true then sbT M x.target.toNat (-999) 999 else if sd1 x.sg = opp (sd2 x.sg) then sbT M x.target.toNat x.num x.num else ssF M x.target.toNat (sd1 x.sg) x.num 64
/-- What a statement makes of an octagon. -/
def poE (e : Bool) (M : Nat → Int) (x : Ds) (way : Int) : Bool := if e = true then e else if x.kind = 0 then e else if x.any = true then e else if way = 0 then atE e M x.sg x.num else atE e M (ngL x.sg) (-x.num - 1)
def poM (e : Bool) (M : Nat → Int) (x : Ds) (way : Int) : Nat → Int := if e = true then M else if x.kind = 0 then asM M x else if x.any = true then M else if way = 0 then atM e M x.sg x.num else atM e M (ngL x.sg) (-x.num - 1)

set_option maxRecDepth 100000 in
set_option maxHeartbeats 3200000 in
theorem e_assigned (x : Ds) (hx : DsG x) (ht : 0 ≤ x.target ∧ x.target < 4) (hS : Sh M) :
    Calls Tryd.prog 52 #[dsv x, .agg (oc e0 M)] w fun e w' => e = .returned (.agg (oc e0 (asM M x))) ∧ Below w.heap.size w w' := by
  have hz := o_zero
  obtain ⟨t, htt⟩ : ∃ t : Nat, x.target = (t : Int) := ⟨x.target.toNat, by omega⟩
  have htn : x.target.toNat = t := by omega
  have ht4 : t < 4 := by omega
  obtain ⟨w0, hw0⟩ : ∃ w0, w0 = ((w.alloc (.cells (dsCells x) tDs)).alloc (.cells (oc e0 M) tO)).alloc (.cells (oc false fun _ => 0) tO) := ⟨_, rfl⟩
  have H0 : Hid (At w0 w.heap.size (dsCells x) tDs ∧ OAt w0 (w.heap.size + 1) e0 M ∧ OAt w0 (w.heap.size + 2) false (fun _ => 0) ∧ Below w.heap.size w w0 ∧ w0.heap.size = w.heap.size + 3) := by
    refine ⟨by rw [hw0]; exact At.allocH (At.allocH (At.new _ _ _) _) _, ?_, ?_, by rw [hw0]; exact (((Below.refl _ _).alloc (Nat.le_refl _) _).alloc (by simp) _).alloc (by simp; omega) _, by rw [hw0]; simp⟩
    · have := At.allocH (At.new (w.alloc (.cells (dsCells x) tDs)) (oc e0 M) tO) (.cells (oc false fun _ => 0) tO)
      rw [show (w.alloc (.cells (dsCells x) tDs)).heap.size = w.heap.size + 1 by simp] at this
      rw [hw0]; exact this
    · have := At.new ((w.alloc (.cells (dsCells x) tDs)).alloc (.cells (oc e0 M) tO)) (oc false fun _ => 0) tO
      rw [show ((w.alloc (.cells (dsCells x) tDs)).alloc (.cells (oc e0 M) tO)).heap.size = w.heap.size + 2 by simp] at this
      rw [hw0]; exact this
  have HA0 := H0.out.2.1
  obtain ⟨BW, hBW⟩ : ∃ BW : World → Prop, BW = fun w' => Below w0.heap.size w0 w' := ⟨_, rfl⟩
  cases ha : x.any with
  | true =>
    have HE : Hid (asM M x = sbT M t (-999) 999) := by show asM M x = _; unfold asM; rw [if_pos ha, htn]
    have hsb : Calls Tryd.prog 79 #[.agg (oc e0 M), .int .i64 (t : Int), .int .i64 (-999), .int .i64 999] w0 fun e w' => e = .returned (.agg (oc e0 (sbT M t (-999) 999))) ∧ BW w' := by rw [hBW]; exact o_setBetween hS t ht4 (-999) 999 ⟨by omega, by omega⟩ ⟨by omega, by omega⟩
    rw [hw0] at hsb HA0
    unfold dsCells at hsb HA0
    unfold dsv
    rw [ha, htt] at hsb HA0 ⊢
    generalize sbT M t (-999) 999 = T at *
    clear hS hx ht hw0
    go_enter Tryd.func52, Tryd.ntmps52
    go_wp2_with (refine wpList_load_o rfl (.tmp 3) rfl rfl HA0 ?_)
    refine hsb.mono ?_
    rintro e w1 ⟨rfl, hb1⟩
    rw [hBW] at hb1
    have H1 : Hid (OAt w1 (w.heap.size + 2) false (fun _ => 0) ∧ Below w.heap.size w w1) := by
      have s0 := H0.out.2.2.2.2
      exact ⟨At.keep H0.out.2.2.1 hb1 (by omega), H0.out.2.2.2.1.trans (hb1.mono (by omega))⟩
    clear hb1 hBW H0
    obtain ⟨w7, hst7, hat7, ho7⟩ := o_store H1.out.1 e0 T
    have H7 : Hid (OAt w7 (w.heap.size + 2) e0 T ∧ Below w.heap.size w w7) := ⟨hat7, H1.out.2.trans (ho7.below (by omega) H1.out.2.size)⟩
    clear hat7 ho7
    go_wp2_with fail
    try simp only [Exit.inBlock, Exit.then]
    refine bodyPost_ret (results_o rfl _ rfl H7.out.1) rfl ?_
    exact ⟨by rw [HE.out], H7.out.2⟩
  | false =>
    have hss : ∃ T, asM M x = T ∧ ∀ w1, Calls Tryd.prog 80 #[.agg (oc e0 M), .int .i64 (t : Int), v4 x.sg, .int .i64 x.num] w1 fun e w' => e = .returned (.agg (oc e0 T)) ∧ Below w1.heap.size w1 w' := by
      refine ⟨_, rfl, fun w1 => ?_⟩
      unfold asM
      rw [ha, if_neg (by decide), htn]
      by_cases q : sd1 x.sg = opp (sd2 x.sg)
      · rw [if_pos q]; exact o_setSum0 hS t ht4 x.sg hx.sg x.num hx.num q
      · rw [if_neg q]; exact o_setSum hS t ht4 x.sg hx.sg x.num hx.num q
    obtain ⟨T, hT, hss⟩ := hss
    have HE : Hid (asM M x = T) := hT
    have hsb : Calls Tryd.prog 80 #[.agg (oc e0 M), .int .i64 (t : Int), v4 x.sg, .int .i64 x.num] w0 fun e w' => e = .returned (.agg (oc e0 T)) ∧ BW w' := by rw [hBW]; exact hss w0
    rw [hw0] at hsb HA0
    unfold dsCells at hsb HA0
    unfold v4 at hsb
    unfold dsv
    rw [ha, htt] at hsb HA0 ⊢
    clear hS hx ht hw0 hss hT
    go_enter Tryd.func52, Tryd.ntmps52
    go_wp2_with (refine wpList_load_o rfl (.tmp 3) rfl rfl HA0 ?_)
    refine hsb.mono ?_
    rintro e w1 ⟨rfl, hb1⟩
    rw [hBW] at hb1
    have H1 : Hid (OAt w1 (w.heap.size + 2) false (fun _ => 0) ∧ Below w.heap.size w w1) := by
      have s0 := H0.out.2.2.2.2
      exact ⟨At.keep H0.out.2.2.1 hb1 (by omega), H0.out.2.2.2.1.trans (hb1.mono (by omega))⟩
    clear hb1 hBW H0
    obtain ⟨w7, hst7, hat7, ho7⟩ := o_store H1.out.1 e0 T
    have H7 : Hid (OAt w7 (w.heap.size + 2) e0 T ∧ Below w.heap.size w w7) := ⟨hat7, H1.out.2.trans (ho7.below (by omega) H1.out.2.size)⟩
    clear hat7 ho7
    go_wp2_with fail
    try simp only [Exit.inBlock, Exit.then]
    refine bodyPost_ret (results_o rfl _ rfl H7.out.1) rfl ?_
    exact ⟨by rw [HE.out], H7.out.2⟩

end Go.Proofs.YtffajooegiempabDoor

/- What an assignment makes of a closed octagon: the document's and the program's are the same. -/
namespace Go.Proofs.YtffajooegiempabDoor
variable {C : Nat → Int}
/- A sum of one variable. -/
def kk (t i : Nat) : Int := if i = 2 * t then 1 else if i = 2 * t + 1 then -1 else 0
/- Signs of at most one variable. -/
end Go.Proofs.YtffajooegiempabDoor

namespace Go.Proofs.YtffajooegiempabDoor
open Go.RowKit
variable {w : World} {C : Nat → Int}
end Go.Proofs.YtffajooegiempabDoor

namespace Go.Proofs.YtffajooegiempabDoor
open Go.RowKit
variable {w : World} {C : Nat → Int}
/-- A closed octagon that can be worked with. -/
structure TQ (C : Nat → Int) : Prop where
  tc : TC C
  top : Bd 56000 C
  lo : ∀ k, k < 64 → -20000000000 + 5 ≤ C k
theorem bdL_getD (C : Nat → Int) {f : Nat} (hf : f < 32) : (bdL C).getD f 0 = bd C f := bdL_get C f hf
/-- The number of the form of some signs. -/
theorem grP_form (_h : TC C) {l : List Int} (hl : l.length = 4) (hv : ∀ i, -1 ≤ gAt l i ∧ gAt l i ≤ 1) (h1 : 1 ≤ nz l) (h2 : nz l ≤ 2) : ∃ f : Nat, f < 32 ∧ numV l = (f : Int) ∧ grP C l = bd C f ∧ sd1 l = fs f ∧ sd2 l = ss f := by
  have t := tabS_of hl hv
  unfold tabS at t
  rw [decide_eq_false (by omega : ¬ 2 < nz l), Bool.false_or, if_neg (by omega)] at t
  simp only [Bool.and_eq_true, decide_eq_true_eq] at t
  refine ⟨(numV l).toNat, by omega, by omega, ?_, t.1.2, t.2⟩
  unfold grP
  rw [t.1.2, t.2]
  rfl

end Go.Proofs.YtffajooegiempabDoor

