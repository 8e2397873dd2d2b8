import Derived.Test.YtffajooegiempabDoorJ2
namespace Go.Proofs.YtffajooegiempabDoor
open Go.RowKit
variable {w : World} {b : Nat} {e0 : Bool} {M : Nat → Int}

abbrev tNo : TypeId := 3
/-- The bound of two sides. -/
def mo (M : Nat → Int) (i j : Nat) : Int := if i = j ∧ M (i * 8 + j) ≠ NB then (M (i * 8 + j)).tdiv 2 else M (i * 8 + j)
/-- The bound of a form. -/
def bd (M : Nat → Int) (f : Nat) : Int := if fs f = ss f ∧ M (fs f * 8 + ss f) ≠ NB then (M (fs f * 8 + ss f)).tdiv 2 else M (fs f * 8 + ss f)

set_option maxRecDepth 100000 in
set_option maxHeartbeats 1600000 in
theorem o_most (i j : Nat) (hi : i < 8) (hj : j < 8) (hS : -200000000000000000 ≤ M (i * 8 + j) ∧ M (i * 8 + j) ≤ 1000000000000000) :
    Calls Tryd.prog 71 #[.agg (oc e0 M), .int .i64 (i : Int), .int .i64 (j : Int)] w fun e w' => e = .returned (.int .i64 (mo M i j)) ∧ Below w.heap.size w w' := by
  have HE0 : Hid (mo M i j = if i = j ∧ M (i * 8 + j) ≠ NB then (M (i * 8 + j)).tdiv 2 else M (i * 8 + j)) := rfl
  have hii : (i : Int) < 8 := by omega
  have hji : (j : Int) < 8 := by omega
  have hi0 : ¬ (8 : Int) ≤ (i : Int) := by omega
  have hj0 : ¬ (8 : Int) ≤ (j : Int) := by omega
  have c1 : (w.alloc (.cells (oc e0 M) tO)).cell? ⟨w.heap.size, 1 + i * 8 + j, none⟩ = some (.int .i64 (M (i * 8 + j))) := by
    rw [Nat.add_assoc]
    exact OAt.cell (w := w.alloc (.cells (oc e0 M) tO)) (e0 := e0) (At.new _ _ _) (i * 8 + j) (by omega)
  obtain ⟨m0, m1⟩ := hS
  generalize M (i * 8 + j) = n at *
  generalize oc e0 M = cs at *
  have ht := tdiv2_le n
  obtain ⟨t1, t2⟩ := ht
  by_cases hq : i = j ∧ n ≠ NB
  · obtain ⟨rfl, hq2⟩ := hq
    have HE : Hid (mo M i i = n.tdiv 2) := HE0.out.trans (if_pos ⟨rfl, hq2⟩)
    have hb : (n != 1000000) = true := by rw [bne_iff_ne]; exact hq2
    clear HE0 hq2
    go_enter Tryd.func71, Tryd.ntmps71
    go_wp2_with fail
    go_ret
    exact ⟨by rw [HE.out]; rfl, (Below.refl _ _).alloc (Nat.le_refl _) _⟩
  · have HE : Hid (mo M i j = n) := HE0.out.trans (if_neg hq)
    clear HE0
    by_cases hij : i = j
    · subst hij
      have hb : (n != 1000000) = false := by
        have : n = 1000000 := by
          rcases Classical.em (n = NB) with e | e
          · exact e
          · exact absurd ⟨rfl, e⟩ hq
        rw [this]; rfl
      clear hq
      go_enter Tryd.func71, Tryd.ntmps71
      go_wp2_with fail
      go_ret
      exact ⟨by rw [HE.out]; rfl, (Below.refl _ _).alloc (Nat.le_refl _) _⟩
    · have hb : ((i : Int) == (j : Int)) = false := by rw [beq_eq_false_iff_ne]; omega
      clear hq hij
      go_enter Tryd.func71, Tryd.ntmps71
      go_wp2_with fail
      go_ret
      exact ⟨by rw [HE.out]; rfl, (Below.refl _ _).alloc (Nat.le_refl _) _⟩

/-- A whole octagon is read, as one step of a region that draws. -/
theorem step_load_o {ops : Array Oper} {o : Oper} {a : Act} {K : Act → World → Prop} {Q : Exit → Act → World → Prop} {E : Prop} (hg : o.guard = none) (p : Operand) (hop : o.op = Op.load tO p) (hp : a.eval p = .pointer (some ⟨b, 0, none⟩)) (hat : OAt w b e0 M)
    (hK : K (a.put o.dst (.agg (oc e0 M))) w) : if Region.wanted o (yielded ops a.tmps) = true then Oper.wp Tryd.prog o a w K Q else E := by
  have hw : Region.wanted o (yielded ops a.tmps) = true := by simp [Region.wanted, hg]
  rw [if_pos hw]
  unfold Oper.wp
  simp [execOp, hop, hp, o_loadAt hat, Result.andThen]
  exact hK

set_option maxRecDepth 100000 in
set_option maxHeartbeats 1600000 in
theorem o_bound (hG : Glob w) (f : Nat) (hf : f < 32) (hS : Sm M) :
    Calls Tryd.prog 42 #[.agg (oc e0 M), .int .i64 (f : Int)] w fun e w' => e = .returned (.int .i64 (bd M f)) ∧ Below w.heap.size w w' := by
  have hfi : (f : Int) < 32 := by omega
  have hf0 : ¬ (32 : Int) ≤ (f : Int) := by omega
  have hgs := hG.size
  have g0 : (w.alloc (.cells (oc e0 M) tO)).drew.cell? ⟨0, f, none⟩ = some (.int .i64 ((fs f : Nat) : Int)) := (World.cell?_alloc_past _ _ _ (by show 0 < _; omega)).trans (hG.first f hf)
  have g1 : (w.alloc (.cells (oc e0 M) tO)).drew.cell? ⟨1, f, none⟩ = some (.int .i64 ((ss f : Nat) : Int)) := (World.cell?_alloc_past _ _ _ (by show 1 < _; omega)).trans (hG.second f hf)
  have hi := fs_lt f hf
  have hj := ss_lt f hf
  have HA1 : Hid (OAt (w.alloc (.cells (oc e0 M) tO)).drew w.heap.size e0 M) := At.new w _ _
  have HB1 : Hid (Below w.heap.size w (w.alloc (.cells (oc e0 M) tO)).drew) := ((Below.refl _ _).alloc (Nat.le_refl _) _).drew
  have HMo : Hid (∀ w1, Calls Tryd.prog 71 #[.agg (oc e0 M), .int .i64 ((fs f : Nat) : Int), .int .i64 ((ss f : Nat) : Int)] w1 fun e w' => e = .returned (.int .i64 (mo M (fs f) (ss f))) ∧ Below w1.heap.size w1 w') := fun w1 => o_most _ _ hi hj (by have := hS (fs f * 8 + ss f) (by omega); omega)
  have HE : Hid (bd M f = mo M (fs f) (ss f)) := rfl
  generalize mo M (fs f) (ss f) = m at *
  generalize fs f = i at *
  generalize ss f = j at *
  clear hG hS hi hj
  go_enter Tryd.func42, Tryd.ntmps42
  go_wp2_with fail
  refine wp_region_any (by kernel_rfl) ?_
  change wpAny _ _ _ _ _ _ _ (World.drew _)
  refine wpAny_take (i := 1) (v := .int .i64 (f : Int)) rfl (by kernel_rfl) (by kernel_rfl) (by kernel_rfl) (fun _ _ _ h => h) (Or.inl ⟨by rfl, by intro w; go_simp⟩) ?_
  refine wpAny_take (i := 2) (v := .pointer (some ⟨0, f, none⟩)) rfl (by kernel_rfl) (by kernel_rfl) (by kernel_rfl) (fun _ _ _ h => h) (Or.inl ⟨by rfl, by intro w; go_simp⟩) ?_
  refine wpAny_take (i := 4) (v := .int .i64 (f : Int)) rfl (by kernel_rfl) (by kernel_rfl) (by kernel_rfl) (fun _ _ _ h => h) (Or.inl ⟨by rfl, by intro w; go_simp⟩) ?_
  refine wpAny_take (i := 5) (v := .pointer (some ⟨1, f, none⟩)) rfl (by kernel_rfl) (by kernel_rfl) (by kernel_rfl) (fun _ _ _ h => h) (Or.inl ⟨by rfl, by intro w; go_simp⟩) ?_
  refine wpAny_ready (rs := [0, 3, 6]) (by kernel_rfl) (by simp) ?_
  refine AllReady.cons rfl (fun K hK => ?_) (AllReady.cons rfl (fun K hK => ?_) (AllReady.cons rfl (fun K hK => ?_) AllReady.nil))
  · refine step_load_o rfl (.tmp 2) rfl rfl HA1.out ?_
    refine hK _ _ ?_
    clear hK K
    refine wpAny_ready (rs := [3, 6]) (by kernel_rfl) (by simp) ?_
    refine AllReady.cons rfl (fun K hK => ?_) (AllReady.cons rfl (fun K hK => ?_) AllReady.nil)
    · go_simp
      refine hK _ _ ?_
      clear hK K
      refine wpAny_ready (rs := [6]) (by kernel_rfl) (by simp) ?_
      refine AllReady.cons rfl (fun K hK => ?_) AllReady.nil
      go_simp
      refine hK _ _ ?_
      clear hK K
      refine wpAny_ready (rs := [7]) (by kernel_rfl) (by simp) ?_
      refine AllReady.cons rfl (fun K hK => ?_) AllReady.nil
      go_simp
      go_wp2_with (go_at_call 71; refine (HMo.out _).mono ?_; rintro e w2 ⟨rfl, hb2⟩)
      refine wpAny_take (i := 8) (v := .int .i64 m) rfl (by kernel_rfl) (by kernel_rfl) (by kernel_rfl) (fun _ _ _ h => h) (Or.inl ⟨by rfl, by intro w; go_simp⟩) ?_
      refine wpAny_done (by kernel_rfl) ?_ _
      go_wp2_with fail
      go_ret
      exact ⟨by rw [HE.out]; rfl, HB1.out.trans (hb2.mono (by simp))⟩
    · go_simp
      refine hK _ _ ?_
      clear hK K
      refine wpAny_ready (rs := [3]) (by kernel_rfl) (by simp) ?_
      refine AllReady.cons rfl (fun K hK => ?_) AllReady.nil
      go_simp
      refine hK _ _ ?_
      clear hK K
      refine wpAny_ready (rs := [7]) (by kernel_rfl) (by simp) ?_
      refine AllReady.cons rfl (fun K hK => ?_) AllReady.nil
      go_simp
      go_wp2_with (go_at_call 71; refine (HMo.out _).mono ?_; rintro e w2 ⟨rfl, hb2⟩)
      refine wpAny_take (i := 8) (v := .int .i64 m) rfl (by kernel_rfl) (by kernel_rfl) (by kernel_rfl) (fun _ _ _ h => h) (Or.inl ⟨by rfl, by intro w; go_simp⟩) ?_
      refine wpAny_done (by kernel_rfl) ?_ _
      go_wp2_with fail
      go_ret
      exact ⟨by rw [HE.out]; rfl, HB1.out.trans (hb2.mono (by simp))⟩
  · go_simp
    refine hK _ _ ?_
    clear hK K
    refine wpAny_ready (rs := [0, 6]) (by kernel_rfl) (by simp) ?_
    refine AllReady.cons rfl (fun K hK => ?_) (AllReady.cons rfl (fun K hK => ?_) AllReady.nil)
    · refine step_load_o rfl (.tmp 2) rfl rfl HA1.out ?_
      refine hK _ _ ?_
      clear hK K
      refine wpAny_ready (rs := [6]) (by kernel_rfl) (by simp) ?_
      refine AllReady.cons rfl (fun K hK => ?_) AllReady.nil
      go_simp
      refine hK _ _ ?_
      clear hK K
      refine wpAny_ready (rs := [7]) (by kernel_rfl) (by simp) ?_
      refine AllReady.cons rfl (fun K hK => ?_) AllReady.nil
      go_simp
      go_wp2_with (go_at_call 71; refine (HMo.out _).mono ?_; rintro e w2 ⟨rfl, hb2⟩)
      refine wpAny_take (i := 8) (v := .int .i64 m) rfl (by kernel_rfl) (by kernel_rfl) (by kernel_rfl) (fun _ _ _ h => h) (Or.inl ⟨by rfl, by intro w; go_simp⟩) ?_
      refine wpAny_done (by kernel_rfl) ?_ _
      go_wp2_with fail
      go_ret
      exact ⟨by rw [HE.out]; rfl, HB1.out.trans (hb2.mono (by simp))⟩
    · go_simp
      refine hK _ _ ?_
      clear hK K
      refine wpAny_ready (rs := [0]) (by kernel_rfl) (by simp) ?_
      refine AllReady.cons rfl (fun K hK => ?_) AllReady.nil
      refine step_load_o rfl (.tmp 2) rfl rfl HA1.out ?_
      refine hK _ _ ?_
      clear hK K
      refine wpAny_ready (rs := [7]) (by kernel_rfl) (by simp) ?_
      refine AllReady.cons rfl (fun K hK => ?_) AllReady.nil
      go_simp
      go_wp2_with (go_at_call 71; refine (HMo.out _).mono ?_; rintro e w2 ⟨rfl, hb2⟩)
      refine wpAny_take (i := 8) (v := .int .i64 m) rfl (by kernel_rfl) (by kernel_rfl) (by kernel_rfl) (fun _ _ _ h => h) (Or.inl ⟨by rfl, by intro w; go_simp⟩) ?_
      refine wpAny_done (by kernel_rfl) ?_ _
      go_wp2_with fail
      go_ret
      exact ⟨by rw [HE.out]; rfl, HB1.out.trans (hb2.mono (by simp))⟩
  · go_simp
    refine hK _ _ ?_
    clear hK K
    refine wpAny_ready (rs := [0, 3]) (by kernel_rfl) (by simp) ?_
    refine AllReady.cons rfl (fun K hK => ?_) (AllReady.cons rfl (fun K hK => ?_) AllReady.nil)
    · refine step_load_o rfl (.tmp 2) rfl rfl HA1.out ?_
      refine hK _ _ ?_
      clear hK K
      refine wpAny_ready (rs := [3]) (by kernel_rfl) (by simp) ?_
      refine AllReady.cons rfl (fun K hK => ?_) AllReady.nil
      go_simp
      refine hK _ _ ?_
      clear hK K
      refine wpAny_ready (rs := [7]) (by kernel_rfl) (by simp) ?_
      refine AllReady.cons rfl (fun K hK => ?_) AllReady.nil
      go_simp
      go_wp2_with (go_at_call 71; refine (HMo.out _).mono ?_; rintro e w2 ⟨rfl, hb2⟩)
      refine wpAny_take (i := 8) (v := .int .i64 m) rfl (by kernel_rfl) (by kernel_rfl) (by kernel_rfl) (fun _ _ _ h => h) (Or.inl ⟨by rfl, by intro w; go_simp⟩) ?_
      refine wpAny_done (by kernel_rfl) ?_ _
      go_wp2_with fail
      go_ret
      exact ⟨by rw [HE.out]; rfl, HB1.out.trans (hb2.mono (by simp))⟩
    · go_simp
      refine hK _ _ ?_
      clear hK K
      refine wpAny_ready (rs := [0]) (by kernel_rfl) (by simp) ?_
      refine AllReady.cons rfl (fun K hK => ?_) AllReady.nil
      refine step_load_o rfl (.tmp 2) rfl rfl HA1.out ?_
      refine hK _ _ ?_
      clear hK K
      refine wpAny_ready (rs := [7]) (by kernel_rfl) (by simp) ?_
      refine AllReady.cons rfl (fun K hK => ?_) AllReady.nil
      go_simp
      go_wp2_with (go_at_call 71; refine (HMo.out _).mono ?_; rintro e w2 ⟨rfl, hb2⟩)
      refine wpAny_take (i := 8) (v := .int .i64 m) rfl (by kernel_rfl) (by kernel_rfl) (by kernel_rfl) (fun _ _ _ h => h) (Or.inl ⟨by rfl, by intro w; go_simp⟩) ?_
      refine wpAny_done (by kernel_rfl) ?_ _
      go_wp2_with fail
      go_ret
      exact ⟨by rw [HE.out]; rfl, HB1.out.trans (hb2.mono (by simp))⟩

end Go.Proofs.YtffajooegiempabDoor

namespace Go.Proofs.YtffajooegiempabDoor
open Go.RowKit
variable {w : World} {b : Nat} {e0 : Bool} {M : Nat → Int}

theorem Tryd.infoNo : (Tryd.prog.info? tNo).map (fun i => (i.zero, i.size, i.bytes)) = some (some (.int .i64 0), 1, 8) := by kernel_rfl
/-- What comes out as a list. -/
def bdL (M : Nat → Int) : List Int := (List.range 32).map (bd M)
def LSays (w : World) (e : Bool) (M : Nat → Int) : Ending → World → Prop := fun x w' => Below w.heap.size w w' ∧
  ((e = true ∧ x = .returned (.slice none 0 0)) ∨ (e = false ∧ ∃ g, x = .returned (.slice (some ⟨g, 0, none⟩) 32 32) ∧ w.heap.size ≤ g ∧ At w' g (ic (bdL M)) tNo))

set_option maxRecDepth 100000 in
set_option maxHeartbeats 1600000 in
theorem o_list (hG : Glob w) (hS : Sm M) : Calls Tryd.prog 25 #[.agg (oc e0 M)] w (LSays w e0 M) := by
  have hcz : (w.alloc (.cells (oc e0 M) tO)).cell? ⟨w.heap.size, 0, none⟩ = some (.bool e0) := by
    rw [At.cell (At.new w (oc e0 M) tO)]; exact oc_0 _ _
  have hgs := hG.size
  have HG : Hid (Glob w) := hG
  have HS : Hid (Sm M) := hS
  have HB0 : Hid (∀ o, Below w.heap.size w (w.alloc o)) := fun o => (Below.refl _ _).alloc (Nat.le_refl _) _
  have HA0 : Hid (OAt (w.alloc (.cells (oc e0 M) tO)) w.heap.size e0 M) := At.new _ _ _
  cases e0 with
  | true =>
    clear hG hS
    go_enter Tryd.func25, Tryd.ntmps25
    go_wp2_with fail
    go_ret
    exact ⟨HB0.out _, .inl ⟨rfl, rfl⟩⟩
  | false =>
    obtain ⟨i0, hi0, hz0, hz1, hz2⟩ := info_parts Tryd.infoNo
    have hmk : ∀ w, (Instr.makeSlice 22 (.int .i64 0) (.int .i64 32)).run Tryd.prog w = .ok (.slice (some ⟨w.heap.size, 0, none⟩) 0 32) (w.alloc (.cells (ic (List.replicate 32 0)) tNo)) := fun _ => by kernel_rfl
    have hown0 := World.ownsRow_made (base := w.heap.size + 1) (e := tNo) (size := 1) (w.alloc (.cells (oc false M) tO)) (ic (List.replicate 32 0)) 32 (by simp) (by decide) rfl
    rw [show (w.alloc (.cells (oc false M) tO)).heap.size = w.heap.size + 1 by simp] at hown0
    have HOw : Hid (World.ownsRow _ _ _ _ _ _ _) := hown0
    have HBd : Hid (∀ (wr : World) (f : Nat), f < 32 → Below w.heap.size w wr → Calls Tryd.prog 42 #[.agg (oc false M), .int .i64 (f : Int)] wr fun e w' => e = .returned (.int .i64 (bd M f)) ∧ Below wr.heap.size wr w') := fun wr f hf hb => o_bound (HG.out.keep hb hgs) f hf HS.out
    have HA1 : Hid (OAt ((w.alloc (.cells (oc false M) tO)).alloc (.cells (ic (List.replicate 32 0)) tNo)) w.heap.size false M) := At.allocH HA0.out _
    have HB1 : Hid (Below w.heap.size w ((w.alloc (.cells (oc false M) tO)).alloc (.cells (ic (List.replicate 32 0)) tNo))) := (HB0.out _).alloc (by simp) _
    clear hG hS hown0
    generalize ic (List.replicate 32 0) = zs at *
    go_enter Tryd.func25, Tryd.ntmps25
    go_wp2_with fail
    go_loopw [3, 4] (fun sl i wr => ∃ (q : Nat), q ≤ 32 ∧ i = .int .i64 q ∧ sl = .slice (some ⟨w.heap.size + 1, 0, none⟩) q 32 ∧ Hid (wr.ownsRow (w.heap.size + 1) tNo 1 (.slice (some ⟨w.heap.size + 1, 0, none⟩) q 32) q ((List.range q).map fun i => .int .i64 (bd M i)) ∧ OAt wr w.heap.size false M ∧ Below w.heap.size w wr ∧ w.heap.size + 2 ≤ wr.heap.size)) (fun _ i _ => 32 - (intOf i).toNat)
    case atStart => exact ⟨0, by omega, rfl, rfl, HOw.out, HA1.out, HB1.out, by simp⟩
    case round =>
      obtain ⟨q, hq, rfl, rfl, HQ⟩ := hrel
      by_cases hlt : q < 32
      · have hqi : (q : Int) < 32 := by omega
        have hbd := HBd.out wr q hlt HQ.out.2.2.1
        go_wp2_with (refine wpList_load_o (e0 := false) (M := M) rfl (.tmp 1) rfl rfl HQ.out.2.1 ?_)
        refine hbd.mono ?_
        rintro e w3 ⟨rfl, hb3⟩
        have H3 : Hid (w3.ownsRow (w.heap.size + 1) tNo 1 (.slice (some ⟨w.heap.size + 1, 0, none⟩) q 32) q ((List.range q).map fun i => .int .i64 (bd M i)) ∧ OAt w3 w.heap.size false M ∧ Below w.heap.size w w3 ∧ w.heap.size + 2 ≤ w3.heap.size) := by
          have hsz := HQ.out.2.2.2
          refine ⟨?_, At.keep HQ.out.2.1 hb3 (by omega), HQ.out.2.2.1.trans (hb3.mono (by omega)), Nat.le_trans hsz hb3.size⟩
          obtain ⟨h1, h2⟩ := HQ.out.1
          refine ⟨h1, ?_⟩
          rcases h2 with h2 | ⟨g, cap, c, hv, hg, hh, r⟩
          · exact .inl h2
          · cases hv
            exact .inr ⟨_, _, c, rfl, hg, by rw [hb3.block _ (by omega)]; exact hh, r⟩
        clear hb3 hbd
        obtain ⟨x, hx⟩ : ∃ x, x = bd M q := ⟨_, rfl⟩
        rw [← hx]
        have HX : Hid (x = bd M q) := hx
        clear hx
        go_wp2_with (at_builtin; refine wpList_append_fits _ rfl (.tmp 12) (.tmp 16) 22 rfl (w.heap.size + 1) tNo i0 1 Tryd.underlying22 hi0 hz1 (w.heap.size + 1) q 32 _ rfl (H3.out.1.alloc _) ⟨w3.heap.size, 0, none⟩ 1 1 [.int .i64 x] rfl rfl (by intro t u ht; match t, ht with | 0, ht => simp at ht; subst ht; exact World.cell?_alloc_at _ _ _ _ rfl) (by intro u hu; simp at hu; subst hu; rfl) (by omega) ?_; intro w5 hown5 hgrow5)
        go_roundw
        case rel =>
          refine ⟨q + 1, by omega, by go_num, rfl, ?_, ?_, ?_, ?_⟩
          · rw [HX.out] at hown5
            rw [List.range_succ, List.map_append]
            exact hown5
          · have := hgrow5.block w.heap.size (by have := H3.out.2.2.2; simp; omega) (by intro e; have := Option.some.inj e; omega)
            exact At.same (At.allocH H3.out.2.1 _) this
          · exact ((H3.out.2.2.1.alloc H3.out.2.2.1.size _).grown hgrow5 (by have := H3.out.2.2.2; simp; omega) (fun k hk => by cases hk; omega))
          · have h1 := hgrow5.size
            have h2 := H3.out.2.2.2
            simp at h1
            omega
        case measure => simp [intOf]; omega
      · have hq32 : q = 32 := by omega
        subst hq32
        go_wp2_with fail
        go_ret
        refine ⟨HQ.out.2.2.1, .inr ⟨rfl, w.heap.size + 1, rfl, by omega, ?_⟩⟩
        obtain ⟨⟨_, h2⟩, _⟩ := HQ.out
        rcases h2 with ⟨e, _⟩ | ⟨g, cap, cur, e, hg, hh, hn4, hc4, hsz, htk⟩
        · cases e
        · cases e
          have : cur = ic (bdL M) := by
            apply Array.toList_inj.1
            rw [← List.take_of_length_le (l := cur.toList) (i := 32 * 1) (by simp; omega), htk]
            simp [ic, bdL]
          rw [← this]
          exact hh

end Go.Proofs.YtffajooegiempabDoor

/- Forms, by their signs and by their sides. -/
namespace Go.Proofs.YtffajooegiempabDoor

def sgn (i : Nat) : Int := 1 - 2 * ((i % 2 : Nat) : Int)
/-- The signs of a form. -/
def frm (f : Nat) : List Int := if f < 8 then [0, 0, 0, 0].set (f / 2) (sgn f) else ([0, 0, 0, 0].set (fs f / 2) (sgn (fs f))).set (ss f / 2) (sgn (ss f))
def gAt (l : List Int) (i : Nat) : Int := l.getD i 0
theorem frm_lo : ∀ f : Nat, f < 8 → ∀ i, i < 4 → gAt (frm f) i = if i = f / 2 then sgn f else 0 := by decide
theorem frm_hi : ∀ f : Nat, f < 32 → 8 ≤ f → ∀ i, i < 4 → gAt (frm f) i = (if i = fs f / 2 then sgn (fs f) else 0) + (if i = ss f / 2 then sgn (ss f) else 0) := by decide
theorem fs_lo : ∀ f : Nat, f < 8 → fs f = f ∧ ss f = f := by decide
theorem fs_hi : ∀ f : Nat, f < 32 → 8 ≤ f → fs f ≠ ss f := by decide
/-- What is laid for a form. -/
def bv (l : List Int) (f : Nat) : Int := if fs f = ss f ∧ l.getD f 0 ≠ NB then 2 * l.getD f 0 else l.getD f 0
theorem lay_form (l : List Int) : ∀ f, f < 32 → lay l 32 (fs f * 8 + ss f) = bv l f ∧ lay l 32 (ss f * 8 + fs f) = bv l f
  | 0, _ => ⟨rfl, rfl⟩
  | 1, _ => ⟨rfl, rfl⟩
  | 2, _ => ⟨rfl, rfl⟩
  | 3, _ => ⟨rfl, rfl⟩
  | 4, _ => ⟨rfl, rfl⟩
  | 5, _ => ⟨rfl, rfl⟩
  | 6, _ => ⟨rfl, rfl⟩
  | 7, _ => ⟨rfl, rfl⟩
  | 8, _ => ⟨rfl, rfl⟩
  | 9, _ => ⟨rfl, rfl⟩
  | 10, _ => ⟨rfl, rfl⟩
  | 11, _ => ⟨rfl, rfl⟩
  | 12, _ => ⟨rfl, rfl⟩
  | 13, _ => ⟨rfl, rfl⟩
  | 14, _ => ⟨rfl, rfl⟩
  | 15, _ => ⟨rfl, rfl⟩
  | 16, _ => ⟨rfl, rfl⟩
  | 17, _ => ⟨rfl, rfl⟩
  | 18, _ => ⟨rfl, rfl⟩
  | 19, _ => ⟨rfl, rfl⟩
  | 20, _ => ⟨rfl, rfl⟩
  | 21, _ => ⟨rfl, rfl⟩
  | 22, _ => ⟨rfl, rfl⟩
  | 23, _ => ⟨rfl, rfl⟩
  | 24, _ => ⟨rfl, rfl⟩
  | 25, _ => ⟨rfl, rfl⟩
  | 26, _ => ⟨rfl, rfl⟩
  | 27, _ => ⟨rfl, rfl⟩
  | 28, _ => ⟨rfl, rfl⟩
  | 29, _ => ⟨rfl, rfl⟩
  | 30, _ => ⟨rfl, rfl⟩
  | 31, _ => ⟨rfl, rfl⟩
  | n + 32, h => absurd h (by omega)
 
theorem lay_opp (l : List Int) : ∀ i, i < 8 → lay l 32 (i * 8 + opp i) = 0
  | 0, _ => rfl
  | 1, _ => rfl
  | 2, _ => rfl
  | 3, _ => rfl
  | 4, _ => rfl
  | 5, _ => rfl
  | 6, _ => rfl
  | 7, _ => rfl
  | n + 8, h => absurd h (by omega)
 
theorem form_of : ∀ i : Nat, i < 8 → ∀ j, j < 8 → j = opp i ∨ ∃ f, f < 32 ∧ ((fs f = i ∧ ss f = j) ∨ (ss f = i ∧ fs f = j)) := by decide

theorem bdL_get (M : Nat → Int) (f : Nat) (hf : f < 32) : gAt (bdL M) f = bd M f := by simp [gAt, bdL, List.getD, hf]

end Go.Proofs.YtffajooegiempabDoor

/- The document's rounds, plain. -/
namespace Go.Proofs.YtffajooegiempabDoor

/-- Two forms added: the signs. -/
def vadd (f g : Nat) : List Int := [gAt (frm f) 0 + gAt (frm g) 0, gAt (frm f) 1 + gAt (frm g) 1, gAt (frm f) 2 + gAt (frm g) 2, gAt (frm f) 3 + gAt (frm g) 3]
def onesV (v : List Int) : Nat := v.countP fun x => x == 1 || x == -1
def twosV (v : List Int) : Nat := v.countP fun x => x == 2 || x == -2
def nst (v : List Int) : Nat → Option (Int × Int)
  | 0 => some (-1, -1)
  | i + 1 => match nst v i with
    | none => none
    | some (x, y) => if gAt v i < -1 ∨ gAt v i > 1 ∨ (gAt v i ≠ 0 ∧ 0 ≤ y) then none else some (if gAt v i ≠ 0 ∧ x < 0 then (i : Int) else x, if gAt v i ≠ 0 ∧ 0 ≤ x then (i : Int) else y)
/-- The number of a form by its signs. -/
def numV (v : List Int) : Int := match nst v 4 with
  | none => -1
  | some (x, y) => if x < 0 then -1 else if y < 0 then 2 * x + (1 - gAt v x.toNat).tdiv 2 else 8 + 4 * ((x * (8 - x - 1)).tdiv 2 + y - x - 1) + (1 - gAt v x.toNat).tdiv 2 * 2 + (1 - gAt v y.toNat).tdiv 2
def halfV (v : List Int) : List Int := v.map fun x => x.tdiv 2
/-- What follows: 1 nothing is left, 2 twice a variable, 3 a form, 0 nothing. -/
def kd (v : List Int) : Nat := if onesV v = 0 ∧ twosV v = 0 then 1 else if onesV v = 0 ∧ twosV v = 1 then 2 else if twosV v = 0 ∧ 0 < onesV v ∧ onesV v < 3 then 3 else 0
def kdT (f g : Nat) : Nat := kd (vadd f g)
def nmT (f g : Nat) : Nat := if kdT f g = 2 then (numV (halfV (vadd f g))).toNat else (numV (vadd f g)).toNat
/-- The form of two sides. -/
def nf (i j : Nat) : Nat := if i = j then i else if i < j then 8 + 4 * (i / 2 * (7 - i / 2) / 2 + j / 2 - i / 2 - 1) + i % 2 * 2 + j % 2 else 8 + 4 * (j / 2 * (7 - j / 2) / 2 + i / 2 - j / 2 - 1) + j % 2 * 2 + i % 2

theorem nf_ok : ∀ i : Nat, i < 8 → ∀ j, j < 8 → j ≠ opp i → nf i j < 32 ∧ ((fs (nf i j) = i ∧ ss (nf i j) = j) ∨ (fs (nf i j) = j ∧ ss (nf i j) = i)) := by decide +kernel
theorem nf_self (i : Nat) : nf i i = i := if_pos rfl
theorem nf_fs : ∀ f : Nat, f < 32 → fs f < 8 ∧ ss f < 8 ∧ nf (fs f) (ss f) = f ∧ ss f ≠ opp (fs f) ∧ (f < 8 → fs f = f ∧ ss f = f) ∧ (8 ≤ f → fs f ≠ ss f) := by decide +kernel
def Tab1 (i s j : Nat) : Prop := (i ≠ s ∧ i ≠ opp s ∧ j ≠ s ∧ j ≠ opp s) → (j = opp i → kdT (nf i (opp s)) (nf s j) = 1) ∧ (j = i → kdT (nf i (opp s)) (nf s j) = 2 ∧ nmT (nf i (opp s)) (nf s j) = i) ∧ (j ≠ i ∧ j ≠ opp i → kdT (nf i (opp s)) (nf s j) = 3 ∧ nmT (nf i (opp s)) (nf s j) = nf i j)
instance (i s j : Nat) : Decidable (Tab1 i s j) := by unfold Tab1; infer_instance
theorem tab1 : ∀ i : Nat, i < 8 → ∀ s, s < 8 → ∀ j, j < 8 → Tab1 i s j := by decide +kernel
theorem tab2 : ∀ s : Nat, s < 8 → ∀ j, j < 8 → (j ≠ s ∧ j ≠ opp s) → kdT (opp s) (nf s j) = 3 ∧ nmT (opp s) (nf s j) = j ∧ kdT (nf j s) (opp s) = 3 ∧ nmT (nf j s) (opp s) = j := by decide +kernel
theorem tab3 : ∀ i : Nat, i < 8 → ∀ j, j < 8 → (j = opp i → kdT i j = 1) ∧ (j ≠ i ∧ j ≠ opp i → kdT i j = 3 ∧ nmT i j = nf i j) := by decide +kernel
/-- What one round has done. -/
structure RdO (R R' : Nat → Int) : Prop where
  le : ∀ f, f < 32 → R' f ≤ R f
  zer : ∀ f g, f < 32 → g < 32 → kdT f g = 1 → R f ≠ NB → R g ≠ NB → 0 ≤ R f + R g
  dou : ∀ f g, f < 32 → g < 32 → kdT f g = 2 → R f ≠ NB → R g ≠ NB → R' (nmT f g) ≤ (R f + R g) / 2
  sum : ∀ f g, f < 32 → g < 32 → kdT f g = 3 → R f ≠ NB → R g ≠ NB → R' (nmT f g) ≤ R f + R g
end Go.Proofs.YtffajooegiempabDoor

/- The document's rounds come to what the program comes to. No Go in here. -/
namespace Go.Proofs.YtffajooegiempabDoor
/- Seventeen rounds. -/
end Go.Proofs.YtffajooegiempabDoor

/- Bounds from which nothing follows: the document's rounds stay above them. No Go in here. -/
namespace Go.Proofs.YtffajooegiempabDoor
theorem nf_ge : ∀ i : Nat, i < 8 → ∀ j, j < 8 → (i ≠ j ∧ j ≠ opp i) → 8 ≤ nf i j := by decide +kernel
end Go.Proofs.YtffajooegiempabDoor

/- A list of bounds: where the program and the document start. No Go in here. -/
namespace Go.Proofs.YtffajooegiempabDoor

theorem lay_nf (l : List Int) {i j : Nat} (hi : i < 8) (hj : j < 8) (h : j ≠ opp i) : lay l 32 (i * 8 + j) = bv l (nf i j) := by
  obtain ⟨a, b⟩ := nf_ok i hi j hj h
  have c := lay_form l (nf i j) a
  rcases b with ⟨b1, b2⟩ | ⟨b1, b2⟩
  · rw [b1, b2] at c; exact c.1
  · rw [b1, b2] at c; exact c.2
theorem bv_lo (l : List Int) {i : Nat} (hi : i < 8) : (l.getD i 0 = NB → bv l i = NB) ∧ (l.getD i 0 ≠ NB → bv l i = 2 * l.getD i 0) := by
  obtain ⟨_, _, _, _, e, _⟩ := nf_fs i (by omega)
  obtain ⟨e1, e2⟩ := e hi
  unfold bv
  rw [e1, e2]
  exact ⟨fun q => by rw [if_neg (fun z => z.2 q), q], fun q => if_pos ⟨rfl, q⟩⟩
theorem bv_hi (l : List Int) {i j : Nat} (hi : i < 8) (hj : j < 8) (h1 : i ≠ j) (h2 : j ≠ opp i) : bv l (nf i j) = l.getD (nf i j) 0 := by
  obtain ⟨_, _, _, _, _, e⟩ := nf_fs (nf i j) (nf_ok i hi j hj h2).1
  unfold bv
  rw [if_neg (fun z => e (nf_ge i hi j hj ⟨h1, h2⟩) z.1)]
theorem isB_or {n : Int} (h : isB n = true) : n = NB ∨ (-4000 ≤ n ∧ n ≤ 4000) := of_decide_eq_true h
theorem bd_lay {l : List Int} (hl : okL l) : Bd 8000 (lay l 32) := by
  have hz := lay_opp l
  intro a ha
  have hi : a / 8 < 8 := by omega
  have hj : a % 8 < 8 := by omega
  rw [show a = a / 8 * 8 + a % 8 by omega]
  generalize a / 8 = i at hi
  generalize a % 8 = j at hj
  by_cases e : j = opp i
  · rw [e, hz i hi]; exact .inr (by decide)
  · by_cases hn : i = j
    · subst hn
      have q := isB_or (hl.2 i (by omega))
      rw [lay_nf l hi hi (fun e => opp_ne i e.symm), nf_self]
      have b := bv_lo l hi
      by_cases e : l.getD i 0 = NB
      · exact .inl (b.1 e)
      · rw [b.2 e]
        have := q.resolve_left e
        exact .inr (by omega)
    · have q := isB_or (hl.2 (nf i j) (nf_ok i hi j hj e).1)
      rw [lay_nf l hi hj e, bv_hi l hi hj hn e]
      rcases q with q | q
      · exact .inl q
      · exact .inr (by omega)
theorem raw_lay {l : List Int} (hl : okL l) : Raw (lay l 32) := by
  have hz := lay_opp l
  refine ⟨(bd_lay hl).mono (by decide), fun i j hi hj => ?_, hz⟩
  by_cases e : j = opp i
  · rw [e, hz i hi]
    have := hz (opp i) (opp_lt hi)
    rw [opp_opp i hi] at this
    exact this.symm
  · obtain ⟨a, b⟩ := nf_ok i hi j hj e
    have c := lay_form l (nf i j) a
    rcases b with ⟨b1, b2⟩ | ⟨b1, b2⟩
    · rw [b1, b2] at c; rw [c.1, c.2]
    · rw [b1, b2] at c; rw [c.1, c.2]
end Go.Proofs.YtffajooegiempabDoor

/- Where four rounds go well there is a state: one variable after the other is picked. No Go in here. -/
namespace Go.Proofs.YtffajooegiempabDoor

theorem nf_symm : ∀ i : Nat, i < 8 → ∀ j, j < 8 → nf i j = nf j i := by decide +kernel
/-- The greatest of some numbers, the least of some. -/
theorem most_of (L : Nat → Option Int) : ∀ n : Nat, (∀ i, i < n → L i = none) ∨ ∃ m, (∃ i, i < n ∧ L i = some m) ∧ ∀ i, i < n → ∀ l, L i = some l → l ≤ m := by
  intro n
  induction n with
  | zero => exact .inl fun i hi => absurd hi (by omega)
  | succ n ih =>
    cases e : L n with
    | none =>
      rcases ih with h | ⟨m, ⟨i, hi, q⟩, h⟩
      · refine .inl fun i hi => ?_
        rcases Nat.lt_or_eq_of_le (Nat.lt_succ_iff.1 hi) with a | a
        · exact h i a
        · rw [a]; exact e
      · refine .inr ⟨m, ⟨i, by omega, q⟩, fun j hj l hl => ?_⟩
        rcases Nat.lt_or_eq_of_le (Nat.lt_succ_iff.1 hj) with a | a
        · exact h j a l hl
        · rw [a, e] at hl; cases hl
    | some x =>
      rcases ih with h | ⟨m, ⟨i, hi, q⟩, h⟩
      · refine .inr ⟨x, ⟨n, by omega, e⟩, fun j hj l hl => ?_⟩
        rcases Nat.lt_or_eq_of_le (Nat.lt_succ_iff.1 hj) with a | a
        · rw [h j a] at hl; cases hl
        · rw [a, e] at hl; cases hl; exact Int.le_refl _
      · by_cases c : m ≤ x
        · refine .inr ⟨x, ⟨n, by omega, e⟩, fun j hj l hl => ?_⟩
          rcases Nat.lt_or_eq_of_le (Nat.lt_succ_iff.1 hj) with a | a
          · exact Int.le_trans (h j a l hl) c
          · rw [a, e] at hl; cases hl; exact Int.le_refl _
        · refine .inr ⟨m, ⟨i, by omega, q⟩, fun j hj l hl => ?_⟩
          rcases Nat.lt_or_eq_of_le (Nat.lt_succ_iff.1 hj) with a | a
          · exact h j a l hl
          · rw [a, e] at hl; cases hl; omega
theorem between (L U : Nat → Option Int) (n : Nat) (h : ∀ i j, i < n → j < n → ∀ l u, L i = some l → U j = some u → l ≤ u) : ∃ t : Int, (∀ i, i < n → ∀ l, L i = some l → l ≤ t) ∧ (∀ j, j < n → ∀ u, U j = some u → t ≤ u) := by
  rcases most_of L n with a | ⟨m, ⟨i, hi, q⟩, a⟩
  · rcases most_of (fun j => (U j).map fun x => -x) n with b | ⟨m, ⟨j, hj, q⟩, b⟩
    · refine ⟨0, fun i hi l hl => (by rw [a i hi] at hl; cases hl), fun j hj u hu => ?_⟩
      have := b j hj
      rw [hu] at this
      cases this
    · refine ⟨-m, fun i hi l hl => (by rw [a i hi] at hl; cases hl), fun k hk u hu => ?_⟩
      have := b k hk (-u) (by rw [hu]; rfl)
      omega
  · exact ⟨m, a, fun j hj u hu => h i j hi hj m u q hu⟩

/-- The first variables keep to the bounds of their forms. -/
structure SK (P v : Nat → Int) (k : Nat) : Prop where
  one : ∀ i, i < 2 * k → P i = NB ∨ sd v i ≤ P i
  two : ∀ i j, i < 2 * k → j < 2 * k → i ≠ j → j ≠ opp i → P (nf i j) = NB ∨ sd v i + sd v j ≤ P (nf i j)
def setV (v : Nat → Int) (k : Nat) (t : Int) : Nat → Int := fun i => if i = k then t else v i
theorem opp_even (k : Nat) : opp (2 * k) = 2 * k + 1 := by unfold opp; rw [if_pos (by omega)]
theorem opp_odd (k : Nat) : opp (2 * k + 1) = 2 * k := by unfold opp; rw [if_neg (by omega)]; omega
theorem sd_setV_lt (v : Nat → Int) (t : Int) {i k : Nat} (h : i < 2 * k) : sd (setV v k t) i = sd v i := by
  unfold sd setV
  rw [if_neg (show ¬ i / 2 = k by omega)]
theorem sd_setV_e (v : Nat → Int) (t : Int) (k : Nat) : sd (setV v k t) (2 * k) = t := by
  unfold sd setV
  rw [if_pos (by omega), if_pos (by omega)]
theorem sd_setV_o (v : Nat → Int) (t : Int) (k : Nat) : sd (setV v k t) (2 * k + 1) = -t := by
  unfold sd setV
  rw [if_neg (by omega), if_pos (by omega)]
/-- One more variable. -/
theorem elim {P P' v : Nat → Int} {U : Int} {k : Nat} (hk : k < 4) (hU : 2 * U < NB) (hU0 : 0 ≤ U) (hP : ∀ f, f < 32 → P f = NB ∨ P f ≤ U) (hr : RdO P P') (hv : SK P' v k) : ∃ t, SK P (setV v k t) (k + 1) := by
  have hs : 2 * k < 8 := by omega
  have ho : 2 * k + 1 < 8 := by omega
  have oe := opp_even k
  have oo := opp_odd k
  have fin : ∀ f, f < 32 → P f ≠ NB → P f ≤ U := fun f hf q => (hP f hf).resolve_left q
  have v1 : ∀ i, i < 2 * k → ∀ c, c < NB → P' i ≤ c → sd v i ≤ c := by
    intro i hi c hc hl
    have := (hv.one i hi).resolve_left (by omega)
    omega
  have v2 : ∀ i j, i < 2 * k → j < 2 * k → i ≠ j → j ≠ opp i → ∀ c, c < NB → P' (nf i j) ≤ c → sd v i + sd v j ≤ c := by
    intro i j hi hj e1 e2 c hc hl
    have := (hv.two i j hi hj e1 e2).resolve_left (by omega)
    omega
  have key : ∀ i j, i < 2 * k + 1 → j < 2 * k + 1 → P (if i = 2 * k then 2 * k else nf (2 * k) i) ≠ NB → P (if j = 2 * k then 2 * k + 1 else nf (2 * k + 1) j) ≠ NB →
      (if i = 2 * k then 0 else sd v i) + (if j = 2 * k then 0 else sd v j) ≤ P (if i = 2 * k then 2 * k else nf (2 * k) i) + P (if j = 2 * k then 2 * k + 1 else nf (2 * k + 1) j) := by
    intro i j hi hj q1 q2
    by_cases ei : i = 2 * k
    · rw [if_pos ei] at q1 ⊢
      rw [if_pos ei]
      by_cases ej : j = 2 * k
      · rw [if_pos ej] at q2 ⊢
        rw [if_pos ej]
        have z := hr.zer (2 * k) (2 * k + 1) (by omega) (by omega) ((tab3 (2 * k) hs (2 * k + 1) ho).1 oe.symm) q1 q2
        omega
      · rw [if_neg ej] at q2 ⊢
        rw [if_neg ej]
        have t := tab2 (2 * k + 1) ho j (by omega) ⟨by omega, by rw [oo]; omega⟩
        rw [oo] at t
        have n := (nf_ok (2 * k + 1) ho j (by omega) (by rw [oo]; omega)).1
        have x := hr.sum (2 * k) (nf (2 * k + 1) j) (by omega) n t.1 q1 q2
        rw [t.2.1] at x
        have a := fin _ (by omega) q1
        have b := fin _ n q2
        have := v1 j (by omega) _ (by omega) x
        omega
    · rw [if_neg ei] at q1 ⊢
      rw [if_neg ei]
      have n1 := (nf_ok (2 * k) hs i (by omega) (by rw [oe]; omega)).1
      have a := fin _ n1 q1
      by_cases ej : j = 2 * k
      · rw [if_pos ej] at q2 ⊢
        rw [if_pos ej]
        have t := tab2 (2 * k) hs i (by omega) ⟨by omega, by rw [oe]; omega⟩
        rw [oe] at t
        have x := hr.sum (2 * k + 1) (nf (2 * k) i) (by omega) n1 t.1 q2 q1
        rw [t.2.1] at x
        have b := fin _ (by omega) q2
        have := v1 i (by omega) _ (by omega) x
        omega
      · rw [if_neg ej] at q2 ⊢
        rw [if_neg ej]
        have n2 := (nf_ok (2 * k + 1) ho j (by omega) (by rw [oo]; omega)).1
        have b := fin _ n2 q2
        have t := tab1 i (by omega) (2 * k + 1) ho j (by omega) ⟨by omega, by rw [oo]; omega, by omega, by rw [oo]; omega⟩
        rw [oo, nf_symm i (by omega) (2 * k) hs] at t
        by_cases e : j = opp i
        · have z := hr.zer _ _ n1 n2 (t.1 e) q1 q2
          rw [e, sd_opp]
          rw [e] at z
          omega
        · by_cases e' : j = i
          · have x := hr.dou _ _ n1 n2 (t.2.1 e').1 q1 q2
            rw [(t.2.1 e').2] at x
            have := v1 i (by omega) _ (by omega) x
            rw [e'] at this ⊢
            omega
          · have x := hr.sum _ _ n1 n2 (t.2.2 ⟨e', e⟩).1 q1 q2
            rw [(t.2.2 ⟨e', e⟩).2] at x
            exact v2 i j (by omega) (by omega) (fun z => e' z.symm) e _ (by omega) x
  obtain ⟨t, hL, hH⟩ := between (fun j => if P (if j = 2 * k then 2 * k + 1 else nf (2 * k + 1) j) = NB then none else some ((if j = 2 * k then 0 else sd v j) - P (if j = 2 * k then 2 * k + 1 else nf (2 * k + 1) j)))
    (fun i => if P (if i = 2 * k then 2 * k else nf (2 * k) i) = NB then none else some (P (if i = 2 * k then 2 * k else nf (2 * k) i) - (if i = 2 * k then 0 else sd v i))) (2 * k + 1) (by
      intro j i hj hi l u hl hu
      by_cases q2 : P (if j = 2 * k then 2 * k + 1 else nf (2 * k + 1) j) = NB
      · rw [if_pos q2] at hl; cases hl
      · by_cases q1 : P (if i = 2 * k then 2 * k else nf (2 * k) i) = NB
        · rw [if_pos q1] at hu; cases hu
        · rw [if_neg q2] at hl
          rw [if_neg q1] at hu
          have := key i j hi hj q1 q2
          have := Option.some.inj hl
          have := Option.some.inj hu
          omega)
  have lo : ∀ j, j < 2 * k → P (nf (2 * k + 1) j) = NB ∨ -t + sd v j ≤ P (nf (2 * k + 1) j) := by
    intro j hj
    by_cases q : P (nf (2 * k + 1) j) = NB
    · exact .inl q
    · have ne : ¬ j = 2 * k := by omega
      have := hL j (by omega) (sd v j - P (nf (2 * k + 1) j)) (by simp only [if_neg ne, if_neg q])
      exact .inr (by omega)
  have hi : ∀ j, j < 2 * k → P (nf (2 * k) j) = NB ∨ t + sd v j ≤ P (nf (2 * k) j) := by
    intro j hj
    by_cases q : P (nf (2 * k) j) = NB
    · exact .inl q
    · have ne : ¬ j = 2 * k := by omega
      have := hH j (by omega) (P (nf (2 * k) j) - sd v j) (by simp only [if_neg ne, if_neg q])
      exact .inr (by omega)
  refine ⟨t, ⟨fun i hi' => ?_, fun i j hi' hj' e1 e2 => ?_⟩⟩
  · by_cases c : i < 2 * k
    · rw [sd_setV_lt v t c]
      by_cases q : P i = NB
      · exact .inl q
      · have := fin i (by omega) q
        exact .inr (v1 i c _ (by omega) (hr.le i (by omega)))
    · by_cases c2 : i = 2 * k
      · rw [c2, sd_setV_e]
        by_cases q : P (2 * k) = NB
        · exact .inl q
        · have := hH (2 * k) (by omega) (P (2 * k) - 0) (by simp only [if_true, if_neg q])
          exact .inr (by omega)
      · rw [show i = 2 * k + 1 by omega, sd_setV_o]
        by_cases q : P (2 * k + 1) = NB
        · exact .inl q
        · have := hL (2 * k) (by omega) (0 - P (2 * k + 1)) (by simp only [if_true, if_neg q])
          exact .inr (by omega)
  · by_cases c : i < 2 * k
    · rw [sd_setV_lt v t c]
      by_cases d : j < 2 * k
      · rw [sd_setV_lt v t d]
        by_cases q : P (nf i j) = NB
        · exact .inl q
        · have n := (nf_ok i (by omega) j (by omega) e2).1
          have := fin _ n q
          exact .inr (v2 i j c d e1 e2 _ (by omega) (hr.le _ n))
      · rw [nf_symm i (by omega) j (by omega), Int.add_comm]
        by_cases d2 : j = 2 * k
        · rw [d2, sd_setV_e]; exact hi i c
        · rw [show j = 2 * k + 1 by omega, sd_setV_o]; exact lo i c
    · have d : j < 2 * k := by
        rcases Nat.lt_or_ge j (2 * k) with d | d
        · exact d
        · exfalso
          by_cases c2 : i = 2 * k
          · rw [c2, oe] at e2; omega
          · rw [show i = 2 * k + 1 by omega, oo] at e2; omega
      rw [sd_setV_lt v t d]
      by_cases c2 : i = 2 * k
      · rw [c2, sd_setV_e]; exact hi j d
      · rw [show i = 2 * k + 1 by omega, sd_setV_o]; exact lo j d

end Go.Proofs.YtffajooegiempabDoor

/- Of bounds from which nothing follows, all of them numbers, each is reached by whole numbers. No Go in here. -/
namespace Go.Proofs.YtffajooegiempabDoor
/-- What a form comes to. -/
def fval (v : Nat → Int) (f : Nat) : Int := if f < 8 then sd v f else sd v (fs f) + sd v (ss f)
end Go.Proofs.YtffajooegiempabDoor

/- How low the document's bounds get: a table. No Go in here. -/
namespace Go.Proofs.YtffajooegiempabDoor
end Go.Proofs.YtffajooegiempabDoor

namespace Go.Proofs.YtffajooegiempabDoor
open Go.RowKit
variable {w : World} {b : Nat} {e1 e2 : Bool} {M N : Nat → Int}
end Go.Proofs.YtffajooegiempabDoor

/- Within and Join: what the document says against what the program says. No Go in here. -/
namespace Go.Proofs.YtffajooegiempabDoor
end Go.Proofs.YtffajooegiempabDoor

/- A closed octagon, and one bound of it lowered: a state of it, if there is one; what the document's rounds come to. No Go in here. -/
namespace Go.Proofs.YtffajooegiempabDoor
end Go.Proofs.YtffajooegiempabDoor

/- What the document's rounds come to from bounds that follow the program's. No Go in here. -/
namespace Go.Proofs.YtffajooegiempabDoor
/- Of a closed octagon itself. -/
/- One bound lowered. -/
theorem sb_at (C : Nat → Int) {f : Nat} (hf : f < 32) {c : Int} (hc : c ≠ NB) {i j : Nat} (_hi : i < 8) (hj : j < 8) : sb C f c (i * 8 + j) = if (i = fs f ∧ j = ss f) ∨ (i = ss f ∧ j = fs f) then (if f < 8 then 2 * c else c) else C (i * 8 + j) := by
  obtain ⟨a1, a2, a3, a4, a5, a6⟩ := nf_fs f hf
  have e : (if fs f = ss f ∧ c ≠ NB then 2 * c else c) = if f < 8 then 2 * c else c := by
    by_cases q : f < 8
    · rw [if_pos q, if_pos ⟨by rw [(a5 q).1, (a5 q).2], hc⟩]
    · rw [if_neg q, if_neg (fun z => a6 (by omega) z.1)]
  unfold sb
  rw [e]
  generalize (if f < 8 then 2 * c else c) = y
  unfold upd
  by_cases q1 : i * 8 + j = ss f * 8 + fs f
  · rw [if_pos q1, if_pos (.inr (by omega))]
  · rw [if_neg q1]
    by_cases q2 : i * 8 + j = fs f * 8 + ss f
    · rw [if_pos q2, if_pos (.inl (by omega))]
    · rw [if_neg q2, if_neg (by omega)]
variable {C : Nat → Int} {f : Nat} {c : Int}
/-- A state of the lowered one. -/
theorem sat_sb {v : Nat → Int} (hv : Sat v C) (hf : f < 32) (hc : c ≤ 1000) (hl : fval v f ≤ c) : Sat v (sb C f c) := by
  have hn : c ≠ NB := by unfold NB; omega
  obtain ⟨a1, a2, a3, a4, a5, a6⟩ := nf_fs f hf
  intro i j hi hj
  rw [sb_at C hf hn hi hj]
  unfold fval at hl
  split
  · rename_i e
    right
    by_cases q8 : f < 8
    · rw [if_pos q8] at hl ⊢
      have := a5 q8
      have e1 : i = f := by omega
      have e2 : j = f := by omega
      rw [e1, e2]
      omega
    · rw [if_neg q8] at hl ⊢
      rcases e with ⟨e1, e2⟩ | ⟨e1, e2⟩
      · rw [e1, e2]; exact hl
      · rw [e1, e2]; omega
  · exact hv i j hi hj
end Go.Proofs.YtffajooegiempabDoor

namespace Go.Proofs.YtffajooegiempabDoor
open Go.RowKit
variable {w : World} {b : Nat} {e0 e1 e2 : Bool} {M N : Nat → Int}

theorem o_read (hG : Glob w) (v : Value) (l : List Int) (hv : Reads w v l) :
    Calls Tryd.prog 24 #[v] w fun e w' => Below w.heap.size w w' ∧ ((okL l ∧ e = .returned (.tuple #[.agg (oc (ovE l) (ovM l)), .int .i64 0])) ∨ (¬ okL l ∧ e = .returned (.tuple #[.agg (oc false fun _ => 0), .int .i64 3]))) := by
  cases hg : gdB l with
  | true => exact (o_read_ok hG v l (gdB_ok.1 hg) hv).mono fun e w' h' => ⟨h'.2, .inl ⟨gdB_ok.1 hg, h'.1⟩⟩
  | false => exact (o_read_bad v l hv hg).mono fun e w' h' => ⟨h'.2, .inr ⟨(fun q => by rw [gdB_ok.2 q] at hg; cases hg), h'.1⟩⟩

/-- A fresh octagon is laid: the block that comes next. -/
theorem o_fresh (w1 : World) (e : Bool) (M : Nat → Int) : ∃ w2, (storeCells ⟨w1.heap.size, 0, none⟩ (oc e M).toList).run Tryd.prog (w1.alloc (.cells (oc false fun _ => 0) tO)) = .ok () w2 ∧ OAt w2 w1.heap.size e M ∧ Below w1.heap.size w1 w2 ∧ w1.heap.size < w2.heap.size := by
  have h0 : OAt (w1.alloc (.cells (oc false fun _ => 0) tO)) w1.heap.size false (fun _ => 0) := At.new _ _ _
  obtain ⟨w2, h1, h2, h3⟩ := o_store h0 e M
  exact ⟨w2, h1, h2, ((Below.refl _ _).alloc (Nat.le_refl _) _).trans (h3.below (Nat.le_refl _) (by simp)), At.lt h2⟩

/-- What Read answers, wherever it is called. -/
def RdS (w : World) (u : Value) (e : Bool) (M : Nat → Int) (c : Int) : Prop := ∀ w1, Below w.heap.size w w1 → Calls Tryd.prog 24 #[u] w1 fun x w' => x = .returned (.tuple #[.agg (oc e M), .int .i64 c]) ∧ Below w1.heap.size w1 w'

end Go.Proofs.YtffajooegiempabDoor

namespace Go.Proofs.YtffajooegiempabDoor
open Go.RowKit
variable {w : World} {b : Nat} {e0 e1 e2 : Bool} {M N : Nat → Int}

theorem LSays.from_ {w w1 : World} {x : Ending} {w' : World} (h : LSays w1 e0 M x w') (hb : Below w.heap.size w w1) : LSays w e0 M x w' := by
  have hs := hb.size
  obtain ⟨h1, h2⟩ := h
  refine ⟨hb.trans (h1.mono hs), ?_⟩
  rcases h2 with h2 | ⟨he, g, hx, hg, hat⟩
  · exact .inl h2
  · exact .inr ⟨he, g, hx, by omega, hat⟩
/-- What comes out with an error's number. -/
def LSaysE (w : World) (e : Bool) (M : Nat → Int) : Ending → World → Prop := fun x w' => ∃ y, LSays w e M (.returned y) w' ∧ x = .returned (.tuple #[y, .int .i64 0])
theorem LSays.val {x : Ending} {w' : World} (h : LSays w e0 M x w') : ∃ y, x = .returned y ∧ ∃ a n c, y = .slice a n c := by
  obtain ⟨_, ⟨_, h⟩ | ⟨_, g, h, _⟩⟩ := h
  · exact ⟨_, h, _, _, _, rfl⟩
  · exact ⟨_, h, _, _, _, rfl⟩

end Go.Proofs.YtffajooegiempabDoor

namespace Go.Proofs.YtffajooegiempabDoor
open Go.RowKit
variable {w : World}
end Go.Proofs.YtffajooegiempabDoor

