import Derived.Test.YtffajooegiempaaDoorJ2
namespace Go.Proofs.YtffajooegiempaaDoor
open Go.RowKit
variable {w : World} {b : Nat} {e0 : Bool} {M : Nat → Int}

abbrev tNo : TypeId := 3
/-- The bound of two sides. -/
def mo (M : Nat → Int) (i j : Nat) : Int := if i = j ∧ M (i * 8 + j) ≠ NB then (M (i * 8 + j)).tdiv 2 else M (i * 8 + j)
/-- The bound of a form. -/
def bd (M : Nat → Int) (f : Nat) : Int := if fs f = ss f ∧ M (fs f * 8 + ss f) ≠ NB then (M (fs f * 8 + ss f)).tdiv 2 else M (fs f * 8 + ss f)

set_option maxRecDepth 100000 in
set_option maxHeartbeats 1600000 in
theorem o_most (i j : Nat) (hi : i < 8) (hj : j < 8) (hS : -200000000000000000 ≤ M (i * 8 + j) ∧ M (i * 8 + j) ≤ 1000000000000000) :
    Calls Tryd.prog 81 #[.agg (oc e0 M), .int .i64 (i : Int), .int .i64 (j : Int)] w fun e w' => e = .returned (.int .i64 (mo M i j)) ∧ Below w.heap.size w w' := by
  have HE0 : Hid (mo M i j = if i = j ∧ M (i * 8 + j) ≠ NB then (M (i * 8 + j)).tdiv 2 else M (i * 8 + j)) := rfl
  have hii : (i : Int) < 8 := by omega
  have hji : (j : Int) < 8 := by omega
  have hi0 : ¬ (8 : Int) ≤ (i : Int) := by omega
  have hj0 : ¬ (8 : Int) ≤ (j : Int) := by omega
  have c1 : (w.alloc (.cells (oc e0 M) tO)).cell? ⟨w.heap.size, 1 + i * 8 + j, none⟩ = some (.int .i64 (M (i * 8 + j))) := by
    rw [Nat.add_assoc]
    exact OAt.cell (w := w.alloc (.cells (oc e0 M) tO)) (e0 := e0) (At.new _ _ _) (i * 8 + j) (by omega)
  obtain ⟨m0, m1⟩ := hS
  generalize M (i * 8 + j) = n at *
  generalize oc e0 M = cs at *
  have ht := tdiv2_le n
  obtain ⟨t1, t2⟩ := ht
  by_cases hq : i = j ∧ n ≠ NB
  · obtain ⟨rfl, hq2⟩ := hq
    have HE : Hid (mo M i i = n.tdiv 2) := HE0.out.trans (if_pos ⟨rfl, hq2⟩)
    have hb : (n != 1000000) = true := by rw [bne_iff_ne]; exact hq2
    clear HE0 hq2
    go_enter Tryd.func81, Tryd.ntmps81
    go_wp2_with fail
    go_ret
    exact ⟨by rw [HE.out]; rfl, (Below.refl _ _).alloc (Nat.le_refl _) _⟩
  · have HE : Hid (mo M i j = n) := HE0.out.trans (if_neg hq)
    clear HE0
    by_cases hij : i = j
    · subst hij
      have hb : (n != 1000000) = false := by
        have : n = 1000000 := by
          rcases Classical.em (n = NB) with e | e
          · exact e
          · exact absurd ⟨rfl, e⟩ hq
        rw [this]; rfl
      clear hq
      go_enter Tryd.func81, Tryd.ntmps81
      go_wp2_with fail
      go_ret
      exact ⟨by rw [HE.out]; rfl, (Below.refl _ _).alloc (Nat.le_refl _) _⟩
    · have hb : ((i : Int) == (j : Int)) = false := by rw [beq_eq_false_iff_ne]; omega
      clear hq hij
      go_enter Tryd.func81, Tryd.ntmps81
      go_wp2_with fail
      go_ret
      exact ⟨by rw [HE.out]; rfl, (Below.refl _ _).alloc (Nat.le_refl _) _⟩

/-- A whole octagon is read, as one step of a region that draws. -/
theorem step_load_o {ops : Array Oper} {o : Oper} {a : Act} {K : Act → World → Prop} {Q : Exit → Act → World → Prop} {E : Prop} (hg : o.guard = none) (p : Operand) (hop : o.op = Op.load tO p) (hp : a.eval p = .pointer (some ⟨b, 0, none⟩)) (hat : OAt w b e0 M)
    (hK : K (a.put o.dst (.agg (oc e0 M))) w) : if Region.wanted o (yielded ops a.tmps) = true then Oper.wp Tryd.prog o a w K Q else E := by
  have hw : Region.wanted o (yielded ops a.tmps) = true := by simp [Region.wanted, hg]
  rw [if_pos hw]
  unfold Oper.wp
  simp [execOp, hop, hp, o_loadAt hat, Result.andThen]
  exact hK

set_option maxRecDepth 100000 in
set_option maxHeartbeats 1600000 in
theorem o_bound (hG : Glob w) (f : Nat) (hf : f < 32) (hS : Sm M) :
    Calls Tryd.prog 50 #[.agg (oc e0 M), .int .i64 (f : Int)] w fun e w' => e = .returned (.int .i64 (bd M f)) ∧ Below w.heap.size w w' := by
  have hfi : (f : Int) < 32 := by omega
  have hf0 : ¬ (32 : Int) ≤ (f : Int) := by omega
  have hgs := hG.size
  have g0 : (w.alloc (.cells (oc e0 M) tO)).drew.cell? ⟨0, f, none⟩ = some (.int .i64 ((fs f : Nat) : Int)) := (World.cell?_alloc_past _ _ _ (by show 0 < _; omega)).trans (hG.first f hf)
  have g1 : (w.alloc (.cells (oc e0 M) tO)).drew.cell? ⟨1, f, none⟩ = some (.int .i64 ((ss f : Nat) : Int)) := (World.cell?_alloc_past _ _ _ (by show 1 < _; omega)).trans (hG.second f hf)
  have hi := fs_lt f hf
  have hj := ss_lt f hf
  have HA1 : Hid (OAt (w.alloc (.cells (oc e0 M) tO)).drew w.heap.size e0 M) := At.new w _ _
  have HB1 : Hid (Below w.heap.size w (w.alloc (.cells (oc e0 M) tO)).drew) := ((Below.refl _ _).alloc (Nat.le_refl _) _).drew
  have HMo : Hid (∀ w1, Calls Tryd.prog 81 #[.agg (oc e0 M), .int .i64 ((fs f : Nat) : Int), .int .i64 ((ss f : Nat) : Int)] w1 fun e w' => e = .returned (.int .i64 (mo M (fs f) (ss f))) ∧ Below w1.heap.size w1 w') := fun w1 => o_most _ _ hi hj (by have := hS (fs f * 8 + ss f) (by omega); omega)
  have HE : Hid (bd M f = mo M (fs f) (ss f)) := rfl
  generalize mo M (fs f) (ss f) = m at *
  generalize fs f = i at *
  generalize ss f = j at *
  clear hG hS hi hj
  go_enter Tryd.func50, Tryd.ntmps50
  go_wp2_with fail
  refine wp_region_any (by kernel_rfl) ?_
  change wpAny _ _ _ _ _ _ _ (World.drew _)
  refine wpAny_take (i := 1) (v := .int .i64 (f : Int)) rfl (by kernel_rfl) (by kernel_rfl) (by kernel_rfl) (fun _ _ _ h => h) (Or.inl ⟨by rfl, by intro w; go_simp⟩) ?_
  refine wpAny_take (i := 2) (v := .pointer (some ⟨0, f, none⟩)) rfl (by kernel_rfl) (by kernel_rfl) (by kernel_rfl) (fun _ _ _ h => h) (Or.inl ⟨by rfl, by intro w; go_simp⟩) ?_
  refine wpAny_take (i := 4) (v := .int .i64 (f : Int)) rfl (by kernel_rfl) (by kernel_rfl) (by kernel_rfl) (fun _ _ _ h => h) (Or.inl ⟨by rfl, by intro w; go_simp⟩) ?_
  refine wpAny_take (i := 5) (v := .pointer (some ⟨1, f, none⟩)) rfl (by kernel_rfl) (by kernel_rfl) (by kernel_rfl) (fun _ _ _ h => h) (Or.inl ⟨by rfl, by intro w; go_simp⟩) ?_
  refine wpAny_ready (rs := [0, 3, 6]) (by kernel_rfl) (by simp) ?_
  refine AllReady.cons rfl (fun K hK => ?_) (AllReady.cons rfl (fun K hK => ?_) (AllReady.cons rfl (fun K hK => ?_) AllReady.nil))
  · refine step_load_o rfl (.tmp 2) rfl rfl HA1.out ?_
    refine hK _ _ ?_
    clear hK K
    refine wpAny_ready (rs := [3, 6]) (by kernel_rfl) (by simp) ?_
    refine AllReady.cons rfl (fun K hK => ?_) (AllReady.cons rfl (fun K hK => ?_) AllReady.nil)
    · go_simp
      refine hK _ _ ?_
      clear hK K
      refine wpAny_ready (rs := [6]) (by kernel_rfl) (by simp) ?_
      refine AllReady.cons rfl (fun K hK => ?_) AllReady.nil
      go_simp
      refine hK _ _ ?_
      clear hK K
      refine wpAny_ready (rs := [7]) (by kernel_rfl) (by simp) ?_
      refine AllReady.cons rfl (fun K hK => ?_) AllReady.nil
      go_simp
      go_wp2_with (go_at_call 81; refine (HMo.out _).mono ?_; rintro e w2 ⟨rfl, hb2⟩)
      refine wpAny_take (i := 8) (v := .int .i64 m) rfl (by kernel_rfl) (by kernel_rfl) (by kernel_rfl) (fun _ _ _ h => h) (Or.inl ⟨by rfl, by intro w; go_simp⟩) ?_
      refine wpAny_done (by kernel_rfl) ?_ _
      go_wp2_with fail
      go_ret
      exact ⟨by rw [HE.out]; rfl, HB1.out.trans (hb2.mono (by simp))⟩
    · go_simp
      refine hK _ _ ?_
      clear hK K
      refine wpAny_ready (rs := [3]) (by kernel_rfl) (by simp) ?_
      refine AllReady.cons rfl (fun K hK => ?_) AllReady.nil
      go_simp
      refine hK _ _ ?_
      clear hK K
      refine wpAny_ready (rs := [7]) (by kernel_rfl) (by simp) ?_
      refine AllReady.cons rfl (fun K hK => ?_) AllReady.nil
      go_simp
      go_wp2_with (go_at_call 81; refine (HMo.out _).mono ?_; rintro e w2 ⟨rfl, hb2⟩)
      refine wpAny_take (i := 8) (v := .int .i64 m) rfl (by kernel_rfl) (by kernel_rfl) (by kernel_rfl) (fun _ _ _ h => h) (Or.inl ⟨by rfl, by intro w; go_simp⟩) ?_
      refine wpAny_done (by kernel_rfl) ?_ _
      go_wp2_with fail
      go_ret
      exact ⟨by rw [HE.out]; rfl, HB1.out.trans (hb2.mono (by simp))⟩
  · go_simp
    refine hK _ _ ?_
    clear hK K
    refine wpAny_ready (rs := [0, 6]) (by kernel_rfl) (by simp) ?_
    refine AllReady.cons rfl (fun K hK => ?_) (AllReady.cons rfl (fun K hK => ?_) AllReady.nil)
    · refine step_load_o rfl (.tmp 2) rfl rfl HA1.out ?_
      refine hK _ _ ?_
      clear hK K
      refine wpAny_ready (rs := [6]) (by kernel_rfl) (by simp) ?_
      refine AllReady.cons rfl (fun K hK => ?_) AllReady.nil
      go_simp
      refine hK _ _ ?_
      clear hK K
      refine wpAny_ready (rs := [7]) (by kernel_rfl) (by simp) ?_
      refine AllReady.cons rfl (fun K hK => ?_) AllReady.nil
      go_simp
      go_wp2_with (go_at_call 81; refine (HMo.out _).mono ?_; rintro e w2 ⟨rfl, hb2⟩)
      refine wpAny_take (i := 8) (v := .int .i64 m) rfl (by kernel_rfl) (by kernel_rfl) (by kernel_rfl) (fun _ _ _ h => h) (Or.inl ⟨by rfl, by intro w; go_simp⟩) ?_
      refine wpAny_done (by kernel_rfl) ?_ _
      go_wp2_with fail
      go_ret
      exact ⟨by rw [HE.out]; rfl, HB1.out.trans (hb2.mono (by simp))⟩
    · go_simp
      refine hK _ _ ?_
      clear hK K
      refine wpAny_ready (rs := [0]) (by kernel_rfl) (by simp) ?_
      refine AllReady.cons rfl (fun K hK => ?_) AllReady.nil
      refine step_load_o rfl (.tmp 2) rfl rfl HA1.out ?_
      refine hK _ _ ?_
      clear hK K
      refine wpAny_ready (rs := [7]) (by kernel_rfl) (by simp) ?_
      refine AllReady.cons rfl (fun K hK => ?_) AllReady.nil
      go_simp
      go_wp2_with (go_at_call 81; refine (HMo.out _).mono ?_; rintro e w2 ⟨rfl, hb2⟩)
      refine wpAny_take (i := 8) (v := .int .i64 m) rfl (by kernel_rfl) (by kernel_rfl) (by kernel_rfl) (fun _ _ _ h => h) (Or.inl ⟨by rfl, by intro w; go_simp⟩) ?_
      refine wpAny_done (by kernel_rfl) ?_ _
      go_wp2_with fail
      go_ret
      exact ⟨by rw [HE.out]; rfl, HB1.out.trans (hb2.mono (by simp))⟩
  · go_simp
    refine hK _ _ ?_
    clear hK K
    refine wpAny_ready (rs := [0, 3]) (by kernel_rfl) (by simp) ?_
    refine AllReady.cons rfl (fun K hK => ?_) (AllReady.cons rfl (fun K hK => ?_) AllReady.nil)
    · refine step_load_o rfl (.tmp 2) rfl rfl HA1.out ?_
      refine hK _ _ ?_
      clear hK K
      refine wpAny_ready (rs := [3]) (by kernel_rfl) (by simp) ?_
      refine AllReady.cons rfl (fun K hK => ?_) AllReady.nil
      go_simp
      refine hK _ _ ?_
      clear hK K
      refine wpAny_ready (rs := [7]) (by kernel_rfl) (by simp) ?_
      refine AllReady.cons rfl (fun K hK => ?_) AllReady.nil
      go_simp
      go_wp2_with (go_at_call 81; refine (HMo.out _).mono ?_; rintro e w2 ⟨rfl, hb2⟩)
      refine wpAny_take (i := 8) (v := .int .i64 m) rfl (by kernel_rfl) (by kernel_rfl) (by kernel_rfl) (fun _ _ _ h => h) (Or.inl ⟨by rfl, by intro w; go_simp⟩) ?_
      refine wpAny_done (by kernel_rfl) ?_ _
      go_wp2_with fail
      go_ret
      exact ⟨by rw [HE.out]; rfl, HB1.out.trans (hb2.mono (by simp))⟩
    · go_simp
      refine hK _ _ ?_
      clear hK K
      refine wpAny_ready (rs := [0]) (by kernel_rfl) (by simp) ?_
      refine AllReady.cons rfl (fun K hK => ?_) AllReady.nil
      refine step_load_o rfl (.tmp 2) rfl rfl HA1.out ?_
      refine hK _ _ ?_
      clear hK K
      refine wpAny_ready (rs := [7]) (by kernel_rfl) (by simp) ?_
      refine AllReady.cons rfl (fun K hK => ?_) AllReady.nil
      go_simp
      go_wp2_with (go_at_call 81; refine (HMo.out _).mono ?_; rintro e w2 ⟨rfl, hb2⟩)
      refine wpAny_take (i := 8) (v := .int .i64 m) rfl (by kernel_rfl) (by kernel_rfl) (by kernel_rfl) (fun _ _ _ h => h) (Or.inl ⟨by rfl, by intro w; go_simp⟩) ?_
      refine wpAny_done (by kernel_rfl) ?_ _
      go_wp2_with fail
      go_ret
      exact ⟨by rw [HE.out]; rfl, HB1.out.trans (hb2.mono (by simp))⟩

end Go.Proofs.YtffajooegiempaaDoor

namespace Go.Proofs.YtffajooegiempaaDoor
open Go.RowKit
variable {w : World} {b : Nat} {e0 : Bool} {M : Nat → Int}

theorem Tryd.infoNo : (Tryd.prog.info? tNo).map (fun i => (i.zero, i.size, i.bytes)) = some (some (.int .i64 0), 1, 8) := by kernel_rfl
/-- What comes out as a list. -/
def bdL (M : Nat → Int) : List Int := (List.range 32).map (bd M)
def LSays (w : World) (e : Bool) (M : Nat → Int) : Ending → World → Prop := fun x w' => Below w.heap.size w w' ∧
  ((e = true ∧ x = .returned (.slice none 0 0)) ∨ (e = false ∧ ∃ g, x = .returned (.slice (some ⟨g, 0, none⟩) 32 32) ∧ w.heap.size ≤ g ∧ At w' g (ic (bdL M)) tNo))

set_option maxRecDepth 100000 in
set_option maxHeartbeats 1600000 in
theorem o_list (hG : Glob w) (hS : Sm M) : Calls Tryd.prog 24 #[.agg (oc e0 M)] w (LSays w e0 M) := by
  have hcz : (w.alloc (.cells (oc e0 M) tO)).cell? ⟨w.heap.size, 0, none⟩ = some (.bool e0) := by
    rw [At.cell (At.new w (oc e0 M) tO)]; exact oc_0 _ _
  have hgs := hG.size
  have HG : Hid (Glob w) := hG
  have HS : Hid (Sm M) := hS
  have HB0 : Hid (∀ o, Below w.heap.size w (w.alloc o)) := fun o => (Below.refl _ _).alloc (Nat.le_refl _) _
  have HA0 : Hid (OAt (w.alloc (.cells (oc e0 M) tO)) w.heap.size e0 M) := At.new _ _ _
  cases e0 with
  | true =>
    clear hG hS
    go_enter Tryd.func24, Tryd.ntmps24
    go_wp2_with fail
    go_ret
    exact ⟨HB0.out _, .inl ⟨rfl, rfl⟩⟩
  | false =>
    obtain ⟨i0, hi0, hz0, hz1, hz2⟩ := info_parts Tryd.infoNo
    have hmk : ∀ w, (Instr.makeSlice 22 (.int .i64 0) (.int .i64 32)).run Tryd.prog w = .ok (.slice (some ⟨w.heap.size, 0, none⟩) 0 32) (w.alloc (.cells (ic (List.replicate 32 0)) tNo)) := fun _ => by kernel_rfl
    have hown0 := World.ownsRow_made (base := w.heap.size + 1) (e := tNo) (size := 1) (w.alloc (.cells (oc false M) tO)) (ic (List.replicate 32 0)) 32 (by simp) (by decide) rfl
    rw [show (w.alloc (.cells (oc false M) tO)).heap.size = w.heap.size + 1 by simp] at hown0
    have HOw : Hid (World.ownsRow _ _ _ _ _ _ _) := hown0
    have HBd : Hid (∀ (wr : World) (f : Nat), f < 32 → Below w.heap.size w wr → Calls Tryd.prog 50 #[.agg (oc false M), .int .i64 (f : Int)] wr fun e w' => e = .returned (.int .i64 (bd M f)) ∧ Below wr.heap.size wr w') := fun wr f hf hb => o_bound (HG.out.keep hb hgs) f hf HS.out
    have HA1 : Hid (OAt ((w.alloc (.cells (oc false M) tO)).alloc (.cells (ic (List.replicate 32 0)) tNo)) w.heap.size false M) := At.allocH HA0.out _
    have HB1 : Hid (Below w.heap.size w ((w.alloc (.cells (oc false M) tO)).alloc (.cells (ic (List.replicate 32 0)) tNo))) := (HB0.out _).alloc (by simp) _
    clear hG hS hown0
    generalize ic (List.replicate 32 0) = zs at *
    go_enter Tryd.func24, Tryd.ntmps24
    go_wp2_with fail
    go_loopw [3, 4] (fun sl i wr => ∃ (q : Nat), q ≤ 32 ∧ i = .int .i64 q ∧ sl = .slice (some ⟨w.heap.size + 1, 0, none⟩) q 32 ∧ Hid (wr.ownsRow (w.heap.size + 1) tNo 1 (.slice (some ⟨w.heap.size + 1, 0, none⟩) q 32) q ((List.range q).map fun i => .int .i64 (bd M i)) ∧ OAt wr w.heap.size false M ∧ Below w.heap.size w wr ∧ w.heap.size + 2 ≤ wr.heap.size)) (fun _ i _ => 32 - (intOf i).toNat)
    case atStart => exact ⟨0, by omega, rfl, rfl, HOw.out, HA1.out, HB1.out, by simp⟩
    case round =>
      obtain ⟨q, hq, rfl, rfl, HQ⟩ := hrel
      by_cases hlt : q < 32
      · have hqi : (q : Int) < 32 := by omega
        have hbd := HBd.out wr q hlt HQ.out.2.2.1
        go_wp2_with (refine wpList_load_o (e0 := false) (M := M) rfl (.tmp 1) rfl rfl HQ.out.2.1 ?_)
        refine hbd.mono ?_
        rintro e w3 ⟨rfl, hb3⟩
        have H3 : Hid (w3.ownsRow (w.heap.size + 1) tNo 1 (.slice (some ⟨w.heap.size + 1, 0, none⟩) q 32) q ((List.range q).map fun i => .int .i64 (bd M i)) ∧ OAt w3 w.heap.size false M ∧ Below w.heap.size w w3 ∧ w.heap.size + 2 ≤ w3.heap.size) := by
          have hsz := HQ.out.2.2.2
          refine ⟨?_, At.keep HQ.out.2.1 hb3 (by omega), HQ.out.2.2.1.trans (hb3.mono (by omega)), Nat.le_trans hsz hb3.size⟩
          obtain ⟨h1, h2⟩ := HQ.out.1
          refine ⟨h1, ?_⟩
          rcases h2 with h2 | ⟨g, cap, c, hv, hg, hh, r⟩
          · exact .inl h2
          · cases hv
            exact .inr ⟨_, _, c, rfl, hg, by rw [hb3.block _ (by omega)]; exact hh, r⟩
        clear hb3 hbd
        obtain ⟨x, hx⟩ : ∃ x, x = bd M q := ⟨_, rfl⟩
        rw [← hx]
        have HX : Hid (x = bd M q) := hx
        clear hx
        go_wp2_with (at_builtin; refine wpList_append_fits _ rfl (.tmp 12) (.tmp 16) 22 rfl (w.heap.size + 1) tNo i0 1 Tryd.underlying22 hi0 hz1 (w.heap.size + 1) q 32 _ rfl (H3.out.1.alloc _) ⟨w3.heap.size, 0, none⟩ 1 1 [.int .i64 x] rfl rfl (by intro t u ht; match t, ht with | 0, ht => simp at ht; subst ht; exact World.cell?_alloc_at _ _ _ _ rfl) (by intro u hu; simp at hu; subst hu; rfl) (by omega) ?_; intro w5 hown5 hgrow5)
        go_roundw
        case rel =>
          refine ⟨q + 1, by omega, by go_num, rfl, ?_, ?_, ?_, ?_⟩
          · rw [HX.out] at hown5
            rw [List.range_succ, List.map_append]
            exact hown5
          · have := hgrow5.block w.heap.size (by have := H3.out.2.2.2; simp; omega) (by intro e; have := Option.some.inj e; omega)
            exact At.same (At.allocH H3.out.2.1 _) this
          · exact ((H3.out.2.2.1.alloc H3.out.2.2.1.size _).grown hgrow5 (by have := H3.out.2.2.2; simp; omega) (fun k hk => by cases hk; omega))
          · have h1 := hgrow5.size
            have h2 := H3.out.2.2.2
            simp at h1
            omega
        case measure => simp [intOf]; omega
      · have hq32 : q = 32 := by omega
        subst hq32
        go_wp2_with fail
        go_ret
        refine ⟨HQ.out.2.2.1, .inr ⟨rfl, w.heap.size + 1, rfl, by omega, ?_⟩⟩
        obtain ⟨⟨_, h2⟩, _⟩ := HQ.out
        rcases h2 with ⟨e, _⟩ | ⟨g, cap, cur, e, hg, hh, hn4, hc4, hsz, htk⟩
        · cases e
        · cases e
          have : cur = ic (bdL M) := by
            apply Array.toList_inj.1
            rw [← List.take_of_length_le (l := cur.toList) (i := 32 * 1) (by simp; omega), htk]
            simp [ic, bdL]
          rw [← this]
          exact hh

end Go.Proofs.YtffajooegiempaaDoor

/- Forms, by their signs and by their sides. -/
namespace Go.Proofs.YtffajooegiempaaDoor

def sgn (i : Nat) : Int := 1 - 2 * ((i % 2 : Nat) : Int)
/-- The signs of a form. -/
def frm (f : Nat) : List Int := if f < 8 then [0, 0, 0, 0].set (f / 2) (sgn f) else ([0, 0, 0, 0].set (fs f / 2) (sgn (fs f))).set (ss f / 2) (sgn (ss f))
def gAt (l : List Int) (i : Nat) : Int := l.getD i 0
theorem frm_lo : ∀ f : Nat, f < 8 → ∀ i, i < 4 → gAt (frm f) i = if i = f / 2 then sgn f else 0 := by decide
theorem frm_hi : ∀ f : Nat, f < 32 → 8 ≤ f → ∀ i, i < 4 → gAt (frm f) i = (if i = fs f / 2 then sgn (fs f) else 0) + (if i = ss f / 2 then sgn (ss f) else 0) := by decide
theorem fs_lo : ∀ f : Nat, f < 8 → fs f = f ∧ ss f = f := by decide
theorem fs_hi : ∀ f : Nat, f < 32 → 8 ≤ f → fs f ≠ ss f := by decide
/-- What is laid for a form. -/
def bv (l : List Int) (f : Nat) : Int := if fs f = ss f ∧ l.getD f 0 ≠ NB then 2 * l.getD f 0 else l.getD f 0
theorem lay_form (l : List Int) : ∀ f, f < 32 → lay l 32 (fs f * 8 + ss f) = bv l f ∧ lay l 32 (ss f * 8 + fs f) = bv l f
  | 0, _ => ⟨rfl, rfl⟩
  | 1, _ => ⟨rfl, rfl⟩
  | 2, _ => ⟨rfl, rfl⟩
  | 3, _ => ⟨rfl, rfl⟩
  | 4, _ => ⟨rfl, rfl⟩
  | 5, _ => ⟨rfl, rfl⟩
  | 6, _ => ⟨rfl, rfl⟩
  | 7, _ => ⟨rfl, rfl⟩
  | 8, _ => ⟨rfl, rfl⟩
  | 9, _ => ⟨rfl, rfl⟩
  | 10, _ => ⟨rfl, rfl⟩
  | 11, _ => ⟨rfl, rfl⟩
  | 12, _ => ⟨rfl, rfl⟩
  | 13, _ => ⟨rfl, rfl⟩
  | 14, _ => ⟨rfl, rfl⟩
  | 15, _ => ⟨rfl, rfl⟩
  | 16, _ => ⟨rfl, rfl⟩
  | 17, _ => ⟨rfl, rfl⟩
  | 18, _ => ⟨rfl, rfl⟩
  | 19, _ => ⟨rfl, rfl⟩
  | 20, _ => ⟨rfl, rfl⟩
  | 21, _ => ⟨rfl, rfl⟩
  | 22, _ => ⟨rfl, rfl⟩
  | 23, _ => ⟨rfl, rfl⟩
  | 24, _ => ⟨rfl, rfl⟩
  | 25, _ => ⟨rfl, rfl⟩
  | 26, _ => ⟨rfl, rfl⟩
  | 27, _ => ⟨rfl, rfl⟩
  | 28, _ => ⟨rfl, rfl⟩
  | 29, _ => ⟨rfl, rfl⟩
  | 30, _ => ⟨rfl, rfl⟩
  | 31, _ => ⟨rfl, rfl⟩
  | n + 32, h => absurd h (by omega)
 
theorem lay_opp (l : List Int) : ∀ i, i < 8 → lay l 32 (i * 8 + opp i) = 0
  | 0, _ => rfl
  | 1, _ => rfl
  | 2, _ => rfl
  | 3, _ => rfl
  | 4, _ => rfl
  | 5, _ => rfl
  | 6, _ => rfl
  | 7, _ => rfl
  | n + 8, h => absurd h (by omega)
 
theorem form_of : ∀ i : Nat, i < 8 → ∀ j, j < 8 → j = opp i ∨ ∃ f, f < 32 ∧ ((fs f = i ∧ ss f = j) ∨ (ss f = i ∧ fs f = j)) := by decide

/-- The bounds that come out are no greater than those that went in. -/
theorem bd_le {o : List Int} {M : Nat → Int} (hok : ∀ i, i < 32 → isB (o.getD i 0) = true) (hM : ∀ k, M k ≤ lay o 32 k) (f : Nat) (hf : f < 32) : bd M f ≤ gAt o f := by
  have hl := (lay_form o f hf).1
  have hm := hM (fs f * 8 + ss f)
  have hr := (lay_range o 32 hok (fs f * 8 + ss f)).2
  have hb := hok f hf
  unfold isB at hb
  have hb := of_decide_eq_true hb
  rw [hl] at hm hr
  unfold bd gAt
  unfold bv at hm hr
  by_cases h8 : f < 8
  · obtain ⟨q1, q2⟩ := fs_lo f h8
    rw [q1, q2] at hm hr ⊢
    by_cases hn : o.getD f 0 = NB
    · rw [if_neg (fun q => q.2 hn)] at hm hr
      rw [hn] at hm ⊢
      by_cases hz : M (f * 8 + f) = NB
      · rw [if_neg (fun q => q.2 hz)]; exact hm
      · rw [if_pos ⟨rfl, hz⟩]
        have := tdiv2 (M (f * 8 + f))
        unfold NB at *
        rcases Int.lt_or_le (M (f * 8 + f)) 0 with e | e
        · rw [this.2 e]; omega
        · rw [this.1 e]; omega
    · rw [if_pos ⟨rfl, hn⟩] at hm hr
      have hz : M (f * 8 + f) ≠ NB := by unfold NB at *; omega
      rw [if_pos ⟨rfl, hz⟩]
      have := tdiv2 (M (f * 8 + f))
      rcases Int.lt_or_le (M (f * 8 + f)) 0 with e | e
      · rw [this.2 e]; omega
      · rw [this.1 e]; omega
  · have hne := fs_hi f hf (by omega)
    rw [if_neg (fun q => hne q.1)] at hm ⊢
    exact hm

theorem bdL_get (M : Nat → Int) (f : Nat) (hf : f < 32) : gAt (bdL M) f = bd M f := by simp [gAt, bdL, List.getD, hf]

end Go.Proofs.YtffajooegiempaaDoor

/- The document's rounds, plain. -/
namespace Go.Proofs.YtffajooegiempaaDoor

/-- Two forms added: the signs. -/
def vadd (f g : Nat) : List Int := [gAt (frm f) 0 + gAt (frm g) 0, gAt (frm f) 1 + gAt (frm g) 1, gAt (frm f) 2 + gAt (frm g) 2, gAt (frm f) 3 + gAt (frm g) 3]
def onesV (v : List Int) : Nat := v.countP fun x => x == 1 || x == -1
def twosV (v : List Int) : Nat := v.countP fun x => x == 2 || x == -2
def nst (v : List Int) : Nat → Option (Int × Int)
  | 0 => some (-1, -1)
  | i + 1 => match nst v i with
    | none => none
    | some (x, y) => if gAt v i < -1 ∨ gAt v i > 1 ∨ (gAt v i ≠ 0 ∧ 0 ≤ y) then none else some (if gAt v i ≠ 0 ∧ x < 0 then (i : Int) else x, if gAt v i ≠ 0 ∧ 0 ≤ x then (i : Int) else y)
/-- The number of a form by its signs. -/
def numV (v : List Int) : Int := match nst v 4 with
  | none => -1
  | some (x, y) => if x < 0 then -1 else if y < 0 then 2 * x + (1 - gAt v x.toNat).tdiv 2 else 8 + 4 * ((x * (8 - x - 1)).tdiv 2 + y - x - 1) + (1 - gAt v x.toNat).tdiv 2 * 2 + (1 - gAt v y.toNat).tdiv 2
def halfV (v : List Int) : List Int := v.map fun x => x.tdiv 2
/-- What follows: 1 nothing is left, 2 twice a variable, 3 a form, 0 nothing. -/
def kd (v : List Int) : Nat := if onesV v = 0 ∧ twosV v = 0 then 1 else if onesV v = 0 ∧ twosV v = 1 then 2 else if twosV v = 0 ∧ 0 < onesV v ∧ onesV v < 3 then 3 else 0
def folV (v : List Int) (c : Int) : Int × Int := if kd v = 1 ∧ c < 0 then (-2, 0) else if kd v = 2 then (numV (halfV v), c / 2) else if kd v = 3 then (numV v, c) else (-1, 0)
def kdT (f g : Nat) : Nat := kd (vadd f g)
def nmT (f g : Nat) : Nat := if kdT f g = 2 then (numV (halfV (vadd f g))).toNat else (numV (vadd f g)).toNat
/-- The form of two sides. -/
def nf (i j : Nat) : Nat := if i = j then i else if i < j then 8 + 4 * (i / 2 * (7 - i / 2) / 2 + j / 2 - i / 2 - 1) + i % 2 * 2 + j % 2 else 8 + 4 * (j / 2 * (7 - j / 2) / 2 + i / 2 - j / 2 - 1) + j % 2 * 2 + i % 2

theorem nf_ok : ∀ i : Nat, i < 8 → ∀ j, j < 8 → j ≠ opp i → nf i j < 32 ∧ ((fs (nf i j) = i ∧ ss (nf i j) = j) ∨ (fs (nf i j) = j ∧ ss (nf i j) = i)) := by decide +kernel
theorem nf_self (i : Nat) : nf i i = i := if_pos rfl
theorem nf_fs : ∀ f : Nat, f < 32 → fs f < 8 ∧ ss f < 8 ∧ nf (fs f) (ss f) = f ∧ ss f ≠ opp (fs f) ∧ (f < 8 → fs f = f ∧ ss f = f) ∧ (8 ≤ f → fs f ≠ ss f) := by decide +kernel
theorem nm_ok : ∀ f : Nat, f < 32 → ∀ g, g < 32 → (kdT f g = 2 → numV (halfV (vadd f g)) = (nmT f g : Int) ∧ nmT f g < 8) ∧ (kdT f g = 3 → numV (vadd f g) = (nmT f g : Int) ∧ nmT f g < 32) := by decide +kernel
def Tab1 (i s j : Nat) : Prop := (i ≠ s ∧ i ≠ opp s ∧ j ≠ s ∧ j ≠ opp s) → (j = opp i → kdT (nf i (opp s)) (nf s j) = 1) ∧ (j = i → kdT (nf i (opp s)) (nf s j) = 2 ∧ nmT (nf i (opp s)) (nf s j) = i) ∧ (j ≠ i ∧ j ≠ opp i → kdT (nf i (opp s)) (nf s j) = 3 ∧ nmT (nf i (opp s)) (nf s j) = nf i j)
instance (i s j : Nat) : Decidable (Tab1 i s j) := by unfold Tab1; infer_instance
theorem tab1 : ∀ i : Nat, i < 8 → ∀ s, s < 8 → ∀ j, j < 8 → Tab1 i s j := by decide +kernel
theorem tab2 : ∀ s : Nat, s < 8 → ∀ j, j < 8 → (j ≠ s ∧ j ≠ opp s) → kdT (opp s) (nf s j) = 3 ∧ nmT (opp s) (nf s j) = j ∧ kdT (nf j s) (opp s) = 3 ∧ nmT (nf j s) (opp s) = j := by decide +kernel
theorem tab3 : ∀ i : Nat, i < 8 → ∀ j, j < 8 → (j = opp i → kdT i j = 1) ∧ (j ≠ i ∧ j ≠ opp i → kdT i j = 3 ∧ nmT i j = nf i j) := by decide +kernel
/-- All that two forms may come to. -/
def tabB (f g : Nat) : Bool := decide (kdT f g = 0) || (decide (f < 8) && decide (g < 8) && ((decide (g = opp f) && decide (kdT f g = 1)) || (decide (g = f) && decide (kdT f g = 2) && decide (nmT f g = f)) || (decide (g ≠ f) && decide (g ≠ opp f) && decide (kdT f g = 3) && decide (nmT f g = nf f g)))) ||
  (decide (f < 8) && decide (8 ≤ g) && decide (kdT f g = 3) && ((decide (fs g = opp f) && decide (nmT f g = ss g)) || (decide (ss g = opp f) && decide (nmT f g = fs g)))) ||
  (decide (8 ≤ f) && decide (g < 8) && decide (kdT f g = 3) && ((decide (fs f = opp g) && decide (nmT f g = ss f)) || (decide (ss f = opp g) && decide (nmT f g = fs f)))) ||
  (decide (8 ≤ f) && decide (8 ≤ g) && [true, false].any fun b1 => [true, false].any fun b2 =>
    decide ((if b1 = true then ss f else fs f) = opp (if b2 = true then fs g else ss g)) && ((decide (kdT f g = 1) && decide ((if b2 = true then ss g else fs g) = opp (if b1 = true then fs f else ss f))) || (decide (kdT f g = 2) && decide ((if b2 = true then ss g else fs g) = (if b1 = true then fs f else ss f)) && decide (nmT f g = if b1 = true then fs f else ss f)) ||
      (decide (kdT f g = 3) && decide ((if b2 = true then ss g else fs g) ≠ (if b1 = true then fs f else ss f)) && decide ((if b2 = true then ss g else fs g) ≠ opp (if b1 = true then fs f else ss f)) && decide (nmT f g = nf (if b1 = true then fs f else ss f) (if b2 = true then ss g else fs g)))))
theorem tab_all : ∀ f : Nat, f < 32 → ∀ g, g < 32 → tabB f g = true := by decide +kernel

/-- What one round has done. -/
structure RdO (R R' : Nat → Int) : Prop where
  le : ∀ f, f < 32 → R' f ≤ R f
  zer : ∀ f g, f < 32 → g < 32 → kdT f g = 1 → R f ≠ NB → R g ≠ NB → 0 ≤ R f + R g
  dou : ∀ f g, f < 32 → g < 32 → kdT f g = 2 → R f ≠ NB → R g ≠ NB → R' (nmT f g) ≤ (R f + R g) / 2
  sum : ∀ f g, f < 32 → g < 32 → kdT f g = 3 → R f ≠ NB → R g ≠ NB → R' (nmT f g) ≤ R f + R g
/-- The document's bounds are no greater than the program's. -/
structure Un (R M : Nat → Int) : Prop where
  dia : ∀ i, i < 8 → M (i * 8 + i) ≠ NB → 2 * R i ≤ M (i * 8 + i)
  off : ∀ i j, i < 8 → j < 8 → i ≠ j → j ≠ opp i → M (i * 8 + j) ≠ NB → R (nf i j) ≤ M (i * 8 + j)
  zer : ∀ i, i < 8 → 0 ≤ M (i * 8 + opp i)
theorem Un.rd {R R' M : Nat → Int} (h : Un R M) (hr : RdO R R') : Un R' M := by
  refine ⟨fun i hi q => ?_, fun i j hi hj h1 h2 q => ?_, h.zer⟩
  · have := h.dia i hi q
    have := hr.le i (by omega)
    omega
  · have := h.off i j hi hj h1 h2 q
    have := hr.le (nf i j) (nf_ok i hi j hj h2).1
    omega
theorem opp_eq {i j : Nat} (hi : i < 8) (h : j = opp i) : i = opp j := by rw [h, opp_opp i hi]
/-- A chain of the program's is met within two rounds. -/
theorem Un.chain {R R' R2 M : Nat → Int} {U : Int} {s : Nat} (hs : s < 8) (hU : 2 * U < 1000000) (hU0 : 0 ≤ U) (hB : Bd U M) (h0 : M (s * 8 + opp s) = 0) (h : Un R M) (h1 : RdO R R') (h2 : RdO R' R2) : Un R2 (chF s M 64) := by
  have ho := opp_lt hs
  have hoo := opp_opp s hs
  have hne := opp_ne s
  have hm : Un R2 M := (h.rd h1).rd h2
  have h1s := h.rd h1
  -- the bounds of one side, of two
  have one : ∀ i, i < 8 → M (i * 8 + i) ≠ NB → R i ≠ NB ∧ 2 * R i ≤ U := by
    intro i hi q
    have a := h.dia i hi q
    have b := (hB (i * 8 + i) (by omega)).resolve_left q
    exact ⟨by unfold NB; omega, by omega⟩
  have one' : ∀ i, i < 8 → M (i * 8 + i) ≠ NB → R' i ≠ NB := by
    intro i hi q
    have a := h1s.dia i hi q
    have b := (hB (i * 8 + i) (by omega)).resolve_left q
    unfold NB
    omega
  have two : ∀ i j, i < 8 → j < 8 → i ≠ j → j ≠ opp i → M (i * 8 + j) ≠ NB → R (nf i j) ≠ NB ∧ R (nf i j) ≤ U := by
    intro i j hi hj e1 e2 q
    have a := h.off i j hi hj e1 e2 q
    have b := (hB (i * 8 + j) (by omega)).resolve_left q
    exact ⟨by unfold NB; omega, by omega⟩
  have le2 : ∀ f, f < 32 → R2 f ≤ R' f := h2.le
  -- a sum of two that are bounds
  have gen : ∀ i j, i < 8 → j < 8 → i ≠ s → j ≠ opp s → M (i * 8 + opp s) ≠ NB → M (s * 8 + j) ≠ NB →
      (j = opp i → 0 ≤ M (i * 8 + opp s) + M (s * 8 + j)) ∧ (j = i → 2 * R2 i ≤ M (i * 8 + opp s) + M (s * 8 + j)) ∧ (j ≠ i → j ≠ opp i → R2 (nf i j) ≤ M (i * 8 + opp s) + M (s * 8 + j)) := by
    intro i j hi hj n1 n2 f1 f2
    by_cases ei : i = opp s
    · subst ei
      by_cases ej : j = s
      · subst ej
        obtain ⟨a1, a2⟩ := one (opp j) ho f1
        obtain ⟨b1, b2⟩ := one j hs f2
        have a := h.dia (opp j) ho f1
        have b := h.dia j hs f2
        have z := h1.zer (opp j) j (by omega) (by omega) ((tab3 (opp j) ho j hs).1 hoo.symm) a1 b1
        exact ⟨fun _ => by omega, fun e => absurd e.symm hne, fun _ e => absurd hoo.symm e⟩
      · have t := tab2 s hs j hj ⟨ej, n2⟩
        obtain ⟨a1, a2⟩ := one (opp s) ho f1
        obtain ⟨b1, b2⟩ := two s j hs hj (fun e => ej e.symm) n2 f2
        have a := h.dia (opp s) ho f1
        have b := h.off s j hs hj (fun e => ej e.symm) n2 f2
        have hnf := (nf_ok s hs j hj n2).1
        have x := h1.sum (opp s) (nf s j) (by omega) hnf t.1 a1 b1
        rw [t.2.1] at x
        have y1 : R' j ≠ NB := by unfold NB; omega
        have y := h2.sum (opp s) j (by omega) (by omega) ((tab3 (opp s) ho j hj).2 ⟨n2, by rw [hoo]; exact ej⟩).1 (one' (opp s) ho f1) y1
        rw [((tab3 (opp s) ho j hj).2 ⟨n2, by rw [hoo]; exact ej⟩).2] at y
        have w := h1.le (opp s) (by omega)
        exact ⟨fun e => absurd (e.trans hoo) ej, fun e => absurd e n2, fun _ _ => by omega⟩
    · by_cases ej : j = s
      · subst ej
        have n3 : opp j ≠ opp i := by
          intro e
          exact n1 (by rw [← opp_opp i hi, ← e, hoo])
        have n4 : i ≠ opp (opp j) := by rw [hoo]; exact n1
        have t := tab2 (opp j) ho i hi ⟨ei, n4⟩
        rw [hoo] at t
        obtain ⟨a1, a2⟩ := two i (opp j) hi ho ei n3 f1
        obtain ⟨b1, b2⟩ := one j hs f2
        have a := h.off i (opp j) hi ho ei n3 f1
        have b := h.dia j hs f2
        have hnf := (nf_ok i hi (opp j) ho n3).1
        have x := h1.sum (nf i (opp j)) j hnf (by omega) t.2.2.1 a1 b1
        rw [t.2.2.2] at x
        have y1 : R' i ≠ NB := by unfold NB; omega
        have n5 : j ≠ opp i := by
          intro e
          exact ei (opp_eq hi e)
        have y := h2.sum i j (by omega) (by omega) ((tab3 i hi j hj).2 ⟨fun e => n1 e.symm, n5⟩).1 y1 (one' j hs f2)
        rw [((tab3 i hi j hj).2 ⟨fun e => n1 e.symm, n5⟩).2] at y
        have w := h1.le j (by omega)
        exact ⟨fun e => absurd e n5, fun e => absurd e.symm n1, fun _ _ => by omega⟩
      · have t := tab1 i hi s hs j hj ⟨n1, ei, ej, n2⟩
        have n3 : opp s ≠ opp i := by
          intro e
          exact n1 (by rw [← opp_opp i hi, ← e, hoo])
        obtain ⟨a1, a2⟩ := two i (opp s) hi ho ei n3 f1
        obtain ⟨b1, b2⟩ := two s j hs hj (fun e => ej e.symm) n2 f2
        have a := h.off i (opp s) hi ho ei n3 f1
        have b := h.off s j hs hj (fun e => ej e.symm) n2 f2
        have g1 := (nf_ok i hi (opp s) ho n3).1
        have g2 := (nf_ok s hs j hj n2).1
        refine ⟨fun e => ?_, fun e => ?_, fun e1 e2 => ?_⟩
        · have := h1.zer _ _ g1 g2 (t.1 e) a1 b1
          omega
        · have x := h1.dou _ _ g1 g2 (t.2.1 e).1 a1 b1
          rw [(t.2.1 e).2] at x
          have := le2 i (by omega)
          omega
        · have x := h1.sum _ _ g1 g2 (t.2.2 ⟨e1, e2⟩).1 a1 b1
          rw [(t.2.2 ⟨e1, e2⟩).2] at x
          have := le2 (nf i j) (nf_ok i hi j hj e2).1
          omega
  refine ⟨fun i hi q => ?_, fun i j hi hj e1 e2 q => ?_, fun i hi => ?_⟩
  · rw [chain_at hs h0 hi hi] at q ⊢
    rcases mnpl q with ⟨e, z⟩ | ⟨e, z1, z2⟩
    · rw [e]; exact hm.dia i hi z
    · rw [e]
      by_cases x1 : i = s
      · subst x1; rw [h0]; have := hm.dia i hi z2; omega
      · by_cases x2 : i = opp s
        · have := (gen i i hi hi x1)
          subst x2
          rw [hoo] at *
          have := hm.dia (opp s) ho z1
          rw [show s * 8 + opp s = s * 8 + opp s from rfl, h0]
          omega
        · exact (gen i i hi hi x1 x2 z1 z2).2.1 rfl
  · rw [chain_at hs h0 hi hj] at q ⊢
    rcases mnpl q with ⟨e, z⟩ | ⟨e, z1, z2⟩
    · rw [e]; exact hm.off i j hi hj e1 e2 z
    · rw [e]
      by_cases x1 : i = s
      · subst x1; rw [h0]; have := hm.off i j hi hj e1 e2 z2; omega
      · by_cases x2 : j = opp s
        · subst x2; rw [h0]; have := hm.off i (opp s) hi hj e1 e2 z1; omega
        · exact (gen i j hi hj x1 x2 z1 z2).2.2 (fun e => e1 e.symm) e2
  · have hoi := opp_lt hi
    rw [chain_at hs h0 hi hoi]
    by_cases q : mn (M (i * 8 + opp i)) (pl (M (i * 8 + opp s)) (M (s * 8 + opp i))) = NB
    · rw [q]; decide
    · rcases mnpl q with ⟨e, z⟩ | ⟨e, z1, z2⟩
      · rw [e]; exact h.zer i hi
      · rw [e]
        by_cases x1 : i = s
        · subst x1; rw [h0]; exact Int.le_refl _
        · have x2 : opp i ≠ opp s := by
            intro e
            exact x1 (by rw [← opp_opp i hi, e, hoo])
          exact (gen i (opp i) hi hoi x1 x2 z1 z2).1 rfl

end Go.Proofs.YtffajooegiempaaDoor

