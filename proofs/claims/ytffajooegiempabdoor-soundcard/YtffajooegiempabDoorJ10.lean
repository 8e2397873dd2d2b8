import Derived.Test.YtffajooegiempabDoorJ9
import Derived.BigRegion
namespace Go.Proofs.YtffajooegiempabDoor
end Go.Proofs.YtffajooegiempabDoor

namespace Go.Proofs.YtffajooegiempabDoor
end Go.Proofs.YtffajooegiempabDoor

namespace Go.Proofs.YtffajooegiempabDoor
end Go.Proofs.YtffajooegiempabDoor

namespace Go.Proofs.YtffajooegiempabDoor
end Go.Proofs.YtffajooegiempabDoor

namespace Go.Proofs.YtffajooegiempabDoor
end Go.Proofs.YtffajooegiempabDoor

namespace Go.Proofs.YtffajooegiempabDoor
end Go.Proofs.YtffajooegiempabDoor

namespace Go.Proofs.YtffajooegiempabDoor
end Go.Proofs.YtffajooegiempabDoor

/- The document's ways, plain. -/
namespace Go.Proofs.YtffajooegiempabDoor
end Go.Proofs.YtffajooegiempabDoor

namespace Go.Proofs.YtffajooegiempabDoor
end Go.Proofs.YtffajooegiempabDoor

namespace Go.Proofs.YtffajooegiempabDoor
open Go.RowKit

/-- The machine behind a text that is a program. -/
def progOf (l : List Int) : Option Rd :=
  if 160 < l.length then none else match (readFrom init l 0).2 with
    | none => none
    | some m => if isDone m then some m else none

theorem progOf_none {l : List Int} (h : progOf l = none) : (scanOf l).2.1 = 1 := by
  unfold progOf at h
  unfold scanOf
  split at h
  · rename_i e; rw [if_pos e]
  · rename_i e
    rw [if_neg e]
    rcases hr : readFrom init l 0 with ⟨n, _ | m⟩
    · rfl
    · rw [hr] at h
      simp only at h ⊢
      cases hd : isDone m
      · simp
      · rw [hd] at h; simp at h
theorem progOf_some {l : List Int} {m : Rd} (h : progOf l = some m) : l.length ≤ 160 ∧ (∃ n, readFrom init l 0 = (n, some m)) ∧ isDone m = true ∧ scanOf l = ((m.st.length : Int) + 1, 0, 0) := by
  unfold progOf at h
  split at h
  · cases h
  · rename_i e
    rcases hr : readFrom init l 0 with ⟨n, _ | m'⟩
    · rw [hr] at h; cases h
    · rw [hr] at h
      simp only at h
      cases hd : isDone m'
      · rw [hd] at h; simp at h
      · rw [hd] at h
        simp at h
        subst h
        refine ⟨by omega, ⟨n, rfl⟩, hd, ?_⟩
        unfold scanOf
        rw [if_neg e, hr]
        simp [hd]

def two (x : Int × Int) : Ending := .returned (.tuple #[.int .i64 x.1, .int .i64 x.2])

end Go.Proofs.YtffajooegiempabDoor

namespace Go.Proofs.YtffajooegiempabDoor
end Go.Proofs.YtffajooegiempabDoor

namespace Go.Proofs.YtffajooegiempabDoor
open Go.RowKit
variable {w : World} {e0 : Bool} {M : Nat → Int} {b : Nat}

/-- Is it safe: the program. -/
def sfP (e : Bool) (M : Nat → Int) (x : Ds) : Bool :=
  if e = true then true else if x.kind = 0 then x.any || ftB M x.sg x.num else if x.kind = 1 then !x.any && decide (grP M x.sg ≤ x.num) else true

end Go.Proofs.YtffajooegiempabDoor

namespace Go.Proofs.YtffajooegiempabDoor
open Go.RowKit
variable {w : World} {e0 : Bool} {M : Nat → Int} {b : Nat}

set_option maxRecDepth 100000 in
set_option maxHeartbeats 3200000 in
theorem e_safe_t (x : Ds) (k1 : x.kind = 1) (ha : x.any = true) :
    Calls Tryd.prog 33 #[dsv x, .agg (oc false M)] w fun e w' => e = .returned (.bool (sfP false M x)) ∧ Below w.heap.size w w' := by
  obtain ⟨e0, he0⟩ : ∃ e0 : Bool, e0 = false := ⟨_, rfl⟩
  rw [← he0]
  obtain ⟨w0, hw0⟩ : ∃ w0, w0 = (w.alloc (.cells (dsCells x) tDs)).alloc (.cells (oc e0 M) tO) := ⟨_, rfl⟩
  have H0 : Hid (At w0 w.heap.size (dsCells x) tDs ∧ OAt w0 (w.heap.size + 1) e0 M ∧ Below w.heap.size w w0 ∧ w0.heap.size = w.heap.size + 2) := by
    refine ⟨by rw [hw0]; exact At.allocH (At.new _ _ _) _, ?_, by rw [hw0]; exact ((Below.refl _ _).alloc (Nat.le_refl _) _).alloc (by simp) _, by rw [hw0]; simp⟩
    have := At.new (w.alloc (.cells (dsCells x) tDs)) (oc e0 M) tO
    rw [show (w.alloc (.cells (dsCells x) tDs)).heap.size = w.heap.size + 1 by simp] at this
    rw [hw0]; exact this
  have z0 : w0.cell? ⟨w.heap.size + 1, 0, none⟩ = some (.bool e0) := by rw [At.cell H0.out.2.1]; exact oc_0 _ _
  have HB0 := H0.out.2.2.1
  have HA0 := H0.out.2.1
  subst he0
  have HE0 : Hid (sfP false M x = (!x.any && decide (grP M x.sg ≤ x.num))) := by show sfP false M x = _; unfold sfP; rw [if_neg (by decide), if_neg (by omega), if_pos k1]
  have HE : Hid (sfP false M x = false) := by show _ = false; rw [HE0.out, ha]; rfl
  have d2 : w0.drew.cell? ⟨w.heap.size, 2, none⟩ = some (.bool true) := by rw [← ha]; exact H0.out.1.cell 2
  have HB1 : Hid (Below w.heap.size w w0.drew) := H0.out.2.2.1.drew
  rw [hw0] at d2 HB1
  clear H0 HE0
  rw [hw0] at z0 HB0 HA0
  unfold dsCells at z0 HB0 HA0
  unfold dsv
  unfold dsCells at d2 HB1
  rw [k1, ha] at z0 HB0 d2 HB1 ⊢
  clear hw0
  go_enter Tryd.func33, Tryd.ntmps33
  go_wp2_with fail
  go_region
  all_goals
    go_wp2_with fail
    go_ret
    exact ⟨ret_b' HE.out, HB1.out⟩

end Go.Proofs.YtffajooegiempabDoor

namespace Go.Proofs.YtffajooegiempabDoor
open Go.RowKit
variable {w : World} {e0 : Bool} {M : Nat → Int} {b : Nat}

set_option maxRecDepth 100000 in
set_option maxHeartbeats 3200000 in
theorem e_safe_f (x : Ds) (hx : DsG x) (k1 : x.kind = 1) (ha : x.any = false) (hS : Sm M) :
    Calls Tryd.prog 33 #[dsv x, .agg (oc false M)] w fun e w' => e = .returned (.bool (sfP false M x)) ∧ Below w.heap.size w w' := by
  obtain ⟨e0, he0⟩ : ∃ e0 : Bool, e0 = false := ⟨_, rfl⟩
  rw [← he0]
  obtain ⟨w0, hw0⟩ : ∃ w0, w0 = (w.alloc (.cells (dsCells x) tDs)).alloc (.cells (oc e0 M) tO) := ⟨_, rfl⟩
  have H0 : Hid (At w0 w.heap.size (dsCells x) tDs ∧ OAt w0 (w.heap.size + 1) e0 M ∧ Below w.heap.size w w0 ∧ w0.heap.size = w.heap.size + 2) := by
    refine ⟨by rw [hw0]; exact At.allocH (At.new _ _ _) _, ?_, by rw [hw0]; exact ((Below.refl _ _).alloc (Nat.le_refl _) _).alloc (by simp) _, by rw [hw0]; simp⟩
    have := At.new (w.alloc (.cells (dsCells x) tDs)) (oc e0 M) tO
    rw [show (w.alloc (.cells (dsCells x) tDs)).heap.size = w.heap.size + 1 by simp] at this
    rw [hw0]; exact this
  have z0 : w0.cell? ⟨w.heap.size + 1, 0, none⟩ = some (.bool e0) := by rw [At.cell H0.out.2.1]; exact oc_0 _ _
  have HB0 := H0.out.2.2.1
  have HA0 := H0.out.2.1
  subst he0
  have HE0 : Hid (sfP false M x = (!x.any && decide (grP M x.sg ≤ x.num))) := by show sfP false M x = _; unfold sfP; rw [if_neg (by decide), if_neg (by omega), if_pos k1]
  have HE : Hid (sfP false M x = decide (grP M x.sg ≤ x.num)) := by show _ = decide (grP M x.sg ≤ x.num); rw [HE0.out, ha]; rfl
  have HGr : Hid (∀ w1, Calls Tryd.prog 47 #[.agg (oc false M), v4 x.sg] w1 fun e w' => e = .returned (.int .i64 (grP M x.sg)) ∧ Below w1.heap.size w1 w') := fun w1 => o_greatest x.sg hx.sg hS
  have H2 : Hid (At w0.drew w.heap.size (dsCells x) tDs ∧ OAt w0.drew (w.heap.size + 1) false M ∧ Below w.heap.size w w0.drew) := ⟨H0.out.1, H0.out.2.1, H0.out.2.2.1.drew⟩
  have d2 : w0.drew.cell? ⟨w.heap.size, 2, none⟩ = some (.bool false) := by rw [← ha]; exact H0.out.1.cell 2
  have d3 : w0.drew.cell? ⟨w.heap.size, 3, none⟩ = some (.int .i64 (gAt x.sg 0)) := H0.out.1.cell 3
  have d4 : w0.drew.cell? ⟨w.heap.size, 4, none⟩ = some (.int .i64 (gAt x.sg 1)) := H0.out.1.cell 4
  have d5 : w0.drew.cell? ⟨w.heap.size, 5, none⟩ = some (.int .i64 (gAt x.sg 2)) := H0.out.1.cell 5
  have d6 : w0.drew.cell? ⟨w.heap.size, 6, none⟩ = some (.int .i64 (gAt x.sg 3)) := H0.out.1.cell 6
  have d7 : w0.drew.cell? ⟨w.heap.size, 7, none⟩ = some (.int .i64 x.num) := H0.out.1.cell 7
  have hl2 : w.heap.size < w0.drew.heap.size := by have := H0.out.1.lt; exact this
  clear H0 HE0 hS
  rw [hw0] at z0 HB0 HA0
  unfold dsCells at z0 HB0 HA0
  unfold dsv
  rw [k1, ha] at z0 HB0 ⊢
  unfold dsCells at hw0
  rw [k1, ha] at hw0
  generalize grP M x.sg = gr at *
  go_enter Tryd.func33, Tryd.ntmps33
  go_wp2_with fail
  refine wp_region_any (by kernel_rfl) ?_
  change wpAny _ _ _ _ _ _ _ (World.drew _)
  rw [← hw0]
  clear hw0 z0 HB0 HA0
  generalize w0.drew = w2 at *
  refine wpAny_take (i := 0) (v := .pointer (some ⟨w.heap.size, 2, none⟩)) rfl (by kernel_rfl) (by kernel_rfl) (by kernel_rfl) (fun _ _ _ h => h) (Or.inl ⟨by kernel_rfl, by intro w; go_simp⟩) ?_
  refine wpAny_ready (rs := [1]) (by kernel_rfl) (by simp) ?_
  refine AllReady.cons rfl (fun K hK => ?_) AllReady.nil
  go_simp
  refine hK _ _ ?_
  clear hK K
  refine wpAny_take (i := 2) (v := .bool true) rfl (by kernel_rfl) (by kernel_rfl) (by kernel_rfl) (fun _ _ _ h => h) (Or.inl ⟨by kernel_rfl, by intro w; go_simp⟩) ?_
  refine wpAny_take (i := 3) (v := .bool true) rfl (by kernel_rfl) (by kernel_rfl) (by kernel_rfl) (fun _ _ _ h => h) (Or.inl ⟨by kernel_rfl, by intro w; go_simp⟩) ?_
  refine wpAny_take (i := 5) (v := .pointer (some ⟨w.heap.size, 3, none⟩)) rfl (by kernel_rfl) (by kernel_rfl) (by kernel_rfl) (fun _ _ _ h => h) (Or.inl ⟨by kernel_rfl, by intro w; go_simp⟩) ?_
  refine wpAny_take (i := 8) (v := .pointer (some ⟨w.heap.size, 7, none⟩)) rfl (by kernel_rfl) (by kernel_rfl) (by kernel_rfl) (fun _ _ _ h => h) (Or.inl ⟨by kernel_rfl, by intro w; go_simp⟩) ?_
  refine wpAny_ready (rs := [4, 6, 9]) (by kernel_rfl) (by simp) ?_
  refine AllReady.cons rfl (fun K hK => ?_) (AllReady.cons rfl (fun K hK => ?_) (AllReady.cons rfl (fun K hK => ?_) AllReady.nil))
  · refine step_load_ow (by first | rfl | simp [Region.wanted, yielded]) (.tmp 3) rfl rfl H2.out.2.1 ?_
    refine hK _ _ ?_
    clear hK K
    refine wpAny_ready (rs := [6, 9]) (by kernel_rfl) (by simp) ?_
    refine AllReady.cons rfl (fun K hK => ?_) (AllReady.cons rfl (fun K hK => ?_) AllReady.nil)
    · go_simp
      refine hK _ _ ?_
      clear hK K
      refine wpAny_ready (rs := [7, 9]) (by kernel_rfl) (by simp) ?_
      refine AllReady.cons rfl (fun K hK => ?_) (AllReady.cons rfl (fun K hK => ?_) AllReady.nil)
      · go_simp
        go_wp2_with (go_at_call 47; refine (HGr.out _).mono ?_; rintro e w3 ⟨rfl, hb3⟩)
        have H3 : Hid (Below w.heap.size w w3) := H2.out.2.2.trans (hb3.mono H2.out.2.2.size)
        have f7 : w3.cell? ⟨w.heap.size, 7, none⟩ = some (.int .i64 x.num) := (hb3.cell (p := ⟨w.heap.size, 7, none⟩) hl2).trans d7
        clear hb3
        refine wpAny_ready (rs := [9]) (by kernel_rfl) (by simp) ?_
        refine AllReady.cons rfl (fun K hK => ?_) AllReady.nil
        go_simp
        refine hK _ _ ?_
        clear hK K
        refine wpAny_take (i := 10) (v := .bool (decide (gr ≤ x.num))) rfl (by kernel_rfl) (by kernel_rfl) (by kernel_rfl) (fun _ _ _ h => h) (Or.inl ⟨by kernel_rfl, by intro w; go_simp⟩) ?_
        refine wpAny_take (i := 11) (v := .bool (decide (gr ≤ x.num))) rfl (by kernel_rfl) (by kernel_rfl) (by kernel_rfl) (fun _ _ _ h => h) (Or.inl ⟨by kernel_rfl, by intro w; go_simp⟩) ?_
        refine wpAny_take (i := 12) (v := .bool (decide (gr ≤ x.num))) rfl (by kernel_rfl) (by kernel_rfl) (by kernel_rfl) (fun _ _ _ h => h) (Or.inl ⟨by kernel_rfl, by intro w; go_simp⟩) ?_
        refine wpAny_done (by kernel_rfl) ?_ _
        go_wp2_with fail
        go_ret
        exact ⟨ret_b' HE.out, H3.out⟩
      · go_simp
        refine hK _ _ ?_
        clear hK K
        refine wpAny_ready (rs := [7]) (by kernel_rfl) (by simp) ?_
        refine AllReady.cons rfl (fun K hK => ?_) AllReady.nil
        go_simp
        go_wp2_with (go_at_call 47; refine (HGr.out _).mono ?_; rintro e w3 ⟨rfl, hb3⟩)
        have H3 : Hid (Below w.heap.size w w3) := H2.out.2.2.trans (hb3.mono H2.out.2.2.size)
        have f7 : w3.cell? ⟨w.heap.size, 7, none⟩ = some (.int .i64 x.num) := (hb3.cell (p := ⟨w.heap.size, 7, none⟩) hl2).trans d7
        clear hb3
        refine wpAny_take (i := 10) (v := .bool (decide (gr ≤ x.num))) rfl (by kernel_rfl) (by kernel_rfl) (by kernel_rfl) (fun _ _ _ h => h) (Or.inl ⟨by kernel_rfl, by intro w; go_simp⟩) ?_
        refine wpAny_take (i := 11) (v := .bool (decide (gr ≤ x.num))) rfl (by kernel_rfl) (by kernel_rfl) (by kernel_rfl) (fun _ _ _ h => h) (Or.inl ⟨by kernel_rfl, by intro w; go_simp⟩) ?_
        refine wpAny_take (i := 12) (v := .bool (decide (gr ≤ x.num))) rfl (by kernel_rfl) (by kernel_rfl) (by kernel_rfl) (fun _ _ _ h => h) (Or.inl ⟨by kernel_rfl, by intro w; go_simp⟩) ?_
        refine wpAny_done (by kernel_rfl) ?_ _
        go_wp2_with fail
        go_ret
        exact ⟨ret_b' HE.out, H3.out⟩
    · go_simp
      refine hK _ _ ?_
      clear hK K
      refine wpAny_ready (rs := [6]) (by kernel_rfl) (by simp) ?_
      refine AllReady.cons rfl (fun K hK => ?_) AllReady.nil
      go_simp
      refine hK _ _ ?_
      clear hK K
      refine wpAny_ready (rs := [7]) (by kernel_rfl) (by simp) ?_
      refine AllReady.cons rfl (fun K hK => ?_) AllReady.nil
      go_simp
      go_wp2_with (go_at_call 47; refine (HGr.out _).mono ?_; rintro e w3 ⟨rfl, hb3⟩)
      have H3 : Hid (Below w.heap.size w w3) := H2.out.2.2.trans (hb3.mono H2.out.2.2.size)
      have f7 : w3.cell? ⟨w.heap.size, 7, none⟩ = some (.int .i64 x.num) := (hb3.cell (p := ⟨w.heap.size, 7, none⟩) hl2).trans d7
      clear hb3
      refine wpAny_take (i := 10) (v := .bool (decide (gr ≤ x.num))) rfl (by kernel_rfl) (by kernel_rfl) (by kernel_rfl) (fun _ _ _ h => h) (Or.inl ⟨by kernel_rfl, by intro w; go_simp⟩) ?_
      refine wpAny_take (i := 11) (v := .bool (decide (gr ≤ x.num))) rfl (by kernel_rfl) (by kernel_rfl) (by kernel_rfl) (fun _ _ _ h => h) (Or.inl ⟨by kernel_rfl, by intro w; go_simp⟩) ?_
      refine wpAny_take (i := 12) (v := .bool (decide (gr ≤ x.num))) rfl (by kernel_rfl) (by kernel_rfl) (by kernel_rfl) (fun _ _ _ h => h) (Or.inl ⟨by kernel_rfl, by intro w; go_simp⟩) ?_
      refine wpAny_done (by kernel_rfl) ?_ _
      go_wp2_with fail
      go_ret
      exact ⟨ret_b' HE.out, H3.out⟩
  · go_simp
    refine hK _ _ ?_
    clear hK K
    refine wpAny_ready (rs := [4, 9]) (by kernel_rfl) (by simp) ?_
    refine AllReady.cons rfl (fun K hK => ?_) (AllReady.cons rfl (fun K hK => ?_) AllReady.nil)
    · refine step_load_ow (by first | rfl | simp [Region.wanted, yielded]) (.tmp 3) rfl rfl H2.out.2.1 ?_
      refine hK _ _ ?_
      clear hK K
      refine wpAny_ready (rs := [7, 9]) (by kernel_rfl) (by simp) ?_
      refine AllReady.cons rfl (fun K hK => ?_) (AllReady.cons rfl (fun K hK => ?_) AllReady.nil)
      · go_simp
        go_wp2_with (go_at_call 47; refine (HGr.out _).mono ?_; rintro e w3 ⟨rfl, hb3⟩)
        have H3 : Hid (Below w.heap.size w w3) := H2.out.2.2.trans (hb3.mono H2.out.2.2.size)
        have f7 : w3.cell? ⟨w.heap.size, 7, none⟩ = some (.int .i64 x.num) := (hb3.cell (p := ⟨w.heap.size, 7, none⟩) hl2).trans d7
        clear hb3
        refine wpAny_ready (rs := [9]) (by kernel_rfl) (by simp) ?_
        refine AllReady.cons rfl (fun K hK => ?_) AllReady.nil
        go_simp
        refine hK _ _ ?_
        clear hK K
        refine wpAny_take (i := 10) (v := .bool (decide (gr ≤ x.num))) rfl (by kernel_rfl) (by kernel_rfl) (by kernel_rfl) (fun _ _ _ h => h) (Or.inl ⟨by kernel_rfl, by intro w; go_simp⟩) ?_
        refine wpAny_take (i := 11) (v := .bool (decide (gr ≤ x.num))) rfl (by kernel_rfl) (by kernel_rfl) (by kernel_rfl) (fun _ _ _ h => h) (Or.inl ⟨by kernel_rfl, by intro w; go_simp⟩) ?_
        refine wpAny_take (i := 12) (v := .bool (decide (gr ≤ x.num))) rfl (by kernel_rfl) (by kernel_rfl) (by kernel_rfl) (fun _ _ _ h => h) (Or.inl ⟨by kernel_rfl, by intro w; go_simp⟩) ?_
        refine wpAny_done (by kernel_rfl) ?_ _
        go_wp2_with fail
        go_ret
        exact ⟨ret_b' HE.out, H3.out⟩
      · go_simp
        refine hK _ _ ?_
        clear hK K
        refine wpAny_ready (rs := [7]) (by kernel_rfl) (by simp) ?_
        refine AllReady.cons rfl (fun K hK => ?_) AllReady.nil
        go_simp
        go_wp2_with (go_at_call 47; refine (HGr.out _).mono ?_; rintro e w3 ⟨rfl, hb3⟩)
        have H3 : Hid (Below w.heap.size w w3) := H2.out.2.2.trans (hb3.mono H2.out.2.2.size)
        have f7 : w3.cell? ⟨w.heap.size, 7, none⟩ = some (.int .i64 x.num) := (hb3.cell (p := ⟨w.heap.size, 7, none⟩) hl2).trans d7
        clear hb3
        refine wpAny_take (i := 10) (v := .bool (decide (gr ≤ x.num))) rfl (by kernel_rfl) (by kernel_rfl) (by kernel_rfl) (fun _ _ _ h => h) (Or.inl ⟨by kernel_rfl, by intro w; go_simp⟩) ?_
        refine wpAny_take (i := 11) (v := .bool (decide (gr ≤ x.num))) rfl (by kernel_rfl) (by kernel_rfl) (by kernel_rfl) (fun _ _ _ h => h) (Or.inl ⟨by kernel_rfl, by intro w; go_simp⟩) ?_
        refine wpAny_take (i := 12) (v := .bool (decide (gr ≤ x.num))) rfl (by kernel_rfl) (by kernel_rfl) (by kernel_rfl) (fun _ _ _ h => h) (Or.inl ⟨by kernel_rfl, by intro w; go_simp⟩) ?_
        refine wpAny_done (by kernel_rfl) ?_ _
        go_wp2_with fail
        go_ret
        exact ⟨ret_b' HE.out, H3.out⟩
    · go_simp
      refine hK _ _ ?_
      clear hK K
      refine wpAny_ready (rs := [4]) (by kernel_rfl) (by simp) ?_
      refine AllReady.cons rfl (fun K hK => ?_) AllReady.nil
      refine step_load_ow (by first | rfl | simp [Region.wanted, yielded]) (.tmp 3) rfl rfl H2.out.2.1 ?_
      refine hK _ _ ?_
      clear hK K
      refine wpAny_ready (rs := [7]) (by kernel_rfl) (by simp) ?_
      refine AllReady.cons rfl (fun K hK => ?_) AllReady.nil
      go_simp
      go_wp2_with (go_at_call 47; refine (HGr.out _).mono ?_; rintro e w3 ⟨rfl, hb3⟩)
      have H3 : Hid (Below w.heap.size w w3) := H2.out.2.2.trans (hb3.mono H2.out.2.2.size)
      have f7 : w3.cell? ⟨w.heap.size, 7, none⟩ = some (.int .i64 x.num) := (hb3.cell (p := ⟨w.heap.size, 7, none⟩) hl2).trans d7
      clear hb3
      refine wpAny_take (i := 10) (v := .bool (decide (gr ≤ x.num))) rfl (by kernel_rfl) (by kernel_rfl) (by kernel_rfl) (fun _ _ _ h => h) (Or.inl ⟨by kernel_rfl, by intro w; go_simp⟩) ?_
      refine wpAny_take (i := 11) (v := .bool (decide (gr ≤ x.num))) rfl (by kernel_rfl) (by kernel_rfl) (by kernel_rfl) (fun _ _ _ h => h) (Or.inl ⟨by kernel_rfl, by intro w; go_simp⟩) ?_
      refine wpAny_take (i := 12) (v := .bool (decide (gr ≤ x.num))) rfl (by kernel_rfl) (by kernel_rfl) (by kernel_rfl) (fun _ _ _ h => h) (Or.inl ⟨by kernel_rfl, by intro w; go_simp⟩) ?_
      refine wpAny_done (by kernel_rfl) ?_ _
      go_wp2_with fail
      go_ret
      exact ⟨ret_b' HE.out, H3.out⟩
  · go_simp
    refine hK _ _ ?_
    clear hK K
    refine wpAny_ready (rs := [4, 6]) (by kernel_rfl) (by simp) ?_
    refine AllReady.cons rfl (fun K hK => ?_) (AllReady.cons rfl (fun K hK => ?_) AllReady.nil)
    · refine step_load_ow (by first | rfl | simp [Region.wanted, yielded]) (.tmp 3) rfl rfl H2.out.2.1 ?_
      refine hK _ _ ?_
      clear hK K
      refine wpAny_ready (rs := [6]) (by kernel_rfl) (by simp) ?_
      refine AllReady.cons rfl (fun K hK => ?_) AllReady.nil
      go_simp
      refine hK _ _ ?_
      clear hK K
      refine wpAny_ready (rs := [7]) (by kernel_rfl) (by simp) ?_
      refine AllReady.cons rfl (fun K hK => ?_) AllReady.nil
      go_simp
      go_wp2_with (go_at_call 47; refine (HGr.out _).mono ?_; rintro e w3 ⟨rfl, hb3⟩)
      have H3 : Hid (Below w.heap.size w w3) := H2.out.2.2.trans (hb3.mono H2.out.2.2.size)
      have f7 : w3.cell? ⟨w.heap.size, 7, none⟩ = some (.int .i64 x.num) := (hb3.cell (p := ⟨w.heap.size, 7, none⟩) hl2).trans d7
      clear hb3
      refine wpAny_take (i := 10) (v := .bool (decide (gr ≤ x.num))) rfl (by kernel_rfl) (by kernel_rfl) (by kernel_rfl) (fun _ _ _ h => h) (Or.inl ⟨by kernel_rfl, by intro w; go_simp⟩) ?_
      refine wpAny_take (i := 11) (v := .bool (decide (gr ≤ x.num))) rfl (by kernel_rfl) (by kernel_rfl) (by kernel_rfl) (fun _ _ _ h => h) (Or.inl ⟨by kernel_rfl, by intro w; go_simp⟩) ?_
      refine wpAny_take (i := 12) (v := .bool (decide (gr ≤ x.num))) rfl (by kernel_rfl) (by kernel_rfl) (by kernel_rfl) (fun _ _ _ h => h) (Or.inl ⟨by kernel_rfl, by intro w; go_simp⟩) ?_
      refine wpAny_done (by kernel_rfl) ?_ _
      go_wp2_with fail
      go_ret
      exact ⟨ret_b' HE.out, H3.out⟩
    · go_simp
      refine hK _ _ ?_
      clear hK K
      refine wpAny_ready (rs := [4]) (by kernel_rfl) (by simp) ?_
      refine AllReady.cons rfl (fun K hK => ?_) AllReady.nil
      refine step_load_ow (by first | rfl | simp [Region.wanted, yielded]) (.tmp 3) rfl rfl H2.out.2.1 ?_
      refine hK _ _ ?_
      clear hK K
      refine wpAny_ready (rs := [7]) (by kernel_rfl) (by simp) ?_
      refine AllReady.cons rfl (fun K hK => ?_) AllReady.nil
      go_simp
      go_wp2_with (go_at_call 47; refine (HGr.out _).mono ?_; rintro e w3 ⟨rfl, hb3⟩)
      have H3 : Hid (Below w.heap.size w w3) := H2.out.2.2.trans (hb3.mono H2.out.2.2.size)
      have f7 : w3.cell? ⟨w.heap.size, 7, none⟩ = some (.int .i64 x.num) := (hb3.cell (p := ⟨w.heap.size, 7, none⟩) hl2).trans d7
      clear hb3
      refine wpAny_take (i := 10) (v := .bool (decide (gr ≤ x.num))) rfl (by kernel_rfl) (by kernel_rfl) (by kernel_rfl) (fun _ _ _ h => h) (Or.inl ⟨by kernel_rfl, by intro w; go_simp⟩) ?_
      refine wpAny_take (i := 11) (v := .bool (decide (gr ≤ x.num))) rfl (by kernel_rfl) (by kernel_rfl) (by kernel_rfl) (fun _ _ _ h => h) (Or.inl ⟨by kernel_rfl, by intro w; go_simp⟩) ?_
      refine wpAny_take (i := 12) (v := .bool (decide (gr ≤ x.num))) rfl (by kernel_rfl) (by kernel_rfl) (by kernel_rfl) (fun _ _ _ h => h) (Or.inl ⟨by kernel_rfl, by intro w; go_simp⟩) ?_
      refine wpAny_done (by kernel_rfl) ?_ _
      go_wp2_with fail
      go_ret
      exact ⟨ret_b' HE.out, H3.out⟩

end Go.Proofs.YtffajooegiempabDoor

namespace Go.Proofs.YtffajooegiempabDoor
open Go.RowKit
variable {w : World} {e0 : Bool} {M : Nat → Int} {b : Nat}

set_option maxRecDepth 100000 in
set_option maxHeartbeats 3200000 in
theorem e_safe (x : Ds) (hx : DsG x) (hS : Sm M) :
    Calls Tryd.prog 33 #[dsv x, .agg (oc e0 M)] w fun e w' => e = .returned (.bool (sfP e0 M x)) ∧ Below w.heap.size w w' := by
  obtain ⟨w0, hw0⟩ : ∃ w0, w0 = (w.alloc (.cells (dsCells x) tDs)).alloc (.cells (oc e0 M) tO) := ⟨_, rfl⟩
  have H0 : Hid (At w0 w.heap.size (dsCells x) tDs ∧ OAt w0 (w.heap.size + 1) e0 M ∧ Below w.heap.size w w0 ∧ w0.heap.size = w.heap.size + 2) := by
    refine ⟨by rw [hw0]; exact At.allocH (At.new _ _ _) _, ?_, by rw [hw0]; exact ((Below.refl _ _).alloc (Nat.le_refl _) _).alloc (by simp) _, by rw [hw0]; simp⟩
    have := At.new (w.alloc (.cells (dsCells x) tDs)) (oc e0 M) tO
    rw [show (w.alloc (.cells (dsCells x) tDs)).heap.size = w.heap.size + 1 by simp] at this
    rw [hw0]; exact this
  have z0 : w0.cell? ⟨w.heap.size + 1, 0, none⟩ = some (.bool e0) := by rw [At.cell H0.out.2.1]; exact oc_0 _ _
  have HB0 := H0.out.2.2.1
  have HA0 := H0.out.2.1
  cases e0 with
  | true =>
    have HE : Hid (sfP true M x = true) := rfl
    clear H0
    rw [hw0] at z0 HB0 HA0
    unfold dsCells at z0 HB0 HA0
    unfold dsv
    clear hw0
    go_enter Tryd.func33, Tryd.ntmps33
    go_wp2_with fail
    go_ret
    exact ⟨ret_b' HE.out, HB0⟩
  | false =>
  by_cases k0 : x.kind = 0
  · have HE0 : Hid (sfP false M x = (x.any || ftB M x.sg x.num)) := by show sfP false M x = _; unfold sfP; rw [if_neg (by decide), if_pos k0]
    cases ha : x.any with
    | true =>
      have HE : Hid (sfP false M x = true) := by show _ = true; rw [HE0.out, ha]; rfl
      clear H0 HE0
      rw [hw0] at z0 HB0 HA0
      unfold dsCells at z0 HB0 HA0
      unfold dsv
      clear hw0
      rw [k0, ha] at z0 HB0 ⊢
      go_enter Tryd.func33, Tryd.ntmps33
      go_wp2_with fail
      go_ret
      exact ⟨ret_b' HE.out, HB0⟩
    | false =>
      have HE : Hid (sfP false M x = ftB M x.sg x.num) := by show _ = ftB M x.sg x.num; rw [HE0.out, ha]; rfl
      obtain ⟨BW, hBW⟩ : ∃ BW : World → Prop, BW = fun w' => Below w0.heap.size w0 w' := ⟨_, rfl⟩
      have hf : Calls Tryd.prog 46 #[dsv x, .agg (oc false M)] w0 fun e w' => e = .returned (.bool (ftB M x.sg x.num)) ∧ BW w' := by rw [hBW]; exact e_fits x hx hS
      rw [hw0] at hf
      clear HE0 hS
      rw [hw0] at z0 HB0 HA0
      unfold dsCells at z0 HB0 HA0
      unfold dsv
      unfold dsv dsCells at hf
      generalize ftB M x.sg x.num = fb at *
      rw [k0, ha] at z0 HB0 HA0 hf ⊢
      go_enter Tryd.func33, Tryd.ntmps33
      go_wp2_with (refine wpList_load_ow (by first | rfl | simp [Region.wanted, yielded]) (.tmp 3) rfl rfl HA0 ?_)
      refine hf.mono ?_
      rintro e w1 ⟨rfl, hb1⟩
      rw [hBW] at hb1
      have H1 : Hid (Below w.heap.size w w1) := H0.out.2.2.1.trans (hb1.mono H0.out.2.2.1.size)
      clear hb1 hBW hf HA0 HB0 z0 hw0
      go_wp2_with fail
      go_ret
      exact ⟨ret_b' HE.out, H1.out⟩
  by_cases k1 : x.kind = 1
  · cases ha : x.any with
    | true => exact e_safe_t x k1 ha
    | false => exact e_safe_f x hx k1 ha hS
  · have HE : Hid (sfP false M x = true) := by show sfP false M x = _; unfold sfP; rw [if_neg (by decide), if_neg k0, if_neg k1]
    have b0 : (x.kind == 0) = false := by simpa using k0
    have b1 : (x.kind == 1) = false := by simpa using k1
    clear H0
    rw [hw0] at z0 HB0 HA0
    unfold dsCells at z0 HB0 HA0
    unfold dsv
    clear hw0 k0 k1
    go_enter Tryd.func33, Tryd.ntmps33
    go_wp2_with fail
    go_ret
    exact ⟨ret_b' HE.out, HB0⟩

end Go.Proofs.YtffajooegiempabDoor

namespace Go.Proofs.YtffajooegiempabDoor
open Go.RowKit
variable {w w' : World} {g cap : Nat} {F : List Ds}

theorem flat_get : ∀ (F : List Ds) (j o : Nat) (x : Ds), F[j]? = some x → o < 10 → (flat F)[j * 10 + o]? = (dsCells x).toList[o]? := by
  intro F
  induction F with
  | nil => intro j o x h; simp at h
  | cons y F ih =>
    intro j o x h ho
    have hl : (dsCells y).toList.length = 10 := rfl
    show ((dsCells y).toList ++ flat F)[j * 10 + o]? = _
    cases j with
    | zero =>
      simp at h
      subst h
      rw [List.getElem?_append_left (by rw [hl]; omega)]
      congr 1; omega
    | succ j =>
      rw [List.getElem?_append_right (by rw [hl]; omega), hl]
      rw [show (j + 1) * 10 + o - 10 = j * 10 + o by omega]
      exact ih j o x (by simpa using h) ho

theorem prow_of {B n : Nat} (h : w.ownsRow B tDs 10 (.slice (some ⟨g, 0, none⟩) n cap) n (flat F)) (hn : F.length = n) (hlt : g < w.heap.size) : PRow w g F := by
  refine ⟨hlt, fun j x hx => ?_⟩
  have hj : j < n := by
    rw [← hn]
    rcases Nat.lt_or_ge j F.length with h' | h'
    · exact h'
    · simp [List.getElem?_eq_none h'] at hx
  have hc : ∀ o, o < 10 → w.cell? ⟨g, j * 10 + o, none⟩ = (dsCells x).toList[o]? := fun o ho => by
    rw [h.cellAt (j * 10 + o) (by omega), flat_get F j o x hx ho]
  exact ⟨hc 0 (by omega), hc 1 (by omega), hc 2 (by omega), hc 3 (by omega), hc 4 (by omega), hc 5 (by omega), hc 6 (by omega), hc 7 (by omega), hc 8 (by omega), hc 9 (by omega)⟩

end Go.Proofs.YtffajooegiempabDoor

/- The two readers come to the same: the program's steps held against the machine. -/
namespace Go.Proofs.YtffajooegiempabDoor
variable {s : ByteArray} {d : Nat × Bool} {m m' : Rd}

/-- The program's reader goes on, and the machine has read as much. -/
structure Sync (s : ByteArray) (d : Nat × Bool) (m : Rd) : Prop where
  ns : d.2 = false
  le : d.1 ≤ s.size
  fd : feed init ((bytesOf s).take d.1) = some m

/-- The program's reader is stuck, and the machine can go no further, or the text ends where no program ends. -/
structure Dead (s : ByteArray) (d : Nat × Bool) : Prop where
  st : d.2 = true
  ex : ∃ m, feed init ((bytesOf s).take d.1) = some m ∧ d.1 ≤ s.size ∧ (d.1 < s.size → byteStep m ((bytesOf s).getD d.1 0) = none) ∧ (d.1 = s.size → isDone m = false)

def Res (s : ByteArray) (d : Nat × Bool) (Q : Rd → Prop) : Prop := Dead s d ∨ ∃ m', Sync s d m' ∧ Q m'

theorem Res.mono {Q R : Rd → Prop} (h : Res s d Q) (k : ∀ m', Sync s d m' → Q m' → R m') : Res s d R := by
  rcases h with h | ⟨m', h, q⟩
  · exact .inl h
  · exact .inr ⟨m', h, k m' h q⟩

theorem Sync.aok (h : Sync s d m) : Ok m := Ok.init.feed h.fd
theorem Sync.apk (h : Sync s d m) : pk s d = (bytesOf s).getD d.1 0 := by unfold pk; rw [h.ns]; rfl
theorem Dead.dpk (h : Dead s d) : pk s d = 0 := by unfold pk; rw [h.st]; rfl
theorem Dead.dstk (h : Dead s d) : stk d = d := by unfold stk; rw [← h.st]

theorem Sync.aadv (h : Sync s d m) (hne : pk s d ≠ 0) (hb : byteStep m (pk s d) = some m') : Sync s (adv d) m' := by
  have hlt := (pk_lt rfl hne).1
  refine ⟨h.ns, by show d.1 + 1 ≤ _; omega, ?_⟩
  show feed init ((bytesOf s).take (d.1 + 1)) = some m'
  rw [h.apk, List.getD_eq_getElem?_getD, bytesOf_get s d.1 hlt] at hb
  rw [bytesOf_take s d.1 hlt, feed_snoc, h.fd]
  exact hb

theorem Sync.adead (h : Sync s d m) (hb : byteStep m (pk s d) = none) (hnd : d.1 = s.size → isDone m = false) : Dead s (stk d) :=
  ⟨rfl, m, h.fd, h.le, fun _ => by rw [h.apk] at hb; exact hb, hnd⟩

theorem Dead.dnd (h : Dead s d) {c : Int} (hc : c ≠ 0) : nd s d c = d := by
  unfold nd; rw [if_neg (by rw [h.dpk]; exact fun e => hc e.symm)]; exact h.dstk
theorem Dead.dSign (h : Dead s d) : rSign s d = (1, d) := by unfold rSign; rw [if_neg (by rw [h.dpk]; decide)]
theorem varOf_zero : varOf 0 = -1 := by decide
theorem Dead.dVar (h : Dead s d) (x : Int) : rVar s d x = (0, d) := by unfold rVar; rw [if_pos (.inl (by rw [h.dpk]; exact varOf_zero)), h.dstk]
theorem Dead.dNum (h : Dead s d) (x : Int) : rNum s d x = (0, d) := by unfold rNum; rw [if_neg (by rw [h.dpk]; simp), if_pos (by rw [h.dpk]; decide), h.dstk]
theorem Dead.dValue (h : Dead s d) (x : Ds) : (rValue s d x).2 = d := by
  unfold rValue; rw [if_neg (by rw [h.dpk]; decide), h.dSign, if_pos (by show varOf (pk s d) = -1; rw [h.dpk]; exact varOf_zero)]
  show (rNum s d 1).2 = d
  rw [h.dNum]
theorem Dead.dSecond (h : Dead s d) (x : Ds) (f : Int) : (rSecond s d x f).2 = d := by unfold rSecond; rw [if_neg (by rw [h.dpk]; decide)]
theorem Dead.dCond (h : Dead s d) (x : Ds) : (rCond s d x).2 = d := by
  unfold rCond; rw [if_neg (by rw [h.dpk]; decide), h.dSign]
  simp only
  rw [h.dVar]
  simp only
  rw [h.dSecond, h.dnd (by decide), h.dnd (by decide), h.dSign]
  simp only
  rw [h.dNum]

/-- A byte that must stand here. -/
theorem Sync.aneed (h : Sync s d m) {c : Int} (hc : c ≠ 0) (hy : pk s d = c → byteStep m c = some m') (hn : pk s d ≠ c → byteStep m (pk s d) = none) (hnd : isDone m = false) : Res s (nd s d c) (fun x => x = m') := by
  by_cases e : pk s d = c
  · have : nd s d c = adv d := if_pos e
    rw [this]
    exact .inr ⟨m', h.aadv (by rw [e]; exact hc) (by rw [e]; exact hy e), rfl⟩
  · have : nd s d c = stk d := if_neg e
    rw [this]
    exact .inl (h.adead (hn e) (fun _ => hnd))

theorem notDone (h : m.state ≠ 115) : isDone m = false := by unfold isDone; simp [h]

theorem byte_110 (h : m.state = 110) (c : Int) : byteStep m c = if c = 59 then some (valueEnd m) else digitStep m c false 110 := by
  unfold byteStep valueStep; rw [h, if_neg (by decide), if_neg (by decide), if_pos (by decide), if_neg (by decide), if_neg (by decide), if_neg (by decide), if_neg (by decide)]

/-- Behind a number that can have no digit more: the end of the statement. -/
theorem Sync.valEnd (h : Sync s d m) (hs : m.state = 110) (hno : ¬ (48 ≤ pk s d ∧ pk s d ≤ 57) ∨ m.dig = 2 ∨ (m.dig = 1 ∧ (cur m).num = 0)) : Res s (nd s d 59) (fun x => x = valueEnd m) := by
  refine h.aneed (by decide) (fun _ => by rw [byte_110 hs, if_pos rfl]) (fun e => ?_) (notDone (by rw [hs]; decide))
  rw [byte_110 hs, if_neg e]
  simp only [digitStep]
  rw [if_pos hs, if_pos hs, if_pos]
  omega

theorem digit_new {c x : Int} {pos : Bool} (hs : m.state ≠ x) (hc : 48 ≤ c ∧ c ≤ 57) (hp : ¬ (pos = true ∧ c = 48)) : digitStep m c pos x = some { setCur m { cur m with num := c - 48 } with dig := 1, state := x } := by
  simp only [digitStep]
  rw [if_neg hs, if_neg hs, if_neg (by
    rintro (a | a | a | a | a)
    · omega
    · omega
    · omega
    · omega
    · exact hp a)]
  have : (10 : Int) * 0 + (c - 48) = c - 48 := by omega
  rw [this]; rfl
theorem digit_more {c x u : Int} (hs : m.state = x) (hd : m.dig = 1) (hu : (cur m).num = u) (hu0 : u ≠ 0) (hc : 48 ≤ c ∧ c ≤ 57) : digitStep m c false x = some { setCur m { cur m with num := 10 * u + (c - 48) } with dig := 2, state := x } := by
  simp only [digitStep]
  rw [if_pos hs, if_pos hs, hd, hu, if_neg (by
    rintro (a | a | a | a | a)
    · omega
    · omega
    · omega
    · omega
    · simp at a)]
  rfl
theorem digit_bad {c x : Int} {pos : Bool} (hc : c < 48 ∨ 57 < c ∨ (pos = true ∧ c = 48)) : digitStep m c pos x = none := by
  simp only [digitStep]
  rw [if_pos]
  rcases hc with a | a | a
  · exact .inl a
  · exact .inr (.inl a)
  · exact .inr (.inr (.inr (.inr a)))

theorem setCur_two (m : Rd) (a b : St) : (setCur (setCur m a) b).st = (setCur m b).st := by simp [setCur]

/-- A number of a value, and the end of the statement. -/
theorem Sync.numVal (h : Sync s d m) {m0 : Rd} {pos : Bool} {sg : Int} (hb : byteStep m (pk s d) = digitStep m0 (pk s d) pos 110) (hs : m0.state ≠ 110) (hn : 0 < m0.st.length) (hsg : (sg = 1 ∧ pos = false) ∨ (sg = -1 ∧ pos = true)) (hnd : isDone m = false) :
    Res s (nd s (rNum s d sg).2 59) (fun x => x.state = 115 ∧ x.op = m0.op ∧ x.st = (setCur m0 { cur m0 with num := m0.sign * (sg * (rNum s d sg).1) }).st) := by
  have hsq : ∀ n : Int, sg * (sg * n) = n := by
    intro n
    rcases hsg with ⟨rfl, _⟩ | ⟨rfl, _⟩ <;> omega
  have hcs := cur_setCur' hn
  by_cases hz : pk s d = 48 ∧ 0 < sg
  · have e : rNum s d sg = (0, adv d) := if_pos hz
    rw [e]
    have hp : pos = false := by
      rcases hsg with h | h
      · exact h.2
      · omega
    rw [digit_new hs (by omega) (by rw [hp]; simp)] at hb
    have h1 := h.aadv (by omega) hb
    refine (h1.valEnd rfl (.inr (.inr ⟨rfl, ?_⟩))).mono ?_
    · show (cur (setCur m0 _)).num = 0
      rw [hcs]; show pk s d - 48 = 0; omega
    · rintro m' - rfl
      refine ⟨rfl, rfl, ?_⟩
      show (setCur (setCur m0 _) _).st = _
      rw [setCur_two]
      show (setCur m0 { cur (setCur m0 _) with num := m0.sign * (cur (setCur m0 _)).num }).st = _
      rw [hcs]
      have : pk s d - 48 = 0 := by omega
      simp only [this]
      simp
  by_cases hbad : pk s d < 49 ∨ 57 < pk s d
  · have e : rNum s d sg = (0, stk d) := by unfold rNum; rw [if_neg hz, if_pos hbad]
    rw [e]
    have hd : Dead s (stk d) := by
      refine h.adead ?_ (fun _ => hnd)
      rw [hb]
      refine digit_bad ?_
      by_cases h48 : pk s d = 48
      · refine .inr (.inr ⟨?_, h48⟩)
        rcases hsg with h' | h'
        · exact absurd ⟨h48, by omega⟩ hz
        · exact h'.2
      · omega
    show Res s (nd s (stk d) 59) _
    rw [hd.dnd (by decide)]
    exact .inl hd
  rw [digit_new hs (by omega) (by omega)] at hb
  have h1 := h.aadv (by omega) hb
  have hn1 : (cur { setCur m0 { cur m0 with num := pk s d - 48 } with dig := 1, state := 110 }).num = pk s d - 48 := by
    show (cur (setCur m0 _)).num = _
    rw [hcs]
  by_cases h2 : 48 ≤ pk s (adv d) ∧ pk s (adv d) ≤ 57
  · have e : rNum s d sg = (sg * (10 * (pk s d - 48) + (pk s (adv d) - 48)), adv (adv d)) := by unfold rNum; rw [if_neg hz, if_neg hbad, if_pos h2]
    rw [e]
    have hb2 := byte_110 (m := { setCur m0 { cur m0 with num := pk s d - 48 } with dig := 1, state := 110 }) rfl (pk s (adv d))
    rw [if_neg (by omega), digit_more rfl rfl hn1 (by omega) h2] at hb2
    have h3 := h1.aadv (by omega) hb2
    refine (h3.valEnd rfl (.inr (.inl rfl))).mono ?_
    rintro m' - rfl
    refine ⟨rfl, rfl, ?_⟩
    have hl1 : 0 < (setCur m0 { cur m0 with num := pk s d - 48 }).st.length := by rw [setCur_len]; exact hn
    show (setCur (setCur (setCur m0 _) _) { cur (setCur (setCur m0 _) _) with num := m0.sign * (cur (setCur (setCur m0 _) _)).num }).st = _
    rw [setCur_two, setCur_two, cur_setCur' hl1]
    show (setCur m0 { cur (setCur m0 { cur m0 with num := pk s d - 48 }) with num := m0.sign * (10 * (pk s d - 48) + (pk s (adv d) - 48)) }).st = _
    rw [hcs, hsq]
  · have e : rNum s d sg = (sg * (pk s d - 48), adv d) := by unfold rNum; rw [if_neg hz, if_neg hbad, if_neg h2]
    rw [e]
    refine (h1.valEnd rfl (.inl h2)).mono ?_
    rintro m' - rfl
    refine ⟨rfl, rfl, ?_⟩
    show (setCur (setCur m0 _) { cur (setCur m0 _) with num := m0.sign * (cur (setCur m0 _)).num }).st = _
    rw [setCur_two, hcs, hsq]

end Go.Proofs.YtffajooegiempabDoor

