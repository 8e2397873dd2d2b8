import Derived.Test.YtffajooegiempabDoorJ1
namespace Go.Proofs.YtffajooegiempabDoor
open Go.RowKit
variable {w : World} {b : Nat} {e0 : Bool} {M : Nat → Int}

theorem Tryd.infoNo : (Tryd.prog.info? tNo).map (fun i => (i.zero, i.size, i.bytes)) = some (some (.int .i64 0), 1, 8) := by kernel_rfl
/-- What comes out as a list. -/
def bdL (M : Nat → Int) : List Int := (List.range 32).map (bd M)
def LSays (w : World) (e : Bool) (M : Nat → Int) : Ending → World → Prop := fun x w' => Below w.heap.size w w' ∧
  ((e = true ∧ x = .returned (.slice none 0 0)) ∨ (e = false ∧ ∃ g, x = .returned (.slice (some ⟨g, 0, none⟩) 32 32) ∧ w.heap.size ≤ g ∧ At w' g (ic (bdL M)) tNo))

set_option maxRecDepth 100000 in
set_option maxHeartbeats 1600000 in
theorem o_list (hG : Glob w) (hS : Sm M) : Calls Tryd.prog 25 #[.agg (oc e0 M)] w (LSays w e0 M) := by
  have hcz : (w.alloc (.cells (oc e0 M) tO)).cell? ⟨w.heap.size, 0, none⟩ = some (.bool e0) := by
    rw [At.cell (At.new w (oc e0 M) tO)]; exact oc_0 _ _
  have hgs := hG.size
  have HG : Hid (Glob w) := hG
  have HS : Hid (Sm M) := hS
  have HB0 : Hid (∀ o, Below w.heap.size w (w.alloc o)) := fun o => (Below.refl _ _).alloc (Nat.le_refl _) _
  have HA0 : Hid (OAt (w.alloc (.cells (oc e0 M) tO)) w.heap.size e0 M) := At.new _ _ _
  cases e0 with
  | true =>
    clear hG hS
    go_enter Tryd.func25, Tryd.ntmps25
    go_wp2_with fail
    go_ret
    exact ⟨HB0.out _, .inl ⟨rfl, rfl⟩⟩
  | false =>
    obtain ⟨i0, hi0, hz0, hz1, hz2⟩ := info_parts Tryd.infoNo
    have hmk : ∀ w, (Instr.makeSlice 22 (.int .i64 0) (.int .i64 32)).run Tryd.prog w = .ok (.slice (some ⟨w.heap.size, 0, none⟩) 0 32) (w.alloc (.cells (ic (List.replicate 32 0)) tNo)) := fun _ => by kernel_rfl
    have hown0 := World.ownsRow_made (base := w.heap.size + 1) (e := tNo) (size := 1) (w.alloc (.cells (oc false M) tO)) (ic (List.replicate 32 0)) 32 (by simp) (by decide) rfl
    rw [show (w.alloc (.cells (oc false M) tO)).heap.size = w.heap.size + 1 by simp] at hown0
    have HOw : Hid (World.ownsRow _ _ _ _ _ _ _) := hown0
    have HBd : Hid (∀ (wr : World) (f : Nat), f < 32 → Below w.heap.size w wr → Calls Tryd.prog 42 #[.agg (oc false M), .int .i64 (f : Int)] wr fun e w' => e = .returned (.int .i64 (bd M f)) ∧ Below wr.heap.size wr w') := fun wr f hf hb => o_bound (HG.out.keep hb hgs) f hf HS.out
    have HA1 : Hid (OAt ((w.alloc (.cells (oc false M) tO)).alloc (.cells (ic (List.replicate 32 0)) tNo)) w.heap.size false M) := At.allocH HA0.out _
    have HB1 : Hid (Below w.heap.size w ((w.alloc (.cells (oc false M) tO)).alloc (.cells (ic (List.replicate 32 0)) tNo))) := (HB0.out _).alloc (by simp) _
    clear hG hS hown0
    generalize ic (List.replicate 32 0) = zs at *
    go_enter Tryd.func25, Tryd.ntmps25
    go_wp2_with fail
    go_loopw [3, 4] (fun sl i wr => ∃ (q : Nat), q ≤ 32 ∧ i = .int .i64 q ∧ sl = .slice (some ⟨w.heap.size + 1, 0, none⟩) q 32 ∧ Hid (wr.ownsRow (w.heap.size + 1) tNo 1 (.slice (some ⟨w.heap.size + 1, 0, none⟩) q 32) q ((List.range q).map fun i => .int .i64 (bd M i)) ∧ OAt wr w.heap.size false M ∧ Below w.heap.size w wr ∧ w.heap.size + 2 ≤ wr.heap.size)) (fun _ i _ => 32 - (intOf i).toNat)
    case atStart => exact ⟨0, by omega, rfl, rfl, HOw.out, HA1.out, HB1.out, by simp⟩
    case round =>
      obtain ⟨q, hq, rfl, rfl, HQ⟩ := hrel
      by_cases hlt : q < 32
      · have hqi : (q : Int) < 32 := by omega
        have hbd := HBd.out wr q hlt HQ.out.2.2.1
        go_wp2_with (refine wpList_load_o (e0 := false) (M := M) rfl (.tmp 1) rfl rfl HQ.out.2.1 ?_)
        refine hbd.mono ?_
        rintro e w3 ⟨rfl, hb3⟩
        have H3 : Hid (w3.ownsRow (w.heap.size + 1) tNo 1 (.slice (some ⟨w.heap.size + 1, 0, none⟩) q 32) q ((List.range q).map fun i => .int .i64 (bd M i)) ∧ OAt w3 w.heap.size false M ∧ Below w.heap.size w w3 ∧ w.heap.size + 2 ≤ w3.heap.size) := by
          have hsz := HQ.out.2.2.2
          refine ⟨?_, At.keep HQ.out.2.1 hb3 (by omega), HQ.out.2.2.1.trans (hb3.mono (by omega)), Nat.le_trans hsz hb3.size⟩
          obtain ⟨h1, h2⟩ := HQ.out.1
          refine ⟨h1, ?_⟩
          rcases h2 with h2 | ⟨g, cap, c, hv, hg, hh, r⟩
          · exact .inl h2
          · cases hv
            exact .inr ⟨_, _, c, rfl, hg, by rw [hb3.block _ (by omega)]; exact hh, r⟩
        clear hb3 hbd
        obtain ⟨x, hx⟩ : ∃ x, x = bd M q := ⟨_, rfl⟩
        rw [← hx]
        have HX : Hid (x = bd M q) := hx
        clear hx
        go_wp2_with (at_builtin; refine wpList_append_fits _ rfl (.tmp 12) (.tmp 16) 22 rfl (w.heap.size + 1) tNo i0 1 Tryd.underlying22 hi0 hz1 (w.heap.size + 1) q 32 _ rfl (H3.out.1.alloc _) ⟨w3.heap.size, 0, none⟩ 1 1 [.int .i64 x] rfl rfl (by intro t u ht; match t, ht with | 0, ht => simp at ht; subst ht; exact World.cell?_alloc_at _ _ _ _ rfl) (by intro u hu; simp at hu; subst hu; rfl) (by omega) ?_; intro w5 hown5 hgrow5)
        go_roundw
        case rel =>
          refine ⟨q + 1, by omega, by go_num, rfl, ?_, ?_, ?_, ?_⟩
          · rw [HX.out] at hown5
            rw [List.range_succ, List.map_append]
            exact hown5
          · have := hgrow5.block w.heap.size (by have := H3.out.2.2.2; simp; omega) (by intro e; have := Option.some.inj e; omega)
            exact At.same (At.allocH H3.out.2.1 _) this
          · exact ((H3.out.2.2.1.alloc H3.out.2.2.1.size _).grown hgrow5 (by have := H3.out.2.2.2; simp; omega) (fun k hk => by cases hk; omega))
          · have h1 := hgrow5.size
            have h2 := H3.out.2.2.2
            simp at h1
            omega
        case measure => simp [intOf]; omega
      · have hq32 : q = 32 := by omega
        subst hq32
        go_wp2_with fail
        go_ret
        refine ⟨HQ.out.2.2.1, .inr ⟨rfl, w.heap.size + 1, rfl, by omega, ?_⟩⟩
        obtain ⟨⟨_, h2⟩, _⟩ := HQ.out
        rcases h2 with ⟨e, _⟩ | ⟨g, cap, cur, e, hg, hh, hn4, hc4, hsz, htk⟩
        · cases e
        · cases e
          have : cur = ic (bdL M) := by
            apply Array.toList_inj.1
            rw [← List.take_of_length_le (l := cur.toList) (i := 32 * 1) (by simp; omega), htk]
            simp [ic, bdL]
          rw [← this]
          exact hh

end Go.Proofs.YtffajooegiempabDoor

/- Forms, by their signs and by their sides. -/
namespace Go.Proofs.YtffajooegiempabDoor

def sgn (i : Nat) : Int := 1 - 2 * ((i % 2 : Nat) : Int)
/-- The signs of a form. -/
def frm (f : Nat) : List Int := if f < 8 then [0, 0, 0, 0].set (f / 2) (sgn f) else ([0, 0, 0, 0].set (fs f / 2) (sgn (fs f))).set (ss f / 2) (sgn (ss f))
def gAt (l : List Int) (i : Nat) : Int := l.getD i 0
theorem frm_lo : ∀ f : Nat, f < 8 → ∀ i, i < 4 → gAt (frm f) i = if i = f / 2 then sgn f else 0 := by decide
theorem frm_hi : ∀ f : Nat, f < 32 → 8 ≤ f → ∀ i, i < 4 → gAt (frm f) i = (if i = fs f / 2 then sgn (fs f) else 0) + (if i = ss f / 2 then sgn (ss f) else 0) := by decide
theorem fs_lo : ∀ f : Nat, f < 8 → fs f = f ∧ ss f = f := by decide
theorem fs_hi : ∀ f : Nat, f < 32 → 8 ≤ f → fs f ≠ ss f := by decide
/-- What is laid for a form. -/
def bv (l : List Int) (f : Nat) : Int := if fs f = ss f ∧ l.getD f 0 ≠ NB then 2 * l.getD f 0 else l.getD f 0
theorem lay_form (l : List Int) : ∀ f, f < 32 → lay l 32 (fs f * 8 + ss f) = bv l f ∧ lay l 32 (ss f * 8 + fs f) = bv l f
  | 0, _ => ⟨rfl, rfl⟩
  | 1, _ => ⟨rfl, rfl⟩
  | 2, _ => ⟨rfl, rfl⟩
  | 3, _ => ⟨rfl, rfl⟩
  | 4, _ => ⟨rfl, rfl⟩
  | 5, _ => ⟨rfl, rfl⟩
  | 6, _ => ⟨rfl, rfl⟩
  | 7, _ => ⟨rfl, rfl⟩
  | 8, _ => ⟨rfl, rfl⟩
  | 9, _ => ⟨rfl, rfl⟩
  | 10, _ => ⟨rfl, rfl⟩
  | 11, _ => ⟨rfl, rfl⟩
  | 12, _ => ⟨rfl, rfl⟩
  | 13, _ => ⟨rfl, rfl⟩
  | 14, _ => ⟨rfl, rfl⟩
  | 15, _ => ⟨rfl, rfl⟩
  | 16, _ => ⟨rfl, rfl⟩
  | 17, _ => ⟨rfl, rfl⟩
  | 18, _ => ⟨rfl, rfl⟩
  | 19, _ => ⟨rfl, rfl⟩
  | 20, _ => ⟨rfl, rfl⟩
  | 21, _ => ⟨rfl, rfl⟩
  | 22, _ => ⟨rfl, rfl⟩
  | 23, _ => ⟨rfl, rfl⟩
  | 24, _ => ⟨rfl, rfl⟩
  | 25, _ => ⟨rfl, rfl⟩
  | 26, _ => ⟨rfl, rfl⟩
  | 27, _ => ⟨rfl, rfl⟩
  | 28, _ => ⟨rfl, rfl⟩
  | 29, _ => ⟨rfl, rfl⟩
  | 30, _ => ⟨rfl, rfl⟩
  | 31, _ => ⟨rfl, rfl⟩
  | n + 32, h => absurd h (by omega)
 
theorem lay_opp (l : List Int) : ∀ i, i < 8 → lay l 32 (i * 8 + opp i) = 0
  | 0, _ => rfl
  | 1, _ => rfl
  | 2, _ => rfl
  | 3, _ => rfl
  | 4, _ => rfl
  | 5, _ => rfl
  | 6, _ => rfl
  | 7, _ => rfl
  | n + 8, h => absurd h (by omega)
 
theorem form_of : ∀ i : Nat, i < 8 → ∀ j, j < 8 → j = opp i ∨ ∃ f, f < 32 ∧ ((fs f = i ∧ ss f = j) ∨ (ss f = i ∧ fs f = j)) := by decide

/-- The bounds that come out are no greater than those that went in. -/
theorem bd_le {o : List Int} {M : Nat → Int} (hok : ∀ i, i < 32 → isB (o.getD i 0) = true) (hM : ∀ k, M k ≤ lay o 32 k) (f : Nat) (hf : f < 32) : bd M f ≤ gAt o f := by
  have hl := (lay_form o f hf).1
  have hm := hM (fs f * 8 + ss f)
  have hr := (lay_range o 32 hok (fs f * 8 + ss f)).2
  have hb := hok f hf
  unfold isB at hb
  have hb := of_decide_eq_true hb
  rw [hl] at hm hr
  unfold bd gAt
  unfold bv at hm hr
  by_cases h8 : f < 8
  · obtain ⟨q1, q2⟩ := fs_lo f h8
    rw [q1, q2] at hm hr ⊢
    by_cases hn : o.getD f 0 = NB
    · rw [if_neg (fun q => q.2 hn)] at hm hr
      rw [hn] at hm ⊢
      by_cases hz : M (f * 8 + f) = NB
      · rw [if_neg (fun q => q.2 hz)]; exact hm
      · rw [if_pos ⟨rfl, hz⟩]
        have := tdiv2 (M (f * 8 + f))
        unfold NB at *
        rcases Int.lt_or_le (M (f * 8 + f)) 0 with e | e
        · rw [this.2 e]; omega
        · rw [this.1 e]; omega
    · rw [if_pos ⟨rfl, hn⟩] at hm hr
      have hz : M (f * 8 + f) ≠ NB := by unfold NB at *; omega
      rw [if_pos ⟨rfl, hz⟩]
      have := tdiv2 (M (f * 8 + f))
      rcases Int.lt_or_le (M (f * 8 + f)) 0 with e | e
      · rw [this.2 e]; omega
      · rw [this.1 e]; omega
  · have hne := fs_hi f hf (by omega)
    rw [if_neg (fun q => hne q.1)] at hm ⊢
    exact hm

theorem bdL_get (M : Nat → Int) (f : Nat) (hf : f < 32) : gAt (bdL M) f = bd M f := by simp [gAt, bdL, List.getD, hf]

end Go.Proofs.YtffajooegiempabDoor

namespace Go.Proofs.YtffajooegiempabDoor
open Go.RowKit
variable {w : World}

abbrev tNk : TypeId := 3
/-- The two variables of a pair. -/
def px (k : Nat) : Nat := [0, 0, 0, 1, 1, 2].getD k 0
def py (k : Nat) : Nat := [1, 2, 3, 2, 3, 3].getD k 0
def fst (k : Nat) (sx sy : Int) (t : Nat) : List Int := if k < t then ([0, 0, 0, 0].set (px k) sx).set (py k) sy else [0, 0, 0, 0]

set_option maxRecDepth 100000 in
set_option maxHeartbeats 1600000 in
theorem k_form_lo (f : Nat) (hf : f < 8) : Calls Tryd.prog 29 #[.int .i64 (f : Int)] w fun e w' => e = .returned (.slice (some ⟨w.heap.size, 0, none⟩) 4 4) ∧ At w' w.heap.size (ic (frm f)) tNk ∧ Below w.heap.size w w' := by
  have hmk : ∀ w, (Instr.makeSlice 22 (.int .i64 4) (.int .i64 4)).run Tryd.prog w = .ok (.slice (some ⟨w.heap.size, 0, none⟩) 4 4) (w.alloc (.cells #[.int .i64 0, .int .i64 0, .int .i64 0, .int .i64 0] tNk)) := fun _ => by kernel_rfl
  have HB : Hid (∀ o, Below w.heap.size w (w.alloc o)) := fun o => (Below.refl _ _).alloc (Nat.le_refl _) _
  rcases (show f = 0 ∨ f = 1 ∨ f = 2 ∨ f = 3 ∨ f = 4 ∨ f = 5 ∨ f = 6 ∨ f = 7 by omega) with rfl | rfl | rfl | rfl | rfl | rfl | rfl | rfl
  all_goals
    go_enter Tryd.func29, Tryd.ntmps29
    go_wp2_with fail
    go_ret
    refine ⟨rfl, ?_, ?_⟩
    · exact At.new _ _ _
    · exact HB.out _

theorem form_parts : ∀ f : Nat, f < 32 → 8 ≤ f → ((f : Int) - 8).tdiv 4 = (((f - 8) / 4 : Nat) : Int) ∧ (((f : Int) - 8).tmod 4).tdiv 2 = (((f - 8) % 4 / 2 : Nat) : Int) ∧ ((f : Int) - 8).tmod 2 = (((f - 8) % 2 : Nat) : Int) ∧ (f - 8) / 4 < 6 ∧ (f - 8) % 4 / 2 < 2 ∧ (f - 8) % 2 < 2 ∧
    frm f = fst ((f - 8) / 4) (1 - (((f - 8) % 4 / 2 : Nat) : Int) * 2) (1 - (((f - 8) % 2 : Nat) : Int) * 2) 6 := by decide

/-- How many pairs come ahead of x. -/
def tx (x : Nat) : Nat := [0, 3, 5, 6, 6].getD x 6
set_option maxRecDepth 100000 in
set_option maxHeartbeats 3200000 in
theorem k_form_hi (f : Nat) (hf : f < 32) (hf8 : 8 ≤ f) : Calls Tryd.prog 29 #[.int .i64 (f : Int)] w fun e w' => e = .returned (.slice (some ⟨w.heap.size, 0, none⟩) 4 4) ∧ At w' w.heap.size (ic (frm f)) tNk ∧ Below w.heap.size w w' := by
  have hmk : ∀ w, (Instr.makeSlice 22 (.int .i64 4) (.int .i64 4)).run Tryd.prog w = .ok (.slice (some ⟨w.heap.size, 0, none⟩) 4 4) (w.alloc (.cells #[.int .i64 0, .int .i64 0, .int .i64 0, .int .i64 0] tNk)) := fun _ => by kernel_rfl
  have HA : Hid (At (w.alloc (.cells #[.int .i64 0, .int .i64 0, .int .i64 0, .int .i64 0] tNk)) w.heap.size (ic [0, 0, 0, 0]) tNk) := At.new _ _ _
  have HB : Hid (∀ o, Below w.heap.size w (w.alloc o)) := fun o => (Below.refl _ _).alloc (Nat.le_refl _) _
  obtain ⟨p1, p2, p3, p4, p5, p6, p7⟩ := form_parts f hf hf8
  have HF : Hid (_ = _) := p7
  have hfi : ¬ (f : Int) < 8 := by omega
  have hfu : (f : Int) < 32 := by omega
  generalize (f - 8) / 4 = k at *
  obtain ⟨a, ha⟩ : ∃ a : Int, a = (((f - 8) % 4 / 2 : Nat) : Int) := ⟨_, rfl⟩
  obtain ⟨c, hc⟩ : ∃ c : Int, c = (((f - 8) % 2 : Nat) : Int) := ⟨_, rfl⟩
  have HA2 : Hid (((f : Int) - 8) % 4 / 2 = a) := by show _ = a; omega
  rw [← ha] at p2 HF
  rw [← hc] at p3 HF
  have a0 : 0 ≤ a := by omega
  have a1 : a ≤ 1 := by omega
  have c0' : 0 ≤ c := by omega
  have c1' : c ≤ 1 := by omega
  have HS : Hid (fst k (1 - a * 2) (1 - c * 2) 0 = [0, 0, 0, 0]) := by show fst _ _ _ _ = _; unfold fst; rw [if_neg (by omega)]
  clear ha hc p5 p6 p7 hf
  go_enter Tryd.func29, Tryd.ntmps29
  go_wp2_with fail
  go_loopw [4, 5] (fun kv xv wr => ∃ (x : Nat), x ≤ 4 ∧ xv = .int .i64 x ∧ kv = .int .i64 ((k : Int) - ((tx x : Nat) : Int)) ∧ Hid (At wr w.heap.size (ic (fst k (1 - a * 2) (1 - c * 2) (tx x))) tNk ∧ Below w.heap.size w wr)) (fun _ xv _ => 4 - (intOf xv).toNat)
  case atStart => exact ⟨0, by omega, rfl, by show Value.int .i64 (k : Int) = .int .i64 ((k : Int) - ((0 : Nat) : Int)); rw [show ((0 : Nat) : Int) = 0 from rfl, Int.sub_zero], by show At _ _ (ic (fst k (1 - a * 2) (1 - c * 2) 0)) _; rw [HS.out]; exact HA.out, HB.out _⟩
  case round =>
    obtain ⟨x, hx, rfl, rfl, HR⟩ := hrel
    rcases (show x = 0 ∨ x = 1 ∨ x = 2 ∨ x = 3 ∨ x = 4 by omega) with rfl | rfl | rfl | rfl | rfl
    · have hx4 : (0 : Nat) < 4 := by omega
      obtain ⟨w4, rfl⟩ : ∃ w4, w4 = wr := ⟨_, rfl⟩
      go_wp2_with fail
      go_loopw [4, 6] (fun kv yv wr => ∃ (y : Nat), 0 + 1 ≤ y ∧ y ≤ 4 ∧ yv = .int .i64 y ∧ kv = .int .i64 ((k : Int) - ((0 + (y - 0 - 1) : Nat) : Int)) ∧ Hid (At wr w.heap.size (ic (fst k (1 - a * 2) (1 - c * 2) (0 + (y - 0 - 1)))) tNk ∧ Below w.heap.size w wr)) (fun _ yv _ => 4 - (intOf yv).toNat)
      case atStart => exact ⟨1, by omega, by omega, rfl, rfl, HR.out⟩
      case round =>
        obtain ⟨y, hy1, hy2, rfl, rfl, HQ⟩ := hrel
        by_cases hlt : y < 4
        · rcases (show y = 1 ∨ y = 2 ∨ y = 3 by omega) with rfl | rfl | rfl
          · by_cases hk : k = 0
            · subst hk
              have c0 := HQ.out.1.cell 0
              have c1 := HQ.out.1.cell 1
              have c2 := HQ.out.1.cell 2
              have c3 := HQ.out.1.cell 3
              have cf := HQ.out.1.free
              have hbl := HQ.out.1.lt
              have e00 : fst 0 (1 - a * 2) (1 - c * 2) 0 = [0, 0, 0, 0] := rfl
              rw [e00] at c0 c1 c2 c3
              simp [ic] at c0 c1 c2 c3
              go_wp2_with fail
              go_roundw
              case rel =>
                refine ⟨1 + 1, by omega, by omega, rfl, rfl, ?_, ?_⟩
                · try rw [HA2.out]
                  exact (HQ.out.1.put (px 0) (.int .i64 (1 - a * 2))).put (py 0) (.int .i64 (1 - c * 2))
                · exact (HQ.out.2.setCell (by show w.heap.size ≤ w.heap.size; omega) _).setCell (by show w.heap.size ≤ w.heap.size; omega) _
              case measure => simp [intOf]
            · have hkb : ((k : Int) - 0 == 0) = false := by rw [beq_eq_false_iff_ne]; omega
              have HE : Hid (fst k (1 - a * 2) (1 - c * 2) (0 + 1) = fst k (1 - a * 2) (1 - c * 2) 0) := by
                show fst _ _ _ _ = _
                unfold fst
                by_cases q : k < 0
                · rw [if_pos q, if_pos (by omega)]
                · rw [if_neg q, if_neg (by omega)]
              go_wp2_with fail
              go_roundw
              case rel =>
                refine ⟨1 + 1, by omega, by omega, rfl, ?_, ?_, HQ.out.2⟩
                · first | rfl | (congr 1; omega) | (congr 1; simp; omega)
                · show At _ _ (ic (fst k (1 - a * 2) (1 - c * 2) (0 + 1))) _
                  rw [HE.out]; exact HQ.out.1
              case measure => simp [intOf]
          · by_cases hk : k = 1
            · subst hk
              have c0 := HQ.out.1.cell 0
              have c1 := HQ.out.1.cell 1
              have c2 := HQ.out.1.cell 2
              have c3 := HQ.out.1.cell 3
              have cf := HQ.out.1.free
              have hbl := HQ.out.1.lt
              have e00 : fst 1 (1 - a * 2) (1 - c * 2) 1 = [0, 0, 0, 0] := rfl
              rw [e00] at c0 c1 c2 c3
              simp [ic] at c0 c1 c2 c3
              go_wp2_with fail
              go_roundw
              case rel =>
                refine ⟨2 + 1, by omega, by omega, rfl, rfl, ?_, ?_⟩
                · try rw [HA2.out]
                  exact (HQ.out.1.put (px 1) (.int .i64 (1 - a * 2))).put (py 1) (.int .i64 (1 - c * 2))
                · exact (HQ.out.2.setCell (by show w.heap.size ≤ w.heap.size; omega) _).setCell (by show w.heap.size ≤ w.heap.size; omega) _
              case measure => simp [intOf]
            · have hkb : ((k : Int) - 1 == 0) = false := by rw [beq_eq_false_iff_ne]; omega
              have HE : Hid (fst k (1 - a * 2) (1 - c * 2) (1 + 1) = fst k (1 - a * 2) (1 - c * 2) 1) := by
                show fst _ _ _ _ = _
                unfold fst
                by_cases q : k < 1
                · rw [if_pos q, if_pos (by omega)]
                · rw [if_neg q, if_neg (by omega)]
              go_wp2_with fail
              go_roundw
              case rel =>
                refine ⟨2 + 1, by omega, by omega, rfl, ?_, ?_, HQ.out.2⟩
                · first | rfl | (congr 1; omega) | (congr 1; simp; omega)
                · show At _ _ (ic (fst k (1 - a * 2) (1 - c * 2) (1 + 1))) _
                  rw [HE.out]; exact HQ.out.1
              case measure => simp [intOf]
          · by_cases hk : k = 2
            · subst hk
              have c0 := HQ.out.1.cell 0
              have c1 := HQ.out.1.cell 1
              have c2 := HQ.out.1.cell 2
              have c3 := HQ.out.1.cell 3
              have cf := HQ.out.1.free
              have hbl := HQ.out.1.lt
              have e00 : fst 2 (1 - a * 2) (1 - c * 2) 2 = [0, 0, 0, 0] := rfl
              rw [e00] at c0 c1 c2 c3
              simp [ic] at c0 c1 c2 c3
              go_wp2_with fail
              go_roundw
              case rel =>
                refine ⟨3 + 1, by omega, by omega, rfl, rfl, ?_, ?_⟩
                · try rw [HA2.out]
                  exact (HQ.out.1.put (px 2) (.int .i64 (1 - a * 2))).put (py 2) (.int .i64 (1 - c * 2))
                · exact (HQ.out.2.setCell (by show w.heap.size ≤ w.heap.size; omega) _).setCell (by show w.heap.size ≤ w.heap.size; omega) _
              case measure => simp [intOf]
            · have hkb : ((k : Int) - 2 == 0) = false := by rw [beq_eq_false_iff_ne]; omega
              have HE : Hid (fst k (1 - a * 2) (1 - c * 2) (2 + 1) = fst k (1 - a * 2) (1 - c * 2) 2) := by
                show fst _ _ _ _ = _
                unfold fst
                by_cases q : k < 2
                · rw [if_pos q, if_pos (by omega)]
                · rw [if_neg q, if_neg (by omega)]
              go_wp2_with fail
              go_roundw
              case rel =>
                refine ⟨3 + 1, by omega, by omega, rfl, ?_, ?_, HQ.out.2⟩
                · first | rfl | (congr 1; omega) | (congr 1; simp; omega)
                · show At _ _ (ic (fst k (1 - a * 2) (1 - c * 2) (2 + 1))) _
                  rw [HE.out]; exact HQ.out.1
              case measure => simp [intOf]
        · have hy4 : y = 4 := by omega
          subst hy4
          go_wp2_with fail
          go_roundw
          case rel => exact ⟨0 + 1, by omega, rfl, rfl, HQ.out⟩
          case measure => simp [intOf]
    · have hx4 : (1 : Nat) < 4 := by omega
      obtain ⟨w4, rfl⟩ : ∃ w4, w4 = wr := ⟨_, rfl⟩
      go_wp2_with fail
      go_loopw [4, 6] (fun kv yv wr => ∃ (y : Nat), 1 + 1 ≤ y ∧ y ≤ 4 ∧ yv = .int .i64 y ∧ kv = .int .i64 ((k : Int) - ((3 + (y - 1 - 1) : Nat) : Int)) ∧ Hid (At wr w.heap.size (ic (fst k (1 - a * 2) (1 - c * 2) (3 + (y - 1 - 1)))) tNk ∧ Below w.heap.size w wr)) (fun _ yv _ => 4 - (intOf yv).toNat)
      case atStart => exact ⟨2, by omega, by omega, rfl, rfl, HR.out⟩
      case round =>
        obtain ⟨y, hy1, hy2, rfl, rfl, HQ⟩ := hrel
        by_cases hlt : y < 4
        · rcases (show y = 2 ∨ y = 3 by omega) with rfl | rfl
          · by_cases hk : k = 3
            · subst hk
              have c0 := HQ.out.1.cell 0
              have c1 := HQ.out.1.cell 1
              have c2 := HQ.out.1.cell 2
              have c3 := HQ.out.1.cell 3
              have cf := HQ.out.1.free
              have hbl := HQ.out.1.lt
              have e00 : fst 3 (1 - a * 2) (1 - c * 2) 3 = [0, 0, 0, 0] := rfl
              rw [e00] at c0 c1 c2 c3
              simp [ic] at c0 c1 c2 c3
              go_wp2_with fail
              go_roundw
              case rel =>
                refine ⟨2 + 1, by omega, by omega, rfl, rfl, ?_, ?_⟩
                · try rw [HA2.out]
                  exact (HQ.out.1.put (px 3) (.int .i64 (1 - a * 2))).put (py 3) (.int .i64 (1 - c * 2))
                · exact (HQ.out.2.setCell (by show w.heap.size ≤ w.heap.size; omega) _).setCell (by show w.heap.size ≤ w.heap.size; omega) _
              case measure => simp [intOf]
            · have hkb : ((k : Int) - 3 == 0) = false := by rw [beq_eq_false_iff_ne]; omega
              have HE : Hid (fst k (1 - a * 2) (1 - c * 2) (3 + 1) = fst k (1 - a * 2) (1 - c * 2) 3) := by
                show fst _ _ _ _ = _
                unfold fst
                by_cases q : k < 3
                · rw [if_pos q, if_pos (by omega)]
                · rw [if_neg q, if_neg (by omega)]
              go_wp2_with fail
              go_roundw
              case rel =>
                refine ⟨2 + 1, by omega, by omega, rfl, ?_, ?_, HQ.out.2⟩
                · first | rfl | (congr 1; omega) | (congr 1; simp; omega)
                · show At _ _ (ic (fst k (1 - a * 2) (1 - c * 2) (3 + 1))) _
                  rw [HE.out]; exact HQ.out.1
              case measure => simp [intOf]
          · by_cases hk : k = 4
            · subst hk
              have c0 := HQ.out.1.cell 0
              have c1 := HQ.out.1.cell 1
              have c2 := HQ.out.1.cell 2
              have c3 := HQ.out.1.cell 3
              have cf := HQ.out.1.free
              have hbl := HQ.out.1.lt
              have e00 : fst 4 (1 - a * 2) (1 - c * 2) 4 = [0, 0, 0, 0] := rfl
              rw [e00] at c0 c1 c2 c3
              simp [ic] at c0 c1 c2 c3
              go_wp2_with fail
              go_roundw
              case rel =>
                refine ⟨3 + 1, by omega, by omega, rfl, rfl, ?_, ?_⟩
                · try rw [HA2.out]
                  exact (HQ.out.1.put (px 4) (.int .i64 (1 - a * 2))).put (py 4) (.int .i64 (1 - c * 2))
                · exact (HQ.out.2.setCell (by show w.heap.size ≤ w.heap.size; omega) _).setCell (by show w.heap.size ≤ w.heap.size; omega) _
              case measure => simp [intOf]
            · have hkb : ((k : Int) - 4 == 0) = false := by rw [beq_eq_false_iff_ne]; omega
              have HE : Hid (fst k (1 - a * 2) (1 - c * 2) (4 + 1) = fst k (1 - a * 2) (1 - c * 2) 4) := by
                show fst _ _ _ _ = _
                unfold fst
                by_cases q : k < 4
                · rw [if_pos q, if_pos (by omega)]
                · rw [if_neg q, if_neg (by omega)]
              go_wp2_with fail
              go_roundw
              case rel =>
                refine ⟨3 + 1, by omega, by omega, rfl, ?_, ?_, HQ.out.2⟩
                · first | rfl | (congr 1; omega) | (congr 1; simp; omega)
                · show At _ _ (ic (fst k (1 - a * 2) (1 - c * 2) (4 + 1))) _
                  rw [HE.out]; exact HQ.out.1
              case measure => simp [intOf]
        · have hy4 : y = 4 := by omega
          subst hy4
          go_wp2_with fail
          go_roundw
          case rel => exact ⟨1 + 1, by omega, rfl, rfl, HQ.out⟩
          case measure => simp [intOf]
    · have hx4 : (2 : Nat) < 4 := by omega
      obtain ⟨w4, rfl⟩ : ∃ w4, w4 = wr := ⟨_, rfl⟩
      go_wp2_with fail
      go_loopw [4, 6] (fun kv yv wr => ∃ (y : Nat), 2 + 1 ≤ y ∧ y ≤ 4 ∧ yv = .int .i64 y ∧ kv = .int .i64 ((k : Int) - ((5 + (y - 2 - 1) : Nat) : Int)) ∧ Hid (At wr w.heap.size (ic (fst k (1 - a * 2) (1 - c * 2) (5 + (y - 2 - 1)))) tNk ∧ Below w.heap.size w wr)) (fun _ yv _ => 4 - (intOf yv).toNat)
      case atStart => exact ⟨3, by omega, by omega, rfl, rfl, HR.out⟩
      case round =>
        obtain ⟨y, hy1, hy2, rfl, rfl, HQ⟩ := hrel
        by_cases hlt : y < 4
        · obtain rfl : y = 3 := by omega
          by_cases hk : k = 5
          · subst hk
            have c0 := HQ.out.1.cell 0
            have c1 := HQ.out.1.cell 1
            have c2 := HQ.out.1.cell 2
            have c3 := HQ.out.1.cell 3
            have cf := HQ.out.1.free
            have hbl := HQ.out.1.lt
            have e00 : fst 5 (1 - a * 2) (1 - c * 2) 5 = [0, 0, 0, 0] := rfl
            rw [e00] at c0 c1 c2 c3
            simp [ic] at c0 c1 c2 c3
            go_wp2_with fail
            go_roundw
            case rel =>
              refine ⟨3 + 1, by omega, by omega, rfl, rfl, ?_, ?_⟩
              · try rw [HA2.out]
                exact (HQ.out.1.put (px 5) (.int .i64 (1 - a * 2))).put (py 5) (.int .i64 (1 - c * 2))
              · exact (HQ.out.2.setCell (by show w.heap.size ≤ w.heap.size; omega) _).setCell (by show w.heap.size ≤ w.heap.size; omega) _
            case measure => simp [intOf]
          · have hkb : ((k : Int) - 5 == 0) = false := by rw [beq_eq_false_iff_ne]; omega
            have HE : Hid (fst k (1 - a * 2) (1 - c * 2) (5 + 1) = fst k (1 - a * 2) (1 - c * 2) 5) := by
              show fst _ _ _ _ = _
              unfold fst
              by_cases q : k < 5
              · rw [if_pos q, if_pos (by omega)]
              · rw [if_neg q, if_neg (by omega)]
            go_wp2_with fail
            go_roundw
            case rel =>
              refine ⟨3 + 1, by omega, by omega, rfl, ?_, ?_, HQ.out.2⟩
              · first | rfl | (congr 1; omega) | (congr 1; simp; omega)
              · show At _ _ (ic (fst k (1 - a * 2) (1 - c * 2) (5 + 1))) _
                rw [HE.out]; exact HQ.out.1
            case measure => simp [intOf]
        · have hy4 : y = 4 := by omega
          subst hy4
          go_wp2_with fail
          go_roundw
          case rel => exact ⟨2 + 1, by omega, rfl, rfl, HQ.out⟩
          case measure => simp [intOf]
    · have hx4 : (3 : Nat) < 4 := by omega
      obtain ⟨w4, rfl⟩ : ∃ w4, w4 = wr := ⟨_, rfl⟩
      go_wp2_with fail
      go_loopw [4, 6] (fun kv yv wr => ∃ (y : Nat), 3 + 1 ≤ y ∧ y ≤ 4 ∧ yv = .int .i64 y ∧ kv = .int .i64 ((k : Int) - ((6 + (y - 3 - 1) : Nat) : Int)) ∧ Hid (At wr w.heap.size (ic (fst k (1 - a * 2) (1 - c * 2) (6 + (y - 3 - 1)))) tNk ∧ Below w.heap.size w wr)) (fun _ yv _ => 4 - (intOf yv).toNat)
      case atStart => exact ⟨4, by omega, by omega, rfl, rfl, HR.out⟩
      case round =>
        obtain ⟨y, hy1, hy2, rfl, rfl, HQ⟩ := hrel
        have hy4 : y = 4 := by omega
        subst hy4
        go_wp2_with fail
        go_roundw
        case rel => exact ⟨3 + 1, by omega, rfl, rfl, HQ.out⟩
        case measure => simp [intOf]
    · go_wp2_with fail
      go_ret
      exact ⟨rfl, by rw [HF.out]; exact HR.out.1, HR.out.2⟩

end Go.Proofs.YtffajooegiempabDoor

namespace Go.Proofs.YtffajooegiempabDoor
open Go.RowKit
variable {w : World}

def sumV (a b : List Int) : Nat → Int
  | 0 => 0
  | j + 1 => sumV a b j + gAt a j * gAt b j
/-- What a form comes to. -/
def valF (f : Nat) (v : List Int) : Int := sumV (frm f) v 4
theorem frm_sg : ∀ f : Nat, f < 32 → (frm f).length = 4 ∧ ∀ i, i < 4 → -1 ≤ gAt (frm f) i ∧ gAt (frm f) i ≤ 1 := by decide
theorem mul_sgV (a b : Int) (h0 : -1 ≤ a) (h1 : a ≤ 1) (h2 : -5000 ≤ b) (h3 : b ≤ 5000) : -5000 ≤ a * b ∧ a * b ≤ 5000 := by
  rcases (show a = -1 ∨ a = 0 ∨ a = 1 by omega) with rfl | rfl | rfl <;> omega

set_option maxRecDepth 100000 in
set_option maxHeartbeats 1600000 in
theorem k_value (f : Nat) (hf : f < 32) (v : Value) (l : List Int) (hl : l.length = 4) (hr : Reads w v l) (hv : ∀ i, i < 4 → -5000 ≤ gAt l i ∧ gAt l i ≤ 5000) :
    Calls Tryd.prog 14 #[.int .i64 (f : Int), v] w fun e w' => e = .returned (.int .i64 (valF f l)) ∧ Below w.heap.size w w' := by
  have hfo : Calls Tryd.prog 29 #[.int .i64 (f : Int)] w fun e w' => e = .returned (.slice (some ⟨w.heap.size, 0, none⟩) 4 4) ∧ At w' w.heap.size (ic (frm f)) tNk ∧ Below w.heap.size w w' := by
    by_cases h8 : f < 8
    · exact k_form_lo f h8
    · exact k_form_hi f hf (by omega)
  obtain ⟨hlen, hx⟩ := frm_sg f hf
  have HE : Hid (valF f l = sumV (frm f) l 4) := rfl
  obtain ⟨ao, cap, rfl, hc, h0⟩ := hr
  obtain ⟨p, off, rfl, hp, hcell⟩ := h0 (by omega)
  rw [hl]
  have HC : Hid (∀ i, i < 4 → w.cell? ⟨p, off + i, none⟩ = some (.int .i64 (gAt l i))) := fun i hi => hcell i (by omega)
  clear h0 hcell hc
  generalize frm f = a at *
  go_enter Tryd.func14, Tryd.ntmps14
  go_wp2_with fail
  refine hfo.mono ?_
  rintro e w1 ⟨rfl, hat, hb⟩
  have HB : Hid (Below w.heap.size w w1) := hb
  have HP : Hid (∀ i, i < 4 → w1.cell? ⟨w.heap.size, i, none⟩ = some (.int .i64 (gAt a i))) := fun i hi => by rw [hat.cell, ic_get _ _ (by omega)]; rfl
  have HQ : Hid (∀ i, i < 4 → w1.cell? ⟨p, off + i, none⟩ = some (.int .i64 (gAt l i))) := fun i hi => (hb.cell (by exact hp)).trans (HC.out i hi)
  clear hat hb hfo
  go_wp2_with fail
  go_loopw [6, 7] (fun sm i wr => ∃ (j k : Nat), j ≤ 4 ∧ i = .int .i64 j ∧ sm = .int .i64 (sumV a l j) ∧ wr = w1.drewN k ∧ (-20000 ≤ sumV a l j ∧ sumV a l j ≤ 20000 ∧ -(5000 * (j : Int)) ≤ sumV a l j ∧ sumV a l j ≤ 5000 * (j : Int))) (fun _ i _ => 4 - (intOf i).toNat)
  case atStart => exact ⟨0, 0, by omega, rfl, rfl, rfl, by show -20000 ≤ (0 : Int) ∧ (0 : Int) ≤ 20000 ∧ -(5000 * ((0 : Nat) : Int)) ≤ (0 : Int) ∧ (0 : Int) ≤ 5000 * ((0 : Nat) : Int); omega⟩
  case round =>
    obtain ⟨j, k, hj, rfl, rfl, hwr, s0, s1, s2, s3⟩ := hrel
    have HW : Hid (∃ k, wr = w1.drewN k) := ⟨k, hwr⟩
    have k1 : ∀ a, wr.cell? a = w1.cell? a := fun a => by rw [hwr]; rfl
    have a0 := (k1 _).trans (HP.out 0 (by omega))
    have a1 := (k1 _).trans (HP.out 1 (by omega))
    have a2 := (k1 _).trans (HP.out 2 (by omega))
    have a3 := (k1 _).trans (HP.out 3 (by omega))
    have b0 := (k1 _).trans (HQ.out 0 (by omega))
    have b1 := (k1 _).trans (HQ.out 1 (by omega))
    have b2 := (k1 _).trans (HQ.out 2 (by omega))
    have b3 := (k1 _).trans (HQ.out 3 (by omega))
    rw [Nat.add_zero] at b0
    clear hwr k1
    rcases (show j = 0 ∨ j = 1 ∨ j = 2 ∨ j = 3 ∨ j = 4 by omega) with rfl | rfl | rfl | rfl | rfl
    · have hp := mul_sgV (gAt a 0) (gAt l 0) (hx 0 (by omega)).1 (hx 0 (by omega)).2 (hv 0 (by omega)).1 (hv 0 (by omega)).2
      have hmw : wrap64 (gAt a 0 * gAt l 0) = gAt a 0 * gAt l 0 := by unfold wrap64; omega
      have hL : Hid (sumV a l (0 + 1) = sumV a l 0 + gAt a 0 * gAt l 0) := rfl
      generalize sumV a l 0 = sm at *
      go_wp2_with fail
      go_quiet (fail)
      go_wp2_with fail
      go_roundw
      case rel => obtain ⟨k', e⟩ := HW.out; exact ⟨0 + 1, _, by omega, rfl, by rw [hL.out], by rw [e]; exact drewN_two _ _ _, by rw [hL.out]; omega⟩
      case measure => simp [intOf]
    · have hp := mul_sgV (gAt a 1) (gAt l 1) (hx 1 (by omega)).1 (hx 1 (by omega)).2 (hv 1 (by omega)).1 (hv 1 (by omega)).2
      have hmw : wrap64 (gAt a 1 * gAt l 1) = gAt a 1 * gAt l 1 := by unfold wrap64; omega
      have hL : Hid (sumV a l (1 + 1) = sumV a l 1 + gAt a 1 * gAt l 1) := rfl
      generalize sumV a l 1 = sm at *
      go_wp2_with fail
      go_quiet (fail)
      go_wp2_with fail
      go_roundw
      case rel => obtain ⟨k', e⟩ := HW.out; exact ⟨1 + 1, _, by omega, rfl, by rw [hL.out], by rw [e]; exact drewN_two _ _ _, by rw [hL.out]; omega⟩
      case measure => simp [intOf]
    · have hp := mul_sgV (gAt a 2) (gAt l 2) (hx 2 (by omega)).1 (hx 2 (by omega)).2 (hv 2 (by omega)).1 (hv 2 (by omega)).2
      have hmw : wrap64 (gAt a 2 * gAt l 2) = gAt a 2 * gAt l 2 := by unfold wrap64; omega
      have hL : Hid (sumV a l (2 + 1) = sumV a l 2 + gAt a 2 * gAt l 2) := rfl
      generalize sumV a l 2 = sm at *
      go_wp2_with fail
      go_quiet (fail)
      go_wp2_with fail
      go_roundw
      case rel => obtain ⟨k', e⟩ := HW.out; exact ⟨2 + 1, _, by omega, rfl, by rw [hL.out], by rw [e]; exact drewN_two _ _ _, by rw [hL.out]; omega⟩
      case measure => simp [intOf]
    · have hp := mul_sgV (gAt a 3) (gAt l 3) (hx 3 (by omega)).1 (hx 3 (by omega)).2 (hv 3 (by omega)).1 (hv 3 (by omega)).2
      have hmw : wrap64 (gAt a 3 * gAt l 3) = gAt a 3 * gAt l 3 := by unfold wrap64; omega
      have hL : Hid (sumV a l (3 + 1) = sumV a l 3 + gAt a 3 * gAt l 3) := rfl
      generalize sumV a l 3 = sm at *
      go_wp2_with fail
      go_quiet (fail)
      go_wp2_with fail
      go_roundw
      case rel => obtain ⟨k', e⟩ := HW.out; exact ⟨3 + 1, _, by omega, rfl, by rw [hL.out], by rw [e]; exact drewN_two _ _ _, by rw [hL.out]; omega⟩
      case measure => simp [intOf]
    · go_wp2_with fail
      go_ret
      refine ⟨by rw [HE.out]; rfl, ?_⟩
      obtain ⟨k', e⟩ := HW.out
      rw [e]
      exact below_drewN HB.out _

end Go.Proofs.YtffajooegiempabDoor

namespace Go.Proofs.YtffajooegiempabDoor
open Go.RowKit
variable {w : World}

/-- Is it in there? As far as the forms were looked at. -/
def allF (o v : List Int) : Nat → Bool
  | 0 => true
  | f + 1 => allF o v f && decide (valF f v ≤ gAt o f)
def hasB (o v : List Int) : Bool := decide (o.length = 32) && allF o v 32
theorem allF_no {o v : List Int} {f : Nat} (hf : f < 32) (h : ¬ valF f v ≤ gAt o f) : allF o v 32 = false := by
  have : ∀ d, allF o v (f + 1 + d) = false := by
    intro d
    induction d with
    | zero => show (allF o v f && decide (valF f v ≤ gAt o f)) = false; rw [decide_eq_false h]; simp
    | succ d ih => show (allF o v (f + 1 + d) && _) = false; rw [ih]; rfl
  rw [show 32 = f + 1 + (31 - f) by omega]
  exact this _
theorem allF_all {o v : List Int} : ∀ {n : Nat}, allF o v n = true ↔ ∀ f, f < n → valF f v ≤ gAt o f := by
  intro n
  induction n with
  | zero => exact ⟨fun _ f hf => absurd hf (by omega), fun _ => rfl⟩
  | succ n ih =>
    show (allF o v n && decide (valF n v ≤ gAt o n)) = true ↔ _
    rw [Bool.and_eq_true, ih, decide_eq_true_eq]
    constructor
    · rintro ⟨h1, h2⟩ f hf
      rcases Nat.lt_or_eq_of_le (Nat.lt_succ_iff.1 hf) with q | q
      · exact h1 f q
      · rw [q]; exact h2
    · intro h
      exact ⟨fun f hf => h f (by omega), h n (by omega)⟩

set_option maxRecDepth 100000 in
set_option maxHeartbeats 1600000 in
theorem k_has (u v : Value) (o l : List Int) (hl : l.length = 4) (_hm : o.length ≤ 1073741824) (hu : Reads w u o) (hr : Reads w v l) (hv : ∀ i, i < 4 → -5000 ≤ gAt l i ∧ gAt l i ≤ 5000) :
    Calls Tryd.prog 13 #[u, v] w fun e w' => e = .returned (.bool (hasB o l)) ∧ Below w.heap.size w w' := by
  have HV : Hid (∀ wr f, f < 32 → Below w.heap.size w wr → Calls Tryd.prog 14 #[.int .i64 ((f : Nat) : Int), v] wr fun e w' => e = .returned (.int .i64 (valF f l)) ∧ Below wr.heap.size wr w') := fun wr f hf hb => k_value f hf v l hl (hr.keep hb) hv
  obtain ⟨av, cv, rfl, -, -⟩ := hr
  obtain ⟨au, cu, rfl, hcu, h0⟩ := hu
  rw [hl] at HV ⊢
  clear hl hv
  by_cases h32 : o.length = 32
  · have HE : Hid (hasB o l = allF o l 32) := by show hasB o l = _; unfold hasB; rw [decide_eq_true h32]; rfl
    obtain ⟨p, off, rfl, hp, hcell⟩ := h0 (by omega)
    have HC : Hid (∀ i, i < 32 → w.cell? ⟨p, off + i, none⟩ = some (.int .i64 (gAt o i))) := fun i hi => hcell i (by omega)
    rw [h32]
    clear h0 hcell hcu h32 _hm
    go_enter Tryd.func13, Tryd.ntmps13
    go_wp2_with fail
    go_loopw [5] (fun i wr => ∃ (f : Nat), f ≤ 32 ∧ i = .int .i64 f ∧ Hid (allF o l f = true ∧ Below w.heap.size w wr)) (fun i _ => 32 - (intOf i).toNat)
    case atStart => exact ⟨0, by omega, rfl, rfl, Below.refl _ _⟩
    case round =>
      obtain ⟨f, hf, rfl, HR⟩ := hrel
      by_cases hlt : f < 32
      · have hfi : (f : Int) < 32 := by omega
        have hval := HV.out wr f hlt HR.out.2
        have HEq : Hid (allF o l (f + 1) = (allF o l f && decide (valF f l ≤ gAt o f))) := rfl
        have HNo : Hid (¬ valF f l ≤ gAt o f → allF o l 32 = false) := fun h => allF_no hlt h
        have cx : wr.cell? ⟨p, off + f, none⟩ = some (.int .i64 (gAt o f)) := (HR.out.2.cell (by exact hp)).trans (HC.out f hlt)
        generalize valF f l = x at *
        generalize gAt o f = y at *
        go_wp2_with fail
        refine hval.mono ?_
        rintro e w2 ⟨rfl, hb2⟩
        have hs := HR.out.2.size
        have cx2 : w2.cell? ⟨p, off + f, none⟩ = some (.int .i64 y) := (hb2.cell (by show p < _; omega)).trans cx
        have HB2 : Hid (Below w.heap.size w w2) := HR.out.2.trans (hb2.mono hs)
        clear hb2 cx hval
        by_cases hn : y < x
        · have HF : Hid (allF o l 32 = false) := HNo.out (by omega)
          go_wp2_with fail
          go_ret
          exact ⟨by rw [HE.out, HF.out]; rfl, HB2.out⟩
        · have hle : x ≤ y := by omega
          go_wp2_with fail
          go_roundw
          case rel => exact ⟨f + 1, by omega, by go_num, by rw [HEq.out, HR.out.1]; simpa using hle, HB2.out⟩
          case measure => simp [intOf]; omega
      · have hf32 : f = 32 := by omega
        subst hf32
        go_wp2_with fail
        go_ret
        exact ⟨by rw [HE.out, HR.out.1]; rfl, HR.out.2⟩
  · have HE : Hid (hasB o l = false) := by show hasB o l = _; unfold hasB; rw [decide_eq_false h32]; rfl
    have hb : ((o.length : Int) != 32) = true := by rw [bne_iff_ne]; omega
    clear h0 h32
    go_enter Tryd.func13, Tryd.ntmps13
    go_wp2_with fail
    go_ret
    exact ⟨by rw [HE.out]; rfl, Below.refl _ _⟩

end Go.Proofs.YtffajooegiempabDoor

