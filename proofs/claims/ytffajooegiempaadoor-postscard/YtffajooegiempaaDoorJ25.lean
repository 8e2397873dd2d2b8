import Derived.Test.YtffajooegiempaaDoorJ24
import Derived.ChangeMaps5
namespace Go.Proofs.YtffajooegiempaaDoor
open Go.RowKit
variable {B : Nat} {w : World} {r : Nat} {m : Rd} {vs vo : Value} {P Q O : Nat → Nat}

/-- Is it safe: the document. -/
def sfD (e : Bool) (C : Nat → Int) (u : St) : Bool :=
  if e = true then true else if u.kind = 61 then u.star || decide (grD C u.sg ≠ NB ∧ grD C (ngL u.sg) ≠ NB ∧ grD C u.sg + u.num ≤ 999 ∧ grD C (ngL u.sg) - u.num ≤ 999)
  else if u.kind = 33 then !u.star && decide (grD C u.sg ≤ u.num) else true
theorem bd_rng {M : Nat → Int} (hS : Sm M) {f : Nat} (hf : f < 32) : -200000000000000000 ≤ bd M f ∧ bd M f ≤ 1000000000000 := mo_rng hS (fs_lt f hf) (ss_lt f hf)
theorem grD_rng {M : Nat → Int} (hS : Sm M) (hC : M (0 * 8 + 1) = 0) {l : List Int} (hl : l.length = 4) (h : ∀ i, -1 ≤ gAt l i ∧ gAt l i ≤ 1) (h2 : nz l ≤ 2) : -200000000000000000 ≤ grD M l ∧ grD M l ≤ 1000000000000 := by
  rw [← (grP_grD hC hl h h2).1]
  exact grP_rng hS l
def pnL (l : List Int) : Nat → List Int
  | 0 => [0, 0, 0, 0]
  | j + 1 => (pnL l j).set j (-gAt l j)
theorem pnL_4 (l : List Int) : pnL l 4 = ngL l := rfl
theorem pnL_at (l : List Int) {j : Nat} (hj : j < 4) : (pnL l j).length = 4 ∧ (pnL l j).getD j 0 = 0 := by
  rcases (show j = 0 ∨ j = 1 ∨ j = 2 ∨ j = 3 by omega) with rfl | rfl | rfl | rfl <;> exact ⟨rfl, rfl⟩
theorem ngL_len (l : List Int) : (ngL l).length = 4 := rfl

/-- What the walk needs of the statement. -/
structure StW (w : World) (r k : Nat) (u : St) (len : Nat) : Prop where
  ex : ∃ g cap p q, w.cell? ⟨r, 1, none⟩ = some (.slice (some ⟨g, 0, none⟩) len cap) ∧ w.cell? ⟨g, k, none⟩ = some (.pointer (some ⟨p, 0, none⟩)) ∧ w.cell? ⟨p, 0, none⟩ = some (.int .u8 u.kind) ∧ w.cell? ⟨p, 2, none⟩ = some (.bool u.star) ∧
    w.cell? ⟨p, 3, none⟩ = some (.slice (some ⟨q, 0, none⟩) 4 4) ∧ w.cell? ⟨p, 4, none⟩ = some (.int .i64 u.num) ∧ At w q (ic u.sg) tNk ∧ p < w.heap.size ∧ g < w.heap.size ∧ r < w.heap.size
theorem Rep.stw (h : Rep B w r m vs vo P Q O) {k : Nat} (hk : k < m.st.length) : StW w r k (m.st.getD k noSt) m.st.length := by
  obtain ⟨g, cap, hvs, hrow, _⟩ := h.row (by omega)
  obtain ⟨r0, r1, _⟩ := h.rdc
  have hg := Rep.gets hk
  obtain ⟨c0, _, c2, c3, c4, _⟩ := h.stc k _ hg
  obtain ⟨a, b⟩ := h.st k _ hg
  rw [hvs] at r1
  have hgl := World.block_lt_of_cell? w _ (hrow k hk)
  exact ⟨g, cap, P k, Q k, r1, hrow k hk, c0, c2, c3, c4, b, a.lt, hgl, h.rd.lt⟩

set_option maxRecDepth 100000 in
set_option maxHeartbeats 3200000 in
theorem r_safe (h : Rep B w r m vs vo P Q O) (k : Nat) (hk : k < m.st.length) (hu : StG (m.st.getD k noSt)) (v : Value) (o : List Int) (ho : okL o) (hv : Reads w v o) :
    Calls Tryd.prog 41 #[.pointer (some ⟨r, 0, none⟩), .int .i64 (k : Int), v] w fun e w' => e = .returned (.bool (sfD (ovE o) (ovM o) (m.st.getD k noSt))) ∧ Below w.heap.size w w' := by
  have hq1 : ∀ (w : World) (a : Option Addr) (n c : Nat), (binOp .eql 22 (.slice a n c) (.slice none 0 0)).run Tryd.prog w = .ok (.bool a.isNone) w := fun w a n c => Lib.run_eql_slice_nil w 22 tN a n c 0 0 Tryd.underlying22
  have hmk : ∀ w, (Instr.makeSlice 22 (.int .i64 4) (.int .i64 4)).run Tryd.prog w = .ok (.slice (some ⟨w.heap.size, 0, none⟩) 4 4) (w.alloc (.cells #[.int .i64 0, .int .i64 0, .int .i64 0, .int .i64 0] tNk)) := fun _ => by kernel_rfl
  have hcl := r_closed_ok v o ho hv
  have StK : Hid (∀ w1, Below w.heap.size w w1 → StW w1 r k (m.st.getD k noSt) m.st.length) := fun w1 hb => (h.keep hb).stw hk
  have hki : (k : Int) < (m.st.length : Int) := by omega
  have hS := ovS ho
  have HTC : Hid (ovE o = false → ovM o (0 * 8 + 1) = 0) := fun he => ((raw_lay ho).tc he).zero 0 (by omega)
  obtain ⟨ao, ca, rfl, -, -⟩ := hv
  clear h ho
  generalize m.st.getD k noSt = u at *
  generalize ovM o = C at *
  generalize hE : ovE o = e0 at *
  clear hE
  cases e0 with
  | true =>
    have HE : Hid (sfD true C u = true) := rfl
    clear HTC hS
    go_enter Tryd.func41, Tryd.ntmps41
    go_wp2_with fail
    refine hcl.mono ?_
    rintro e w1 ⟨hb1, ⟨-, rfl⟩ | ⟨he, -⟩⟩
    · have hrw := StK.out w1 hb1
      obtain ⟨g, cap, p, q, x1, x2, x3, x4, x5, x6, hq, hpl, hgl, hrl⟩ := hrw.ex
      have HQ : Hid (At w1 q (ic u.sg) tNk ∧ Below w.heap.size w w1) := ⟨hq, hb1⟩
      clear hrw hq
      clear hb1 hcl
      go_wp2_with fail
      go_ret
      exact ⟨ret_b' HE.out, HQ.out.2⟩
    · cases he
  | false =>
  have hC0 := HTC.out rfl
  have HGr : Hid (∀ w1 gq vv (l : List Int), At w1 gq (ic (bdL C)) tNo → Reads w1 vv l → l.length = 4 → (∀ i, -1 ≤ gAt l i ∧ gAt l i ≤ 1) → nz l ≤ 2 → Calls Tryd.prog 65 #[.slice (some ⟨gq, 0, none⟩) 32 32, vv] w1 fun e w' => e = .returned (.int .i64 (grD C l)) ∧ Below w1.heap.size w1 w') := fun w1 gq vv l ha hr h4 hs h2 => r_greatest C _ vv l h4 hs h2 hC0 (Reads.at_ ha (by simp [bdL]) (Nat.le_refl _) (fun i hi => ic_get _ _ (by simpa [bdL] using hi))) hr
  obtain ⟨r1, r2⟩ := grD_rng hS hC0 hu.len hu.sg hu.nz
  obtain ⟨r3, r4⟩ := grD_rng hS hC0 (ngL_len u.sg) (ngL_rng hu.sg) (by rw [nz_ngL hu.len]; exact hu.nz)
  obtain ⟨n1, n2⟩ := hu.num
  have HU : Hid (StG u) := hu
  clear hS HTC hu hC0
  by_cases k61 : u.kind = 61
  · have HE0 : Hid (sfD false C u = (u.star || decide (grD C u.sg ≠ NB ∧ grD C (ngL u.sg) ≠ NB ∧ grD C u.sg + u.num ≤ 999 ∧ grD C (ngL u.sg) - u.num ≤ 999))) := by show sfD false C u = _; unfold sfD; rw [if_neg (by decide), if_pos k61]
    cases hst : u.star with
    | true =>
      have HE : Hid (sfD false C u = true) := by show _ = true; rw [HE0.out, hst]; rfl
      clear HE0
      go_enter Tryd.func41, Tryd.ntmps41
      go_wp2_with fail
      refine hcl.mono ?_
      rintro e w1 ⟨hb1, ⟨he, -⟩ | ⟨-, gq, rfl, hgq, ha⟩⟩
      · cases he
      · have hrw := StK.out w1 hb1
        obtain ⟨g, cap, p, q, x1, x2, x3, x4, x5, x6, hq, hpl, hgl, hrl⟩ := hrw.ex
        have HQ : Hid (At w1 q (ic u.sg) tNk ∧ Below w.heap.size w w1) := ⟨hq, hb1⟩
        clear hrw hq
        rw [k61] at x3
        rw [hst] at x4
        clear hb1 hcl ha k61
        go_wp2_with fail
        go_ret
        exact ⟨ret_b' HE.out, HQ.out.2⟩
    | false =>
      have HE1 : Hid (sfD false C u = decide (grD C u.sg ≠ NB ∧ grD C (ngL u.sg) ≠ NB ∧ grD C u.sg + u.num ≤ 999 ∧ grD C (ngL u.sg) - u.num ≤ 999)) := by show _ = decide _; rw [HE0.out, hst]; rfl
      clear HE0
      go_enter Tryd.func41, Tryd.ntmps41
      go_wp2_with fail
      refine hcl.mono ?_
      rintro e w1 ⟨hb1, ⟨he, -⟩ | ⟨-, gq, rfl, hgq, ha⟩⟩
      · cases he
      · have hrw := StK.out w1 hb1
        obtain ⟨g, cap, p, q, x1, x2, x3, x4, x5, x6, hq, hpl, hgl, hrl⟩ := hrw.ex
        have HQ : Hid (At w1 q (ic u.sg) tNk ∧ Below w.heap.size w w1) := ⟨hq, hb1⟩
        clear hrw hq
        rw [k61] at x3
        rw [hst] at x4
        have HA : Hid (At (w1.alloc (.cells #[.int .i64 0, .int .i64 0, .int .i64 0, .int .i64 0] tNk)) w1.heap.size (ic (pnL u.sg 0)) tNk ∧ Below w1.heap.size w1 (w1.alloc (.cells #[.int .i64 0, .int .i64 0, .int .i64 0, .int .i64 0] tNk))) := ⟨At.new _ _ _, (Below.refl _ _).alloc (Nat.le_refl _) _⟩
        have HGa : Hid (At w1 gq (ic (bdL C)) tNo) := ha
        have hqlt : q < w1.heap.size := HQ.out.1.lt
        clear hb1 hcl ha k61
        go_wp2_with fail
        go_loopw [10] (fun iv wr => ∃ (j : Nat), j ≤ 4 ∧ iv = .int .i64 j ∧ Hid (At wr w1.heap.size (ic (pnL u.sg j)) tNk ∧ Below w1.heap.size w1 wr)) (fun iv _ => 4 - (intOf iv).toNat)
        case atStart => exact ⟨0, by omega, rfl, HA.out⟩
        case round =>
          obtain ⟨j, hj, rfl, HR⟩ := hrel
          have y5 : wr.cell? ⟨p, 3, none⟩ = some (.slice (some ⟨q, 0, none⟩) 4 4) := (HR.out.2.cell (p := ⟨p, 3, none⟩) hpl).trans x5
          by_cases hlt : j < 4
          · have hji : (j : Int) < 4 := by omega
            have hpn := pnL_at u.sg hlt
            have ca : wr.cell? ⟨q, j, none⟩ = some (.int .i64 (gAt u.sg j)) := by
              rw [HR.out.2.cell (p := ⟨q, j, none⟩) hqlt, HQ.out.1.cell, ic_get _ _ (by rw [HU.out.len]; exact hlt)]; rfl
            have cb : wr.cell? ⟨w1.heap.size, j, none⟩ = some (.int .i64 0) := by
              rw [HR.out.1.cell, ic_get _ _ (by omega), hpn.2]
            have cf := HR.out.1.free
            have hbl := HR.out.1.lt
            have hx := HU.out.sg j
            have HP : Hid (pnL u.sg (j + 1) = (pnL u.sg j).set j (-gAt u.sg j)) := rfl
            clear hpn
            generalize gAt u.sg j = x at *
            go_wp2_with fail
            go_roundw
            case rel =>
              refine ⟨j + 1, by omega, by go_num, ?_, HR.out.2.setCell (Nat.le_refl _) _⟩
              rw [HP.out, ← ic_set]
              exact HR.out.1.put j _
            case measure => simp [intOf]; omega
          · have hj4 : j = 4 := by omega
            subst hj4
            have hgr := HGr.out wr gq (.slice (some ⟨q, 0, none⟩) 4 4) u.sg (HGa.out.keep HR.out.2 HGa.out.lt) (Reads.at_ (HQ.out.1.keep HR.out.2 HQ.out.1.lt) HU.out.len (Nat.le_refl _) (fun i hi => ic_get _ _ (by rw [HU.out.len]; exact hi))) HU.out.len HU.out.sg HU.out.nz
            have HGr2 : Hid (∀ w3, Below wr.heap.size wr w3 → Calls Tryd.prog 65 #[.slice (some ⟨gq, 0, none⟩) 32 32, .slice (some ⟨w1.heap.size, 0, none⟩) 4 4] w3 fun e w' => e = .returned (.int .i64 (grD C (ngL u.sg))) ∧ Below w3.heap.size w3 w') := by
              intro w3 hb3
              have a1 := (HGa.out.keep HR.out.2 HGa.out.lt)
              have a2 : At w3 w1.heap.size (ic (ngL u.sg)) tNk := HR.out.1.keep hb3 HR.out.1.lt
              exact HGr.out w3 gq _ (ngL u.sg) (a1.keep hb3 a1.lt) (Reads.at_ a2 (ngL_len _) (Nat.le_refl _) (fun i hi => ic_get _ _ (by rw [ngL_len]; exact hi))) (ngL_len _) (ngL_rng HU.out.sg) (by rw [nz_ngL HU.out.len]; exact HU.out.nz)
            have HBr : Hid (Below w.heap.size w wr) := HQ.out.2.trans (HR.out.2.mono HQ.out.2.size)
            have z6 : wr.cell? ⟨p, 4, none⟩ = some (.int .i64 u.num) := (HR.out.2.cell (p := ⟨p, 4, none⟩) hpl).trans x6
            have hplr : p < wr.heap.size := Nat.lt_of_lt_of_le hpl HR.out.2.size
            clear HGr HA HQ
            generalize grD C u.sg = hi at *
            generalize grD C (ngL u.sg) = lo at *
            generalize u.num = n at *
            go_wp2_with fail
            refine hgr.mono ?_
            rintro e w3 ⟨rfl, hb3⟩
            have hg2 := HGr2.out w3 hb3
            have H3 : Hid (Below w.heap.size w w3) := HBr.out.trans (hb3.mono HBr.out.size)
            have t6 : w3.cell? ⟨p, 4, none⟩ = some (.int .i64 n) := (hb3.cell (p := ⟨p, 4, none⟩) hplr).trans z6
            have hpl3 : p < w3.heap.size := Nat.lt_of_lt_of_le hplr hb3.size
            clear hb3 hgr HGr2
            go_wp2_with fail
            refine hg2.mono ?_
            rintro e w4 ⟨rfl, hb4⟩
            have H4 : Hid (Below w.heap.size w w4) := H3.out.trans (hb4.mono H3.out.size)
            have s6 : w4.cell? ⟨p, 4, none⟩ = some (.int .i64 n) := (hb4.cell (p := ⟨p, 4, none⟩) hpl3).trans t6
            clear hb4 hg2
            by_cases q1 : hi = NB
            · have HE : Hid (sfD false C u = false) := HE1.out.trans (decide_eq_false (fun z => z.1 q1))
              have b1 : (hi != 1000000) = false := by rw [q1]; rfl
              clear HE1 q1
              go_wp2_with fail
              go_ret
              exact ⟨ret_b' HE.out, H4.out⟩
            have b1 : (hi != 1000000) = true := by rw [bne_iff_ne]; exact q1
            by_cases q2 : lo = NB
            · have HE : Hid (sfD false C u = false) := HE1.out.trans (decide_eq_false (fun z => z.2.1 q2))
              have b2 : (lo != 1000000) = false := by rw [q2]; rfl
              clear HE1 q1 q2
              go_wp2_with fail
              go_ret
              exact ⟨ret_b' HE.out, H4.out⟩
            have b2 : (lo != 1000000) = true := by rw [bne_iff_ne]; exact q2
            by_cases q3 : hi + n ≤ 999
            · have HE : Hid (sfD false C u = decide (lo - n ≤ 999)) := HE1.out.trans (decide_eq_decide.2 ⟨fun z => z.2.2.2, fun z => ⟨q1, q2, q3, z⟩⟩)
              clear HE1 q1 q2
              go_wp2_with fail
              go_ret
              exact ⟨ret_b' HE.out, H4.out⟩
            · have HE : Hid (sfD false C u = false) := HE1.out.trans (decide_eq_false (fun z => q3 z.2.2.1))
              clear HE1 q1 q2
              go_wp2_with fail
              go_ret
              exact ⟨ret_b' HE.out, H4.out⟩
  by_cases k33 : u.kind = 33
  · have HE0 : Hid (sfD false C u = (!u.star && decide (grD C u.sg ≤ u.num))) := by show sfD false C u = _; unfold sfD; rw [if_neg (by decide), if_neg k61, if_pos k33]
    cases hst : u.star with
    | true =>
      have HE : Hid (sfD false C u = false) := by show _ = false; rw [HE0.out, hst]; rfl
      clear HE0
      go_enter Tryd.func41, Tryd.ntmps41
      go_wp2_with fail
      refine hcl.mono ?_
      rintro e w1 ⟨hb1, ⟨he, -⟩ | ⟨-, gq, rfl, hgq, ha⟩⟩
      · cases he
      · have hrw := StK.out w1 hb1
        obtain ⟨g, cap, p, q, x1, x2, x3, x4, x5, x6, hq, hpl, hgl, hrl⟩ := hrw.ex
        have HQ : Hid (At w1 q (ic u.sg) tNk ∧ Below w.heap.size w w1) := ⟨hq, hb1⟩
        clear hrw hq
        rw [k33] at x3
        rw [hst] at x4
        clear hb1 hcl ha k33 k61
        go_wp2_with fail
        go_ret
        exact ⟨ret_b' HE.out, HQ.out.2⟩
    | false =>
      have HE : Hid (sfD false C u = decide (grD C u.sg ≤ u.num)) := by show _ = decide (grD C u.sg ≤ u.num); rw [HE0.out, hst]; rfl
      clear HE0
      go_enter Tryd.func41, Tryd.ntmps41
      go_wp2_with fail
      refine hcl.mono ?_
      rintro e w1 ⟨hb1, ⟨he, -⟩ | ⟨-, gq, rfl, hgq, ha⟩⟩
      · cases he
      · have hrw := StK.out w1 hb1
        obtain ⟨g, cap, p, q, x1, x2, x3, x4, x5, x6, hq, hpl, hgl, hrl⟩ := hrw.ex
        have HQ : Hid (At w1 q (ic u.sg) tNk ∧ Below w.heap.size w w1) := ⟨hq, hb1⟩
        clear hrw hq
        have hgr := HGr.out w1 gq (.slice (some ⟨q, 0, none⟩) 4 4) u.sg ha (Reads.at_ HQ.out.1 HU.out.len (Nat.le_refl _) (fun i hi => ic_get _ _ (by rw [HU.out.len]; exact hi))) HU.out.len HU.out.sg HU.out.nz
        rw [k33] at x3
        rw [hst] at x4
        clear hb1 hcl ha k33 k61
        generalize grD C u.sg = gr at *
        go_wp2_with fail
        refine hgr.mono ?_
        rintro e w2 ⟨rfl, hb2⟩
        have y6 : w2.cell? ⟨p, 4, none⟩ = some (.int .i64 u.num) := (hb2.cell (p := ⟨p, 4, none⟩) hpl).trans x6
        have H2 : Hid (Below w.heap.size w w2) := HQ.out.2.trans (hb2.mono HQ.out.2.size)
        clear hb2 hgr
        go_wp2_with fail
        go_ret
        exact ⟨ret_b' HE.out, H2.out⟩
  · have HE : Hid (sfD false C u = true) := by show sfD false C u = _; unfold sfD; rw [if_neg (by decide), if_neg k61, if_neg k33]
    have b61 : (u.kind == 61) = false := by simpa using k61
    have b33 : (u.kind == 33) = false := by simpa using k33
    go_enter Tryd.func41, Tryd.ntmps41
    go_wp2_with fail
    refine hcl.mono ?_
    rintro e w1 ⟨hb1, ⟨he, -⟩ | ⟨-, gq, rfl, hgq, ha⟩⟩
    · cases he
    · have hrw := StK.out w1 hb1
      obtain ⟨g, cap, p, q, x1, x2, x3, x4, x5, x6, hq, hpl, hgl, hrl⟩ := hrw.ex
      have HQ : Hid (At w1 q (ic u.sg) tNk ∧ Below w.heap.size w w1) := ⟨hq, hb1⟩
      clear hrw hq
      clear hb1 hcl ha k33 k61
      go_wp2_with fail
      go_ret
      exact ⟨ret_b' HE.out, HQ.out.2⟩

end Go.Proofs.YtffajooegiempaaDoor

namespace Go.Proofs.YtffajooegiempaaDoor
open Go.RowKit
variable {w : World}

/-- What the document's Safe answers. -/
def safeD (l : List Int) (p : Int) (o : List Int) : Bool × Int :=
  match progOf l with
  | none => (false, 1)
  | some m => if p < 0 ∨ (m.st.length : Int) ≤ p then (false, 2) else if gdB o = true then (sfD (ovE o) (ovM o) (m.st.getD p.toNat noSt), 0) else (false, 3)
theorem ways_pos (u : St) : 1 ≤ waysR u := by unfold waysR; split <;> decide
theorem waysAt_0 (m : Rd) (p : Int) : ((0 : Int) < 0 ∨ waysAt m p ≤ 0) ↔ (p < 0 ∨ (m.st.length : Int) ≤ p) := by
  unfold waysAt
  by_cases h : p < 0 ∨ (m.st.length : Int) ≤ p
  · rw [if_pos h]; exact ⟨fun _ => h, fun _ => .inr (by decide)⟩
  · rw [if_neg h]
    have := ways_pos (m.st.getD p.toNat noSt)
    exact ⟨fun z => z.elim (fun q => absurd q (by decide)) (fun q => absurd q (by omega)), fun z => absurd z h⟩
/-- Both say the same of a statement. -/
theorem sf_same {x : Ds} {u : St} {o : List Int} (hc : Cor x u) (hu : StG u) (ho : okL o) : sfP (ovE o) (ovM o) x = sfD (ovE o) (ovM o) u := by
  obtain ⟨c0, _, c2, c3, c4⟩ := hc
  unfold sfP sfD
  cases he : ovE o with
  | true => rfl
  | false =>
    have hC0 : ovM o (0 * 8 + 1) = 0 := ((raw_lay ho).tc he).zero 0 (by omega)
    have g1 := (grP_grD hC0 hu.len hu.sg hu.nz).1
    have g2 := (grP_grD hC0 (ngL_len u.sg) (ngL_rng hu.sg) (by rw [nz_ngL hu.len]; exact hu.nz)).1
    have e1 : grP (ovM o) u.sg = grD (ovM o) u.sg := g1
    have e2 : grP (ovM o) (ngL u.sg) = grD (ovM o) (ngL u.sg) := g2
    rw [if_neg (show ¬ (false = true) by decide), if_neg (show ¬ (false = true) by decide)]
    have k0 : x.kind = 0 ↔ u.kind = 61 := by
      rw [c0]; unfold kindOf
      constructor
      · intro h; rw [if_pos h]
      · intro h
        by_cases q : x.kind = 0
        · exact q
        · rw [if_neg q] at h
          split at h
          · cases h
          · split at h <;> cases h
    have k1 : x.kind = 1 ↔ u.kind = 33 := by
      rw [c0]; unfold kindOf
      constructor
      · intro h; rw [if_neg (by omega), if_pos h]
      · intro h
        by_cases q : x.kind = 0
        · rw [if_pos q] at h; cases h
        · rw [if_neg q] at h
          by_cases q1 : x.kind = 1
          · exact q1
          · rw [if_neg q1] at h
            split at h <;> cases h
    by_cases q0 : x.kind = 0
    · rw [if_pos q0, if_pos (k0.1 q0), ← c2, ← c4, ← c3]
      unfold ftB
      rw [e1, e2]
    · rw [if_neg q0, if_neg (fun z => q0 (k0.2 z))]
      by_cases q1 : x.kind = 1
      · rw [if_pos q1, if_pos (k1.1 q1), ← c2, ← c4, ← c3, e1]
      · rw [if_neg q1, if_neg (fun z => q1 (k1.2 z))]
theorem safe_same (s : ByteArray) (p : Int) (o : List Int) : safeP s p o = safeD (bytesOf s) p o := by
  unfold safeP safeD
  cases hp : progOf (bytesOf s) with
  | none => rfl
  | some m =>
    have hl := (progOf_some hp).1
    have hb := bytesOf_len s
    rcases prog_whole s (by omega) with ⟨_, hn⟩ | ⟨m', _, hp', hW⟩
    · rw [hp] at hn; cases hn
    · rw [hp] at hp'
      cases hp'
      show (if p < 0 ∨ (m.st.length : Int) ≤ p then (false, 2) else if gdB o = true then (sfP (ovE o) (ovM o) ((readZ s).2.getD p.toNat (newDs 0 0)), (0 : Int)) else (false, 3)) = if p < 0 ∨ (m.st.length : Int) ≤ p then (false, 2) else if gdB o = true then (sfD (ovE o) (ovM o) (m.st.getD p.toNat noSt), 0) else (false, 3)
      by_cases h : p < 0 ∨ (m.st.length : Int) ≤ p
      · rw [if_pos h, if_pos h]
      · rw [if_neg h, if_neg h]
        by_cases hg : gdB o = true
        · rw [if_pos hg, if_pos hg]
          have hlen := hW.1.len
          have hk : p.toNat < (readZ s).2.length := by omega
          rw [sf_same (dsg_of hp hW hk).2 (stg_of hp p.toNat) (gdB_ok.1 hg)]
        · rw [if_neg hg, if_neg hg]

set_option maxRecDepth 100000 in
set_option maxHeartbeats 1600000 in
theorem ref_safe (s : ByteArray) (p : Int) (v : Value) (o : List Int) (hm : s.size ≤ maxLen) (hol : o.length ≤ 1073741824) (hv : Reads w v o) :
    Calls Tryd.prog 20 #[.string s, .int .i64 p, v] w fun e w' => e = bi (safeD (bytesOf s) p o) ∧ Below w.heap.size w w' := by
  have HV : Hid (Reads w v o) := hv
  have HGd : Hid (∀ w1, Below w.heap.size w w1 → Calls Tryd.prog 25 #[v] w1 fun e w' => e = .returned (.bool (gdB o)) ∧ w' = w1) := fun w1 hb => r_good v o hol (hv.keep hb)
  cases hp : progOf (bytesOf s) with
  | none =>
    have HE : Hid (safeD (bytesOf s) p o = (false, 1)) := by show safeD _ _ _ = _; unfold safeD; rw [hp]
    have hk := ref_known_none s p 0 w hm hp
    obtain ⟨ao, ca, rfl, -, -⟩ := hv
    clear hp hm
    go_enter Tryd.func20, Tryd.ntmps20
    go_wp2_with fail
    refine hk.mono ?_
    rintro e w1 ⟨rfl, hb1⟩
    go_wp2_with fail
    go_ret2
    exact ⟨by rw [HE.out]; rfl, hb1⟩
  | some m =>
    have HE : Hid (safeD (bytesOf s) p o = if p < 0 ∨ (m.st.length : Int) ≤ p then (false, 2) else if gdB o = true then (sfD (ovE o) (ovM o) (m.st.getD p.toNat noSt), 0) else (false, 3)) := by show safeD _ _ _ = _; unfold safeD; rw [hp]
    have hk := ref_known_some s p 0 w hm hp
    have HS : Hid (∀ k, StG (m.st.getD k noSt)) := fun k => stg_of hp k
    have HWy : Hid (_ ↔ _) := waysAt_0 m p
    obtain ⟨ao, ca, rfl, -, -⟩ := id hv
    clear hp hm hv
    go_enter Tryd.func20, Tryd.ntmps20
    go_wp2_with fail
    refine hk.mono ?_
    rintro e w1 ⟨hb1, ⟨rfl, hway⟩ | ⟨hway, hl20, r, B, vs, vo, P, Q, O, rfl, hrep⟩⟩
    · have HE2 : Hid (safeD (bytesOf s) p o = (false, 2)) := HE.out.trans (if_pos (HWy.out.1 hway))
      clear HE hway hk
      go_wp2_with fail
      go_ret2
      exact ⟨by rw [HE2.out]; rfl, hb1⟩
    · have hin : ¬ (p < 0 ∨ (m.st.length : Int) ≤ p) := fun z => hway (HWy.out.2 z)
      obtain ⟨k, rfl⟩ : ∃ k : Nat, p = k := ⟨p.toNat, by omega⟩
      have hkl : k < m.st.length := by omega
      have HE2 : Hid (safeD (bytesOf s) k o = if gdB o = true then (sfD (ovE o) (ovM o) (m.st.getD k noSt), 0) else (false, 3)) := HE.out.trans (if_neg hin)
      have hgd := HGd.out w1 hb1
      have HB1 : Hid (Below w.heap.size w w1) := hb1
      by_cases hok : okL o
      · have hsf := r_safe hrep k hkl (HS.out k) _ o hok (HV.out.keep hb1)
        rw [gdB_ok.2 hok] at hgd
        have HE3 : Hid (safeD (bytesOf s) k o = (sfD (ovE o) (ovM o) (m.st.getD k noSt), 0)) := HE2.out.trans (if_pos (gdB_ok.2 hok))
        clear HE HE2 hway hk hin hrep hb1 hok HWy
        generalize sfD (ovE o) (ovM o) (m.st.getD k noSt) = sf at *
        go_wp2_with fail
        refine hgd.mono ?_
        rintro e w2 ⟨rfl, hw2⟩
        subst hw2
        go_wp2_with fail
        refine hsf.mono ?_
        rintro e w3 ⟨rfl, hb3⟩
        go_wp2_with fail
        go_ret2
        exact ⟨by rw [HE3.out]; rfl, HB1.out.trans (hb3.mono HB1.out.size)⟩
      · rw [gdB_no hok] at hgd
        have HE3 : Hid (safeD (bytesOf s) k o = (false, 3)) := HE2.out.trans (if_neg (by rw [gdB_no hok]; decide))
        clear HE HE2 hway hk hin hrep hb1 hok HWy
        go_wp2_with fail
        refine hgd.mono ?_
        rintro e w2 ⟨rfl, hw2⟩
        subst hw2
        go_wp2_with fail
        go_ret2
        exact ⟨by rw [HE3.out]; rfl, HB1.out⟩

end Go.Proofs.YtffajooegiempaaDoor

namespace Go.Proofs.YtffajooegiempaaDoor
open Go.RowKit
variable {w : World}

set_option maxRecDepth 100000 in
set_option maxHeartbeats 1600000 in
theorem safes_walk (hG : Glob w) (s : ByteArray) (p : Int) (v : Value) (L : List Int) (hm : s.size ≤ maxLen) (hL : L.length ≤ maxLen) (hv : Reads w v L) :
    Calls Tryd.prog 6 #[.string s, .int .i64 p, v] w fun e w' => e = .returned (.bool true) ∧ Below w.heap.size w w' := by
  have hL' : L.length ≤ 9223372036854775807 := by unfold maxLen at hL; omega
  clear hL
  by_cases hbig : 1073741824 < L.length
  · obtain ⟨ao, cap, rfl, -, -⟩ := hv
    have hb' : (1073741824 : Int) < (L.length : Int) := by omega
    clear hG hm
    go_enter Tryd.func6, Tryd.ntmps6
    go_wp2_with fail
    go_ret
    exact ⟨rfl, Below.refl _ _⟩
  have hL2 : L.length ≤ 1073741824 := by omega
  have hb' : ¬ (1073741824 : Int) < (L.length : Int) := by omega
  have hlent := l_lent w v L hL2 hv
  have HV : Hid (Reads w v L) := hv
  have HSf : Hid (∀ w1, Below w.heap.size w w1 → At w1 w.heap.size (lentCells L) tN → Calls Tryd.prog 19 #[.string s, .int .i64 p, .slice (some ⟨w.heap.size, 0, none⟩) L.length (L.length + 2)] w1 fun e w' => e = bi (safeD (bytesOf s) p L) ∧ Below w1.heap.size w1 w') := fun w1 hb1 hat => by
    rw [← safe_same]
    exact w_safe (hG.keep hb1 hG.size) s p _ L hm (Reads.lent hat)
  have HRef : Hid (∀ w1, Below w.heap.size w w1 → Calls Tryd.prog 20 #[.string s, .int .i64 p, v] w1 fun e w' => e = bi (safeD (bytesOf s) p L) ∧ Below w1.heap.size w1 w') := fun w1 hb1 => ref_safe s p v L hm hL2 (HV.out.keep hb1)
  obtain ⟨ao, cap, rfl, -, -⟩ := id hv
  clear hv hL' hbig hG hm
  generalize safeD (bytesOf s) p L = x at *
  obtain ⟨y, c⟩ := x
  unfold bi at HSf HRef
  go_enter Tryd.func6, Tryd.ntmps6
  go_wp2_with fail
  refine hlent.mono ?_
  rintro e w1 ⟨rfl, hb1, hat1, hs1⟩
  have HB1 : Hid (Below w.heap.size w w1) := hb1
  have HA1 : Hid (At w1 w.heap.size (lentCells L) tN) := hat1
  clear hb1 hat1 hlent
  go_wp2_with fail
  refine (HSf.out w1 HB1.out HA1.out).mono ?_
  rintro e w2 ⟨rfl, hb2⟩
  have HB2 : Hid (Below w.heap.size w w2) := HB1.out.trans (hb2.mono (by omega))
  have HA2 : Hid (At w2 w.heap.size (lentCells L) tN) := HA1.out.keep hb2 hs1
  have hs2 : w1.heap.size ≤ w2.heap.size := hb2.size
  clear hb2
  go_wp2_with fail
  refine (HRef.out w2 HB2.out).mono ?_
  rintro e w3 ⟨rfl, hb3⟩
  have HB3 : Hid (Below w.heap.size w w3) := HB2.out.trans (hb3.mono (by omega))
  have HA3 : Hid (At w3 w.heap.size (lentCells L) tN) := HA2.out.keep hb3 (by omega)
  have hwh := l_whole w3 w.heap.size (.slice ao L.length cap) L hL2 HA3.out (HV.out.keep HB3.out)
  clear hb3
  go_wp2_with fail
  refine hwh.mono ?_
  rintro e w5 ⟨rfl, k', rfl⟩
  go_wp2_with fail
  go_ret
  exact ⟨rfl, below_drewN HB3.out k'⟩

end Go.Proofs.YtffajooegiempaaDoor

namespace Go.Proofs.YtffajooegiempaaDoor
open Go.ChangeShapes Go.WideShapes Go.ChangeAt Go.WideMaps Go.WideElems Go.RowKit Go.ChangeMaps

set_option maxRecDepth 100000 in
theorem safes_lifted (os : Os) (started : os.Started) (H : Type) (enc : TypeId × Value → H) :
    ReturnsInHanded {} Tryd.checked os 6 .any (fun w args => (Rows.safesSpec.pre enc Tryd.prog Tryd.f6 [] false w args ∧ laidMetH Tryd.prog laid2 w) ∧ sizedMet enc Tryd.prog Tryd.f6 (OpenSpec.ofChange Rows.safesSpec) false w args)
      (Rows.safesSpec.post enc Tryd.prog Tryd.f6 false true false false) := by
  refine returnsInHanded_of_change_and (C := Tryd.checked) (X := fun w _ => laidMetH Tryd.prog laid2 w) (fun _ _ _ hh h => h.of_heap hh) Tryd.ownD started (by kernel_rfl) Tryd.func6
    (ChangeSpec.witness_shaped (enc := enc) (C := Tryd.checked) (os := os) (X := fun w _ => laidMetH Tryd.prog laid2 w) false (World.doorLaid Tryd.prog 4000 os) #[.string ByteArray.empty, .int .i64 0, .slice none 0 0] 8 rfl (World.shaped_of_RefB (by kernel_rfl) (by kernel_rfl)) (by kernel_rfl) (by kernel_rfl) (by kernel_rfl) (door_met os _)) ?_
  intro W base args ds gs before hval0 hW _ _ hL _
  have hval : ∀ (j : Nat) t v, Tryd.f6.params[j]? = some t → args[j]? = some v → Value.okWide Tryd.prog W .any base t v := hval0
  have hW' := hW
  obtain ⟨p, q, hA0, hV, rfl, hfz, hnd⟩ := hW
  have hA : DataW.TrodAll enc Tryd.prog W 0 (fun _ => true) true Tryd.f6.params.toList args.toList ds p := hA0
  rw [Tryd.params6] at hA hval
  obtain ⟨v0, vs0, d0, ds0, p0, q0, hargs0, rfl, rfl, h0, r0⟩ := trodAll_cons hA
  obtain ⟨v1, vs1, d1, ds1, p1, q1, hargs1, rfl, rfl, h1, r1⟩ := trodAll_cons r0
  obtain ⟨v2, vs2, d2, ds2, p2, q2, hargs2, rfl, rfl, h2, r2⟩ := trodAll_cons r1
  obtain ⟨rfl, rfl, rfl⟩ := trodAll_nil r2
  obtain rfl : args = #[v0, v1, v2] := by cases args; simp_all
  obtain ⟨rfl, rfl⟩ := trodVars_none hV
  obtain ⟨s, rfl, rfl, rfl, hs⟩ := open_string Tryd.underlying9 (hval 0 9 v0 rfl rfl) h0
  obtain ⟨b, rfl, rfl, rfl, wb⟩ := open_int Tryd.underlying3 (hval 1 3 v1 rfl rfl) h1
  obtain ⟨a0, l0, c0, rfl⟩ := okWide_slice Tryd.underlying22 (hval 2 22 v2 rfl rfl)
  clear hA0 hval0
  simp only [List.append_nil, List.nil_append] at hW'
  have lt2 : ∀ x ∈ p2, x.block < W.heap.size := fun x hx => hW'.lt x (by simp [hx])
  obtain ⟨L2, m2, R2⟩ := open_reads h2 lt2
  refine (safes_walk (of_laid hL) s b _ L2 hs m2 R2).mono fun e W' ⟨he, hb⟩ => ?_
  subst he
  have t2 := Below.trod Tryd.laidOutD (by kernel_rfl) (of_decide_eq_true (by kernel_rfl)) h2 hb lt2
  have hall := trodAll_cons_mk (shut_string Tryd.underlying9 hs) (trodAll_cons_mk (shut_int Tryd.underlying3 wb) (trodAll_cons_mk t2 trodAll_mk0))
  simp only [List.append_nil, List.nil_append] at hall
  exact ⟨_, rfl, _, _, _, [], p2, [], hW', trodAll_cons_mk (shut_bool Tryd.underlying4 _) trodAll_mk0, hall, rfl, hb.frame _, fun h => by cases h⟩

theorem safes_row : Rows.SafesSaid :=
  OpenClaim.holds_of_wide 6 Tryd.f6 rfl rfl rfl rfl rfl rfl rfl ⟨rfl, rfl, rfl, rfl, rfl⟩ rfl rfl rfl rfl rfl (by kernel_rfl) Tryd.func6 (by kernel_rfl)
    (of_decide_eq_true (by kernel_rfl)) (by unfold Func.isWrapper; first | (rw [if_pos (by decide +kernel)]; kernel_rfl) | (rw [if_neg (by decide +kernel)]; exact ⟨rfl, rfl⟩))
    (fun os started H enc _ => safes_lifted os started H enc)

theorem safes_card : Rows.SafesCardSaid :=
  Claim7.holds_tied_plain_at .later [] [.data, .data] true Rows.safesCard.stood.harness false
    safes_row (fun _ h => by cases h) (by kernel_rfl) (fun _ h => by cases h) safes_row_tie rfl ⟨rfl, rfl⟩ (by kernel_rfl) rfl
    (fun f fn hf hfn => by
      obtain rfl : f = 6 := Option.some.inj ((show Tryd.prog.funcNamed "witness/witnesslaw.Safes" = some 6 by kernel_rfl).symm.trans hf) |>.symm
      obtain rfl : fn = Tryd.f6 := (Option.some.inj (Tryd.func6.symm.trans hfn)).symm
      exact ⟨by kernel_rfl, fun j t ht => by
        rw [Tryd.params6] at ht
        have hm : t ∈ [9, 3, 22] := by simpa using Array.mem_of_getElem? ht
        have hall : ([9, 3, 22].all fun u => !Tryd.prog.wantsStandIn u) = true := by kernel_rfl
        exact (show Tryd.prog.wantsStandIn t = false by simpa using List.all_eq_true.1 hall t hm)⟩)
    (by kernel_rfl)

end Go.Proofs.YtffajooegiempaaDoor

