import Derived.Test.YtffajooegiempaaGreatDoorJ26
namespace Go.Proofs.YtffajooegiempaaGreatDoor
open Go.RowKit
variable {w : World}
def bi (x : Bool × Int) : Ending := .returned (.tuple #[.bool x.1, .int .i64 x.2])

/-- What a statement of the document's keeps to. -/
structure StG (u : St) : Prop where
  len : u.sg.length = 4
  sg : ∀ i, -1 ≤ gAt u.sg i ∧ gAt u.sg i ≤ 1
  num : -99 ≤ u.num ∧ u.num ≤ 99
  nz : nz u.sg ≤ 2
theorem stg_no : StG noSt := ⟨rfl, fun i => by
  rcases (show i = 0 ∨ i = 1 ∨ i = 2 ∨ i = 3 ∨ 4 ≤ i by omega) with rfl | rfl | rfl | rfl | h4
  · exact ⟨by decide, by decide⟩
  · exact ⟨by decide, by decide⟩
  · exact ⟨by decide, by decide⟩
  · exact ⟨by decide, by decide⟩
  · have : gAt noSt.sg i = 0 := by unfold gAt noSt; rw [List.getD_eq_getElem?_getD, List.getElem?_eq_none (by simp; omega)]; rfl
    omega, by decide, by decide⟩
theorem stg_of {l : List Int} {m : Rd} (hp : progOf l = some m) (k : Nat) : StG (m.st.getD k noSt) := by
  obtain ⟨_, ⟨n, hr⟩, _, _⟩ := progOf_some hp
  obtain ⟨hg, ok⟩ := gd_from (m := init) (m' := m) (fun s hs => absurd hs (by simp [init])) Ok.init hr
  have hc := cn_from (m := init) (m' := m) ⟨fun s hs => absurd hs (by simp [init]), by decide⟩ Ok.init hr
  rw [List.getD_eq_getElem?_getD]
  cases e : m.st[k]? with
  | none => exact stg_no
  | some u =>
    have hu := List.mem_of_getElem? e
    have hl := ok.sgl u hu
    refine ⟨hl, fun i => ?_, ok.nums u hu, hc.all u hu⟩
    show -1 ≤ gAt u.sg i ∧ gAt u.sg i ≤ 1
    unfold gAt
    rw [List.getD_eq_getElem?_getD]
    cases e2 : u.sg[i]? with
    | none => exact ⟨by decide, by decide⟩
    | some x => exact (hg u hu).2.2 x (List.mem_of_getElem? e2)

theorem dsg_of {l : List Int} {m : Rd} {F : List Ds} (hp : progOf l = some m) (hW : Whole F m.st) {k : Nat} (hk : k < F.length) : DsG (F.getD k (newDs 0 0)) ∧ Cor (F.getD k (newDs 0 0)) (m.st.getD k noSt) := by
  have hl := hW.1.len
  have hx := gets' hk
  have hu : m.st[k]? = some (m.st.getD k noSt) := by rw [List.getD_eq_getElem?_getD, List.getElem?_eq_getElem (by omega)]; rfl
  have hc := hW.1.cor k _ _ hx hu
  have hg := stg_of hp k
  obtain ⟨_, _, _, c3, c4⟩ := id hc
  exact ⟨⟨by rw [← c3]; exact hg.sg, by rw [← c4]; exact hg.num⟩, hc⟩

end Go.Proofs.YtffajooegiempaaGreatDoor

namespace Go.Proofs.YtffajooegiempaaGreatDoor
open Go.RowKit
variable {B : Nat} {w : World} {r : Nat} {m : Rd} {vs vo : Value} {P Q O : Nat → Nat}

/-- Is it safe: the document. -/
def sfD (e : Bool) (C : Nat → Int) (u : St) : Bool :=
  if e = true then true else if u.kind = 61 then u.star || decide (grD C u.sg ≠ NB ∧ grD C (ngL u.sg) ≠ NB ∧ grD C u.sg + u.num ≤ 999 ∧ grD C (ngL u.sg) - u.num ≤ 999)
  else if u.kind = 33 then !u.star && decide (grD C u.sg ≤ u.num) else true
theorem bd_rng {M : Nat → Int} (hS : Sm M) {f : Nat} (hf : f < 32) : -200000000000000000 ≤ bd M f ∧ bd M f ≤ 1000000000000 := mo_rng hS (fs_lt f hf) (ss_lt f hf)
theorem grD_rng {M : Nat → Int} (hS : Sm M) (hC : M (0 * 8 + 1) = 0) {l : List Int} (hl : l.length = 4) (h : ∀ i, -1 ≤ gAt l i ∧ gAt l i ≤ 1) (h2 : nz l ≤ 2) : -200000000000000000 ≤ grD M l ∧ grD M l ≤ 1000000000000 := by
  rw [← (grP_grD hC hl h h2).1]
  exact grP_rng hS l
def pnL (l : List Int) : Nat → List Int
  | 0 => [0, 0, 0, 0]
  | j + 1 => (pnL l j).set j (-gAt l j)
theorem pnL_at (l : List Int) {j : Nat} (hj : j < 4) : (pnL l j).length = 4 ∧ (pnL l j).getD j 0 = 0 := by
  rcases (show j = 0 ∨ j = 1 ∨ j = 2 ∨ j = 3 by omega) with rfl | rfl | rfl | rfl <;> exact ⟨rfl, rfl⟩
theorem ngL_len (l : List Int) : (ngL l).length = 4 := rfl

/-- What the walk needs of the statement. -/
structure StW (w : World) (r k : Nat) (u : St) (len : Nat) : Prop where
  ex : ∃ g cap p q, w.cell? ⟨r, 1, none⟩ = some (.slice (some ⟨g, 0, none⟩) len cap) ∧ w.cell? ⟨g, k, none⟩ = some (.pointer (some ⟨p, 0, none⟩)) ∧ w.cell? ⟨p, 0, none⟩ = some (.int .u8 u.kind) ∧ w.cell? ⟨p, 2, none⟩ = some (.bool u.star) ∧
    w.cell? ⟨p, 3, none⟩ = some (.slice (some ⟨q, 0, none⟩) 4 4) ∧ w.cell? ⟨p, 4, none⟩ = some (.int .i64 u.num) ∧ At w q (ic u.sg) tNk ∧ p < w.heap.size ∧ g < w.heap.size ∧ r < w.heap.size
theorem Rep.stw (h : Rep B w r m vs vo P Q O) {k : Nat} (hk : k < m.st.length) : StW w r k (m.st.getD k noSt) m.st.length := by
  obtain ⟨g, cap, hvs, hrow, _⟩ := h.row (by omega)
  obtain ⟨r0, r1, _⟩ := h.rdc
  have hg := Rep.gets hk
  obtain ⟨c0, _, c2, c3, c4, _⟩ := h.stc k _ hg
  obtain ⟨a, b⟩ := h.st k _ hg
  rw [hvs] at r1
  have hgl := World.block_lt_of_cell? w _ (hrow k hk)
  exact ⟨g, cap, P k, Q k, r1, hrow k hk, c0, c2, c3, c4, b, a.lt, hgl, h.rd.lt⟩
set_option maxRecDepth 100000 in
set_option maxHeartbeats 3200000 in
theorem r_safe_c (h : Rep B w r m vs vo P Q O) (k : Nat) (hk : k < m.st.length) (hu : StG (m.st.getD k noSt)) (v : Value) {e0 : Bool} {C : Nat → Int} (hva : ∃ a n c, v = .slice a n c) (hcl : Calls Tryz.prog 59 #[v] w (LSays w e0 C)) (hS : Sm C) (hT : e0 = false → C (0 * 8 + 1) = 0) :
    Calls Tryz.prog 64 #[.pointer (some ⟨r, 0, none⟩), .int .i64 (k : Int), v] w fun e w' => e = .returned (.bool (sfD e0 C (m.st.getD k noSt))) ∧ Below w.heap.size w w' := by
  have hq1 : ∀ (w : World) (a : Option Addr) (n c : Nat), (binOp .eql 32 (.slice a n c) (.slice none 0 0)).run Tryz.prog w = .ok (.bool a.isNone) w := fun w a n c => Lib.run_eql_slice_nil w 32 tN a n c 0 0 Tryz.underlying32
  have hmk : ∀ w, (Instr.makeSlice 32 (.int .i64 4) (.int .i64 4)).run Tryz.prog w = .ok (.slice (some ⟨w.heap.size, 0, none⟩) 4 4) (w.alloc (.cells #[.int .i64 0, .int .i64 0, .int .i64 0, .int .i64 0] tNk)) := fun _ => by kernel_rfl
  have StK : Hid (∀ w1, Below w.heap.size w w1 → StW w1 r k (m.st.getD k noSt) m.st.length) := fun w1 hb => (h.keep hb).stw hk
  have hki : (k : Int) < (m.st.length : Int) := by omega
  have HTC : Hid (e0 = false → C (0 * 8 + 1) = 0) := hT
  obtain ⟨ao, an, ca, rfl⟩ := hva
  clear h hT
  generalize m.st.getD k noSt = u at *
  cases e0 with
  | true =>
    have HE : Hid (sfD true C u = true) := rfl
    clear HTC hS
    go_enter Tryz.func64, Tryz.ntmps64
    go_wp2_with fail
    refine hcl.mono ?_
    rintro e w1 ⟨hb1, ⟨-, rfl⟩ | ⟨he, -⟩⟩
    · have hrw := StK.out w1 hb1
      obtain ⟨g, cap, p, q, x1, x2, x3, x4, x5, x6, hq, hpl, hgl, hrl⟩ := hrw.ex
      have HQ : Hid (At w1 q (ic u.sg) tNk ∧ Below w.heap.size w w1) := ⟨hq, hb1⟩
      clear hrw hq
      clear hb1 hcl
      go_wp2_with fail
      go_ret
      exact ⟨ret_b' HE.out, HQ.out.2⟩
    · cases he
  | false =>
  have hC0 := HTC.out rfl
  have HGr : Hid (∀ w1 gq vv (l : List Int), At w1 gq (ic (bdL C)) tNo → Reads w1 vv l → l.length = 4 → (∀ i, -1 ≤ gAt l i ∧ gAt l i ≤ 1) → nz l ≤ 2 → Calls Tryz.prog 97 #[.slice (some ⟨gq, 0, none⟩) 32 32, vv] w1 fun e w' => e = .returned (.int .i64 (grD C l)) ∧ Below w1.heap.size w1 w') := fun w1 gq vv l ha hr h4 hs h2 => r_greatest C _ vv l h4 hs h2 hC0 (Reads.at_ ha (by simp [bdL]) (Nat.le_refl _) (fun i hi => ic_get _ _ (by simpa [bdL] using hi))) hr
  obtain ⟨r1, r2⟩ := grD_rng hS hC0 hu.len hu.sg hu.nz
  obtain ⟨r3, r4⟩ := grD_rng hS hC0 (ngL_len u.sg) (ngL_rng hu.sg) (by rw [nz_ngL hu.len]; exact hu.nz)
  obtain ⟨n1, n2⟩ := hu.num
  have HU : Hid (StG u) := hu
  clear hS HTC hu hC0
  by_cases k61 : u.kind = 61
  · have HE0 : Hid (sfD false C u = (u.star || decide (grD C u.sg ≠ NB ∧ grD C (ngL u.sg) ≠ NB ∧ grD C u.sg + u.num ≤ 999 ∧ grD C (ngL u.sg) - u.num ≤ 999))) := by show sfD false C u = _; unfold sfD; rw [if_neg (by decide), if_pos k61]
    cases hst : u.star with
    | true =>
      have HE : Hid (sfD false C u = true) := by show _ = true; rw [HE0.out, hst]; rfl
      clear HE0
      go_enter Tryz.func64, Tryz.ntmps64
      go_wp2_with fail
      refine hcl.mono ?_
      rintro e w1 ⟨hb1, ⟨he, -⟩ | ⟨-, gq, rfl, hgq, ha⟩⟩
      · cases he
      · have hrw := StK.out w1 hb1
        obtain ⟨g, cap, p, q, x1, x2, x3, x4, x5, x6, hq, hpl, hgl, hrl⟩ := hrw.ex
        have HQ : Hid (At w1 q (ic u.sg) tNk ∧ Below w.heap.size w w1) := ⟨hq, hb1⟩
        clear hrw hq
        rw [k61] at x3
        rw [hst] at x4
        clear hb1 hcl ha k61
        go_wp2_with fail
        go_ret
        exact ⟨ret_b' HE.out, HQ.out.2⟩
    | false =>
      have HE1 : Hid (sfD false C u = decide (grD C u.sg ≠ NB ∧ grD C (ngL u.sg) ≠ NB ∧ grD C u.sg + u.num ≤ 999 ∧ grD C (ngL u.sg) - u.num ≤ 999)) := by show _ = decide _; rw [HE0.out, hst]; rfl
      clear HE0
      go_enter Tryz.func64, Tryz.ntmps64
      go_wp2_with fail
      refine hcl.mono ?_
      rintro e w1 ⟨hb1, ⟨he, -⟩ | ⟨-, gq, rfl, hgq, ha⟩⟩
      · cases he
      · have hrw := StK.out w1 hb1
        obtain ⟨g, cap, p, q, x1, x2, x3, x4, x5, x6, hq, hpl, hgl, hrl⟩ := hrw.ex
        have HQ : Hid (At w1 q (ic u.sg) tNk ∧ Below w.heap.size w w1) := ⟨hq, hb1⟩
        clear hrw hq
        rw [k61] at x3
        rw [hst] at x4
        have HA : Hid (At (w1.alloc (.cells #[.int .i64 0, .int .i64 0, .int .i64 0, .int .i64 0] tNk)) w1.heap.size (ic (pnL u.sg 0)) tNk ∧ Below w1.heap.size w1 (w1.alloc (.cells #[.int .i64 0, .int .i64 0, .int .i64 0, .int .i64 0] tNk))) := ⟨At.new _ _ _, (Below.refl _ _).alloc (Nat.le_refl _) _⟩
        have HGa : Hid (At w1 gq (ic (bdL C)) tNo) := ha
        have hqlt : q < w1.heap.size := HQ.out.1.lt
        clear hb1 hcl ha k61
        go_wp2_with fail
        go_loopw [10] (fun iv wr => ∃ (j : Nat), j ≤ 4 ∧ iv = .int .i64 j ∧ Hid (At wr w1.heap.size (ic (pnL u.sg j)) tNk ∧ Below w1.heap.size w1 wr)) (fun iv _ => 4 - (intOf iv).toNat)
        case atStart => exact ⟨0, by omega, rfl, HA.out⟩
        case round =>
          obtain ⟨j, hj, rfl, HR⟩ := hrel
          have y5 : wr.cell? ⟨p, 3, none⟩ = some (.slice (some ⟨q, 0, none⟩) 4 4) := (HR.out.2.cell (p := ⟨p, 3, none⟩) hpl).trans x5
          by_cases hlt : j < 4
          · have hji : (j : Int) < 4 := by omega
            have hpn := pnL_at u.sg hlt
            have ca : wr.cell? ⟨q, j, none⟩ = some (.int .i64 (gAt u.sg j)) := by
              rw [HR.out.2.cell (p := ⟨q, j, none⟩) hqlt, HQ.out.1.cell, ic_get _ _ (by rw [HU.out.len]; exact hlt)]; rfl
            have cb : wr.cell? ⟨w1.heap.size, j, none⟩ = some (.int .i64 0) := by
              rw [HR.out.1.cell, ic_get _ _ (by omega), hpn.2]
            have cf := HR.out.1.free
            have hbl := HR.out.1.lt
            have hx := HU.out.sg j
            have HP : Hid (pnL u.sg (j + 1) = (pnL u.sg j).set j (-gAt u.sg j)) := rfl
            clear hpn
            generalize gAt u.sg j = x at *
            go_wp2_with fail
            go_roundw
            case rel =>
              refine ⟨j + 1, by omega, by go_num, ?_, HR.out.2.setCell (Nat.le_refl _) _⟩
              rw [HP.out, ← ic_set]
              exact HR.out.1.put j _
            case measure => simp [intOf]; omega
          · have hj4 : j = 4 := by omega
            subst hj4
            have hgr := HGr.out wr gq (.slice (some ⟨q, 0, none⟩) 4 4) u.sg (HGa.out.keep HR.out.2 HGa.out.lt) (Reads.at_ (HQ.out.1.keep HR.out.2 HQ.out.1.lt) HU.out.len (Nat.le_refl _) (fun i hi => ic_get _ _ (by rw [HU.out.len]; exact hi))) HU.out.len HU.out.sg HU.out.nz
            have HGr2 : Hid (∀ w3, Below wr.heap.size wr w3 → Calls Tryz.prog 97 #[.slice (some ⟨gq, 0, none⟩) 32 32, .slice (some ⟨w1.heap.size, 0, none⟩) 4 4] w3 fun e w' => e = .returned (.int .i64 (grD C (ngL u.sg))) ∧ Below w3.heap.size w3 w') := by
              intro w3 hb3
              have a1 := (HGa.out.keep HR.out.2 HGa.out.lt)
              have a2 : At w3 w1.heap.size (ic (ngL u.sg)) tNk := HR.out.1.keep hb3 HR.out.1.lt
              exact HGr.out w3 gq _ (ngL u.sg) (a1.keep hb3 a1.lt) (Reads.at_ a2 (ngL_len _) (Nat.le_refl _) (fun i hi => ic_get _ _ (by rw [ngL_len]; exact hi))) (ngL_len _) (ngL_rng HU.out.sg) (by rw [nz_ngL HU.out.len]; exact HU.out.nz)
            have HBr : Hid (Below w.heap.size w wr) := HQ.out.2.trans (HR.out.2.mono HQ.out.2.size)
            have z6 : wr.cell? ⟨p, 4, none⟩ = some (.int .i64 u.num) := (HR.out.2.cell (p := ⟨p, 4, none⟩) hpl).trans x6
            have hplr : p < wr.heap.size := Nat.lt_of_lt_of_le hpl HR.out.2.size
            clear HGr HA HQ
            generalize grD C u.sg = hi at *
            generalize grD C (ngL u.sg) = lo at *
            generalize u.num = n at *
            go_wp2_with fail
            refine hgr.mono ?_
            rintro e w3 ⟨rfl, hb3⟩
            have hg2 := HGr2.out w3 hb3
            have H3 : Hid (Below w.heap.size w w3) := HBr.out.trans (hb3.mono HBr.out.size)
            have t6 : w3.cell? ⟨p, 4, none⟩ = some (.int .i64 n) := (hb3.cell (p := ⟨p, 4, none⟩) hplr).trans z6
            have hpl3 : p < w3.heap.size := Nat.lt_of_lt_of_le hplr hb3.size
            clear hb3 hgr HGr2
            go_wp2_with fail
            refine hg2.mono ?_
            rintro e w4 ⟨rfl, hb4⟩
            have H4 : Hid (Below w.heap.size w w4) := H3.out.trans (hb4.mono H3.out.size)
            have s6 : w4.cell? ⟨p, 4, none⟩ = some (.int .i64 n) := (hb4.cell (p := ⟨p, 4, none⟩) hpl3).trans t6
            clear hb4 hg2
            by_cases q1 : hi = NB
            · have HE : Hid (sfD false C u = false) := HE1.out.trans (decide_eq_false (fun z => z.1 q1))
              have b1 : (hi != 1000000) = false := by rw [q1]; rfl
              clear HE1 q1
              go_wp2_with fail
              go_ret
              exact ⟨ret_b' HE.out, H4.out⟩
            have b1 : (hi != 1000000) = true := by rw [bne_iff_ne]; exact q1
            by_cases q2 : lo = NB
            · have HE : Hid (sfD false C u = false) := HE1.out.trans (decide_eq_false (fun z => z.2.1 q2))
              have b2 : (lo != 1000000) = false := by rw [q2]; rfl
              clear HE1 q1 q2
              go_wp2_with fail
              go_ret
              exact ⟨ret_b' HE.out, H4.out⟩
            have b2 : (lo != 1000000) = true := by rw [bne_iff_ne]; exact q2
            by_cases q3 : hi + n ≤ 999
            · have HE : Hid (sfD false C u = decide (lo - n ≤ 999)) := HE1.out.trans (decide_eq_decide.2 ⟨fun z => z.2.2.2, fun z => ⟨q1, q2, q3, z⟩⟩)
              clear HE1 q1 q2
              go_wp2_with fail
              go_ret
              exact ⟨ret_b' HE.out, H4.out⟩
            · have HE : Hid (sfD false C u = false) := HE1.out.trans (decide_eq_false (fun z => q3 z.2.2.1))
              clear HE1 q1 q2
              go_wp2_with fail
              go_ret
              exact ⟨ret_b' HE.out, H4.out⟩
  by_cases k33 : u.kind = 33
  · have HE0 : Hid (sfD false C u = (!u.star && decide (grD C u.sg ≤ u.num))) := by show sfD false C u = _; unfold sfD; rw [if_neg (by decide), if_neg k61, if_pos k33]
    cases hst : u.star with
    | true =>
      have HE : Hid (sfD false C u = false) := by show _ = false; rw [HE0.out, hst]; rfl
      clear HE0
      go_enter Tryz.func64, Tryz.ntmps64
      go_wp2_with fail
      refine hcl.mono ?_
      rintro e w1 ⟨hb1, ⟨he, -⟩ | ⟨-, gq, rfl, hgq, ha⟩⟩
      · cases he
      · have hrw := StK.out w1 hb1
        obtain ⟨g, cap, p, q, x1, x2, x3, x4, x5, x6, hq, hpl, hgl, hrl⟩ := hrw.ex
        have HQ : Hid (At w1 q (ic u.sg) tNk ∧ Below w.heap.size w w1) := ⟨hq, hb1⟩
        clear hrw hq
        rw [k33] at x3
        rw [hst] at x4
        clear hb1 hcl ha k33 k61
        go_wp2_with fail
        go_ret
        exact ⟨ret_b' HE.out, HQ.out.2⟩
    | false =>
      have HE : Hid (sfD false C u = decide (grD C u.sg ≤ u.num)) := by show _ = decide (grD C u.sg ≤ u.num); rw [HE0.out, hst]; rfl
      clear HE0
      go_enter Tryz.func64, Tryz.ntmps64
      go_wp2_with fail
      refine hcl.mono ?_
      rintro e w1 ⟨hb1, ⟨he, -⟩ | ⟨-, gq, rfl, hgq, ha⟩⟩
      · cases he
      · have hrw := StK.out w1 hb1
        obtain ⟨g, cap, p, q, x1, x2, x3, x4, x5, x6, hq, hpl, hgl, hrl⟩ := hrw.ex
        have HQ : Hid (At w1 q (ic u.sg) tNk ∧ Below w.heap.size w w1) := ⟨hq, hb1⟩
        clear hrw hq
        have hgr := HGr.out w1 gq (.slice (some ⟨q, 0, none⟩) 4 4) u.sg ha (Reads.at_ HQ.out.1 HU.out.len (Nat.le_refl _) (fun i hi => ic_get _ _ (by rw [HU.out.len]; exact hi))) HU.out.len HU.out.sg HU.out.nz
        rw [k33] at x3
        rw [hst] at x4
        clear hb1 hcl ha k33 k61
        generalize grD C u.sg = gr at *
        go_wp2_with fail
        refine hgr.mono ?_
        rintro e w2 ⟨rfl, hb2⟩
        have y6 : w2.cell? ⟨p, 4, none⟩ = some (.int .i64 u.num) := (hb2.cell (p := ⟨p, 4, none⟩) hpl).trans x6
        have H2 : Hid (Below w.heap.size w w2) := HQ.out.2.trans (hb2.mono HQ.out.2.size)
        clear hb2 hgr
        go_wp2_with fail
        go_ret
        exact ⟨ret_b' HE.out, H2.out⟩
  · have HE : Hid (sfD false C u = true) := by show sfD false C u = _; unfold sfD; rw [if_neg (by decide), if_neg k61, if_neg k33]
    have b61 : (u.kind == 61) = false := by simpa using k61
    have b33 : (u.kind == 33) = false := by simpa using k33
    go_enter Tryz.func64, Tryz.ntmps64
    go_wp2_with fail
    refine hcl.mono ?_
    rintro e w1 ⟨hb1, ⟨he, -⟩ | ⟨-, gq, rfl, hgq, ha⟩⟩
    · cases he
    · have hrw := StK.out w1 hb1
      obtain ⟨g, cap, p, q, x1, x2, x3, x4, x5, x6, hq, hpl, hgl, hrl⟩ := hrw.ex
      have HQ : Hid (At w1 q (ic u.sg) tNk ∧ Below w.heap.size w w1) := ⟨hq, hb1⟩
      clear hrw hq
      clear hb1 hcl ha k33 k61
      go_wp2_with fail
      go_ret
      exact ⟨ret_b' HE.out, HQ.out.2⟩
theorem r_safe (h : Rep B w r m vs vo P Q O) (k : Nat) (hk : k < m.st.length) (hu : StG (m.st.getD k noSt)) (v : Value) (o : List Int) (ho : okL o) (hv : Reads w v o) :
    Calls Tryz.prog 64 #[.pointer (some ⟨r, 0, none⟩), .int .i64 (k : Int), v] w fun e w' => e = .returned (.bool (sfD (ovE o) (ovM o) (m.st.getD k noSt))) ∧ Below w.heap.size w w' :=
  r_safe_c h k hk hu v (by obtain ⟨a, c, e, _, _⟩ := hv; exact ⟨_, _, _, e⟩) (r_closed_ok v o ho hv) (ovS ho) (fun he => ((raw_lay ho).tc he).zero 0 (by omega))
end Go.Proofs.YtffajooegiempaaGreatDoor

/- How many variables stand in a value, how many at least in a condition. No Go in here. -/
namespace Go.Proofs.YtffajooegiempaaGreatDoor
variable {m m' : Rd}

/-- What a statement that has been read keeps to. -/
def Fq (s : St) : Prop := (s.kind = 61 → nz s.sg ≤ 1) ∧ (s.kind ≠ 61 → s.star = true ∨ 1 ≤ nz s.sg)
/-- What the one that is being read keeps to. -/
def Gq (x : Int) (s : St) : Prop :=
  if x = 61 ∨ x = 118 ∨ x = 86 then s.kind = 61 ∧ nz s.sg = 0
  else if x = 120 ∨ x = 121 ∨ x = 110 then s.kind = 61 ∧ nz s.sg ≤ 1
  else if x = 99 ∨ x = 67 then s.kind ≠ 61
  else if x = 100 ∨ x = 101 ∨ x = 102 ∨ x = 60 ∨ x = 98 ∨ x = 66 ∨ x = 109 then s.kind ≠ 61 ∧ 1 ≤ nz s.sg
  else Fq s
structure Kn (m : Rd) : Prop where
  all : ∀ i, i + 1 < m.st.length → Fq (m.st.getD i noSt)
  now : 0 < m.st.length → Gq m.state (cur m)
  sgn : m.state = 67 → m.sign = -1
theorem gq0 {x : Int} {s : St} (h : x = 61 ∨ x = 118 ∨ x = 86) : Gq x s ↔ s.kind = 61 ∧ nz s.sg = 0 := by unfold Gq; rw [if_pos h]
theorem gq1 {x : Int} {s : St} (h : x = 120 ∨ x = 121 ∨ x = 110) : Gq x s ↔ s.kind = 61 ∧ nz s.sg ≤ 1 := by unfold Gq; rw [if_neg (by omega), if_pos h]
theorem gq2 {x : Int} {s : St} (h : x = 99 ∨ x = 67) : Gq x s ↔ s.kind ≠ 61 := by unfold Gq; rw [if_neg (by omega), if_neg (by omega), if_pos h]
theorem gq3 {x : Int} {s : St} (h : x = 100 ∨ x = 101 ∨ x = 102 ∨ x = 60 ∨ x = 98 ∨ x = 66 ∨ x = 109) : Gq x s ↔ s.kind ≠ 61 ∧ 1 ≤ nz s.sg := by unfold Gq; rw [if_neg (by omega), if_neg (by omega), if_neg (by omega), if_pos h]
theorem gq4 {x : Int} {s : St} (h : x = 115 ∨ x = 59 ∨ x = 123 ∨ x = 125) : Gq x s ↔ Fq s := by unfold Gq; rw [if_neg (by omega), if_neg (by omega), if_neg (by omega), if_neg (by omega)]
theorem gq_beh (m : Rd) (s : St) : Gq (behindOf m) s ↔ Fq s := gq4 (by unfold behindOf; split <;> omega)
theorem beh_ne (m : Rd) : behindOf m ≠ 67 := by unfold behindOf; split <;> omega

theorem getD_setCur (m : Rd) (s : St) (i : Nat) (h : i + 1 < m.st.length) : (m.st.set (m.st.length - 1) s).getD i noSt = m.st.getD i noSt := by
  simp [List.getD, show ¬ m.st.length - 1 = i by omega]
theorem Kn.setC (h : Kn m) {s : St} (hp : 0 < m.st.length) (e : m'.st = m.st.set (m.st.length - 1) s) (hs : Gq m'.state s) (hn : m'.state = 67 → m'.sign = -1) : Kn m' := by
  have hl : m'.st.length = m.st.length := by rw [e]; simp
  refine ⟨fun i hi => ?_, fun _ => ?_, hn⟩
  · rw [e, getD_setCur m s i (by omega)]
    exact h.all i (by omega)
  · have : Go.Proofs.YtffajooegiempaaGreatDoor.cur m' = s := by
      unfold Go.Proofs.YtffajooegiempaaGreatDoor.cur
      rw [hl, e]
      simp [List.getD, show m.st.length - 1 < m.st.length by omega]
    rw [this]
    exact hs
theorem Kn.of (h : Kn m) (e : m'.st = m.st) (hg : Gq m.state (Go.Proofs.YtffajooegiempaaGreatDoor.cur m) → Gq m'.state (Go.Proofs.YtffajooegiempaaGreatDoor.cur m)) (hn : m'.state = 67 → m'.sign = -1) : Kn m' := by
  have hc : Go.Proofs.YtffajooegiempaaGreatDoor.cur m' = Go.Proofs.YtffajooegiempaaGreatDoor.cur m := by unfold Go.Proofs.YtffajooegiempaaGreatDoor.cur; rw [e]
  exact ⟨fun i hi => by rw [e] at hi ⊢; exact h.all i hi, fun hp => by rw [hc]; exact hg (h.now (by rw [← e]; exact hp)), hn⟩
theorem Kn.begin_ (h : Kn m) (h115 : m.state = 115) {k v x : Int} (e : beginStep m k v x = some m') (hx : x = 61 ∨ x = 99) (hk : Gq x ⟨k, v, false, [0, 0, 0, 0], 0, 0, m.st.length + 1⟩) : Kn m' := by
  unfold beginStep at e
  split at e
  · cases e
  · cases e
    refine ⟨fun i hi => ?_, fun _ => ?_, fun q => ?_⟩
    · have hi' : i < m.st.length := by simpa using hi
      show Fq ((m.st ++ [_]).getD i noSt)
      have e1 : (m.st ++ [(⟨k, v, false, [0, 0, 0, 0], 0, 0, m.st.length + 1⟩ : St)]).getD i noSt = m.st.getD i noSt := by simp [List.getD, List.getElem?_append_left hi']
      rw [e1]
      rcases Nat.lt_or_eq_of_le (Nat.succ_le_of_lt hi') with q | q
      · exact h.all i q
      · have := h.now (by omega)
        rw [gq4 (.inl h115)] at this
        unfold Go.Proofs.YtffajooegiempaaGreatDoor.cur at this
        rw [show m.st.length - 1 = i by omega] at this
        exact this
    · show Gq x ((m.st ++ [_]).getD ((m.st ++ [_]).length - 1) noSt)
      simpa [List.getD] using hk
    · have q' : x = 67 := q
      omega
theorem Kn.shut (h : Kn m) (h115 : m.state = 115) (e : shutStep m = some m') : Kn m' := by
  have hall : ∀ i, i < m.st.length → Fq (m.st.getD i noSt) := by
    intro i hi
    rcases Nat.lt_or_eq_of_le (Nat.succ_le_of_lt hi) with q | q
    · exact h.all i q
    · have := h.now (by omega)
      rw [gq4 (.inl h115)] at this
      unfold Go.Proofs.YtffajooegiempaaGreatDoor.cur at this
      rw [show m.st.length - 1 = i by omega] at this
      exact this
  have key : ∀ (s : St), (s.kind = (m.st.getD (top m).of_ noSt).kind ∧ s.sg = (m.st.getD (top m).of_ noSt).sg ∧ s.star = (m.st.getD (top m).of_ noSt).star) → ∀ i, i < m.st.length → Fq ((m.st.set (top m).of_ s).getD i noSt) := by
    intro s hs i hi
    by_cases q : (top m).of_ = i
    · have e1 : (m.st.set (top m).of_ s).getD i noSt = s := by simp [List.getD, q, hi]
      rw [e1]
      have := hall i hi
      rw [← q] at this
      unfold Fq at *
      rw [hs.1, hs.2.1, hs.2.2]
      exact this
    · have e1 : (m.st.set (top m).of_ s).getD i noSt = m.st.getD i noSt := by simp [List.getD, q]
      rw [e1]; exact hall i hi
  have fin : ∀ (m2 : Rd) (s : St), (s.kind = (m.st.getD (top m).of_ noSt).kind ∧ s.sg = (m.st.getD (top m).of_ noSt).sg ∧ s.star = (m.st.getD (top m).of_ noSt).star) → m2.st = m.st.set (top m).of_ s → (m2.state = 115 ∨ m2.state = 125) → Kn m2 := by
    intro m2 s hs e2 hst
    have hl : m2.st.length = m.st.length := by rw [e2]; simp
    refine ⟨fun i hi => by rw [e2]; exact key s hs i (by omega), fun hp => ?_, fun q => by omega⟩
    rw [gq4 (by omega)]
    unfold Go.Proofs.YtffajooegiempaaGreatDoor.cur
    rw [hl, e2]
    exact key s hs _ (by omega)
  simp only [shutStep] at e
  split at e
  · cases e; exact fin _ { m.st.getD (top m).of_ noSt with fin := m.st.length, mid := m.st.length } ⟨rfl, rfl, rfl⟩ rfl (.inr rfl)
  · cases e; exact fin _ { m.st.getD (top m).of_ noSt with fin := m.st.length } ⟨rfl, rfl, rfl⟩ rfl (.inl h115)
theorem Kn.digit (h : Kn m) (hp : 0 < m.st.length) {c x : Int} {pos : Bool} (e : digitStep m c pos x = some m') (hx : x = 110 ∨ x = 109) (hg : ∀ s : St, s.kind = (cur m).kind → s.sg = (cur m).sg → Gq x s) : Kn m' := by
  obtain ⟨d, u, _, _, rfl⟩ := digit_inv e
  refine h.setC (s := { Go.Proofs.YtffajooegiempaaGreatDoor.cur m with num := 10 * u + (c - 48) }) hp rfl (hg _ rfl rfl) (fun q => ?_)
  have q' : x = 67 := q
  omega
theorem nz_set1 : ∀ (l : List Int) (v : Nat) (x : Int), x ≠ 0 → v < l.length → 1 ≤ nz (l.set v x) := by
  intro l
  induction l with
  | nil => intro v x _ h; simp at h
  | cons a l ih =>
    intro v x hx h
    cases v with
    | zero => rw [List.set_cons_zero, nz_cons, if_neg hx]; omega
    | succ v =>
      rw [List.set_cons_succ, nz_cons]
      have := ih v x hx (by simpa using h)
      omega
theorem nz_set0 : ∀ (l : List Int) (v : Nat) (x : Int), l.getD v 0 = 0 → nz l ≤ nz (l.set v x) := by
  intro l
  induction l with
  | nil => intro v x _; simp
  | cons a l ih =>
    intro v x h
    cases v with
    | zero =>
      have h' : a = 0 := h
      rw [List.set_cons_zero, nz_cons, nz_cons, if_pos h']; omega
    | succ v =>
      rw [List.set_cons_succ, nz_cons, nz_cons]
      have := ih v x h
      omega
theorem Kn.signTo (h : Kn m) (hp : 0 < m.st.length) (v : Nat) (y x : Int) (hx : x ≠ 67) (hg : Gq x { cur m with sg := (cur m).sg.set v y }) : Kn (signTo m v y x) :=
  h.setC (s := { Go.Proofs.YtffajooegiempaaGreatDoor.cur m with sg := (Go.Proofs.YtffajooegiempaaGreatDoor.cur m).sg.set v y }) hp rfl hg (fun q => absurd q hx)
theorem Kn.plain (h : Kn m) {c : Int} (hs : m.state = 59 ∨ m.state = 123) (e : plainStep m c = some m') : Kn m' := by
  have ho : Gq m.state (cur m) → Gq 115 (cur m) := fun q => by rw [gq4 (.inl rfl)]; rw [gq4 (by omega)] at q; exact q
  unfold plainStep at e
  split at e
  · split at e
    · cases e; exact h.of rfl ho (fun q => by cases q)
    · cases e
  · split at e
    · cases e
    · cases e; exact h.of rfl ho (fun q => by cases q)
theorem Kn.value (h : Kn m) (ok : Ok m) {c : Int} (hv : m.state = 118 ∨ m.state = 86 ∨ m.state = 120 ∨ m.state = 121 ∨ m.state = 110) (e : valueStep m c = some m') : Kn m' := by
  have hp : 0 < m.st.length := ok.some_ (by omega)
  have hc := h.now hp
  have hset : ∀ v y, nz ((cur m).sg.set v y) ≤ nz (cur m).sg + 1 := fun v y => nz_set _ v y
  have ve : (Gq m.state (cur m) → (cur m).kind = 61 ∧ nz (cur m).sg ≤ 1) → Kn (valueEnd m) := fun q =>
    h.setC (s := { Go.Proofs.YtffajooegiempaaGreatDoor.cur m with num := m.sign * (Go.Proofs.YtffajooegiempaaGreatDoor.cur m).num }) hp rfl (by
      show Gq 115 _
      rw [gq4 (.inl rfl)]
      exact ⟨fun _ => (q hc).2, fun z => absurd (q hc).1 z⟩) (fun z => by cases z)
  have dg : ∀ {m1 : Rd} {p : Bool}, m1.st = m.st → Kn m1 → ((cur m).kind = 61 ∧ nz (cur m).sg ≤ 1) → digitStep m1 c p 110 = some m' → Kn m' := by
    intro m1 p e1 k1 q e2
    have hcm : Go.Proofs.YtffajooegiempaaGreatDoor.cur m1 = Go.Proofs.YtffajooegiempaaGreatDoor.cur m := by unfold Go.Proofs.YtffajooegiempaaGreatDoor.cur; rw [e1]
    refine k1.digit (by rw [e1]; exact hp) e2 (.inl rfl) (fun s h1 h2 => ?_)
    rw [gq1 (by omega), h1, h2, hcm]
    exact q
  unfold valueStep at e
  by_cases x1 : m.state = 118
  · rw [if_pos x1] at e
    rw [x1, gq0 (by omega)] at hc
    split at e
    · cases e
      exact h.setC (s := { Go.Proofs.YtffajooegiempaaGreatDoor.cur m with star := true }) hp rfl (by show Gq 59 _; rw [gq4 (by omega)]; exact ⟨fun _ => by show nz (cur m).sg ≤ 1; omega, fun _ => .inl rfl⟩) (fun z => by cases z)
    split at e
    · cases e; exact h.of rfl (fun _ => by show Gq 86 _; rw [gq0 (by omega)]; exact hc) (fun z => by cases z)
    split at e
    · cases e; exact h.signTo hp _ 1 120 (by omega) (by rw [gq1 (by omega)]; exact ⟨hc.1, by have := hset (c - 97).toNat 1; show nz ((cur m).sg.set _ _) ≤ 1; omega⟩)
    · exact dg (m1 := { m with sign := 1 }) rfl (h.of rfl id (fun q => by have q' : m.state = 67 := q; omega)) ⟨hc.1, by omega⟩ e
  rw [if_neg x1] at e
  by_cases x2 : m.state = 86
  · rw [if_pos x2] at e
    rw [x2, gq0 (by omega)] at hc
    split at e
    · cases e; exact h.signTo hp _ m.sign 120 (by omega) (by rw [gq1 (by omega)]; exact ⟨hc.1, by have := hset (c - 97).toNat m.sign; show nz ((cur m).sg.set _ _) ≤ 1; omega⟩)
    · exact dg rfl h ⟨hc.1, by omega⟩ e
  rw [if_neg x2] at e
  have hc1 : (cur m).kind = 61 ∧ nz (cur m).sg ≤ 1 := by rw [gq1 (by omega)] at hc; exact hc
  by_cases x3 : m.state = 120
  · rw [if_pos x3] at e
    split at e
    · cases e; exact h.of rfl (fun _ => by show Gq 121 _; rw [gq1 (by omega)]; exact hc1) (fun z => by cases z)
    split at e
    · cases e; exact h.of rfl (fun _ => by show Gq 121 _; rw [gq1 (by omega)]; exact hc1) (fun z => by cases z)
    split at e
    · cases e; exact ve (fun _ => hc1)
    · cases e
  rw [if_neg x3] at e
  by_cases x4 : m.state = 121
  · rw [if_pos x4] at e
    exact dg rfl h hc1 e
  rw [if_neg x4] at e
  split at e
  · cases e; exact ve (fun _ => hc1)
  · exact dg rfl h hc1 e
theorem Kn.cond (h : Kn m) (ok : Ok m) {c : Int} (hs : m.state = 99 ∨ m.state = 67 ∨ m.state = 100 ∨ m.state = 101 ∨ m.state = 102 ∨ m.state = 60 ∨ m.state = 98 ∨ m.state = 66 ∨ m.state = 109 ∨ m.state = 125) (e : condStep m c = some m') : Kn m' := by
  have hp : 0 < m.st.length := ok.some_ (by omega)
  have hc := h.now hp
  have hl4 : (cur m).sg.length = 4 := ok.sgl _ (by
    unfold cur
    rw [List.getD_eq_getElem?_getD, List.getElem?_eq_getElem (show m.st.length - 1 < m.st.length by omega)]
    exact List.getElem_mem _)
  have dg : ∀ {p : Bool}, ((cur m).kind ≠ 61 ∧ 1 ≤ nz (cur m).sg) → digitStep m c p 109 = some m' → Kn m' := by
    intro p q e2
    refine h.digit hp e2 (.inr rfl) (fun s h1 h2 => ?_)
    rw [gq3 (by omega), h1, h2]
    exact q
  unfold condStep at e
  by_cases x1 : m.state = 99
  · rw [if_pos x1] at e
    rw [x1, gq2 (by omega)] at hc
    split at e
    · cases e
      exact h.setC (s := { Go.Proofs.YtffajooegiempaaGreatDoor.cur m with star := true }) hp rfl (by show Gq (behindOf m) _; rw [gq_beh]; exact ⟨fun z => absurd z hc, fun _ => .inl rfl⟩) (fun z => absurd z (beh_ne m))
    split at e
    · cases e; exact h.of rfl (fun _ => by show Gq 67 _; rw [gq2 (by omega)]; exact hc) (fun _ => rfl)
    split at e
    · rename_i hr
      cases e; exact h.signTo hp _ 1 100 (by omega) (by rw [gq3 (by omega)]; exact ⟨hc, nz_set1 _ _ 1 (by omega) (by omega)⟩)
    · cases e
  rw [if_neg x1] at e
  by_cases x2 : m.state = 67
  · rw [if_pos x2] at e
    rw [x2, gq2 (by omega)] at hc
    split at e
    · rename_i hr
      cases e; exact h.signTo hp _ m.sign 100 (by omega) (by rw [gq3 (by omega)]; exact ⟨hc, nz_set1 _ _ m.sign (by rw [h.sgn x2]; omega) (by omega)⟩)
    · cases e
  rw [if_neg x2] at e
  by_cases x3 : m.state = 100
  · rw [if_pos x3] at e
    rw [x3, gq3 (by omega)] at hc
    split at e
    · cases e; exact h.of rfl (fun _ => by show Gq 101 _; rw [gq3 (by omega)]; exact hc) (fun z => by cases z)
    split at e
    · cases e; exact h.of rfl (fun _ => by show Gq 101 _; rw [gq3 (by omega)]; exact hc) (fun z => by cases z)
    split at e
    · cases e; exact h.of rfl (fun _ => by show Gq 60 _; rw [gq3 (by omega)]; exact hc) (fun z => by cases z)
    · cases e
  rw [if_neg x3] at e
  by_cases x4 : m.state = 101
  · rw [if_pos x4] at e
    rw [x4, gq3 (by omega)] at hc
    split at e
    · split at e
      · rename_i hz
        cases e; exact h.signTo hp _ m.sign 102 (by omega) (by rw [gq3 (by omega)]; exact ⟨hc.1, Nat.le_trans hc.2 (nz_set0 _ _ _ hz)⟩)
      · cases e
    · cases e
  rw [if_neg x4] at e
  by_cases x5 : m.state = 102
  · rw [if_pos x5] at e
    rw [x5, gq3 (by omega)] at hc
    split at e
    · cases e; exact h.of rfl (fun _ => by show Gq 60 _; rw [gq3 (by omega)]; exact hc) (fun z => by cases z)
    · cases e
  rw [if_neg x5] at e
  by_cases x6 : m.state = 60
  · rw [if_pos x6] at e
    rw [x6, gq3 (by omega)] at hc
    split at e
    · cases e; exact h.of rfl (fun _ => by show Gq 98 _; rw [gq3 (by omega)]; exact hc) (fun z => by cases z)
    · cases e
  rw [if_neg x6] at e
  by_cases x7 : m.state = 98
  · rw [if_pos x7] at e
    rw [x7, gq3 (by omega)] at hc
    split at e
    · cases e; exact h.of rfl (fun _ => by show Gq 66 _; rw [gq3 (by omega)]; exact hc) (fun z => by cases z)
    · exact dg hc e
  rw [if_neg x7] at e
  by_cases x8 : m.state = 66
  · rw [if_pos x8] at e
    rw [x8, gq3 (by omega)] at hc
    exact dg hc e
  rw [if_neg x8] at e
  by_cases x9 : m.state = 109
  · rw [if_pos x9] at e
    rw [x9, gq3 (by omega)] at hc
    split at e
    · refine Kn.plain (m := { setCur m { Go.Proofs.YtffajooegiempaaGreatDoor.cur m with num := if m.neg then -(Go.Proofs.YtffajooegiempaaGreatDoor.cur m).num else (Go.Proofs.YtffajooegiempaaGreatDoor.cur m).num } with state := behindOf m }) ?_ (by show behindOf m = 59 ∨ behindOf m = 123; unfold behindOf; split <;> omega) e
      exact h.setC (s := { Go.Proofs.YtffajooegiempaaGreatDoor.cur m with num := if m.neg then -(Go.Proofs.YtffajooegiempaaGreatDoor.cur m).num else (Go.Proofs.YtffajooegiempaaGreatDoor.cur m).num }) hp rfl (by show Gq (behindOf m) _; rw [gq_beh]; exact ⟨fun z => absurd z hc.1, fun _ => .inr hc.2⟩) (fun z => absurd z (beh_ne m))
    · exact dg hc e
  rw [if_neg x9] at e
  split at e
  · cases e; exact h.of rfl (fun q => by show Gq 115 _; rw [gq4 (by omega)]; rw [gq4 (by omega)] at q; exact q) (fun z => by cases z)
  · cases e
theorem Kn.byte (h : Kn m) (ok : Ok m) {c : Int} (e : byteStep m c = some m') : Kn m' := by
  have hst := ok.states
  unfold byteStep at e
  split at e
  · rename_i hs
    unfold startStep at e
    split at e
    · exact h.begin_ hs e (.inl rfl) (by rw [gq0 (by omega)]; exact ⟨rfl, rfl⟩)
    split at e
    · rename_i hc
      split at e
      · exact h.begin_ hs e (.inr rfl) (by rw [gq2 (by omega)]; show c ≠ 61; omega)
      · cases e
    split at e
    · rename_i hc
      exact h.begin_ hs e (.inr rfl) (by rw [gq2 (by omega)]; show c ≠ 61; omega)
    split at e
    · exact h.shut hs e
    · cases e
  split at e
  · rename_i h1 h2
    split at e
    · cases e; exact h.of rfl (fun q => by show Gq 118 _; rw [gq0 (by omega)]; rw [h2, gq0 (by omega)] at q; exact q) (fun z => by cases z)
    · cases e
  split at e
  · rename_i hv; exact h.value ok hv e
  split at e
  · rename_i hv; exact h.plain hv e
  · exact h.cond ok (by omega) e
theorem kn_from {l : List Int} : ∀ {m : Rd} {n k : Nat}, Kn m → Ok m → readFrom m l n = (k, some m') → Kn m' := by
  induction l with
  | nil => intro m n k h ok e; simp [readFrom] at e; rw [← e.2]; exact h
  | cons c l ih =>
    intro m n k h ok e
    simp only [readFrom] at e
    split at e
    · cases e
    · rename_i m1 e1
      exact ih (h.byte ok e1) (ok.byte e1) e

end Go.Proofs.YtffajooegiempaaGreatDoor

