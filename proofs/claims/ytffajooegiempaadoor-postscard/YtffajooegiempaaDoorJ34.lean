import Derived.Test.YtffajooegiempaaDoorJ33
import Derived.ChangeMaps5
namespace Go.Proofs.YtffajooegiempaaDoor
open Go.RowKit
variable {w : World}

theorem ov_tq {o : List Int} (ho : okL o) (he : ovE o = false) : TQ (ovM o) := by
  refine ⟨(raw_lay ho).tc he, (raw_lay ho).top (bd_lay ho) he, fun k hk => ?_⟩
  have hlo : Lo (8000 * 6 ^ 8 + 1) (sharp (lay o 32)) := sharp_lo (fun a _ => (lay_range o 32 ho.2 a).1)
  have y : -(8000 * 6 ^ 8 + 1) ≤ sharp (lay o 32) k := hlo k hk
  have z : (8000 * 6 ^ 8 + 1 : Int) = 13436928001 := by decide
  rw [z] at y
  show _ ≤ sharp (lay o 32) k
  omega
theorem ov_rng {o : List Int} (ho : okL o) : ∀ k, k < 64 → -20000000000 ≤ ovM o k ∧ ovM o k ≤ 1000000 := by
  intro k hk
  have hlo : Lo (8000 * 6 ^ 8 + 1) (sharp (lay o 32)) := sharp_lo (fun a _ => (lay_range o 32 ho.2 a).1)
  have y : -(8000 * 6 ^ 8 + 1) ≤ sharp (lay o 32) k := hlo k hk
  have z : (8000 * 6 ^ 8 + 1 : Int) = 13436928001 := by decide
  rw [z] at y
  have u := sharp_le (lay o 32) k
  have v := (lay_range o 32 ho.2 k).2
  show -20000000000 ≤ sharp (lay o 32) k ∧ sharp (lay o 32) k ≤ 1000000
  omega
theorem TQ.sh {C : Nat → Int} (h : TQ C) : Sh C := fun k hk => ⟨by have := h.lo k hk; omega, (h.top k hk).imp id (fun q => by omega)⟩
theorem ss_sm {C : Nat → Int} (h : Sh C) {t f : Nat} (hf : f < 8) {n : Int} (hn : -999 ≤ n ∧ n ≤ 999) : Sm (ssF C t f n 64) := by
  intro k hk
  rw [show k = k / 8 * 8 + k % 8 by omega, ss_at C t f n (by omega) (by omega)]
  have a := org_lt (t := t) hf (show k / 8 < 8 by omega)
  have b := org_lt (t := t) hf (show k % 8 < 8 by omega)
  have c := h (orgF t f (k / 8) * 8 + orgF t f (k % 8)) (by omega)
  have d := add_rng (t := t) hn (k / 8)
  have e := add_rng (t := t) hn (k % 8)
  unfold pl
  split
  · unfold NB; omega
  · rename_i q
    have := c.2.resolve_left (fun z => q (.inl z))
    omega
theorem bt_sm {C : Nat → Int} (h : Sh C) {t : Nat} (ht : t < 4) {lo hi : Int} (hlo : -999 ≤ lo ∧ lo ≤ 999) (hhi : -999 ≤ hi ∧ hi ≤ 999) : Sm (sbT C t lo hi) :=
  lm_sm (lm_sm (sbF_sm h ht (by omega) hhi 8 (Nat.le_refl _)) ⟨by omega, .inr (by omega)⟩) ⟨by omega, .inr (by omega)⟩
theorem as_sm {C : Nat → Int} (h : Sh C) {x : Ds} (hx : DsG x) (ht : 0 ≤ x.target ∧ x.target < 4) : Sm (asM C x) := by
  have n := hx.num
  unfold asM
  split
  · exact bt_sm h (by omega) ⟨by omega, by omega⟩ ⟨by omega, by omega⟩
  · split
    · exact bt_sm h (by omega) ⟨by omega, by omega⟩ ⟨by omega, by omega⟩
    · exact ss_sm h (sdS_lt x.sg 4 (Nat.le_refl _)).1 ⟨by omega, by omega⟩
theorem at_sm {e : Bool} {M : Nat → Int} (hM : ∀ k, k < 64 → -20000000000 ≤ M k ∧ M k ≤ 1000000) {l : List Int} {n : Int} (hn : -1000 ≤ n ∧ n ≤ 1000) : Sm (atM e M l n) := by
  unfold atM
  split
  · intro k hk; have := hM k hk; omega
  · exact ah_sm (lm_rng hM hn) 64 (Nat.le_refl _)
theorem po_sm {e : Bool} {M : Nat → Int} (hM : ∀ k, k < 64 → -20000000000 ≤ M k ∧ M k ≤ 1000000) (hS : e = false → Sh M) {x : Ds} (hx : DsG x) (ht : 0 ≤ x.target ∧ x.target < 4) (way : Int) : Sm (poM e M x way) := by
  have n := hx.num
  have hm : Sm M := fun k hk => by have := hM k hk; omega
  unfold poM
  split
  · exact hm
  · rename_i h
    split
    · exact as_sm (hS (by simpa using h)) hx ht
    · split
      · exact hm
      · split
        · exact at_sm hM ⟨by omega, by omega⟩
        · exact at_sm hM ⟨by omega, by omega⟩

/-- What both answer. -/
def postC (s : ByteArray) (p way : Int) (o : List Int) : Int :=
  match progOf (bytesOf s) with
  | none => 1
  | some m => if way < 0 ∨ waysAt m p ≤ way then 2 else if gdB o = true then 0 else 3
def xAt (s : ByteArray) (p : Int) : Ds := (readZ s).2.getD p.toNat (newDs 0 0)
def PostOut (w : World) (c : Int) (e : Bool) (M : Nat → Int) : Ending → World → Prop := fun x w' => (c ≠ 0 ∧ Below w.heap.size w w' ∧ x = .returned (.tuple #[.slice none 0 0, .int .i64 c])) ∨ (c = 0 ∧ LSaysE w e M x w')
theorem ways_same {F : List Ds} {S : List St} (hW : Whole F S) {k : Nat} (hk : k < F.length) : waysP (F.getD k (newDs 0 0)).kind = waysR (S.getD k noSt) := by
  obtain ⟨x, u, a0, c0, g, hx, hu, hcor, ha, hif, hfc, hC, hs, hr, hkk⟩ := hW.at_ k hk
  rw [getD_some hx, getD_some hu]
  obtain ⟨x', u', hx', hu', _, _, _, _, hkd⟩ := hs
  rw [hx] at hx'
  rw [hu] at hu'
  cases hx'
  cases hu'
  have hkind := hcor.1
  unfold waysR
  rw [hkind]
  rcases hkd with ⟨hk01, _⟩ | ⟨hk3, _⟩ | ⟨hk2, _⟩
  · rcases hk01 with e | e <;> rw [e] <;> decide
  · rw [hk3]; decide
  · rw [hk2]; decide

set_option maxRecDepth 100000 in
set_option maxHeartbeats 3200000 in
theorem w_post (hG : Glob w) (s : ByteArray) (p way : Int) (u : Value) (o : List Int) (hm : s.size ≤ maxLen) (hu : Reads w u o) :
    Calls Tryd.prog 17 #[.string s, .int .i64 p, .int .i64 way, u] w (PostOut w (postC s p way o) (poE (ovE o) (ovM o) (xAt s p) way) (poM (ovE o) (ovM o) (xAt s p) way)) := by
  have hr := d_read s w hm
  have hl := bytesOf_len s
  have hz := o_zero
  have bad : progOf (bytesOf s) = none → (∀ e w', DReadPost w s e w' → ∃ c : Int, e = .returned (.tuple #[.agg #[.slice none 0 0], .int .i64 1, .int .i64 c]) ∧ Below w.heap.size w w') →
      Calls Tryd.prog 17 #[.string s, .int .i64 p, .int .i64 way, u] w (PostOut w (postC s p way o) (poE (ovE o) (ovM o) (xAt s p) way) (poM (ovE o) (ovM o) (xAt s p) way)) := by
    intro hp hq
    have HE : Hid (postC s p way o = 1) := by show postC _ _ _ _ = _; unfold postC; rw [hp]
    have hr' := hr.mono hq
    obtain ⟨au, cu, rfl, -, -⟩ := hu
    clear hr hp hq hm hl hG
    go_enter Tryd.func17, Tryd.ntmps17
    go_wp2_with fail
    refine hr'.mono ?_
    rintro e w1 ⟨c, rfl, hb⟩
    go_wp2_with fail
    go_ret2
    exact .inl ⟨by rw [HE.out]; decide, hb.alloc hb.size _, by rw [HE.out]; rfl⟩
  by_cases h160 : 160 < s.size
  · refine bad (by unfold progOf; rw [if_pos (by omega)]) ?_
    rintro e w' ⟨hb, h | h | h⟩
    · exact ⟨0, h.2, hb⟩
    · exact absurd h.1 (by omega)
    · exact absurd h.1 (by omega)
  rcases prog_whole s (by omega) with ⟨hg, hp⟩ | ⟨m, hg, hp, hW⟩
  · refine bad hp ?_
    rintro e w' ⟨hb, h | h | h⟩
    · exact absurd h.1 h160
    · exact ⟨_, h.2.2, hb⟩
    · exact absurd h.2.1 (by rw [hg]; decide)
  clear bad
  have hlen : (readZ s).2.length ≤ 20 := (rStmts_goes s 22 (-1) 0 0 ((0, false), []) ⟨Nat.zero_le _, Nat.zero_le _⟩).ok.len
  have hSl : (readZ s).2.length = m.st.length := hW.1.len
  have hr' := hr.mono (R' := fun e w' => ∃ v, e = .returned (.tuple #[.agg #[v], .int .i64 0, .int .i64 0]) ∧ Below w.heap.size w w' ∧ w'.ownsRow w.heap.size tDs 10 v (readZ s).2.length (flat (readZ s).2)) (by
    rintro e w' ⟨hb, h | h | h⟩
    · exact absurd h.1 h160
    · exact absurd h.2.1 (by rw [hg]; decide)
    · obtain ⟨_, _, v, he, hrow⟩ := h
      exact ⟨v, he, hb, hrow⟩)
  have HE : Hid (postC s p way o = if way < 0 ∨ waysAt m p ≤ way then 2 else if gdB o = true then 0 else 3) := by show postC _ _ _ _ = _; unfold postC; rw [hp]
  have HW : Hid (Whole (readZ s).2 m.st ∧ progOf (bytesOf s) = some m) := ⟨hW, hp⟩
  have HSl : Hid ((readZ s).2.length = m.st.length) := hSl
  have HG : Hid (Glob w) := hG
  have HU : Hid (Reads w u o) := hu
  have HX : Hid (xAt s p = (readZ s).2.getD p.toNat (newDs 0 0)) := rfl
  obtain ⟨au, cu, rfl, -, -⟩ := id hu
  clear hr hm hl h160 hg hp hW hSl hG hu
  generalize (readZ s).2 = F at *
  have two : ∀ {e : Ending} {w' : World}, postC s p way o = 2 → Below w.heap.size w w' → e = .returned (.tuple #[.slice none 0 0, .int .i64 2]) → PostOut w (postC s p way o) (poE (ovE o) (ovM o) (xAt s p) way) (poM (ovE o) (ovM o) (xAt s p) way) e w' := fun h1 h2 h3 => .inl ⟨by rw [h1]; decide, h2, by rw [h1]; exact h3⟩
  have HTwo : Hid (∀ {e : Ending} {w' : World}, postC s p way o = 2 → Below w.heap.size w w' → e = .returned (.tuple #[.slice none 0 0, .int .i64 2]) → PostOut w (postC s p way o) (poE (ovE o) (ovM o) (xAt s p) way) (poM (ovE o) (ovM o) (xAt s p) way) e w') := two
  clear two
  by_cases hout : p < 0 ∨ (F.length : Int) ≤ p
  · have HE2 : Hid (postC s p way o = 2) := by
      refine HE.out.trans (if_pos ?_)
      unfold waysAt
      rw [if_pos (by have := HSl.out; omega)]
      omega
    have HAt : Hid (∀ w1 ao cap, Calls Tryd.prog 35 #[.agg #[.slice ao F.length cap], .int .i64 p, .int .i64 way] w1 fun e w' => e = .returned (.tuple #[dsv zDs, .int .i64 2]) ∧ Below w1.heap.size w1 w') := fun w1 ao cap => d_with_out ao _ hlen p way hout
    unfold dsv zDs newDs at HAt
    clear HE
    go_enter Tryd.func17, Tryd.ntmps17
    go_wp2_with fail
    refine hr'.mono ?_
    rintro e w1 ⟨v, rfl, hb, hrow⟩
    obtain ⟨ao, cap, rfl⟩ : ∃ ao cap, v = .slice ao F.length cap := by
      obtain ⟨_, h2⟩ := hrow
      rcases h2 with ⟨rfl, e⟩ | ⟨g, cap, c, rfl, _⟩
      · exact ⟨none, 0, by rw [e]⟩
      · exact ⟨_, cap, rfl⟩
    clear hrow
    go_wp2_with fail
    refine (HAt.out _ ao cap).mono ?_
    rintro e w2 ⟨rfl, hb2⟩
    have H2 : Hid (Below w.heap.size w w2) := (hb.alloc hb.size _).trans (hb2.mono (by have := hb.size; simp; omega))
    clear hb hb2 hr'
    go_wp2_with fail
    go_ret2
    exact HTwo.out HE2.out (H2.out.alloc H2.out.size _) rfl
  · obtain ⟨k, rfl⟩ : ∃ k : Nat, p = k := ⟨p.toNat, by omega⟩
    have hk : k < F.length := by omega
    have HD := dsg_of HW.out.2 HW.out.1 hk
    have hq := stq_of HW.out.2 (show k < m.st.length by have := HSl.out; omega)
    have HDg : Hid (DsG (F.getD k (newDs 0 0)) ∧ 0 ≤ (F.getD k (newDs 0 0)).target ∧ (F.getD k (newDs 0 0)).target < 4) := ⟨HD.1, by rw [← HD.2.2.1]; exact ⟨hq.var.1, by have := hq.var.2; omega⟩⟩
    have HWy : Hid (waysAt m (k : Int) = waysP (F.getD k (newDs 0 0)).kind) := by
      show _ = _
      unfold waysAt
      rw [if_neg (by have := HSl.out; omega), Int.toNat_natCast, ways_same HW.out.1 hk]
    have HAt : Hid (∀ w1 g cap, PRow w1 g F → Calls Tryd.prog 35 #[.agg #[.slice (some ⟨g, 0, none⟩) F.length cap], .int .i64 (k : Int), .int .i64 way] w1 fun e w' => e = .returned (.tuple #[dsv (if way < 0 ∨ waysP (F.getD k (newDs 0 0)).kind ≤ way then zDs else F.getD k (newDs 0 0)), .int .i64 (if way < 0 ∨ waysP (F.getD k (newDs 0 0)).kind ≤ way then 2 else 0)]) ∧ Below w1.heap.size w1 w') := fun w1 g cap hP => d_with_in hP k hk way
    have HX2 : Hid (xAt s (k : Int) = F.getD k (newDs 0 0)) := by show _ = _; rw [HX.out, Int.toNat_natCast]
    clear hout HD hq HX
    generalize F.getD k (newDs 0 0) = x at *
    by_cases hwy : way < 0 ∨ waysP x.kind ≤ way
    · have HE2 : Hid (postC s k way o = 2) := HE.out.trans (if_pos (by rw [HWy.out]; exact hwy))
      have HAt2 : Hid (∀ w1 g cap, PRow w1 g F → Calls Tryd.prog 35 #[.agg #[.slice (some ⟨g, 0, none⟩) F.length cap], .int .i64 (k : Int), .int .i64 way] w1 fun e w' => e = .returned (.tuple #[dsv zDs, .int .i64 2]) ∧ Below w1.heap.size w1 w') := fun w1 g cap hP => by
        have := HAt.out w1 g cap hP
        rw [if_pos hwy, if_pos hwy] at this
        exact this
      unfold dsv zDs newDs at HAt2
      clear HE HAt hwy HWy
      go_enter Tryd.func17, Tryd.ntmps17
      go_wp2_with fail
      refine hr'.mono ?_
      rintro e w1 ⟨v, rfl, hb, hrow⟩
      obtain ⟨g, cap, rfl⟩ : ∃ g cap, v = .slice (some ⟨g, 0, none⟩) F.length cap := by
        obtain ⟨_, h2⟩ := hrow
        rcases h2 with ⟨_, e⟩ | ⟨g, cap, c, rfl, _⟩
        · omega
        · exact ⟨g, cap, rfl⟩
      have HPr : Hid (PRow w1 g F) := prow_of hrow rfl (hrow.lt g rfl).2
      clear hrow
      go_wp2_with fail
      refine (HAt2.out _ g cap (HPr.out.keep ((Below.refl _ _).alloc (Nat.le_refl _) _))).mono ?_
      rintro e w2 ⟨rfl, hb2⟩
      have H2 : Hid (Below w.heap.size w w2) := (hb.alloc hb.size _).trans (hb2.mono (by have := hb.size; simp; omega))
      clear hb hb2 hr'
      go_wp2_with fail
      go_ret2
      exact HTwo.out HE2.out (H2.out.alloc H2.out.size _) rfl
    · have HAt2 : Hid (∀ w1 g cap, PRow w1 g F → Calls Tryd.prog 35 #[.agg #[.slice (some ⟨g, 0, none⟩) F.length cap], .int .i64 (k : Int), .int .i64 way] w1 fun e w' => e = .returned (.tuple #[dsv x, .int .i64 0]) ∧ Below w1.heap.size w1 w') := fun w1 g cap hP => by
        have := HAt.out w1 g cap hP
        rw [if_neg hwy, if_neg hwy] at this
        exact this
      have HE1 : Hid (postC s k way o = if gdB o = true then 0 else 3) := HE.out.trans (if_neg (by rw [HWy.out]; exact hwy))
      clear HE HAt hwy HWy HTwo
      by_cases hok : okL o
      · have HE3 : Hid (postC s k way o = 0) := HE1.out.trans (if_pos (gdB_ok.2 hok))
        have HRd : Hid (∀ w1, Below w.heap.size w w1 → Calls Tryd.prog 23 #[.slice au o.length cu] w1 fun e w' => e = .returned (.tuple #[.agg (oc (ovE o) (ovM o)), .int .i64 0]) ∧ Below w1.heap.size w1 w') := fun w1 hb => o_read_ok (HG.out.keep hb HG.out.size) _ o hok (HU.out.keep hb)
        have HPo : Hid (∀ w1, Calls Tryd.prog 36 #[dsv x, .int .i64 way, .agg (oc (ovE o) (ovM o))] w1 fun e w' => e = .returned (.agg (oc (poE (ovE o) (ovM o) x way) (poM (ovE o) (ovM o) x way))) ∧ Below w1.heap.size w1 w') := fun w1 => e_post x HDg.out.1 HDg.out.2 way (ov_rng hok) (fun he => (ov_tq hok he).sh)
        have HSm : Hid (Sm (poM (ovE o) (ovM o) x way)) := po_sm (ov_rng hok) (fun he => (ov_tq hok he).sh) HDg.out.1 HDg.out.2 way
        have HLi : Hid (∀ w1, Below w.heap.size w w1 → Calls Tryd.prog 24 #[.agg (oc (poE (ovE o) (ovM o) x way) (poM (ovE o) (ovM o) x way))] w1 (LSays w1 (poE (ovE o) (ovM o) x way) (poM (ovE o) (ovM o) x way))) := fun w1 hb => o_list (HG.out.keep hb HG.out.size) HSm.out
        rw [HX2.out]
        clear HE1 hok HSm HX2
        generalize poE (ovE o) (ovM o) x way = e5 at *
        generalize poM (ovE o) (ovM o) x way = M5 at *
        generalize ovE o = e1 at *
        generalize ovM o = M at *
        unfold dsv at HAt2 HPo
        go_enter Tryd.func17, Tryd.ntmps17
        go_wp2_with fail
        refine hr'.mono ?_
        rintro e w1 ⟨v, rfl, hb, hrow⟩
        obtain ⟨g, cap, rfl⟩ : ∃ g cap, v = .slice (some ⟨g, 0, none⟩) F.length cap := by
          obtain ⟨_, h2⟩ := hrow
          rcases h2 with ⟨_, e⟩ | ⟨g, cap, c, rfl, _⟩
          · omega
          · exact ⟨g, cap, rfl⟩
        have HPr : Hid (PRow w1 g F) := prow_of hrow rfl (hrow.lt g rfl).2
        clear hrow
        go_wp2_with fail
        refine (HAt2.out _ g cap (HPr.out.keep ((Below.refl _ _).alloc (Nat.le_refl _) _))).mono ?_
        rintro e w2 ⟨rfl, hb2⟩
        have H2 : Hid (Below w.heap.size w w2) := (hb.alloc hb.size _).trans (hb2.mono (by have := hb.size; simp; omega))
        have hrd := fun ob => HRd.out (w2.alloc ob) (H2.out.alloc H2.out.size _)
        have HRd2 : Hid (∀ ob, Calls Tryd.prog 23 #[.slice au o.length cu] (w2.alloc ob) fun e w' => e = .returned (.tuple #[.agg (oc e1 M), .int .i64 0]) ∧ Below (w2.alloc ob).heap.size (w2.alloc ob) w') := hrd
        clear hb hb2 hr' hrd
        go_wp2_with fail
        refine (HRd2.out _).mono ?_
        rintro e w3 ⟨rfl, hb3⟩
        obtain ⟨w4, hst4, hat4, hb4, hs4⟩ := o_fresh w3 e1 M
        have hs3 : w2.heap.size + 1 ≤ w3.heap.size := by have := hb3.size; simpa using this
        have hA3 : At w3 w2.heap.size (dsCells x) tDs := At.keep (At.new w2 (dsCells x) tDs) hb3 (by simp)
        have H4 : Hid (OAt w4 w3.heap.size e1 M ∧ At w4 w2.heap.size (dsCells x) tDs ∧ Below w.heap.size w w4) := ⟨hat4, hA3.keep hb4 hA3.lt, ((H2.out.alloc H2.out.size _).trans (hb3.mono (by have := H2.out.size; simp; omega))).trans (hb4.mono (by have := H2.out.size; omega))⟩
        clear hb3 hat4 hb4 hA3
        have y0 : w4.cell? ⟨w2.heap.size, 0, none⟩ = some (.int .i64 x.kind) := H4.out.2.1.cell 0
        have y1 : w4.cell? ⟨w2.heap.size, 1, none⟩ = some (.int .i64 x.target) := H4.out.2.1.cell 1
        have y2 : w4.cell? ⟨w2.heap.size, 2, none⟩ = some (.bool x.any) := H4.out.2.1.cell 2
        have y3 : w4.cell? ⟨w2.heap.size, 3, none⟩ = some (.int .i64 (sgAt x.sg 0)) := H4.out.2.1.cell 3
        have y4 : w4.cell? ⟨w2.heap.size, 4, none⟩ = some (.int .i64 (sgAt x.sg 1)) := H4.out.2.1.cell 4
        have y5 : w4.cell? ⟨w2.heap.size, 5, none⟩ = some (.int .i64 (sgAt x.sg 2)) := H4.out.2.1.cell 5
        have y6 : w4.cell? ⟨w2.heap.size, 6, none⟩ = some (.int .i64 (sgAt x.sg 3)) := H4.out.2.1.cell 6
        have y7 : w4.cell? ⟨w2.heap.size, 7, none⟩ = some (.int .i64 x.num) := H4.out.2.1.cell 7
        have y8 : w4.cell? ⟨w2.heap.size, 8, none⟩ = some (.int .i64 x.parent) := H4.out.2.1.cell 8
        have y9 : w4.cell? ⟨w2.heap.size, 9, none⟩ = some (.int .i64 x.block) := H4.out.2.1.cell 9
        go_wp2_with (refine wpList_load_o rfl (.tmp 14) rfl rfl H4.out.1 ?_)
        refine (HPo.out w4).mono ?_
        rintro e w5 ⟨rfl, hb5⟩
        have H5 : Hid (Below w.heap.size w w5) := H4.out.2.2.trans (hb5.mono H4.out.2.2.size)
        obtain ⟨w6, hst6, hat6, hb6, hs6⟩ := o_fresh w5 e5 M5
        have H6 : Hid (OAt w6 w5.heap.size e5 M5 ∧ Below w.heap.size w w6) := ⟨hat6, H5.out.trans (hb6.mono H5.out.size)⟩
        have hli := HLi.out w6 H6.out.2
        clear hb5 hat6 hb6 HLi
        go_wp2_with (refine wpList_load_o rfl (.tmp 15) rfl rfl H6.out.1 ?_)
        refine hli.mono ?_
        intro y w7 hy
        obtain ⟨yy, rfl, a, nn, c, rfl⟩ := hy.val
        have HY : Hid (LSays w e5 M5 (.returned (.slice a nn c)) w7) := hy.from_ H6.out.2
        clear hy hli
        go_wp2_with fail
        go_ret2
        exact .inr ⟨HE3.out, _, HY.out, rfl⟩
      · have HE3 : Hid (postC s k way o = 3) := HE1.out.trans (if_neg (fun z => hok (gdB_ok.1 z)))
        have HRd : Hid (∀ w1, Below w.heap.size w w1 → Calls Tryd.prog 23 #[.slice au o.length cu] w1 fun e w' => e = .returned (.tuple #[.agg (oc false fun _ => 0), .int .i64 3]) ∧ Below w1.heap.size w1 w') := fun w1 hb => rdsNo HG.out hok HU.out w1 hb
        clear HE1 hok HX2
        unfold dsv at HAt2
        go_enter Tryd.func17, Tryd.ntmps17
        go_wp2_with fail
        refine hr'.mono ?_
        rintro e w1 ⟨v, rfl, hb, hrow⟩
        obtain ⟨g, cap, rfl⟩ : ∃ g cap, v = .slice (some ⟨g, 0, none⟩) F.length cap := by
          obtain ⟨_, h2⟩ := hrow
          rcases h2 with ⟨_, e⟩ | ⟨g, cap, c, rfl, _⟩
          · omega
          · exact ⟨g, cap, rfl⟩
        have HPr : Hid (PRow w1 g F) := prow_of hrow rfl (hrow.lt g rfl).2
        clear hrow
        go_wp2_with fail
        refine (HAt2.out _ g cap (HPr.out.keep ((Below.refl _ _).alloc (Nat.le_refl _) _))).mono ?_
        rintro e w2 ⟨rfl, hb2⟩
        have H2 : Hid (Below w.heap.size w w2) := (hb.alloc hb.size _).trans (hb2.mono (by have := hb.size; simp; omega))
        have HRd2 : Hid (∀ ob, Calls Tryd.prog 23 #[.slice au o.length cu] (w2.alloc ob) fun e w' => e = .returned (.tuple #[.agg (oc false fun _ => 0), .int .i64 3]) ∧ Below (w2.alloc ob).heap.size (w2.alloc ob) w') := fun ob => HRd.out (w2.alloc ob) (H2.out.alloc H2.out.size _)
        clear hb hb2 hr'
        go_wp2_with fail
        refine (HRd2.out _).mono ?_
        rintro e w3 ⟨rfl, hb3⟩
        obtain ⟨w4, hst4, hat4, hb4, hs4⟩ := o_fresh w3 false (fun _ => 0)
        have hs3 : w2.heap.size + 1 ≤ w3.heap.size := by have := hb3.size; simpa using this
        have H4 : Hid (Below w.heap.size w w4) := ((H2.out.alloc H2.out.size _).trans (hb3.mono (by have := H2.out.size; simp; omega))).trans (hb4.mono (by have := H2.out.size; omega))
        clear hb3 hat4 hb4
        go_wp2_with fail
        go_ret2
        exact .inl ⟨by rw [HE3.out]; decide, H4.out, by rw [HE3.out]; rfl⟩

end Go.Proofs.YtffajooegiempaaDoor

namespace Go.Proofs.YtffajooegiempaaDoor
open Go.RowKit
variable {w : World}

set_option maxRecDepth 100000 in
set_option maxHeartbeats 1600000 in
theorem ref_post (s : ByteArray) (p way : Int) (v : Value) (o : List Int) (hm : s.size ≤ maxLen) (hol : o.length ≤ 1073741824) (hv : Reads w v o) :
    Calls Tryd.prog 18 #[.string s, .int .i64 p, .int .i64 way, v] w (PostOut w (postC s p way o) (poE (ovE o) (ovM o) (xAt s p) way) (poM (ovE o) (ovM o) (xAt s p) way)) := by
  have HV : Hid (Reads w v o) := hv
  have HGd : Hid (∀ w1, Below w.heap.size w w1 → Calls Tryd.prog 25 #[v] w1 fun e w' => e = .returned (.bool (gdB o)) ∧ w' = w1) := fun w1 hb => r_good v o hol (hv.keep hb)
  cases hp : progOf (bytesOf s) with
  | none =>
    have HE : Hid (postC s p way o = 1) := by show postC _ _ _ _ = _; unfold postC; rw [hp]
    have hk := ref_known_none s p way w hm hp
    obtain ⟨ao, ca, rfl, -, -⟩ := hv
    clear hp hm
    go_enter Tryd.func18, Tryd.ntmps18
    go_wp2_with fail
    refine hk.mono ?_
    rintro e w1 ⟨rfl, hb1⟩
    go_wp2_with fail
    go_ret2
    exact .inl ⟨by rw [HE.out]; decide, hb1, by rw [HE.out]; rfl⟩
  | some m =>
    have HE : Hid (postC s p way o = if way < 0 ∨ waysAt m p ≤ way then 2 else if gdB o = true then 0 else 3) := by show postC _ _ _ _ = _; unfold postC; rw [hp]
    have hk := ref_known_some s p way w hm hp
    have hl := (progOf_some hp).1
    have hb := bytesOf_len s
    have HC : Hid (∀ k : Nat, k < m.st.length → StQ (m.st.getD k noSt) ∧ Cor ((readZ s).2.getD k (newDs 0 0)) (m.st.getD k noSt)) := by
      intro k hk
      refine ⟨stq_of hp hk, ?_⟩
      rcases prog_whole s (by omega) with ⟨_, hn⟩ | ⟨m', _, hp', hW⟩
      · rw [hp] at hn; cases hn
      · rw [hp] at hp'
        cases hp'
        exact (dsg_of hp hW (by rw [hW.1.len]; exact hk)).2
    have HX : Hid (xAt s p = (readZ s).2.getD p.toNat (newDs 0 0)) := rfl
    obtain ⟨ao, ca, rfl, -, -⟩ := id hv
    clear hp hm hv hl hb
    go_enter Tryd.func18, Tryd.ntmps18
    go_wp2_with fail
    refine hk.mono ?_
    rintro e w1 ⟨hb1, ⟨rfl, hway⟩ | ⟨hway, hl20, r, B, vs, vo, P, Q, O, rfl, hrep⟩⟩
    · have HE2 : Hid (postC s p way o = 2) := HE.out.trans (if_pos hway)
      clear HE hway hk
      go_wp2_with fail
      go_ret2
      exact .inl ⟨by rw [HE2.out]; decide, hb1, by rw [HE2.out]; rfl⟩
    · have hin : ¬ (p < 0 ∨ (m.st.length : Int) ≤ p) := fun z => hway (by unfold waysAt; rw [if_pos z]; omega)
      obtain ⟨k, rfl⟩ : ∃ k : Nat, p = k := ⟨p.toNat, by omega⟩
      have hkl : k < m.st.length := by omega
      have HE2 : Hid (postC s k way o = if gdB o = true then 0 else 3) := HE.out.trans (if_neg hway)
      have hgd := HGd.out w1 hb1
      have HB1 : Hid (Below w.heap.size w w1) := hb1
      have HX2 : Hid (xAt s (k : Int) = (readZ s).2.getD k (newDs 0 0)) := by show _ = _; rw [HX.out, Int.toNat_natCast]
      by_cases hok : okL o
      · have hsf := r_after hrep k hkl (HC.out k hkl).1 (HC.out k hkl).2 way (.slice ao o.length ca) (ovE o) ⟨_, _, _, rfl⟩ (r_closed_ok _ o hok (HV.out.keep hb1)) (fun he => ov_tq hok he)
        rw [← HX2.out] at hsf
        rw [gdB_ok.2 hok] at hgd
        have HE3 : Hid (postC s k way o = 0) := HE2.out.trans (if_pos (gdB_ok.2 hok))
        clear HE HE2 hway hk hin hrep hb1 hok HC HX HX2
        generalize poE (ovE o) (ovM o) (xAt s (k : Int)) way = e5 at *
        generalize poM (ovE o) (ovM o) (xAt s (k : Int)) way = M5 at *
        go_wp2_with fail
        refine hgd.mono ?_
        rintro e w2 ⟨rfl, hw2⟩
        subst hw2
        go_wp2_with fail
        refine hsf.mono ?_
        intro y w3 hy
        obtain ⟨yy, rfl, a, nn, c, rfl⟩ := hy.val
        have HY : Hid (LSays w e5 M5 (.returned (.slice a nn c)) w3) := hy.from_ HB1.out
        clear hy hsf
        go_wp2_with fail
        go_ret2
        exact .inr ⟨HE3.out, _, HY.out, rfl⟩
      · rw [gdB_no hok] at hgd
        have HE3 : Hid (postC s k way o = 3) := HE2.out.trans (if_neg (by rw [gdB_no hok]; decide))
        clear HE HE2 hway hk hin hrep hb1 hok HC HX HX2
        go_wp2_with fail
        refine hgd.mono ?_
        rintro e w2 ⟨rfl, hw2⟩
        subst hw2
        go_wp2_with fail
        go_ret2
        exact .inl ⟨by rw [HE3.out]; decide, HB1.out, by rw [HE3.out]; rfl⟩

set_option maxRecDepth 100000 in
set_option maxHeartbeats 1600000 in
theorem posts_walk (hG : Glob w) (s : ByteArray) (p way : Int) (v : Value) (L : List Int) (hm : s.size ≤ maxLen) (hL : L.length ≤ maxLen) (hv : Reads w v L) :
    Calls Tryd.prog 5 #[.string s, .int .i64 p, .int .i64 way, v] w fun e w' => e = .returned (.bool true) ∧ Below w.heap.size w w' := by
  have hL' : L.length ≤ 9223372036854775807 := by unfold maxLen at hL; omega
  clear hL
  by_cases hbig : 1073741824 < L.length
  · obtain ⟨ao, cap, rfl, -, -⟩ := hv
    have hb' : (1073741824 : Int) < (L.length : Int) := by omega
    clear hG hm
    go_enter Tryd.func5, Tryd.ntmps5
    go_wp2_with fail
    go_ret
    exact ⟨rfl, Below.refl _ _⟩
  have hL2 : L.length ≤ 1073741824 := by omega
  have hb' : ¬ (1073741824 : Int) < (L.length : Int) := by omega
  have hlent := l_lent w v L hL2 hv
  have HV : Hid (Reads w v L) := hv
  obtain ⟨c0, hc0⟩ : ∃ c0, c0 = postC s p way L := ⟨_, rfl⟩
  obtain ⟨e0, he0⟩ : ∃ e0, e0 = poE (ovE L) (ovM L) (xAt s p) way := ⟨_, rfl⟩
  obtain ⟨M0, hM0⟩ : ∃ M0, M0 = poM (ovE L) (ovM L) (xAt s p) way := ⟨_, rfl⟩
  have HCl : Hid (∀ w1, Below w.heap.size w w1 → At w1 w.heap.size (lentCells L) tN → Calls Tryd.prog 17 #[.string s, .int .i64 p, .int .i64 way, .slice (some ⟨w.heap.size, 0, none⟩) L.length (L.length + 2)] w1 (PostOut w1 c0 e0 M0)) := fun w1 hb1 hat => by
    rw [hc0, he0, hM0]; exact w_post (hG.keep hb1 hG.size) s p way _ L hm (Reads.lent hat)
  have HRef : Hid (∀ w1, Below w.heap.size w w1 → Calls Tryd.prog 18 #[.string s, .int .i64 p, .int .i64 way, v] w1 (PostOut w1 c0 e0 M0)) := fun w1 hb1 => by
    rw [hc0, he0, hM0]; exact ref_post s p way v L hm hL2 (HV.out.keep hb1)
  obtain ⟨ao, cap, rfl, -, -⟩ := id hv
  clear hv hL' hbig hG hm hc0 he0 hM0
  go_enter Tryd.func5, Tryd.ntmps5
  go_wp2_with fail
  refine hlent.mono ?_
  rintro e w1 ⟨rfl, hb1, hat1, hs1⟩
  have HB1 : Hid (Below w.heap.size w w1) := hb1
  have HA1 : Hid (At w1 w.heap.size (lentCells L) tN) := hat1
  clear hb1 hat1 hlent
  go_wp2_with fail
  refine (HCl.out w1 HB1.out HA1.out).mono ?_
  rintro e w2 (⟨hno, hb2, rfl⟩ | ⟨hok, y, hy, rfl⟩)
  · have HK : Hid (c0 ≠ 0) := hno
    have HB2 : Hid (Below w.heap.size w w2) := HB1.out.trans (hb2.mono (by omega))
    have HA2 : Hid (At w2 w.heap.size (lentCells L) tN) := HA1.out.keep hb2 hs1
    have hs2 : w1.heap.size ≤ w2.heap.size := hb2.size
    clear hb2 hno
    go_wp2_with fail
    refine (HRef.out w2 HB2.out).mono ?_
    rintro e w3 (⟨-, hb3, rfl⟩ | ⟨hok, -⟩)
    · have HB3 : Hid (Below w.heap.size w w3) := HB2.out.trans (hb3.mono (by omega))
      have HA3 : Hid (At w3 w.heap.size (lentCells L) tN) := HA2.out.keep hb3 (by omega)
      clear hb3
      go_wp2_with fail
      refine (l_result_nil w3).mono ?_
      rintro e w4 ⟨rfl, k, rfl⟩
      have hwh := l_whole (w3.drewN k) w.heap.size (.slice ao L.length cap) L hL2 (HA3.out.drewN k) (HV.out.keep (below_drewN HB3.out k))
      go_wp2_with fail
      refine hwh.mono ?_
      rintro e w5 ⟨rfl, k', rfl⟩
      go_wp2_with fail
      go_ret
      exact ⟨rfl, below_drewN HB3.out (k + k')⟩
    · exact absurd hok HK.out
  · have HK : Hid (c0 = 0) := hok
    have HB2 : Hid (Below w.heap.size w w2) := HB1.out.trans (hy.1.mono (by omega))
    have HA2 : Hid (At w2 w.heap.size (lentCells L) tN) := HA1.out.keep hy.1 hs1
    have hs2 : w1.heap.size ≤ w2.heap.size := hy.1.size
    obtain ⟨y', e', a, n, c, rfl⟩ := hy.val
    cases e'
    have HY : Hid (LSays w1 e0 M0 (.returned (.slice a n c)) w2) := hy
    clear hy hok
    go_wp2_with fail
    refine (HRef.out w2 HB2.out).mono ?_
    rintro e w3 (⟨hno, -, -⟩ | ⟨-, z, hz, rfl⟩)
    · exact absurd HK.out hno
    · have HB3 : Hid (Below w.heap.size w w3) := HB2.out.trans (hz.1.mono (by omega))
      have HA3 : Hid (At w3 w.heap.size (lentCells L) tN) := HA2.out.keep hz.1 (by omega)
      have hres := l_result_two HY.out hz
      obtain ⟨z', e', a', n', c', rfl⟩ := hz.val
      cases e'
      clear hz
      go_wp2_with fail
      refine hres.mono ?_
      rintro e w4 ⟨rfl, hb4⟩
      have HB4 : Hid (Below w.heap.size w w4) := HB3.out.trans (hb4.mono (by omega))
      have hwh := l_whole w4 w.heap.size (.slice ao L.length cap) L hL2 (HA3.out.keep hb4 (by omega)) (HV.out.keep HB4.out)
      clear hb4 hres
      go_wp2_with fail
      refine hwh.mono ?_
      rintro e w5 ⟨rfl, k', rfl⟩
      go_wp2_with fail
      go_ret
      exact ⟨rfl, below_drewN HB4.out k'⟩

end Go.Proofs.YtffajooegiempaaDoor

namespace Go.Proofs.YtffajooegiempaaDoor
open Go.ChangeShapes Go.WideShapes Go.ChangeAt Go.WideMaps Go.WideElems Go.RowKit Go.ChangeMaps

set_option maxRecDepth 100000 in
theorem posts_lifted (os : Os) (started : os.Started) (H : Type) (enc : TypeId × Value → H) :
    ReturnsInHanded {} Tryd.checked os 5 .any (fun w args => (Rows.postsSpec.pre enc Tryd.prog Tryd.f5 [] false w args ∧ laidMetH Tryd.prog laid2 w) ∧ sizedMet enc Tryd.prog Tryd.f5 (OpenSpec.ofChange Rows.postsSpec) false w args)
      (Rows.postsSpec.post enc Tryd.prog Tryd.f5 false true false false) := by
  refine returnsInHanded_of_change_and (C := Tryd.checked) (X := fun w _ => laidMetH Tryd.prog laid2 w) (fun _ _ _ hh h => h.of_heap hh) Tryd.ownD started (by kernel_rfl) Tryd.func5
    (ChangeSpec.witness_shaped (enc := enc) (C := Tryd.checked) (os := os) (X := fun w _ => laidMetH Tryd.prog laid2 w) false (World.doorLaid Tryd.prog 4000 os) #[.string ByteArray.empty, .int .i64 0, .int .i64 0, .slice none 0 0] 8 rfl (World.shaped_of_RefB (by kernel_rfl) (by kernel_rfl)) (by kernel_rfl) (by kernel_rfl) (by kernel_rfl) (door_met os _)) ?_
  intro W base args ds gs before hval0 hW _ _ hL _
  have hval : ∀ (j : Nat) t v, Tryd.f5.params[j]? = some t → args[j]? = some v → Value.okWide Tryd.prog W .any base t v := hval0
  have hW' := hW
  obtain ⟨p, q, hA0, hV, rfl, hfz, hnd⟩ := hW
  have hA : DataW.TrodAll enc Tryd.prog W 0 (fun _ => true) true Tryd.f5.params.toList args.toList ds p := hA0
  rw [Tryd.params5] at hA hval
  obtain ⟨v0, vs0, d0, ds0, p0, q0, hargs0, rfl, rfl, h0, r0⟩ := trodAll_cons hA
  obtain ⟨v1, vs1, d1, ds1, p1, q1, hargs1, rfl, rfl, h1, r1⟩ := trodAll_cons r0
  obtain ⟨v2, vs2, d2, ds2, p2, q2, hargs2, rfl, rfl, h2, r2⟩ := trodAll_cons r1
  obtain ⟨v3, vs3, d3, ds3, p3, q3, hargs3, rfl, rfl, h3, r3⟩ := trodAll_cons r2
  obtain ⟨rfl, rfl, rfl⟩ := trodAll_nil r3
  obtain rfl : args = #[v0, v1, v2, v3] := by cases args; simp_all
  obtain ⟨rfl, rfl⟩ := trodVars_none hV
  obtain ⟨s, rfl, rfl, rfl, hs⟩ := open_string Tryd.underlying9 (hval 0 9 v0 rfl rfl) h0
  obtain ⟨b, rfl, rfl, rfl, wb⟩ := open_int Tryd.underlying3 (hval 1 3 v1 rfl rfl) h1
  obtain ⟨c, rfl, rfl, rfl, wc⟩ := open_int Tryd.underlying3 (hval 2 3 v2 rfl rfl) h2
  obtain ⟨a0, l0, c0, rfl⟩ := okWide_slice Tryd.underlying22 (hval 3 22 v3 rfl rfl)
  clear hA0 hval0
  simp only [List.append_nil, List.nil_append] at hW'
  have lt3 : ∀ x ∈ p3, x.block < W.heap.size := fun x hx => hW'.lt x (by simp [hx])
  obtain ⟨L3, m3, R3⟩ := open_reads h3 lt3
  refine (posts_walk (of_laid hL) s b c _ L3 hs m3 R3).mono fun e W' ⟨he, hb⟩ => ?_
  subst he
  have t3 := Below.trod Tryd.laidOutD (by kernel_rfl) (of_decide_eq_true (by kernel_rfl)) h3 hb lt3
  have hall := trodAll_cons_mk (shut_string Tryd.underlying9 hs) (trodAll_cons_mk (shut_int Tryd.underlying3 wb) (trodAll_cons_mk (shut_int Tryd.underlying3 wc) (trodAll_cons_mk t3 trodAll_mk0)))
  simp only [List.append_nil, List.nil_append] at hall
  exact ⟨_, rfl, _, _, _, [], p3, [], hW', trodAll_cons_mk (shut_bool Tryd.underlying4 _) trodAll_mk0, hall, rfl, hb.frame _, fun h => by cases h⟩

theorem posts_row : Rows.PostsSaid :=
  OpenClaim.holds_of_wide 5 Tryd.f5 rfl rfl rfl rfl rfl rfl rfl ⟨rfl, rfl, rfl, rfl, rfl⟩ rfl rfl rfl rfl rfl (by kernel_rfl) Tryd.func5 (by kernel_rfl)
    (of_decide_eq_true (by kernel_rfl)) (by unfold Func.isWrapper; first | (rw [if_pos (by decide +kernel)]; kernel_rfl) | (rw [if_neg (by decide +kernel)]; exact ⟨rfl, rfl⟩))
    (fun os started H enc _ => posts_lifted os started H enc)

theorem posts_card : Rows.PostsCardSaid :=
  Claim7.holds_tied_plain_at .later [] [.data, .data] true Rows.postsCard.stood.harness false
    posts_row (fun _ h => by cases h) (by kernel_rfl) (fun _ h => by cases h) posts_row_tie rfl ⟨rfl, rfl⟩ (by kernel_rfl) rfl
    (fun f fn hf hfn => by
      obtain rfl : f = 5 := Option.some.inj ((show Tryd.prog.funcNamed "witness/witnesslaw.Posts" = some 5 by kernel_rfl).symm.trans hf) |>.symm
      obtain rfl : fn = Tryd.f5 := (Option.some.inj (Tryd.func5.symm.trans hfn)).symm
      exact ⟨by kernel_rfl, fun j t ht => by
        rw [Tryd.params5] at ht
        have hm : t ∈ [9, 3, 3, 22] := by simpa using Array.mem_of_getElem? ht
        have hall : ([9, 3, 3, 22].all fun u => !Tryd.prog.wantsStandIn u) = true := by kernel_rfl
        exact (show Tryd.prog.wantsStandIn t = false by simpa using List.all_eq_true.1 hall t hm)⟩)
    (by kernel_rfl)

end Go.Proofs.YtffajooegiempaaDoor

