import Derived.Test.YtffajooegiempaaGreatDoorJ40
namespace Go.Proofs.YtffajooegiempaaGreatDoor
open Go.RowKit
variable {w : World} {C : Nat → Int}

theorem itF_le {R : Nat → Int} (hR : ∀ f, f < 32 → R f ≤ NB) : ∀ n R', itF R n = some R' → ∀ f, f < 32 → R' f ≤ R f := by
  intro n
  induction n with
  | zero => intro R' h f _; cases h; exact Int.le_refl _
  | succ n ih =>
    intro R' h f hf
    obtain ⟨R1, b, e, e2⟩ := itF_succ h
    exact Int.le_trans ((rF_inv (itF_hi hR n R1 e) 1024 (Nat.le_refl _) _ b e2).le f hf) (ih R1 e f hf)
/-- Closing what is closed. -/
theorem r_closed_t (h : TC C) (hs : Sm C) (u : Value) (hu : Reads w u (bdL C)) : Calls Tryz.prog 59 #[u] w (LSays w false C) := by
  obtain ⟨R0, hR0⟩ : ∃ R0 : Nat → Int, R0 = fun f => (bdL C).getD f 0 := ⟨_, rfl⟩
  have eq : ∀ f, f < 32 → R0 f = bd C f := fun f hf => by rw [hR0]; exact bdL_getD C hf
  have hA : Ab C R0 := fun f hf => by rw [eq f hf]; exact Int.le_refl _
  have hH : ∀ f, f < 32 → R0 f ≤ NB := fun f hf => by rw [eq f hf]; exact h.bd_hi hf
  have hcl := r_closed u (bdL C) (bdL_len C) hu
  rw [← hR0] at hcl
  refine (hcl (fun n R e => ?_)).mono ?_
  · obtain ⟨R1, e1, a1, i1⟩ := itF_ab h hH hA n
    have : R1 = R := Option.some.inj (e1.symm.trans e)
    subst this
    intro k hk R' b e2 f hf
    obtain ⟨R2, b2, e3, a2, i2⟩ := rF_ab h a1 i1 k hk
    have e4 : (R', b) = (R2, b2) := Option.some.inj (e2.symm.trans e3)
    cases e4
    have x := a2 f hf
    have y := i2 f hf
    have z := bd_rng hs hf
    unfold NB at y
    omega
  · rintro e w' ⟨hb, ⟨rfl, n, hn⟩ | ⟨g, n, R, R', rfl, hg, ha, h1, h2⟩⟩
    · obtain ⟨R1, e1, _⟩ := itF_ab h hH hA n
      rw [hn] at e1
      cases e1
    · refine ⟨hb, .inr ⟨rfl, g, rfl, hg, ?_⟩⟩
      obtain ⟨R1, e1, a1, i1⟩ := itF_ab h hH hA n
      have : R1 = R := Option.some.inj (e1.symm.trans h1)
      subst this
      obtain ⟨R2, b2, e3, a2, i2⟩ := rF_ab h a1 i1 1024 (Nat.le_refl _)
      have e4 : (R', false) = (R2, b2) := Option.some.inj (h2.symm.trans e3)
      cases e4
      have e5 : ∀ f, f < 32 → R' f = bd C f := fun f hf => by
        have x := a2 f hf
        have y := (rF_inv (itF_hi hH n R1 h1) 1024 (Nat.le_refl _) _ _ e3).le f hf
        have z := itF_le hH n R1 h1 f hf
        have := eq f hf
        omega
      rw [← bdL_of e5]
      exact ha

/-- A list as the document's after leaves it. -/
def LV (w : World) (e : Bool) (M : Nat → Int) (u : Value) : Prop := (e = true ∧ u = .slice none 0 0) ∨ (e = false ∧ ∃ g, u = .slice (some ⟨g, 0, none⟩) 32 32 ∧ At w g (ic (bdL M)) tNo)

theorem LV.keep {w w' : World} {e : Bool} {M : Nat → Int} {u : Value} (h : LV w e M u) (hb : Below w.heap.size w w') : LV w' e M u := by
  rcases h with h | ⟨h1, g, h2, h3⟩
  · exact .inl h
  · exact .inr ⟨h1, g, h2, h3.keep hb h3.lt⟩

set_option maxRecDepth 100000 in
set_option maxHeartbeats 3200000 in
theorem r_inside_t {e0 : Bool} {M : Nat → Int} (u v : Value) (r : Option (List Int)) (hT : e0 = false → TC M ∧ Sm M) (hr : okp r) (hu : LV w e0 M u) (hv : RdL w v r) :
    Calls Tryz.prog 65 #[u, v] w fun e w' => e = .returned (.bool (wiB e0 (cE r) M (cM r))) ∧ Below w.heap.size w w' := by
  have hq1 : ∀ (w : World) (a : Option Addr) (n c : Nat), (binOp .eql 32 (.slice a n c) (.slice none 0 0)).run Tryz.prog w = .ok (.bool a.isNone) w := fun w a n c => Lib.run_eql_slice_nil w 32 tN a n c 0 0 Tryz.underlying32
  rw [ins_same (fun h => (hT h).1) hr]
  rcases hu with ⟨rfl, rfl⟩ | ⟨rfl, g0, rfl, ha0⟩
  · have HE : Hid (insB true M r = true) := by cases r <;> rfl
    obtain ⟨va, vn, vc, rfl⟩ : ∃ a n c, v = .slice a n c := by
      cases r with
      | none => exact ⟨_, _, _, hv⟩
      | some l => obtain ⟨_, a, n, c, h⟩ := hv; exact ⟨_, _, _, h⟩
    clear hT hr hv
    go_enter Tryz.func65, Tryz.ntmps65
    go_wp2_with fail
    go_ret
    exact ⟨ret_b HE.out, Below.refl _ _⟩
  · have hcl := r_closed_t (w := w) (hT rfl).1 (hT rfl).2 (.slice (some ⟨g0, 0, none⟩) 32 32) (Reads.at_ ha0 (bdL_len M) (Nat.le_refl _) (fun i hi => ic_get _ _ (by rw [bdL_len]; exact hi)))
    cases r with
    | none =>
      obtain rfl : v = .slice none 0 0 := hv
      have HE : Hid (insB false M none = false) := rfl
      clear hT hr ha0
      go_enter Tryz.func65, Tryz.ntmps65
      go_wp2_with fail
      refine hcl.mono ?_
      rintro e w1 ⟨hb1, ⟨he, -⟩ | ⟨-, g, rfl, hg, ha⟩⟩
      · cases he
      · have HB1 : Hid (Below w.heap.size w w1) := hb1
        clear hb1 hcl ha
        go_wp2_with fail
        go_ret
        exact ⟨ret_b HE.out, HB1.out⟩
    | some p =>
      have hp := (okp_ok hr).1
      obtain ⟨hv, a, n, c, rfl⟩ := hv
      have HL : Hid (∀ w1 g, Below w.heap.size w w1 → At w1 g (ic (bdL M)) tNo → Calls Tryz.prog 99 #[.slice (some ⟨g, 0, none⟩) 32 32, .slice (some a) n c] w1 fun e w' => e = .returned (.bool (leF (bd M) (fun f => p.getD f 0) 32)) ∧ Below w1.heap.size w1 w') := by
        intro w1 g hb ha
        have h := r_least (w := w1) (.slice (some ⟨g, 0, none⟩) 32 32) (.slice (some a) n c) (bdL M) p (bdL_len M) hp (Reads.at_ ha (bdL_len M) (Nat.le_refl _) (fun i hi => ic_get _ _ (by rw [bdL_len]; exact hi))) (hv.keep hb)
        rw [leF_congr (A := fun f => (bdL M).getD f 0) (A' := bd M) 32 (fun f hf => bdL_get M f hf)] at h
        exact h
      have HE : Hid (insB false M (some p) = leF (bd M) (fun f => p.getD f 0) 32) := Bool.false_or _
      generalize leF (bd M) (fun f => p.getD f 0) 32 = b at *
      clear hT hr ha0 hv hp
      go_enter Tryz.func65, Tryz.ntmps65
      go_wp2_with fail
      refine hcl.mono ?_
      rintro e w1 ⟨hb1, ⟨he, -⟩ | ⟨-, g, rfl, hg, ha⟩⟩
      · cases he
      · have hls := HL.out w1 g hb1 ha
        have HB1 : Hid (Below w.heap.size w w1) := hb1
        clear hb1 hcl ha
        go_wp2_with fail
        refine hls.mono ?_
        rintro e w2 ⟨rfl, hb2⟩
        go_wp2_with fail
        go_ret
        exact ⟨ret_b HE.out, HB1.out.trans (hb2.mono HB1.out.size)⟩

set_option maxRecDepth 100000 in
set_option maxHeartbeats 3200000 in
theorem r_starts (v : Value) (r : Option (List Int)) (hr : okp r) (hv : RdL w v r) :
    Calls Tryz.prog 63 #[v] w fun e w' => e = .returned (.bool (wiB false (cE r) (fun _ => 0) (cM r))) ∧ Below w.heap.size w w' := by
  have hq1 : ∀ (w : World) (a : Option Addr) (n c : Nat), (binOp .eql 32 (.slice a n c) (.slice none 0 0)).run Tryz.prog w = .ok (.bool a.isNone) w := fun w a n c => Lib.run_eql_slice_nil w 32 tN a n c 0 0 Tryz.underlying32
  rw [sta_same hr]
  cases r with
  | none =>
    obtain rfl : v = .slice none 0 0 := hv
    have HE : Hid (staB none = false) := rfl
    clear hr
    go_enter Tryz.func63, Tryz.ntmps63
    go_wp2_with fail
    go_ret
    exact ⟨ret_b HE.out, Below.refl _ _⟩
  | some l =>
    have hl := (okp_ok hr).1
    obtain ⟨⟨ao, ca, e, -, h0⟩, a, n, c, rfl⟩ := hv
    obtain ⟨p, off, rfl, hp, hcell⟩ := h0 (by omega)
    cases e
    rw [hl]
    have HC : Hid (∀ i, i < 32 → w.cell? ⟨p, off + i, none⟩ = some (.int .i64 (l.getD i 0))) := fun i hi => hcell i (by omega)
    have HE : Hid (staB (some l) = leF (fun _ => 0) (fun f => l.getD f 0) 32) := rfl
    obtain ⟨A, hA⟩ : ∃ A : Nat → Int, A = fun _ => 0 := ⟨_, rfl⟩
    obtain ⟨B, hB⟩ : ∃ B : Nat → Int, B = fun f => l.getD f 0 := ⟨_, rfl⟩
    have HC' : Hid (∀ i, i < 32 → w.cell? ⟨p, off + i, none⟩ = some (.int .i64 (B i))) := by rw [hB]; exact HC.out
    have HA : Hid (∀ i, A i = 0) := by rw [hA]; exact fun _ => rfl
    rw [← hA, ← hB] at HE
    clear HC hA hB hcell h0 hl hr
    go_enter Tryz.func63, Tryz.ntmps63
    go_wp2_with fail
    go_loopw [3] (fun i wr => ∃ (f k : Nat), f ≤ 32 ∧ i = .int .i64 f ∧ Hid (wr = w.drewN k ∧ leF A B f = true)) (fun i _ => 32 - (intOf i).toNat)
    case atStart => exact ⟨0, 0, by omega, rfl, rfl, rfl⟩
    case round =>
      obtain ⟨f, k, hf, rfl, HR⟩ := hrel
      by_cases hlt : f < 32
      · have hfi : (f : Int) < 32 := by omega
        have ca : wr.cell? ⟨p, off + f, none⟩ = some (.int .i64 (B f)) := by rw [HR.out.1]; exact HC'.out f hlt
        have HN : Hid (B f < 0 → leF A B 32 = false) := fun h => by
          cases e : leF A B 32 with
          | false => rfl
          | true => have := leF_iff.1 e f hlt; rw [HA.out] at this; omega
        have HY : Hid (¬ B f < 0 → leF A B (f + 1) = true) := fun h => by
          show (leF A B f && decide (A f ≤ B f)) = true
          rw [HR.out.2, HA.out, decide_eq_true (by omega)]; rfl
        generalize B f = y at *
        by_cases hxy : y < 0
        · have HF : Hid (leF A B 32 = false) := HN.out hxy
          go_wp2_with fail
          go_ret
          exact ⟨ret_b (HE.out.trans HF.out), by rw [HR.out.1]; exact below_drewN (Below.refl _ _) _⟩
        · have HF : Hid (leF A B (f + 1) = true) := HY.out hxy
          go_wp2_with fail
          go_roundw
          case rel => exact ⟨f + 1, k, by omega, by go_num, HR.out.1, HF.out⟩
          case measure => simp [intOf]; omega
      · have hf32 : f = 32 := by omega
        subst hf32
        go_wp2_with fail
        go_ret
        exact ⟨ret_b (HE.out.trans HR.out.2), by rw [HR.out.1]; exact below_drewN (Below.refl _ _) _⟩

end Go.Proofs.YtffajooegiempaaGreatDoor

namespace Go.Proofs.YtffajooegiempaaGreatDoor
open Go.RowKit
variable {w : World}

theorem atL_nat (L : List (Option (List Int))) (k : Nat) : atL L (k : Int) = L.getD k none := by
  unfold atL
  rw [if_neg (by omega), Int.toNat_natCast]
theorem allN_true : ∀ n, allN (fun _ => true) n = true
  | 0 => rfl
  | n + 1 => by show (allN (fun _ => true) n && true) = true; rw [allN_true n]; rfl
/-- Where nothing is claimed nothing is asked. -/
theorem chk_none {F : List Ds} {L : List (Option (List Int))} {k : Nat} (h : L.getD k none = none) : chkP F L k = 0 := by
  unfold chkP
  rw [atL_nat, h]
  have e : sfP (cE none) (cM none) (F.getD k (newDs 0 0)) = true := rfl
  rw [e, if_neg (by decide)]
  have e2 : wayP F L k = fun _ => true := by
    funext way
    unfold wayP
    rw [atL_nat, h]
    have e3 : poE (cE none) (cM none) (F.getD k (newDs 0 0)) way = true := rfl
    rw [e3]
    rfl
  rw [e2, if_pos (allN_true _)]
theorem RdL.isSlice {v : Value} {r : Option (List Int)} (h : RdL w v r) : ∃ a n c, v = .slice a n c := by
  cases r with
  | none => exact ⟨_, _, _, h⟩
  | some o => obtain ⟨_, a, n, c, e⟩ := h; exact ⟨_, _, _, e⟩

/-- What comes behind the reading. -/
def RkSays (F : List Ds) (L : List (Option (List Int))) (r : Int × Int) : Prop := if wiB false (cE (atL L 0)) (fun _ => 0) (cM (atL L 0)) = false then r = (5, 0) else CkSays (chkP F L) F.length r

set_option maxRecDepth 100000 in
set_option maxHeartbeats 6400000 in
theorem r_checked {B r : Nat} {m : Rd} {vs vo : Value} {P Q O : Nat → Nat} {l : List Int} {F : List Ds} {L : List (Option (List Int))} (h : Rep B w r m vs vo P Q O) (hp : progOf l = some m) (hW : Whole F m.st) (hl : F.length ≤ 20) (v : Value) (hv : ReadsL w v L) (hn : L.length = F.length + 1) (hok : ∀ r, r ∈ L → okp r) :
    Calls Tryz.prog 25 #[.pointer (some ⟨r, 0, none⟩), v] w fun e w' => ∃ a b, e = .returned (.tuple #[.int .i64 a, .int .i64 b]) ∧ RkSays F L (a, b) ∧ Below w.heap.size w w' := by
  have hq1 : ∀ (w : World) (a : Option Addr) (n c : Nat), (binOp .eql 32 (.slice a n c) (.slice none 0 0)).run Tryz.prog w = .ok (.bool a.isNone) w := fun w a n c => Lib.run_eql_slice_nil w 32 tN a n c 0 0 Tryz.underlying32
  have hSl : F.length = m.st.length := hW.1.len
  obtain ⟨ao, cap, rfl, hcap, h0⟩ := hv
  obtain ⟨b, off, rfl, hblt, hcell⟩ := h0 (by omega)
  have HC : Hid (∀ w1, Below w.heap.size w w1 → ∀ i, i < F.length + 1 → ∃ a nn c, w1.cell? ⟨b, off + i, none⟩ = some (.slice a nn c) ∧ RdL w1 (.slice a nn c) (L.getD i none)) := fun w1 hb i hi => by
    obtain ⟨x, h1, h2⟩ := hcell i (by omega)
    obtain ⟨a, nn, c, rfl⟩ := h2.isSlice
    exact ⟨a, nn, c, (hb.cell (by exact hblt)).trans h1, h2.keep hb⟩
  have HSt : Hid (∀ w1 a nn c, RdL w1 (.slice a nn c) (L.getD 0 none) → Calls Tryz.prog 63 #[.slice a nn c] w1 fun e w' => e = .returned (.bool (wiB false (cE (atL L 0)) (fun _ => 0) (cM (atL L 0)))) ∧ Below w1.heap.size w1 w') := fun w1 a nn c hr => by
    have e0 : atL L 0 = L.getD 0 none := atL_nat L 0
    rw [e0]
    exact r_starts _ _ (getD_ok hok 0) hr
  have HSf : Hid (∀ w1, Below w.heap.size w w1 → ∀ k, k < F.length → ∀ o a nn c, L.getD k none = some o → RdL w1 (.slice a nn c) (some o) → Calls Tryz.prog 64 #[.pointer (some ⟨r, 0, none⟩), .int .i64 (k : Int), .slice a nn c] w1 fun e w' => e = .returned (.bool (sfP (cE (atL L k)) (cM (atL L k)) (F.getD k (newDs 0 0)))) ∧ Below w1.heap.size w1 w') := fun w1 hb k hk o a nn c hr hrd => by
    have ho : okL o := okp_ok (by rw [← hr]; exact getD_ok hok k)
    rw [atL_nat, hr]
    show Calls Tryz.prog 64 _ w1 fun e w' => e = .returned (.bool (sfP (ovE o) (ovM o) (F.getD k (newDs 0 0)))) ∧ _
    rw [sf_same (dsg_of hp hW hk).2 (stg_of hp k) ho]
    exact r_safe (h.keep hb) k (by omega) (stg_of hp k) _ o ho hrd.1
  have HWy : Hid (∀ w1, Below w.heap.size w w1 → ∀ k : Nat, k < F.length → Calls Tryz.prog 21 #[.pointer (some ⟨r, 0, none⟩), .int .i64 (k : Int)] w1 fun e w' => e = .returned (.int .i64 (waysP (F.getD k (newDs 0 0)).kind)) ∧ w' = w1) := fun w1 hb k hk => by
    have := (h.keep hb).ways (k : Int)
    rw [if_neg (by omega), Int.toNat_natCast, ← ways_same hW hk] at this
    exact this
  have HAf : Hid (∀ w1, Below w.heap.size w w1 → ∀ k, k < F.length → ∀ o a nn c way, L.getD k none = some o → RdL w1 (.slice a nn c) (some o) → Calls Tryz.prog 22 #[.pointer (some ⟨r, 0, none⟩), .int .i64 (k : Int), .int .i64 way, .slice a nn c] w1 (LSays w1 (poE (cE (atL L k)) (cM (atL L k)) (F.getD k (newDs 0 0)) way) (poM (cE (atL L k)) (cM (atL L k)) (F.getD k (newDs 0 0)) way))) := fun w1 hb k hk o a nn c way hr hrd => by
    have ho : okL o := okp_ok (by rw [← hr]; exact getD_ok hok k)
    rw [atL_nat, hr]
    exact r_after (h.keep hb) k (by omega) (stq_of hp (by omega)) (dsg_of hp hW hk).2 way _ (ovE o) ⟨_, _, _, rfl⟩ (r_closed_ok _ o ho hrd.1) (fun he => ov_tq ho he)
  have HNx : Hid (∀ w1, Below w.heap.size w w1 → ∀ (k way : Nat), k < F.length → (way : Int) < waysP (F.getD k (newDs 0 0)).kind → Calls Tryz.prog 23 #[.pointer (some ⟨r, 0, none⟩), .int .i64 (k : Int), .int .i64 (way : Int)] w1 fun e w' => e = .returned (.int .i64 (nextP F k way).1) ∧ Below w1.heap.size w1 w') := fun w1 hb k way hk hw => by
    have e := next_same hW hl k hk way
    rw [if_neg (by rw [← ways_same hW hk]; omega)] at e
    rw [e]
    exact ((h.keep hb).next (by omega) k (by omega) way).mono fun e w' ⟨h1, j, h2⟩ => ⟨h1, by rw [h2]; exact below_drewN (Below.refl _ _) j⟩
  have HIn : Hid (∀ w1 (k way qn : Nat) u a nn c, k < F.length → (nextP F k way).1 = (qn : Int) → LV w1 (poE (cE (atL L k)) (cM (atL L k)) (F.getD k (newDs 0 0)) way) (poM (cE (atL L k)) (cM (atL L k)) (F.getD k (newDs 0 0)) way) u → RdL w1 (.slice a nn c) (L.getD qn none) → Calls Tryz.prog 65 #[u, .slice a nn c] w1 fun e w' => e = .returned (.bool (wayP F L k way)) ∧ Below w1.heap.size w1 w') := fun w1 k way qn u a nn c hk hq hu hrd => by
    unfold wayP
    rw [hq, atL_nat L qn]
    refine r_inside_t u _ _ (fun he => ?_) (getD_ok hok qn) hu hrd
    have hD := dsg_of hp hW hk
    have hqs := stq_of hp (show k < m.st.length by omega)
    have ht : 0 ≤ (F.getD k (newDs 0 0)).target ∧ (F.getD k (newDs 0 0)).target < 4 := by rw [← hD.2.2.1]; exact ⟨hqs.var.1, by have := hqs.var.2; omega⟩
    have hS := po_sm (c_rng (atL_ok hok (k : Int))) (c_sh (atL_ok hok (k : Int))) hD.1 ht way
    cases hce : cE (atL L k) with
    | true => rw [hce] at he; cases he
    | false =>
      rw [hce] at he hS
      exact ⟨po_tc (c_tq (atL_ok hok _) hce) hD.1 hqs hD.2 way he, hS⟩
  have HLn : Hid (∀ w1, Below w.heap.size w w1 → ∃ sa sc, w1.cell? ⟨r, 1, none⟩ = some (.slice sa F.length sc)) := fun w1 hb => by
    obtain ⟨sa, sc, hvs⟩ := (h.keep hb).slen'
    obtain ⟨_, r1, _⟩ := (h.keep hb).rdc
    rw [hvs, ← hSl] at r1
    exact ⟨sa, sc, r1⟩
  have HNi : Hid (∀ (k way : Nat), k < F.length → (way : Int) < waysP (F.getD k (newDs 0 0)).kind → ∃ qn : Nat, (nextP F k way).1 = (qn : Int) ∧ qn < F.length + 1) := fun k way hk hw => by
    have := nextP_in (F := F) k way (next_z F k hk way hw)
    exact ⟨(nextP F k way).1.toNat, by omega, by omega⟩
  have HCk : Hid (∀ k, chkP F L k = if sfP (cE (atL L k)) (cM (atL L k)) (F.getD k (newDs 0 0)) = false then 6 else if allN (wayP F L k) (waysP (F.getD k (newDs 0 0)).kind).toNat then 0 else 7) := fun k => rfl
  have HNo : Hid (∀ k, L.getD k none = none → chkP F L k = 0) := fun k hk => chk_none hk
  have HWr : Hid (∀ k, 1 ≤ waysP (F.getD k (newDs 0 0)).kind ∧ waysP (F.getD k (newDs 0 0)).kind ≤ 2) := fun k => ways_rng _
  have hr0 : r < w.heap.size := h.rd.lt
  have HK5 : Hid (wiB false (cE (atL L 0)) (fun _ => 0) (cM (atL L 0)) = false → RkSays F L (5, 0)) := fun q => by show RkSays F L (5, 0); unfold RkSays; rw [if_pos q]
  have HKk : Hid (wiB false (cE (atL L 0)) (fun _ => 0) (cM (atL L 0)) = true → ∀ r, CkSays (chkP F L) F.length r → RkSays F L r) := fun q r h => by show RkSays F L r; unfold RkSays; rw [if_neg (by rw [q]; decide)]; exact h
  clear h hp hW h0 hcell hok hcap hSl
  generalize chkP F L = f at *
  rw [hn]
  generalize hnn : F.length = n at *
  obtain ⟨a0, n0, c0, cx0, hrd0⟩ := HC.out w (Below.refl _ _) 0 (by omega)
  have cx00 : w.cell? ⟨b, off, none⟩ = some (.slice a0 n0 c0) := cx0
  have hst := HSt.out w _ _ _ hrd0
  have h0n : (0 : Int) < ((n + 1 : Nat) : Int) := by omega
  clear hrd0 HSt
  generalize wiB false (cE (atL L 0)) (fun _ => 0) (cM (atL L 0)) = st at *
  go_enter Tryz.func25, Tryz.ntmps25
  go_wp2_with fail
  refine hst.mono ?_
  rintro e w1 ⟨rfl, hb1⟩
  have HB1 : Hid (Below w.heap.size w w1) := hb1
  clear hb1 hst cx0 cx00
  cases st with
  | false =>
    have HK6 : Hid (RkSays F L (5, 0)) := HK5.out rfl
    clear HK5 HKk
    go_wp2_with fail
    go_ret2
    exact ⟨_, _, rfl, HK6.out, HB1.out⟩
  | true =>
    have HKl : Hid (∀ r, CkSays f n r → RkSays F L r) := HKk.out rfl
    clear HK5 HKk
    go_wp2_with fail
    go_loopw [6, 7] (fun okv pv wr => ∃ (i : Nat) (bb : Bool), i ≤ n ∧ okv = .bool bb ∧ pv = .int .i64 (i : Int) ∧ Hid ((∀ j, j < i → f j = 0) ∧ Below w.heap.size w wr)) (fun _ pv _ => n - (intOf pv).toNat)
    case atStart => exact ⟨0, _, by omega, rfl, rfl, fun j hj => by omega, HB1.out⟩
    case round =>
      obtain ⟨i, bb, hi, rfl, rfl, HR⟩ := hrel
      obtain ⟨sa, sc, cl⟩ := HLn.out wr HR.out.2
      by_cases hin : i < n
      · have hii : (i : Int) < (n : Int) := by omega
        have hii1 : (i : Int) < ((n + 1 : Nat) : Int) := by omega
        obtain ⟨a, nn, c, cx, hrd⟩ := HC.out wr HR.out.2 i (by omega)
        have HA : Hid (f i = 0 → ∀ j, j < i + 1 → f j = 0) := fun h0 j hj => by
          rcases Nat.lt_or_ge j i with q | q
          · exact HR.out.1 j q
          · rw [show j = i by omega]; exact h0
        cases hr : L.getD i none with
        | none =>
          rw [hr] at hrd
          have hrd' : Value.slice a nn c = .slice none 0 0 := hrd
          cases hrd'
          have HF : Hid (∀ j, j < i + 1 → f j = 0) := HA.out (HNo.out i hr)
          clear hrd
          go_wp2_with fail
          go_roundw
          case rel => exact ⟨i + 1, bb, by omega, rfl, by go_num, HF.out, HR.out.2⟩
          case measure => simp [intOf]; omega
        | some o =>
          rw [hr] at hrd
          obtain ⟨a', nn', c', e'⟩ := id hrd.2
          cases e'
          have hsf := HSf.out wr HR.out.2 i (by omega) o _ _ _ hr hrd
          have HCi : Hid (f i = if sfP (cE (atL L i)) (cM (atL L i)) (F.getD i (newDs 0 0)) = false then 6 else if allN (wayP F L i) (waysP (F.getD i (newDs 0 0)).kind).toNat then 0 else 7) := HCk.out i
          have HHr : Hid (L.getD i none = some o) := hr
          clear hrd hr
          generalize sfP (cE (atL L i)) (cM (atL L i)) (F.getD i (newDs 0 0)) = sf at *
          go_wp2_with fail
          refine hsf.mono ?_
          rintro e w2 ⟨rfl, hb2⟩
          have H2 : Hid (Below w.heap.size w w2) := HR.out.2.trans (hb2.mono HR.out.2.size)
          clear hb2 hsf cx cl
          cases sf with
          | false =>
            have HF : Hid (f i = 6) := HCi.out.trans (if_pos rfl)
            clear HCi
            go_wp2_with fail
            go_ret2
            exact ⟨_, _, rfl, HKl.out _ (.inr ⟨i, hin, HR.out.1, by rw [HF.out]; decide, by rw [HF.out]⟩), H2.out⟩
          | true =>
            have HCj : Hid (f i = if allN (wayP F L i) (waysP (F.getD i (newDs 0 0)).kind).toNat then 0 else 7) := HCi.out.trans (if_neg (by decide))
            have hwy := HWy.out w2 H2.out i (by omega)
            have hwr := HWr.out i
            have HNxi : Hid (∀ w1, Below w.heap.size w w1 → ∀ (way : Nat), (way : Int) < waysP (F.getD i (newDs 0 0)).kind → ∃ qn : Nat, qn < n + 1 ∧ (nextP F i way).1 = (qn : Int) ∧ Calls Tryz.prog 23 #[.pointer (some ⟨r, 0, none⟩), .int .i64 (i : Int), .int .i64 (way : Int)] w1 fun e w' => e = .returned (.int .i64 (qn : Int)) ∧ Below w1.heap.size w1 w') := fun w1 hb way hw => by
              obtain ⟨qn, q1, q2⟩ := HNi.out i way (by omega) hw
              have := HNx.out w1 hb i way (by omega) hw
              rw [q1] at this
              exact ⟨qn, q2, q1, this⟩
            have HAfi : Hid (∀ w1, Below w.heap.size w w1 → ∀ a nn c (way : Nat), RdL w1 (.slice a nn c) (some o) → Calls Tryz.prog 22 #[.pointer (some ⟨r, 0, none⟩), .int .i64 (i : Int), .int .i64 (way : Int), .slice a nn c] w1 fun e w' => ∃ a' n' c', e = .returned (.slice a' n' c') ∧ Below w1.heap.size w1 w' ∧ LV w' (poE (cE (atL L i)) (cM (atL L i)) (F.getD i (newDs 0 0)) way) (poM (cE (atL L i)) (cM (atL L i)) (F.getD i (newDs 0 0)) way) (.slice a' n' c')) := fun w1 hb a nn c way hrd => by
              refine (HAf.out w1 hb i (by omega) o a nn c way HHr.out hrd).mono ?_
              rintro e w' ⟨hb', ⟨h1, rfl⟩ | ⟨h1, g, rfl, hg, ha⟩⟩
              · exact ⟨_, _, _, rfl, hb', .inl ⟨h1, rfl⟩⟩
              · exact ⟨_, _, _, rfl, hb', .inr ⟨h1, g, rfl, ha⟩⟩
            have HIni : Hid (∀ w1 (way qn : Nat) u a nn c, (nextP F i way).1 = (qn : Int) → LV w1 (poE (cE (atL L i)) (cM (atL L i)) (F.getD i (newDs 0 0)) way) (poM (cE (atL L i)) (cM (atL L i)) (F.getD i (newDs 0 0)) way) u → RdL w1 (.slice a nn c) (L.getD qn none) → Calls Tryz.prog 65 #[u, .slice a nn c] w1 fun e w' => e = .returned (.bool (wayP F L i way)) ∧ Below w1.heap.size w1 w') := fun w1 way qn u a nn c hq hu hrd => HIn.out w1 i way qn u a nn c (by omega) hq hu hrd
            have HCx : Hid (∀ w1, Below w.heap.size w w1 → ∀ j, j < n + 1 → ∃ a nn c, w1.cell? ⟨b, off + j, none⟩ = some (.slice a nn c) ∧ RdL w1 (.slice a nn c) (L.getD j none)) := HC.out
            clear HCi HSf HWy HAf HNx HIn HNi HCk HWr
            generalize wayP F L i = wp at *
            obtain ⟨kn, hkn⟩ : ∃ kn : Nat, waysP (F.getD i (newDs 0 0)).kind = (kn : Int) := ⟨(waysP (F.getD i (newDs 0 0)).kind).toNat, by omega⟩
            rw [hkn] at HCj hwy hwr HNxi
            rw [Int.toNat_natCast] at HCj
            clear hkn
            go_wp2_with fail
            refine hwy.mono ?_
            rintro e w3 ⟨rfl, rfl⟩
            clear hwy
            go_wp2_with fail
            go_loopw [6, 9] (fun okv yv wq => ∃ (y : Nat) (bb : Bool), y ≤ kn ∧ okv = .bool bb ∧ yv = .int .i64 (y : Int) ∧ Hid (allN wp y = true ∧ Below w.heap.size w wq)) (fun _ yv _ => kn - (intOf yv).toNat)
            case atStart => exact ⟨0, _, by omega, rfl, rfl, rfl, H2.out⟩
            case round =>
              obtain ⟨y, bb', hy, rfl, rfl, HQ⟩ := hrel
              by_cases hyn : y < kn
              · have hyi : (y : Int) < (kn : Int) := by omega
                obtain ⟨a1, n1, c1, cx1, hrd1⟩ := HCx.out wr HQ.out.2 i (by omega)
                rw [HHr.out] at hrd1
                have haf := HAfi.out wr HQ.out.2 a1 n1 c1 y hrd1
                clear hrd1
                go_wp2_with fail
                refine haf.mono ?_
                rintro e w4 ⟨ua, un, uc, rfl, hb4, hu4⟩
                have H4 : Hid (Below w.heap.size w w4 ∧ LV w4 (poE (cE (atL L i)) (cM (atL L i)) (F.getD i (newDs 0 0)) y) (poM (cE (atL L i)) (cM (atL L i)) (F.getD i (newDs 0 0)) y) (.slice ua un uc)) := ⟨HQ.out.2.trans (hb4.mono HQ.out.2.size), hu4⟩
                clear hb4 hu4 haf cx1
                obtain ⟨qn, hqn, hqe, hnx⟩ := HNxi.out w4 H4.out.1 y hyi
                have HQe : Hid ((nextP F i y).1 = (qn : Int)) := hqe
                clear hqe
                go_wp2_with fail
                refine hnx.mono ?_
                rintro e w5 ⟨rfl, hb5⟩
                have H5 : Hid (Below w.heap.size w w5 ∧ LV w5 (poE (cE (atL L i)) (cM (atL L i)) (F.getD i (newDs 0 0)) y) (poM (cE (atL L i)) (cM (atL L i)) (F.getD i (newDs 0 0)) y) (.slice ua un uc)) := ⟨H4.out.1.trans (hb5.mono H4.out.1.size), H4.out.2.keep hb5⟩
                clear hb5 hnx
                obtain ⟨a2, n2, c2, cx2, hrd2⟩ := HCx.out w5 H5.out.1 qn hqn
                have hqi : (qn : Int) < ((n + 1 : Nat) : Int) := by omega
                have his := HIni.out w5 y qn _ a2 n2 c2 HQe.out H5.out.2 hrd2
                clear hrd2
                go_wp2_with fail
                refine his.mono ?_
                rintro e w6 ⟨rfl, hb6⟩
                have H6 : Hid (Below w.heap.size w w6) := H5.out.1.trans (hb6.mono H5.out.1.size)
                clear hb6 his cx2
                cases hwp : wp y with
                | false =>
                  have HF : Hid (f i = 7) := HCj.out.trans (if_neg (by rw [allN_no hyn hwp]; decide))
                  clear hwp
                  go_wp2_with fail
                  go_ret2
                  exact ⟨_, _, rfl, HKl.out _ (.inr ⟨i, hin, HR.out.1, by rw [HF.out]; decide, by rw [HF.out]⟩), H6.out⟩
                | true =>
                  have HE8 : Hid (allN wp (y + 1) = true) := by show (allN wp y && wp y) = true; rw [HQ.out.1, hwp]; rfl
                  clear hwp
                  go_wp2_with fail
                  go_roundw
                  case rel => exact ⟨y + 1, _, by omega, rfl, by go_num, HE8.out, H6.out⟩
                  case measure => simp [intOf]; omega
              · have hye : y = kn := by omega
                subst hye
                have HF : Hid (∀ j, j < i + 1 → f j = 0) := HA.out (HCj.out.trans (if_pos HQ.out.1))
                go_wp2_with fail
                go_roundw
                case rel => exact ⟨i + 1, _, by omega, rfl, by go_num, HF.out, HQ.out.2⟩
                case measure => simp [intOf]; omega
      · have hie : i = n := by omega
        subst hie
        go_wp2_with fail
        go_ret2
        exact ⟨_, _, rfl, HKl.out _ (.inl ⟨HR.out.1, rfl⟩), HR.out.2⟩

end Go.Proofs.YtffajooegiempaaGreatDoor

