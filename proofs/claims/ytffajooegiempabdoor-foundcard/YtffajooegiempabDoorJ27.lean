import Derived.Test.YtffajooegiempabDoorJ26
import Derived.Deep.RegionWith
/- A certificate that is taken: no run goes wrong. No Go in here. -/
namespace Go.Proofs.YtffajooegiempabDoor
variable {F : List Ds} {L : List (Option (List Int))} {I : List Int} {s : Ms}

theorem wi_sat {e2 : Bool} {M N V : Nat → Int} (h : wiB false e2 M N = true) (hN : ∀ k, k < 64 → N k ≤ 1000000) (hs : Sat V M) : e2 = false ∧ Sat V N := by
  unfold wiB at h
  cases e2 with
  | true => cases h
  | false =>
    refine ⟨rfl, ?_⟩
    have hle := leF_iff.1 (show leF M N 64 = true from h)
    intro i j hi hj
    have h1 := hle (i * 8 + j) (by omega)
    have h2 := hN (i * 8 + j) (by omega)
    rcases hs i j hi hj with q | q
    · left; unfold NB at *; omega
    · right; omega
theorem allN_all {f : Nat → Bool} {n : Nat} (h : allN f n = true) : ∀ i, i < n → f i = true := by
  intro i hi
  cases e : f i with
  | true => rfl
  | false => rw [allN_no hi e] at h; cases h
/-- A certificate that is taken. -/
structure CertOk (F : List Ds) (L : List (Option (List Int))) : Prop where
  ok : ∀ r, r ∈ L → okp r
  st : wiB false (cE (atL L 0)) (fun _ => 0) (cM (atL L 0)) = true
  pt : ∀ k, k < F.length → chkP F L k = 0
/-- What stands while it is gone on with. -/
structure Inv (F : List Ds) (L : List (Option (List Int))) (s : Ms) : Prop where
  st : (s.st = 0 ∧ s.pt < F.length) ∨ s.st = 1
  pt : 0 ≤ s.pt ∧ s.pt ≤ F.length
  e : cE (atL L s.pt) = false
  sat : Sat (gAt s.v) (cM (atL L s.pt))
theorem CertOk.says (h : CertOk F L) {k : Nat} (hk : k < F.length) : sfP (cE (atL L k)) (cM (atL L k)) (F.getD k (newDs 0 0)) = true ∧ ∀ way : Nat, (way : Int) < waysP (F.getD k (newDs 0 0)).kind → wayP F L k way = true := by
  have q := h.pt k hk
  unfold chkP at q
  cases hs : sfP (cE (atL L k)) (cM (atL L k)) (F.getD k (newDs 0 0)) with
  | false => rw [hs, if_pos rfl] at q; cases q
  | true =>
    rw [hs, if_neg (by decide)] at q
    cases ha : allN (wayP F L k) (waysP (F.getD k (newDs 0 0)).kind).toNat with
    | false => rw [ha, if_neg (by decide)] at q; cases q
    | true => exact ⟨rfl, fun way hw => allN_all ha way (by omega)⟩
theorem Inv.lea (hC : CertOk F L) {k : Nat} (hk : k < F.length) {way : Nat} (hw : (way : Int) < waysP (F.getD k (newDs 0 0)).kind) {u : Nat} {v : List Int} (he : poE (cE (atL L k)) (cM (atL L k)) (F.getD k (newDs 0 0)) way = false) (hs : Sat (gAt v) (poM (cE (atL L k)) (cM (atL L k)) (F.getD k (newDs 0 0)) way)) :
    Inv F L (leaP F ⟨u, 0, k, v⟩ way) := by
  have hz := next_z F k hk way hw
  have hi := nextP_in (F := F) k way hz
  have hy := (hC.says hk).2 way hw
  unfold wayP at hy
  rw [he] at hy
  obtain ⟨h1, h2⟩ := wi_sat hy (fun j hj => (c_rng (atL_ok hC.ok _) j hj).2) hs
  unfold leaP
  rw [if_pos hz]
  unfold entP
  refine ⟨?_, hi, h1, h2⟩
  show ((if (nextP F k way).1 = F.length then (1 : Int) else 0) = 0 ∧ (nextP F k way).1 < F.length) ∨ (if (nextP F k way).1 = F.length then (1 : Int) else 0) = 1
  by_cases q : (nextP F k way).1 = F.length
  · rw [if_pos q]; exact .inr rfl
  · rw [if_neg q]; exact .inl ⟨rfl, by omega⟩
/-- One step, from a state that an octagon has: it goes wrong only where that is not safe; else it goes by a way, and what Post says of that way has the state. -/
theorem step_says {k : Nat} (hkF : k < F.length) {u : Nat} {v : List Int} {M : Nat → Int} (hx : DQ (F.getD k (newDs 0 0))) (hs : Sat (gAt v) M) (hT : TQ M) (hl : v.length = 4) :
    (((stpP F I ⟨u, 0, k, v⟩).st = 2 ∨ (stpP F I ⟨u, 0, k, v⟩).st = 3) ∧ sfP false M (F.getD k (newDs 0 0)) = false) ∨
    ∃ (way u' : Nat) (v' : List Int), (way : Int) < waysP (F.getD k (newDs 0 0)).kind ∧ stpP F I ⟨u, 0, k, v⟩ = leaP F ⟨u', 0, k, v'⟩ way ∧ poE false M (F.getD k (newDs 0 0)) way = false ∧ Sat (gAt v') (poM false M (F.getD k (newDs 0 0)) way) := by
  have hlt' : ¬ ((k : Int) < 0 ∨ (F.length : Int) ≤ k) := by omega
  unfold stpP
  simp only [if_neg hlt', Int.toNat_natCast]
  generalize F.getD k (newDs 0 0) = x at *
  have n := hx.g.num
  by_cases k0 : x.kind = 0
  · simp only [if_pos k0]
    have pE : poE false M x ((0 : Nat) : Int) = false := by unfold poE; rw [if_neg (by decide), if_pos k0]
    have pM : poM false M x ((0 : Nat) : Int) = asM M x := by unfold poM; rw [if_neg (by decide), if_pos k0]
    have wy : ((0 : Nat) : Int) < waysP x.kind := by have := ways_rng x.kind; omega
    unfold asgP valP
    by_cases a : x.any = true
    · have hc := clampI_le (inP I u).1
      simp only [if_pos a]
      rw [if_neg (by omega)]
      exact .inr ⟨0, _, _, wy, rfl, pE, by rw [pM]; exact sat_as hs hl hx k0 (by rw [if_pos a]; exact hc)⟩
    · simp only [if_neg a]
      by_cases q : 999 < sumTo x.sg v 4 + x.num ∨ sumTo x.sg v 4 + x.num < -999
      · rw [if_pos q]
        refine .inl ⟨.inl rfl, ?_⟩
        unfold sfP
        rw [if_neg (by decide), if_pos k0, show x.any = false by simpa using a, Bool.false_or]
        unfold ftB
        refine decide_eq_false fun z => ?_
        obtain ⟨g1, g2, g3, g4⟩ := z
        have s1 := (sum_gr hs hx.len hx.g.sg hx.nz2).resolve_left g1
        have s2 := (sum_gr hs (ngL_len _) (ngL_rng hx.g.sg) (by rw [nz_ngL hx.len]; exact hx.nz2)).resolve_left g2
        rw [sum_ng] at s2
        omega
      · rw [if_neg q]
        exact .inr ⟨0, _, _, wy, rfl, pE, by rw [pM]; exact sat_as hs hl hx k0 (by rw [if_neg a])⟩
  · simp only [if_neg k0]
    by_cases k1 : x.kind = 1
    · simp only [if_pos k1]
      have wy : ((0 : Nat) : Int) < waysP x.kind := by have := ways_rng x.kind; omega
      unfold astP holP
      cases a : x.any with
      | true =>
        simp only [if_true]
        split
        · refine .inr ⟨0, _, _, wy, rfl, ?_, ?_⟩
          · unfold poE; rw [if_neg (by decide), if_neg k0, a, if_pos rfl]
          · unfold poM; rw [if_neg (by decide), if_neg k0, a, if_pos rfl]; exact hs
        · refine .inl ⟨.inr rfl, ?_⟩
          unfold sfP
          rw [if_neg (by decide), if_neg k0, if_pos k1, a]
          rfl
      | false =>
        have z1 : 1 ≤ nz x.sg := (hx.fc k0).resolve_left (by rw [a]; decide)
        simp only [Bool.false_eq_true, if_false]
        by_cases c : sumTo x.sg v 4 ≤ x.num
        · rw [if_pos (decide_eq_true c)]
          have y := sat_at hs hT hx.len hx.g.sg z1 hx.nz2 (n := x.num) (by omega) c
          refine .inr ⟨0, _, _, wy, rfl, ?_, ?_⟩
          · unfold poE; rw [if_neg (by decide), if_neg k0, a, if_neg (by decide), if_pos (show ((0 : Nat) : Int) = 0 from rfl)]; exact y.1
          · unfold poM; rw [if_neg (by decide), if_neg k0, a, if_neg (by decide), if_pos (show ((0 : Nat) : Int) = 0 from rfl)]; exact y.2
        · rw [if_neg (by rw [decide_eq_false c]; decide)]
          refine .inl ⟨.inr rfl, ?_⟩
          unfold sfP
          rw [if_neg (by decide), if_neg k0, if_pos k1, a]
          show (true && decide (grP M x.sg ≤ x.num)) = false
          rw [Bool.true_and]
          refine decide_eq_false fun g => ?_
          have s1 := (sum_gr hs hx.len hx.g.sg hx.nz2).resolve_left (fun z => by rw [z] at g; unfold NB at g; omega)
          omega
    · simp only [if_neg k1]
      have w2 : waysP x.kind = 2 := by
        unfold waysP
        rw [if_pos (by have := hx.kd; omega)]
      have wy0 : ((0 : Nat) : Int) < waysP x.kind := by omega
      have wy1 : ((1 : Nat) : Int) < waysP x.kind := by omega
      unfold braP holP
      cases a : x.any with
      | true =>
        have pE : ∀ way, poE false M x way = false := fun way => by unfold poE; rw [if_neg (by decide), if_neg k0, a, if_pos rfl]
        have pM : ∀ way, poM false M x way = M := fun way => by unfold poM; rw [if_neg (by decide), if_neg k0, a, if_pos rfl]
        simp only [if_true]
        split
        · exact .inr ⟨0, _, _, wy0, rfl, pE _, by rw [pM]; exact hs⟩
        · exact .inr ⟨1, _, _, wy1, rfl, pE _, by rw [pM]; exact hs⟩
      | false =>
        have z1 : 1 ≤ nz x.sg := (hx.fc k0).resolve_left (by rw [a]; decide)
        simp only [Bool.false_eq_true, if_false]
        by_cases c : sumTo x.sg v 4 ≤ x.num
        · rw [if_pos (decide_eq_true c)]
          have y := sat_at hs hT hx.len hx.g.sg z1 hx.nz2 (n := x.num) (by omega) c
          refine .inr ⟨0, _, _, wy0, rfl, ?_, ?_⟩
          · unfold poE; rw [if_neg (by decide), if_neg k0, a, if_neg (by decide), if_pos (show ((0 : Nat) : Int) = 0 from rfl)]; exact y.1
          · unfold poM; rw [if_neg (by decide), if_neg k0, a, if_neg (by decide), if_pos (show ((0 : Nat) : Int) = 0 from rfl)]; exact y.2
        · rw [if_neg (by rw [decide_eq_false c]; decide)]
          have y := sat_at hs hT (ngL_len _) (ngL_rng hx.g.sg) (by rw [nz_ngL hx.len]; exact z1) (by rw [nz_ngL hx.len]; exact hx.nz2) (n := -x.num - 1) (by omega) (by rw [sum_ng]; omega)
          refine .inr ⟨1, _, _, wy1, rfl, ?_, ?_⟩
          · unfold poE; rw [if_neg (by decide), if_neg k0, a, if_neg (by decide), if_neg (by decide)]; exact y.1
          · unfold poM; rw [if_neg (by decide), if_neg k0, a, if_neg (by decide), if_neg (by decide)]; exact y.2
theorem Inv.stp (hC : CertOk F L) (hD : ∀ k, k < F.length → DQ (F.getD k (newDs 0 0))) (h : Inv F L s) (hm : MsOk I s) (h0 : s.st = 0) : Inv F L (stpP F I s) := by
  have hlt : s.pt < F.length := by
    rcases h.st with q | q
    · exact q.2
    · rw [h0] at q; cases q
  obtain ⟨k, hk⟩ : ∃ k : Nat, s.pt = k := ⟨s.pt.toNat, by have := h.pt.1; omega⟩
  obtain ⟨u, st, pt, v⟩ := s
  simp only at h0 hk hlt
  subst h0
  subst hk
  have hkF : k < F.length := by omega
  have he : cE (atL L k) = false := h.e
  rcases step_says (I := I) (u := u) hkF (hD k hkF) h.sat (c_tq (atL_ok hC.ok _) he) hm.len with ⟨_, q⟩ | ⟨way, u', v', hw, e, h1, h2⟩
  · have := (hC.says hkF).1
    rw [he, q] at this
    cases this
  · rw [e]
    exact Inv.lea hC hkF hw (by rw [he]; exact h1) (by rw [he]; exact h2)
theorem Inv.run (hC : CertOk F L) (hD : ∀ k, k < F.length → DQ (F.getD k (newDs 0 0))) (hF : ∀ (k : Nat) (x : Ds), F[k]? = some x → DsOk x) : ∀ n (s : Ms), Inv F L s → MsOk I s → Inv F L (runP F I n s) := by
  intro n
  induction n with
  | zero => intro s h _; exact h
  | succ n ih =>
    intro s h hm
    rw [runP]
    split
    · rename_i h0
      exact ih _ (h.stp hC hD hm h0) (hm.stp hF)
    · exact h
/-- No run goes wrong. -/
theorem CertOk.sound (hC : CertOk F L) (hD : ∀ k, k < F.length → DQ (F.getD k (newDs 0 0))) (hF : ∀ (k : Nat) (x : Ds), F[k]? = some x → DsOk x) (steps : Int) : (finP F I steps).st = 0 ∨ (finP F I steps).st = 1 := by
  have z : Sat (gAt [0, 0, 0, 0]) (fun _ => 0) := by
    intro i j hi hj
    right
    have e : ∀ i, i < 8 → sd (gAt [0, 0, 0, 0]) i = 0 := by decide
    rw [e i hi, e j hj]
    exact (show (0 : Int) + 0 ≤ 0 by decide)
  obtain ⟨h1, h2⟩ := wi_sat hC.st (fun j hj => (c_rng (atL_ok hC.ok _) j hj).2) z
  have h := Inv.run (I := I) hC hD hF (min steps.toNat 2000) (entP F.length ⟨0, 0, 0, [0, 0, 0, 0]⟩ 0) ?_ ?_
  · rcases h.st with q | q
    · exact .inl q.1
    · exact .inr q
  · unfold entP
    refine ⟨?_, ⟨Int.le_refl _, by show (0 : Int) ≤ F.length; omega⟩, h1, h2⟩
    show ((if (0 : Int) = F.length then (1 : Int) else 0) = 0 ∧ (0 : Int) < F.length) ∨ (if (0 : Int) = F.length then (1 : Int) else 0) = 1
    by_cases q : (0 : Int) = F.length
    · rw [if_pos q]; exact .inr rfl
    · rw [if_neg q]; exact .inl ⟨rfl, by omega⟩
  · refine ⟨rfl, fun i => ?_, Nat.zero_le _⟩
    unfold entP
    show -999 ≤ sgAt [0, 0, 0, 0] i ∧ sgAt [0, 0, 0, 0] i ≤ 999
    rcases (show i = 0 ∨ i = 1 ∨ i = 2 ∨ i = 3 ∨ 4 ≤ i by omega) with rfl | rfl | rfl | rfl | h4
    · decide
    · decide
    · decide
    · decide
    · have : sgAt [0, 0, 0, 0] i = 0 := by unfold sgAt; rw [List.getD_eq_getElem?_getD, List.getElem?_eq_none (by simp; omega)]; rfl
      rw [this]; decide

end Go.Proofs.YtffajooegiempabDoor

namespace Go.Proofs.YtffajooegiempabDoor
open Go.RowKit

abbrev tM : TypeId := 88
/-- A machine's cells. -/
def mCells (pv iv : Value) (s : Ms) : Array Value := #[pv, iv, .int .i64 s.used, .int .i64 s.st, .int .i64 s.pt, .int .i64 (sgAt s.v 0), .int .i64 (sgAt s.v 1), .int .i64 (sgAt s.v 2), .int .i64 (sgAt s.v 3)]
/-- The inputs, below a block. -/
def Inp (w : World) (B : Nat) (iv : Value) (L : List Int) : Prop :=
  ∃ ao cap, iv = .slice ao L.length cap ∧ L.length ≤ cap ∧ (L.length ≠ 0 → ∃ b off, ao = some ⟨b, off, none⟩ ∧ b < B ∧ ∀ i, i < L.length → w.cell? ⟨b, off + i, none⟩ = some (.int .i64 (L.getD i 0)))
theorem Inp.keep {w w' : World} {B : Nat} {iv : Value} {L : List Int} (h : Inp w B iv L) (hb : Below B w w') : Inp w' B iv L := by
  obtain ⟨ao, cap, hv, hc, h0⟩ := h
  refine ⟨ao, cap, hv, hc, fun hn => ?_⟩
  obtain ⟨b, off, ha, hlt, hcell⟩ := h0 hn
  exact ⟨b, off, ha, hlt, fun i hi => (hb.cell (by exact hlt)).trans (hcell i hi)⟩
/-- The statements, below a block. -/
def PAt (w : World) (B : Nat) (pv : Value) (F : List Ds) : Prop :=
  ∃ ao cap, pv = .slice ao F.length cap ∧ (F.length ≠ 0 → ∃ g, ao = some ⟨g, 0, none⟩ ∧ g < B ∧ PRow w g F)
theorem PAt.keep {w w' : World} {B : Nat} {pv : Value} {F : List Ds} (h : PAt w B pv F) (hb : Below B w w') : PAt w' B pv F := by
  obtain ⟨ao, cap, hv, h0⟩ := h
  refine ⟨ao, cap, hv, fun hn => ?_⟩
  obtain ⟨g, ha, hlt, hp⟩ := h0 hn
  refine ⟨g, ha, hlt, Nat.lt_of_lt_of_le hp.1 hb.size, fun j x hx => ?_⟩
  have hc : ∀ o, w'.cell? ⟨g, o, none⟩ = w.cell? ⟨g, o, none⟩ := fun o => hb.cell (p := ⟨g, o, none⟩) hlt
  simp only [hc]
  exact hp.2 j x hx
/-- What a machine's step leaves. -/
def MPost (m : Nat) (w : World) (pv iv : Value) (s : Ms) : World → Prop := fun w' => At w' m (mCells pv iv s) tM ∧ Onl m w w'

variable {w : World} {m : Nat} {pv iv : Value} {L : List Int} {s : Ms} {F : List Ds}

theorem mcells (h : At w m (mCells pv iv s) tM) : w.cell? ⟨m, 0, none⟩ = some pv ∧ w.cell? ⟨m, 1, none⟩ = some iv ∧ w.cell? ⟨m, 2, none⟩ = some (.int .i64 s.used) ∧ w.cell? ⟨m, 3, none⟩ = some (.int .i64 s.st) ∧ w.cell? ⟨m, 4, none⟩ = some (.int .i64 s.pt) ∧
    w.cell? ⟨m, 5, none⟩ = some (.int .i64 (sgAt s.v 0)) ∧ w.cell? ⟨m, 6, none⟩ = some (.int .i64 (sgAt s.v 1)) ∧ w.cell? ⟨m, 7, none⟩ = some (.int .i64 (sgAt s.v 2)) ∧ w.cell? ⟨m, 8, none⟩ = some (.int .i64 (sgAt s.v 3)) ∧ ∀ i, w.frozen? ⟨m, i, none⟩ = false :=
  ⟨h.cell 0, h.cell 1, h.cell 2, h.cell 3, h.cell 4, h.cell 5, h.cell 6, h.cell 7, h.cell 8, h.free⟩

set_option maxRecDepth 100000 in
set_option maxHeartbeats 800000 in
theorem x_clamp (n : Int) (w : World) : Calls Tryd.prog 100 #[.int .i64 n] w fun e w' => e = .returned (.int .i64 (clampI n)) ∧ w' = w := by
  by_cases h1 : 999 < n
  · have HE : Hid (clampI n = 999) := if_pos h1
    go_enter Tryd.func100, Tryd.ntmps100
    go_wp2_with fail
    go_ret
    exact ⟨by rw [HE.out]; rfl, rfl⟩
  by_cases h2 : n < -999
  · have HE : Hid (clampI n = -999) := by show clampI n = _; unfold clampI; rw [if_neg h1, if_pos h2]
    go_enter Tryd.func100, Tryd.ntmps100
    go_wp2_with fail
    go_ret
    exact ⟨by rw [HE.out]; rfl, rfl⟩
  · have HE : Hid (clampI n = n) := by show clampI n = _; unfold clampI; rw [if_neg h1, if_neg h2]
    go_enter Tryd.func100, Tryd.ntmps100
    go_wp2_with fail
    go_ret
    exact ⟨by rw [HE.out]; rfl, rfl⟩

set_option maxRecDepth 100000 in
set_option maxHeartbeats 1600000 in
theorem x_input (h : At w m (mCells pv iv s) tM) (hi : Inp w m iv L) (hu : s.used ≤ L.length) (hL : L.length ≤ 9223372036854775807) :
    Calls Tryd.prog 99 #[.pointer (some ⟨m, 0, none⟩)] w fun e w' => e = .returned (.int .i64 (inP L s.used).1) ∧ MPost m w pv iv ⟨(inP L s.used).2, s.st, s.pt, s.v⟩ w' := by
  obtain ⟨c0, c1, c2, c3, c4, c5, c6, c7, c8, cf⟩ := mcells h
  obtain ⟨ao, cap, rfl, hcap, h0⟩ := hi
  have HA : Hid (At w m _ tM) := h
  have hlt := h.lt
  have hu0 : ¬ ((s.used : Nat) : Int) < 0 := by omega
  by_cases hb : s.used < L.length
  · obtain ⟨b, off, rfl, hbm, hcell⟩ := h0 (by omega)
    have cx := hcell s.used hb
    have HE : Hid (inP L s.used = (L.getD s.used 0, s.used + 1)) := if_pos hb
    have hui : ((s.used : Nat) : Int) < (L.length : Int) := by omega
    have hge : ¬ (L.length : Int) ≤ ((s.used : Nat) : Int) := by omega
    clear h h0 hcell
    generalize L.getD s.used 0 = y at *
    go_enter Tryd.func99, Tryd.ntmps99
    go_wp2_with fail
    go_quiet (fail)
    go_wp2_with fail
    go_quiet (fail)
    go_wp2_with fail
    go_ret
    refine ⟨by rw [HE.out]; rfl, ?_, ?_⟩
    · rw [HE.out]
      exact (HA.out.drewN _).put 2 _
    · exact ((Onl.refl m w).drewN _).setCell _ _
  · have HE : Hid (inP L s.used = (0, s.used)) := if_neg hb
    have hge : (L.length : Int) ≤ ((s.used : Nat) : Int) := by omega
    clear h h0
    go_enter Tryd.func99, Tryd.ntmps99
    go_wp2_with fail
    go_quiet (fail)
    go_wp2_with fail
    go_ret
    refine ⟨by rw [HE.out]; rfl, ?_, ?_⟩
    · rw [HE.out]
      exact HA.out.drewN _
    · exact (Onl.refl m w).drewN _

end Go.Proofs.YtffajooegiempabDoor

namespace Go.Proofs.YtffajooegiempabDoor
open Go.RowKit

def vv (l : List Int) : Value := .agg #[.int .i64 (sgAt l 0), .int .i64 (sgAt l 1), .int .i64 (sgAt l 2), .int .i64 (sgAt l 3)]

set_option maxRecDepth 100000 in
set_option maxHeartbeats 1600000 in
theorem x_sum (x : Ds) (l : List Int) (hx : ∀ i, -1 ≤ sgAt x.sg i ∧ sgAt x.sg i ≤ 1) (hv : ∀ i, -999 ≤ sgAt l i ∧ sgAt l i ≤ 999) (w : World) :
    Calls Tryd.prog 101 #[dsv x, vv l] w fun e w' => e = .returned (.int .i64 (sumTo x.sg l 4)) ∧ Below w.heap.size w w' := by
  unfold dsv vv
  obtain ⟨w0, hw0⟩ : ∃ w0, w0 = (w.alloc (.cells #[.int .i64 x.kind, .int .i64 x.target, .bool x.any, .int .i64 (sgAt x.sg 0), .int .i64 (sgAt x.sg 1), .int .i64 (sgAt x.sg 2), .int .i64 (sgAt x.sg 3), .int .i64 x.num, .int .i64 x.parent, .int .i64 x.block] tDs)).alloc (.cells #[.int .i64 (sgAt l 0), .int .i64 (sgAt l 1), .int .i64 (sgAt l 2), .int .i64 (sgAt l 3)] 71) := ⟨_, rfl⟩
  have HW0 : Hid (w0 = _) := hw0
  clear hw0
  have HB : Hid (Below w.heap.size w w0) := by rw [HW0.out]; exact ((Below.refl _ _).alloc (Nat.le_refl _) _).alloc (by simp) _
  go_enter Tryd.func101, Tryd.ntmps101
  go_wp2_with fail
  go_loopw [5, 6] (fun sm i wr => ∃ (j k : Nat), j ≤ 4 ∧ i = .int .i64 j ∧ sm = .int .i64 (sumTo x.sg l j) ∧ wr = w0.drewN k) (fun _ i _ => 4 - (intOf i).toNat)
  case atStart => exact ⟨0, 0, by omega, rfl, rfl, HW0.out.symm⟩
  case round =>
    obtain ⟨j, k, hj, rfl, rfl, hwr⟩ := hrel
    have HW : Hid (∃ k, wr = w0.drewN k) := ⟨k, hwr⟩
    have k1 : ∀ a, wr.cell? a = w0.cell? a := fun a => by rw [hwr]; rfl
    have q0 : ∀ i : Nat, wr.cell? ⟨w.heap.size, i, none⟩ = #[.int .i64 x.kind, .int .i64 x.target, .bool x.any, .int .i64 (sgAt x.sg 0), .int .i64 (sgAt x.sg 1), .int .i64 (sgAt x.sg 2), .int .i64 (sgAt x.sg 3), .int .i64 x.num, .int .i64 x.parent, .int .i64 x.block][i]? := by
      intro i
      rw [k1, HW0.out, World.cell?_alloc_past _ _ _ (by simp)]
      exact World.cell?_alloc_at _ _ _ _ rfl
    have q1 : ∀ i : Nat, wr.cell? ⟨w.heap.size + 1, i, none⟩ = #[.int .i64 (sgAt l 0), .int .i64 (sgAt l 1), .int .i64 (sgAt l 2), .int .i64 (sgAt l 3)][i]? := by
      intro i
      rw [k1, HW0.out]
      exact World.cell?_alloc_at _ _ _ _ (by simp)
    have a0 := q0 3
    have a1 := q0 4
    have a2 := q0 5
    have a3 := q0 6
    have b0 := q1 0
    have b1 := q1 1
    have b2 := q1 2
    have b3 := q1 3
    simp at a0 a1 a2 a3 b0 b1 b2 b3
    have hsz : w.heap.size + 1 < wr.heap.size := by rw [hwr, HW0.out]; simp
    clear hwr k1 q0 q1
    rcases (show j = 0 ∨ j = 1 ∨ j = 2 ∨ j = 3 ∨ j = 4 by omega) with rfl | rfl | rfl | rfl | rfl
    · have hp := mul_sg (sgAt x.sg 0) (sgAt l 0) (hx 0).1 (hx 0).2 (hv 0).1 (hv 0).2
      have hs := sumTo_le hx hv 0
      have hmw : wrap64 (sgAt x.sg 0 * sgAt l 0) = sgAt x.sg 0 * sgAt l 0 := by unfold wrap64; omega
      have hL : Hid (sumTo x.sg l (0 + 1) = sumTo x.sg l 0 + sgAt x.sg 0 * sgAt l 0) := rfl
      have hlo : -4000 ≤ sumTo x.sg l 0 := by omega
      have hhi : sumTo x.sg l 0 ≤ 4000 := by omega
      clear hs
      generalize sumTo x.sg l 0 = sm at *
      go_wp2_with fail
      go_quiet (fail)
      go_wp2_with fail
      go_roundw
      case rel => obtain ⟨k', e⟩ := HW.out; exact ⟨0 + 1, _, by omega, rfl, by rw [hL.out], by rw [e]; exact drewN_two _ _ _⟩
      case measure => simp [intOf]
    · have hp := mul_sg (sgAt x.sg 1) (sgAt l 1) (hx 1).1 (hx 1).2 (hv 1).1 (hv 1).2
      have hs := sumTo_le hx hv 1
      have hmw : wrap64 (sgAt x.sg 1 * sgAt l 1) = sgAt x.sg 1 * sgAt l 1 := by unfold wrap64; omega
      have hL : Hid (sumTo x.sg l (1 + 1) = sumTo x.sg l 1 + sgAt x.sg 1 * sgAt l 1) := rfl
      have hlo : -4000 ≤ sumTo x.sg l 1 := by omega
      have hhi : sumTo x.sg l 1 ≤ 4000 := by omega
      clear hs
      generalize sumTo x.sg l 1 = sm at *
      go_wp2_with fail
      go_quiet (fail)
      go_wp2_with fail
      go_roundw
      case rel => obtain ⟨k', e⟩ := HW.out; exact ⟨1 + 1, _, by omega, rfl, by rw [hL.out], by rw [e]; exact drewN_two _ _ _⟩
      case measure => simp [intOf]
    · have hp := mul_sg (sgAt x.sg 2) (sgAt l 2) (hx 2).1 (hx 2).2 (hv 2).1 (hv 2).2
      have hs := sumTo_le hx hv 2
      have hmw : wrap64 (sgAt x.sg 2 * sgAt l 2) = sgAt x.sg 2 * sgAt l 2 := by unfold wrap64; omega
      have hL : Hid (sumTo x.sg l (2 + 1) = sumTo x.sg l 2 + sgAt x.sg 2 * sgAt l 2) := rfl
      have hlo : -4000 ≤ sumTo x.sg l 2 := by omega
      have hhi : sumTo x.sg l 2 ≤ 4000 := by omega
      clear hs
      generalize sumTo x.sg l 2 = sm at *
      go_wp2_with fail
      go_quiet (fail)
      go_wp2_with fail
      go_roundw
      case rel => obtain ⟨k', e⟩ := HW.out; exact ⟨2 + 1, _, by omega, rfl, by rw [hL.out], by rw [e]; exact drewN_two _ _ _⟩
      case measure => simp [intOf]
    · have hp := mul_sg (sgAt x.sg 3) (sgAt l 3) (hx 3).1 (hx 3).2 (hv 3).1 (hv 3).2
      have hs := sumTo_le hx hv 3
      have hmw : wrap64 (sgAt x.sg 3 * sgAt l 3) = sgAt x.sg 3 * sgAt l 3 := by unfold wrap64; omega
      have hL : Hid (sumTo x.sg l (3 + 1) = sumTo x.sg l 3 + sgAt x.sg 3 * sgAt l 3) := rfl
      have hlo : -4000 ≤ sumTo x.sg l 3 := by omega
      have hhi : sumTo x.sg l 3 ≤ 4000 := by omega
      clear hs
      generalize sumTo x.sg l 3 = sm at *
      go_wp2_with fail
      go_quiet (fail)
      go_wp2_with fail
      go_roundw
      case rel => obtain ⟨k', e⟩ := HW.out; exact ⟨3 + 1, _, by omega, rfl, by rw [hL.out], by rw [e]; exact drewN_two _ _ _⟩
      case measure => simp [intOf]
    · go_wp2_with fail
      go_ret
      refine ⟨rfl, ?_⟩
      obtain ⟨k', e⟩ := HW.out
      rw [e]
      exact below_drewN HB.out _

end Go.Proofs.YtffajooegiempabDoor

namespace Go.Proofs.YtffajooegiempabDoor
open Go.RowKit
variable {w : World} {m : Nat} {pv iv : Value} {L : List Int} {s : Ms} {F : List Ds}

set_option maxRecDepth 100000 in
set_option maxHeartbeats 1600000 in
theorem x_value (x : Ds) (hx : DsOk x) (h : At w m (mCells pv iv s) tM) (hi : Inp w m iv L) (ho : MsOk L s) (hL : L.length ≤ 9223372036854775807) :
    Calls Tryd.prog 89 #[.pointer (some ⟨m, 0, none⟩), dsv x] w fun e w' => e = .returned (.int .i64 (valP L x s).1) ∧ MPost m w pv iv ⟨(valP L x s).2, s.st, s.pt, s.v⟩ w' := by
  have hlt := h.lt
  have HB : Hid (∀ o, Below w.heap.size w (w.alloc o)) := fun o => (Below.refl _ _).alloc (Nat.le_refl _) _
  have HA : Hid (At w m _ tM) := h
  have HI : Hid (Inp w m iv L) := hi
  have HO : Hid (MsOk L s) := ho
  have HX : Hid (DsOk x) := hx
  cases ha : x.any
  · have HE : Hid (valP L x s = (sumTo x.sg s.v 4 + x.num, s.used)) := by show valP L x s = _; unfold valP; rw [ha]; rfl
    obtain ⟨c0, c1, c2, c3, c4, c5, c6, c7, c8, cf⟩ := mcells h
    have hsum := sumTo_le hx.sg ho.v 4
    obtain ⟨hn0, hn1⟩ := hx.num
    have HS : Hid (∀ w1, Below (w.heap.size + 1) (w.alloc (.cells (dsCells x) tDs)) w1 → Calls Tryd.prog 101 #[dsv x, vv s.v] w1 fun e w' => e = .returned (.int .i64 (sumTo x.sg s.v 4)) ∧ w'.cell? ⟨w.heap.size, 7, none⟩ = some (.int .i64 x.num) ∧ Hid (Below w.heap.size w w')) := by
      intro w1 hb1
      refine (x_sum x s.v HX.out.sg HO.out.v w1).mono ?_
      rintro e w2 ⟨rfl, hb2⟩
      have hsz := hb1.size
      simp at hsz
      refine ⟨rfl, ?_, ((HB.out _).trans (hb1.mono (by omega))).trans (hb2.mono (by omega))⟩
      rw [hb2.cell (by show w.heap.size < _; omega), hb1.cell (by show w.heap.size < _; omega), World.cell?_alloc_at _ _ _ _ rfl]
      rfl
    unfold dsv vv dsCells at *
    rw [ha] at *
    generalize sumTo x.sg s.v 4 = sm at *
    have e1 : -3996 ≤ sm := by omega
    have e2 : sm ≤ 3996 := by omega
    have hw : IntKind.i64.wrap (sm + x.num) = sm + x.num := by rw [IntKind.wrap_i64]; omega
    clear h hi ho hx hsum ha
    go_enter Tryd.func89, Tryd.ntmps89
    go_wp2_with fail
    go_region_with (go_at_call 101; refine (HS.out _ (by first | exact Below.refl _ _ | exact (Below.refl _ _).drew)).mono ?_; rintro e w1 ⟨rfl, hN, hB⟩)
    all_goals
      go_wp2_with fail
      go_ret
      refine ⟨by rw [HE.out]; first | rfl | (show Ending.returned (Value.int .i64 (IntKind.i64.wrap (sm + x.num))) = _; rw [hw]), ?_, ?_⟩
      · rw [HE.out]; exact HA.out.keep hB.out hlt
      · exact Onl.of hB.out m
  · have HE : Hid (valP L x s = (clampI (inP L s.used).1, (inP L s.used).2)) := by show valP L x s = _; unfold valP; rw [ha]; rfl
    have HIn : Hid (∀ w', Below w.heap.size w w' → Calls Tryd.prog 99 #[.pointer (some ⟨m, 0, none⟩)] w' fun e w2 => e = .returned (.int .i64 (inP L s.used).1) ∧ MPost m w' pv iv ⟨(inP L s.used).2, s.st, s.pt, s.v⟩ w2) :=
      fun w' hb => x_input (HA.out.keep hb hlt) (HI.out.keep ⟨hb.os, hb.tape, hb.output, hb.size, fun k hk => hb.block k (by omega)⟩) HO.out.used hL
    unfold dsv at *
    rw [ha] at *
    generalize inP L s.used = y at *
    clear h hi ho hx ha
    go_enter Tryd.func89, Tryd.ntmps89
    go_wp2_with fail
    refine (HIn.out _ (HB.out _)).mono ?_
    rintro e w2 ⟨rfl, hat, hb2⟩
    have HA2 : Hid (At w2 m _ tM) := hat
    clear hat
    go_wp2_with fail
    refine (x_clamp _ _).mono ?_
    rintro e w3 ⟨rfl, rfl⟩
    go_wp2_with fail
    go_ret
    refine ⟨by rw [HE.out]; rfl, ?_, ?_⟩
    · rw [HE.out]; exact HA2.out
    · exact (Onl.of (HB.out _) m).trans hb2

end Go.Proofs.YtffajooegiempabDoor

namespace Go.Proofs.YtffajooegiempabDoor
open Go.RowKit
variable {w : World} {m : Nat} {pv iv : Value} {L : List Int} {s : Ms} {F : List Ds}

set_option maxRecDepth 100000 in
set_option maxHeartbeats 1600000 in
theorem x_holds (x : Ds) (hx : DsOk x) (h : At w m (mCells pv iv s) tM) (hi : Inp w m iv L) (ho : MsOk L s) (hL : L.length ≤ 9223372036854775807) :
    Calls Tryd.prog 91 #[.pointer (some ⟨m, 0, none⟩), dsv x] w fun e w' => e = .returned (.bool (holP L x s).1) ∧ MPost m w pv iv ⟨(holP L x s).2, s.st, s.pt, s.v⟩ w' := by
  have hlt := h.lt
  have HB : Hid (∀ o, Below w.heap.size w (w.alloc o)) := fun o => (Below.refl _ _).alloc (Nat.le_refl _) _
  have HA : Hid (At w m _ tM) := h
  have HI : Hid (Inp w m iv L) := hi
  have HO : Hid (MsOk L s) := ho
  have HX : Hid (DsOk x) := hx
  cases ha : x.any
  · have HE : Hid (holP L x s = (decide (sumTo x.sg s.v 4 ≤ x.num), s.used)) := by show holP L x s = _; unfold holP; rw [ha]; rfl
    obtain ⟨c0, c1, c2, c3, c4, c5, c6, c7, c8, cf⟩ := mcells h
    have hsum := sumTo_le hx.sg ho.v 4
    obtain ⟨hn0, hn1⟩ := hx.num
    have HS : Hid (∀ w1, Below (w.heap.size + 1) (w.alloc (.cells (dsCells x) tDs)) w1 → Calls Tryd.prog 101 #[dsv x, vv s.v] w1 fun e w' => e = .returned (.int .i64 (sumTo x.sg s.v 4)) ∧ w'.cell? ⟨w.heap.size, 7, none⟩ = some (.int .i64 x.num) ∧ Hid (Below w.heap.size w w')) := by
      intro w1 hb1
      refine (x_sum x s.v HX.out.sg HO.out.v w1).mono ?_
      rintro e w2 ⟨rfl, hb2⟩
      have hsz := hb1.size
      simp at hsz
      refine ⟨rfl, ?_, ((HB.out _).trans (hb1.mono (by omega))).trans (hb2.mono (by omega))⟩
      rw [hb2.cell (by show w.heap.size < _; omega), hb1.cell (by show w.heap.size < _; omega), World.cell?_alloc_at _ _ _ _ rfl]
      rfl
    unfold dsv vv dsCells at *
    rw [ha] at *
    generalize sumTo x.sg s.v 4 = sm at *
    have e1 : -3996 ≤ sm := by omega
    have e2 : sm ≤ 3996 := by omega
    clear h hi ho hx hsum ha
    go_enter Tryd.func91, Tryd.ntmps91
    go_wp2_with fail
    go_region_with (go_at_call 101; refine (HS.out _ (by first | exact Below.refl _ _ | exact (Below.refl _ _).drew)).mono ?_; rintro e w1 ⟨rfl, hN, hB⟩)
    all_goals
      go_wp2_with fail
      go_ret
      refine ⟨by rw [HE.out]; rfl, ?_, ?_⟩
      · rw [HE.out]; exact HA.out.keep hB.out hlt
      · exact Onl.of hB.out m
  · have HE : Hid (holP L x s = ((inP L s.used).1 != 0, (inP L s.used).2)) := by show holP L x s = _; unfold holP; rw [ha]; rfl
    have HIn : Hid (∀ w', Below w.heap.size w w' → Calls Tryd.prog 99 #[.pointer (some ⟨m, 0, none⟩)] w' fun e w2 => e = .returned (.int .i64 (inP L s.used).1) ∧ MPost m w' pv iv ⟨(inP L s.used).2, s.st, s.pt, s.v⟩ w2) :=
      fun w' hb => x_input (HA.out.keep hb hlt) (HI.out.keep ⟨hb.os, hb.tape, hb.output, hb.size, fun k hk => hb.block k (by omega)⟩) HO.out.used hL
    unfold dsv at *
    rw [ha] at *
    generalize inP L s.used = y at *
    clear h hi ho hx ha
    go_enter Tryd.func91, Tryd.ntmps91
    go_wp2_with fail
    refine (HIn.out _ (HB.out _)).mono ?_
    rintro e w2 ⟨rfl, hat, hb2⟩
    have HA2 : Hid (At w2 m _ tM) := hat
    clear hat
    go_wp2_with fail
    go_ret
    refine ⟨by rw [HE.out]; rfl, ?_, ?_⟩
    · rw [HE.out]; exact HA2.out
    · exact (Onl.of (HB.out _) m).trans hb2

end Go.Proofs.YtffajooegiempabDoor

namespace Go.Proofs.YtffajooegiempabDoor
open Go.RowKit
variable {w : World} {m : Nat} {pv iv : Value} {L : List Int} {s : Ms} {F : List Ds}

set_option maxRecDepth 100000 in
set_option maxHeartbeats 800000 in
theorem x_enter (h : At w m (mCells pv iv s) tM) (hp : PAt w m pv F) (hl : F.length ≤ 20) (p : Int) :
    Calls Tryd.prog 44 #[.pointer (some ⟨m, 0, none⟩), .int .i64 p] w fun e w' => e = .returned (.tuple #[]) ∧ MPost m w pv iv (entP F.length s p) w' := by
  obtain ⟨c0, c1, c2, c3, c4, c5, c6, c7, c8, cf⟩ := mcells h
  obtain ⟨ao, cap, rfl, -⟩ := hp
  have hlt := h.lt
  have HA : Hid (At w m _ tM) := h
  by_cases hq : p = F.length
  · have HE : Hid (entP F.length s p = ⟨s.used, 1, p, s.v⟩) := by show entP _ _ _ = _; unfold entP; rw [if_pos hq]
    have hb : (p == (F.length : Int)) = true := by rw [beq_iff_eq]; exact hq
    clear h hq
    go_enter Tryd.func44, Tryd.ntmps44
    go_wp2_with fail
    refine (d_end _ F.length cap _ hl).mono ?_
    rintro e w2 ⟨rfl, o, rfl⟩
    go_wp2_with fail
    go_end0
    refine ⟨rfl, ?_, ?_⟩
    · rw [HE.out]
      exact ((HA.out.put 4 (.int .i64 p)).put 3 (.int .i64 1)).alloc o
    · exact (((Onl.refl m w).setCell _ _).setCell _ _).alloc _
  · have HE : Hid (entP F.length s p = ⟨s.used, s.st, p, s.v⟩) := by show entP _ _ _ = _; unfold entP; rw [if_neg hq]
    have hb : (p == (F.length : Int)) = false := by rw [beq_eq_false_iff_ne]; exact hq
    clear h hq
    go_enter Tryd.func44, Tryd.ntmps44
    go_wp2_with fail
    refine (d_end _ F.length cap _ hl).mono ?_
    rintro e w2 ⟨rfl, o, rfl⟩
    go_wp2_with fail
    go_end0
    refine ⟨rfl, ?_, ?_⟩
    · rw [HE.out]
      exact (HA.out.put 4 (.int .i64 p)).alloc o
    · exact ((Onl.refl m w).setCell _ _).alloc _

/-- What a program in memory keeps to. -/
structure FOk (F : List Ds) : Prop where
  len : F.length ≤ 20
  par : ∀ (k : Nat) (x : Ds), F[k]? = some x → -1 ≤ x.parent ∧ x.parent < (k : Int)
  ds : ∀ (k : Nat) (x : Ds), F[k]? = some x → DsOk x

set_option maxRecDepth 100000 in
set_option maxHeartbeats 1600000 in
theorem x_leave (h : At w m (mCells pv iv s) tM) (hp : PAt w m pv F) (hF : FOk F) (h0 : 0 ≤ s.pt) (h1 : s.pt < F.length) (way : Int) :
    Calls Tryd.prog 90 #[.pointer (some ⟨m, 0, none⟩), .int .i64 way] w fun e w' => e = .returned (.tuple #[]) ∧ MPost m w pv iv (leaP F s way) w' := by
  obtain ⟨c0, c1, c2, c3, c4, c5, c6, c7, c8, cf⟩ := mcells h
  have HP : Hid (PAt w m pv F) := hp
  obtain ⟨ao, cap, hpv, hg⟩ := hp
  obtain ⟨g, rfl, hgm, hrow⟩ := hg (by omega)
  have hlt := h.lt
  have HA : Hid (At w m _ tM) := h
  have HF : Hid (FOk F) := hF
  have HR : Hid (PRow w g F) := hrow
  obtain ⟨k, hk⟩ : ∃ k : Nat, s.pt = k := ⟨s.pt.toNat, by omega⟩
  have hkl : k < F.length := by omega
  have HN : Hid (∀ w1, Below w.heap.size w w1 → Calls Tryd.prog 34 #[.agg #[.slice (some ⟨g, 0, none⟩) F.length cap], .int .i64 (k : Int), .int .i64 way] w1 fun e w' => e = .returned (.tuple #[.int .i64 (nextP F k way).1, .int .i64 (nextP F k way).2]) ∧ Hid (Below w.heap.size w w')) := by
    intro w1 hb1
    refine (d_next_in (HR.out.keep hb1) HF.out.len HF.out.par k hkl way).mono ?_
    rintro e w2 ⟨rfl, hb2⟩
    exact ⟨rfl, hb1.trans (hb2.mono hb1.size)⟩
  have HE0 : Hid (leaP F s way = if (nextP F k way).2 = 0 then entP F.length s (nextP F k way).1 else s) := by show leaP F s way = _; unfold leaP; rw [hk]
  have HEn : Hid (∀ w1 p, Below w.heap.size w w1 → Calls Tryd.prog 44 #[.pointer (some ⟨m, 0, none⟩), .int .i64 p] w1 fun e w' => e = .returned (.tuple #[]) ∧ MPost m w1 pv iv (entP F.length s p) w') := by
    intro w1 p hb1
    exact x_enter (HA.out.keep hb1 hlt) (HP.out.keep (hb1.mono (by omega))) HF.out.len p
  rw [hpv] at c0
  rw [hk] at c4
  generalize nextP F k way = nx at *
  obtain ⟨n1, n2⟩ := nx
  simp only at HE0 HN
  clear h hrow hg hF
  by_cases hz : n2 = 0
  · subst hz
    have HE : Hid (leaP F s way = entP F.length s n1) := HE0.out.trans (if_pos rfl)
    clear HE0
    go_enter Tryd.func90, Tryd.ntmps90
    go_wp2_with fail
    go_region_with (go_at_call 34; refine (HN.out _ (by first | exact Below.refl _ _ | exact (Below.refl _ _).drew)).mono ?_; rintro e w1 ⟨rfl, hB⟩)
    all_goals
      go_wp2_with fail
      refine (HEn.out _ _ hB.out).mono ?_
      rintro e w2 ⟨rfl, hat, hb2⟩
      have HA2 : Hid (At w2 m _ tM) := hat
      clear hat
      go_wp2_with fail
      go_end0
      exact ⟨rfl, by rw [HE.out]; exact HA2.out, (Onl.of hB.out m).trans hb2⟩
  · have hz' : (n2 == 0) = false := by simpa using hz
    have HE : Hid (leaP F s way = s) := HE0.out.trans (if_neg hz)
    clear HE0
    go_enter Tryd.func90, Tryd.ntmps90
    go_wp2_with fail
    go_region_with (go_at_call 34; refine (HN.out _ (by first | exact Below.refl _ _ | exact (Below.refl _ _).drew)).mono ?_; rintro e w1 ⟨rfl, hB⟩)
    all_goals
      go_wp2_with fail
      go_end0
      exact ⟨rfl, by rw [HE.out]; exact HA.out.keep hB.out hlt, Onl.of hB.out m⟩

end Go.Proofs.YtffajooegiempabDoor

