import Derived.Test.YtffajooegiempabDoorJ26
import Derived.Deep.RegionWith
/- A certificate that is taken: no run goes wrong. No Go in here. -/
namespace Go.Proofs.YtffajooegiempabDoor
variable {F : List Ds} {L : List (Option (List Int))} {I : List Int} {s : Ms}

theorem wi_sat {e2 : Bool} {M N V : Nat → Int} (h : wiB false e2 M N = true) (hN : ∀ k, k < 64 → N k ≤ 1000000) (hs : Sat V M) : e2 = false ∧ Sat V N := by
  unfold wiB at h
  cases e2 with
  | true => cases h
  | false =>
    refine ⟨rfl, ?_⟩
    have hle := leF_iff.1 (show leF M N 64 = true from h)
    intro i j hi hj
    have h1 := hle (i * 8 + j) (by omega)
    have h2 := hN (i * 8 + j) (by omega)
    rcases hs i j hi hj with q | q
    · left; unfold NB at *; omega
    · right; omega
theorem allN_all {f : Nat → Bool} {n : Nat} (h : allN f n = true) : ∀ i, i < n → f i = true := by
  intro i hi
  cases e : f i with
  | true => rfl
  | false => rw [allN_no hi e] at h; cases h
/-- A certificate that is taken. -/
structure CertOk (F : List Ds) (L : List (Option (List Int))) : Prop where
  ok : ∀ r, r ∈ L → okp r
  st : wiB false (cE (atL L 0)) (fun _ => 0) (cM (atL L 0)) = true
  pt : ∀ k, k < F.length → chkP F L k = 0
/-- What stands while it is gone on with. -/
structure Inv (F : List Ds) (L : List (Option (List Int))) (s : Ms) : Prop where
  st : (s.st = 0 ∧ s.pt < F.length) ∨ s.st = 1
  pt : 0 ≤ s.pt ∧ s.pt ≤ F.length
  e : cE (atL L s.pt) = false
  sat : Sat (gAt s.v) (cM (atL L s.pt))
theorem CertOk.says (h : CertOk F L) {k : Nat} (hk : k < F.length) : sfP (cE (atL L k)) (cM (atL L k)) (F.getD k (newDs 0 0)) = true ∧ ∀ way : Nat, (way : Int) < waysP (F.getD k (newDs 0 0)).kind → wayP F L k way = true := by
  have q := h.pt k hk
  unfold chkP at q
  cases hs : sfP (cE (atL L k)) (cM (atL L k)) (F.getD k (newDs 0 0)) with
  | false => rw [hs, if_pos rfl] at q; cases q
  | true =>
    rw [hs, if_neg (by decide)] at q
    cases ha : allN (wayP F L k) (waysP (F.getD k (newDs 0 0)).kind).toNat with
    | false => rw [ha, if_neg (by decide)] at q; cases q
    | true => exact ⟨rfl, fun way hw => allN_all ha way (by omega)⟩
theorem Inv.lea (hC : CertOk F L) {k : Nat} (hk : k < F.length) {way : Nat} (hw : (way : Int) < waysP (F.getD k (newDs 0 0)).kind) {u : Nat} {v : List Int} (he : poE (cE (atL L k)) (cM (atL L k)) (F.getD k (newDs 0 0)) way = false) (hs : Sat (gAt v) (poM (cE (atL L k)) (cM (atL L k)) (F.getD k (newDs 0 0)) way)) :
    Inv F L (leaP F ⟨u, 0, k, v⟩ way) := by
  have hz := next_z F k hk way hw
  have hi := nextP_in (F := F) k way hz
  have hy := (hC.says hk).2 way hw
  unfold wayP at hy
  rw [he] at hy
  obtain ⟨h1, h2⟩ := wi_sat hy (fun j hj => (c_rng (atL_ok hC.ok _) j hj).2) hs
  unfold leaP
  rw [if_pos hz]
  unfold entP
  refine ⟨?_, hi, h1, h2⟩
  show ((if (nextP F k way).1 = F.length then (1 : Int) else 0) = 0 ∧ (nextP F k way).1 < F.length) ∨ (if (nextP F k way).1 = F.length then (1 : Int) else 0) = 1
  by_cases q : (nextP F k way).1 = F.length
  · rw [if_pos q]; exact .inr rfl
  · rw [if_neg q]; exact .inl ⟨rfl, by omega⟩
/-- One step, from a state that an octagon has: it goes wrong only where that is not safe; else it goes by a way, and what Post says of that way has the state. -/
theorem step_says {k : Nat} (hkF : k < F.length) {u : Nat} {v : List Int} {M : Nat → Int} (hx : DQ (F.getD k (newDs 0 0))) (hs : Sat (gAt v) M) (hT : TQ M) (hl : v.length = 4) :
    (((stpP F I ⟨u, 0, k, v⟩).st = 2 ∨ (stpP F I ⟨u, 0, k, v⟩).st = 3) ∧ sfP false M (F.getD k (newDs 0 0)) = false) ∨
    ∃ (way u' : Nat) (v' : List Int), (way : Int) < waysP (F.getD k (newDs 0 0)).kind ∧ stpP F I ⟨u, 0, k, v⟩ = leaP F ⟨u', 0, k, v'⟩ way ∧ poE false M (F.getD k (newDs 0 0)) way = false ∧ Sat (gAt v') (poM false M (F.getD k (newDs 0 0)) way) := by
  have hlt' : ¬ ((k : Int) < 0 ∨ (F.length : Int) ≤ k) := by omega
  unfold stpP
  simp only [if_neg hlt', Int.toNat_natCast]
  generalize F.getD k (newDs 0 0) = x at *
  have n := hx.g.num
  by_cases k0 : x.kind = 0
  · simp only [if_pos k0]
    have pE : poE false M x ((0 : Nat) : Int) = false := by unfold poE; rw [if_neg (by decide), if_pos k0]
    have pM : poM false M x ((0 : Nat) : Int) = asM M x := by unfold poM; rw [if_neg (by decide), if_pos k0]
    have wy : ((0 : Nat) : Int) < waysP x.kind := by have := ways_rng x.kind; omega
    unfold asgP valP
    by_cases a : x.any = true
    · have hc := clampI_le (inP I u).1
      simp only [if_pos a]
      rw [if_neg (by omega)]
      exact .inr ⟨0, _, _, wy, rfl, pE, by rw [pM]; exact sat_as hs hl hx k0 (by rw [if_pos a]; exact hc)⟩
    · simp only [if_neg a]
      by_cases q : 999 < sumTo x.sg v 4 + x.num ∨ sumTo x.sg v 4 + x.num < -999
      · rw [if_pos q]
        refine .inl ⟨.inl rfl, ?_⟩
        unfold sfP
        rw [if_neg (by decide), if_pos k0, show x.any = false by simpa using a, Bool.false_or]
        unfold ftB
        refine decide_eq_false fun z => ?_
        obtain ⟨g1, g2, g3, g4⟩ := z
        have s1 := (sum_gr hs hx.len hx.g.sg hx.nz2).resolve_left g1
        have s2 := (sum_gr hs (ngL_len _) (ngL_rng hx.g.sg) (by rw [nz_ngL hx.len]; exact hx.nz2)).resolve_left g2
        rw [sum_ng] at s2
        omega
      · rw [if_neg q]
        exact .inr ⟨0, _, _, wy, rfl, pE, by rw [pM]; exact sat_as hs hl hx k0 (by rw [if_neg a])⟩
  · simp only [if_neg k0]
    by_cases k1 : x.kind = 1
    · simp only [if_pos k1]
      have wy : ((0 : Nat) : Int) < waysP x.kind := by have := ways_rng x.kind; omega
      unfold astP holP
      cases a : x.any with
      | true =>
        simp only [if_true]
        split
        · refine .inr ⟨0, _, _, wy, rfl, ?_, ?_⟩
          · unfold poE; rw [if_neg (by decide), if_neg k0, a, if_pos rfl]
          · unfold poM; rw [if_neg (by decide), if_neg k0, a, if_pos rfl]; exact hs
        · refine .inl ⟨.inr rfl, ?_⟩
          unfold sfP
          rw [if_neg (by decide), if_neg k0, if_pos k1, a]
          rfl
      | false =>
        have z1 : 1 ≤ nz x.sg := (hx.fc k0).resolve_left (by rw [a]; decide)
        simp only [Bool.false_eq_true, if_false]
        by_cases c : sumTo x.sg v 4 ≤ x.num
        · rw [if_pos (decide_eq_true c)]
          have y := sat_at hs hT hx.len hx.g.sg z1 hx.nz2 (n := x.num) (by omega) c
          refine .inr ⟨0, _, _, wy, rfl, ?_, ?_⟩
          · unfold poE; rw [if_neg (by decide), if_neg k0, a, if_neg (by decide), if_pos (show ((0 : Nat) : Int) = 0 from rfl)]; exact y.1
          · unfold poM; rw [if_neg (by decide), if_neg k0, a, if_neg (by decide), if_pos (show ((0 : Nat) : Int) = 0 from rfl)]; exact y.2
        · rw [if_neg (by rw [decide_eq_false c]; decide)]
          refine .inl ⟨.inr rfl, ?_⟩
          unfold sfP
          rw [if_neg (by decide), if_neg k0, if_pos k1, a]
          show (true && decide (grP M x.sg ≤ x.num)) = false
          rw [Bool.true_and]
          refine decide_eq_false fun g => ?_
          have s1 := (sum_gr hs hx.len hx.g.sg hx.nz2).resolve_left (fun z => by rw [z] at g; unfold NB at g; omega)
          omega
    · simp only [if_neg k1]
      have w2 : waysP x.kind = 2 := by
        unfold waysP
        rw [if_pos (by have := hx.kd; omega)]
      have wy0 : ((0 : Nat) : Int) < waysP x.kind := by omega
      have wy1 : ((1 : Nat) : Int) < waysP x.kind := by omega
      unfold braP holP
      cases a : x.any with
      | true =>
        have pE : ∀ way, poE false M x way = false := fun way => by unfold poE; rw [if_neg (by decide), if_neg k0, a, if_pos rfl]
        have pM : ∀ way, poM false M x way = M := fun way => by unfold poM; rw [if_neg (by decide), if_neg k0, a, if_pos rfl]
        simp only [if_true]
        split
        · exact .inr ⟨0, _, _, wy0, rfl, pE _, by rw [pM]; exact hs⟩
        · exact .inr ⟨1, _, _, wy1, rfl, pE _, by rw [pM]; exact hs⟩
      | false =>
        have z1 : 1 ≤ nz x.sg := (hx.fc k0).resolve_left (by rw [a]; decide)
        simp only [Bool.false_eq_true, if_false]
        by_cases c : sumTo x.sg v 4 ≤ x.num
        · rw [if_pos (decide_eq_true c)]
          have y := sat_at hs hT hx.len hx.g.sg z1 hx.nz2 (n := x.num) (by omega) c
          refine .inr ⟨0, _, _, wy0, rfl, ?_, ?_⟩
          · unfold poE; rw [if_neg (by decide), if_neg k0, a, if_neg (by decide), if_pos (show ((0 : Nat) : Int) = 0 from rfl)]; exact y.1
          · unfold poM; rw [if_neg (by decide), if_neg k0, a, if_neg (by decide), if_pos (show ((0 : Nat) : Int) = 0 from rfl)]; exact y.2
        · rw [if_neg (by rw [decide_eq_false c]; decide)]
          have y := sat_at hs hT (ngL_len _) (ngL_rng hx.g.sg) (by rw [nz_ngL hx.len]; exact z1) (by rw [nz_ngL hx.len]; exact hx.nz2) (n := -x.num - 1) (by omega) (by rw [sum_ng]; omega)
          refine .inr ⟨1, _, _, wy1, rfl, ?_, ?_⟩
          · unfold poE; rw [if_neg (by decide), if_neg k0, a, if_neg (by decide), if_neg (by decide)]; exact y.1
          · unfold poM; rw [if_neg (by decide), if_neg k0, a, if_neg (by decide), if_neg (by decide)]; exact y.2
theorem Inv.stp (hC : CertOk F L) (hD : ∀ k, k < F.length → DQ (F.getD k (newDs 0 0))) (h : Inv F L s) (hm : MsOk I s) (h0 : s.st = 0) : Inv F L (stpP F I s) := by
  have hlt : s.pt < F.length := by
    rcases h.st with q | q
    · exact q.2
    · rw [h0] at q; cases q
  obtain ⟨k, hk⟩ : ∃ k : Nat, s.pt = k := ⟨s.pt.toNat, by have := h.pt.1; omega⟩
  obtain ⟨u, st, pt, v⟩ := s
  simp only at h0 hk hlt
  subst h0
  subst hk
  have hkF : k < F.length := by omega
  have he : cE (atL L k) = false := h.e
  rcases step_says (I := I) (u := u) hkF (hD k hkF) h.sat (c_tq (atL_ok hC.ok _) he) hm.len with ⟨_, q⟩ | ⟨way, u', v', hw, e, h1, h2⟩
  · have := (hC.says hkF).1
    rw [he, q] at this
    cases this
  · rw [e]
    exact Inv.lea hC hkF hw (by rw [he]; exact h1) (by rw [he]; exact h2)
theorem Inv.run (hC : CertOk F L) (hD : ∀ k, k < F.length → DQ (F.getD k (newDs 0 0))) (hF : ∀ (k : Nat) (x : Ds), F[k]? = some x → DsOk x) : ∀ n (s : Ms), Inv F L s → MsOk I s → Inv F L (runP F I n s) := by
  intro n
  induction n with
  | zero => intro s h _; exact h
  | succ n ih =>
    intro s h hm
    rw [runP]
    split
    · rename_i h0
      exact ih _ (h.stp hC hD hm h0) (hm.stp hF)
    · exact h
/-- No run goes wrong. -/
theorem CertOk.sound (hC : CertOk F L) (hD : ∀ k, k < F.length → DQ (F.getD k (newDs 0 0))) (hF : ∀ (k : Nat) (x : Ds), F[k]? = some x → DsOk x) (steps : Int) : (finP F I steps).st = 0 ∨ (finP F I steps).st = 1 := by
  have z : Sat (gAt [0, 0, 0, 0]) (fun _ => 0) := by
    intro i j hi hj
    right
    have e : ∀ i, i < 8 → sd (gAt [0, 0, 0, 0]) i = 0 := by decide
    rw [e i hi, e j hj]
    exact (show (0 : Int) + 0 ≤ 0 by decide)
  obtain ⟨h1, h2⟩ := wi_sat hC.st (fun j hj => (c_rng (atL_ok hC.ok _) j hj).2) z
  have h := Inv.run (I := I) hC hD hF (min steps.toNat 2000) (entP F.length ⟨0, 0, 0, [0, 0, 0, 0]⟩ 0) ?_ ?_
  · rcases h.st with q | q
    · exact .inl q.1
    · exact .inr q
  · unfold entP
    refine ⟨?_, ⟨Int.le_refl _, by show (0 : Int) ≤ F.length; omega⟩, h1, h2⟩
    show ((if (0 : Int) = F.length then (1 : Int) else 0) = 0 ∧ (0 : Int) < F.length) ∨ (if (0 : Int) = F.length then (1 : Int) else 0) = 1
    by_cases q : (0 : Int) = F.length
    · rw [if_pos q]; exact .inr rfl
    · rw [if_neg q]; exact .inl ⟨rfl, by omega⟩
  · refine ⟨rfl, fun i => ?_, Nat.zero_le _⟩
    unfold entP
    show -999 ≤ sgAt [0, 0, 0, 0] i ∧ sgAt [0, 0, 0, 0] i ≤ 999
    rcases (show i = 0 ∨ i = 1 ∨ i = 2 ∨ i = 3 ∨ 4 ≤ i by omega) with rfl | rfl | rfl | rfl | h4
    · decide
    · decide
    · decide
    · decide
    · have : sgAt [0, 0, 0, 0] i = 0 := by unfold sgAt; rw [List.getD_eq_getElem?_getD, List.getElem?_eq_none (by simp; omega)]; rfl
      rw [this]; decide

end Go.Proofs.YtffajooegiempabDoor

namespace Go.Proofs.YtffajooegiempabDoor
open Go.RowKit
variable {w : World} {m : Nat} {pv iv : Value} {L : List Int} {s : Ms} {F : List Ds}
end Go.Proofs.YtffajooegiempabDoor

namespace Go.Proofs.YtffajooegiempabDoor
open Go.RowKit
end Go.Proofs.YtffajooegiempabDoor

namespace Go.Proofs.YtffajooegiempabDoor
open Go.RowKit
variable {w : World} {m : Nat} {pv iv : Value} {L : List Int} {s : Ms} {F : List Ds}
end Go.Proofs.YtffajooegiempabDoor

namespace Go.Proofs.YtffajooegiempabDoor
open Go.RowKit
variable {w : World} {m : Nat} {pv iv : Value} {L : List Int} {s : Ms} {F : List Ds}
end Go.Proofs.YtffajooegiempabDoor

namespace Go.Proofs.YtffajooegiempabDoor
open Go.RowKit
variable {w : World} {m : Nat} {pv iv : Value} {L : List Int} {s : Ms} {F : List Ds}
/-- What a program in memory keeps to. -/
structure FOk (F : List Ds) : Prop where
  len : F.length ≤ 20
  par : ∀ (k : Nat) (x : Ds), F[k]? = some x → -1 ≤ x.parent ∧ x.parent < (k : Int)
  ds : ∀ (k : Nat) (x : Ds), F[k]? = some x → DsOk x

end Go.Proofs.YtffajooegiempabDoor

namespace Go.Proofs.YtffajooegiempabDoor
open Go.RowKit
variable {w : World} {m : Nat} {pv iv : Value} {L : List Int} {s : Ms} {F : List Ds}
end Go.Proofs.YtffajooegiempabDoor

namespace Go.Proofs.YtffajooegiempabDoor
open Go.RowKit
variable {w : World} {m : Nat} {pv iv : Value} {L : List Int} {s : Ms} {F : List Ds}
end Go.Proofs.YtffajooegiempabDoor

namespace Go.Proofs.YtffajooegiempabDoor
open Go.RowKit
variable {w : World} {m : Nat} {pv iv : Value} {L : List Int} {s : Ms} {F : List Ds}
end Go.Proofs.YtffajooegiempabDoor

namespace Go.Proofs.YtffajooegiempabDoor
open Go.RowKit
variable {w : World} {L : List Int} {F : List Ds}
end Go.Proofs.YtffajooegiempabDoor

namespace Go.Proofs.YtffajooegiempabDoor
end Go.Proofs.YtffajooegiempabDoor

namespace Go.Proofs.YtffajooegiempabDoor
end Go.Proofs.YtffajooegiempabDoor

namespace Go.Proofs.YtffajooegiempabDoor
end Go.Proofs.YtffajooegiempabDoor

namespace Go.Proofs.YtffajooegiempabDoor
open Go.RowKit
end Go.Proofs.YtffajooegiempabDoor

namespace Go.Proofs.YtffajooegiempabDoor
open Go.RowKit
theorem prog_gd {l : List Int} {m : Rd} (hp : progOf l = some m) : AllGd m ∧ Ok m := by
  obtain ⟨_, ⟨n, hr⟩, _⟩ := progOf_some hp
  exact gd_from (m := init) (fun s hs => absurd hs (by simp [init])) Ok.init hr
theorem sgAt_mem (l : List Int) (i : Nat) (h : ∀ x, x ∈ l → -1 ≤ x ∧ x ≤ 1) : -1 ≤ sgAt l i ∧ sgAt l i ≤ 1 := by
  unfold sgAt
  rw [List.getD_eq_getElem?_getD]
  cases e : l[i]? with
  | none => simp
  | some x => exact h x (List.mem_of_getElem? e)
theorem fok_of {l : List Int} {m : Rd} {F : List Ds} (hp : progOf l = some m) (hW : Whole F m.st) : FOk F := by
  obtain ⟨hg, ok⟩ := prog_gd hp
  have hl := hW.1.len
  refine ⟨by have := ok.len; omega, hW.par, fun k x hx => ?_⟩
  have hk : k < F.length := by
    rcases Nat.lt_or_ge k F.length with h' | h'
    · exact h'
    · simp [List.getElem?_eq_none h'] at hx
  obtain ⟨u, hu⟩ : ∃ u, m.st[k]? = some u := ⟨m.st[k]'(by omega), List.getElem?_eq_getElem _⟩
  obtain ⟨_, c1, _, c3, c4⟩ := hW.1.cor k x u hx hu
  have hm := List.mem_of_getElem? hu
  obtain ⟨g1, g2, g3⟩ := hg u hm
  have hn := ok.nums u hm
  exact ⟨by rw [← c3]; exact ok.sgl u hm, fun i => by rw [← c3]; exact sgAt_mem _ _ g3, by rw [← c4]; exact hn, by rw [← c1]; exact ⟨g1, g2⟩⟩

end Go.Proofs.YtffajooegiempabDoor

namespace Go.Proofs.YtffajooegiempabDoor
open Go.RowKit
variable {w : World}

/-- What it says of a certificate that it is taken. -/
theorem chk_ok {s c : ByteArray} {b : Int} (h : ChkSays s c (0, b)) : ∃ m L, progOf (bytesOf s) = some m ∧ decF (bytesOf c) = some L ∧ CertOk (readZ s).2 L := by
  unfold ChkSays at h
  cases hp : progOf (bytesOf s) with
  | none =>
    rw [hp] at h
    have h1 := congrArg Prod.fst (show ((0 : Int), b) = _ from h)
    rw [progOf_none hp] at h1
    cases h1
  | some m =>
    rw [hp] at h
    have h1 : CertSays (readZ s).2 (bytesOf c) (0, b) := h
    unfold CertSays at h1
    cases hd : decF (bytesOf c) with
    | none => rw [hd] at h1; cases (show ((0 : Int), b) = (4, 0) from h1)
    | some L =>
      rw [hd] at h1
      simp only at h1
      split at h1
      · cases h1
      · split at h1
        · cases h1
        · rename_i q2
          refine ⟨m, L, rfl, rfl, (dec_ok (bys c) hd).2.2.2, by simpa using q2, ?_⟩
          rcases h1 with ⟨h2, _⟩ | ⟨k, _, _, h2, h3⟩
          · exact h2
          · exact absurd (congrArg Prod.fst h3).symm h2
/-- No run goes wrong of which a certificate is taken. -/
theorem sound_of {s c : ByteArray} {b : Int} (h : ChkSays s c (0, b)) (h160 : s.size ≤ 160) (I : List Int) (steps : Int) : (finP (readZ s).2 I steps).st = 0 ∨ (finP (readZ s).2 I steps).st = 1 := by
  obtain ⟨m, L, hp, _, hC⟩ := chk_ok h
  rcases prog_whole s h160 with ⟨_, hn⟩ | ⟨m', _, hp', hW⟩
  · rw [hp] at hn; cases hn
  · rw [hp] at hp'
    cases hp'
    exact hC.sound (fun k hk => dq_of hp hW hk) (fok_of hp hW).ds steps

end Go.Proofs.YtffajooegiempabDoor

namespace Go.Proofs.YtffajooegiempabDoor
open Go.RowKit
variable {w : World}
theorem check_taken (hG : Glob w) {s c : ByteArray} (h0 : ∀ r, ChkSays s c r → r = (0, 0)) (hm : s.size ≤ maxLen) (hc : c.size ≤ maxLen) : Calls Tryd.prog 21 #[.string s, .string c] w fun e w' => e = .returned (.tuple #[.int .i64 0, .int .i64 0]) ∧ Below w.heap.size w w' := by
  refine (w_check hG s c hm hc).mono ?_
  rintro e w' ⟨a, b, rfl, h1, h2⟩
  cases h0 _ h1
  exact ⟨rfl, h2⟩
end Go.Proofs.YtffajooegiempabDoor

namespace Go.Proofs.YtffajooegiempabDoor
open Go.RowKit
variable {w : World}
theorem crt_ne (F : List Ds) (hx : ∀ k, k < F.length → DQ (F.getD k (newDs 0 0))) (hl : F.length ≤ 20) : crtF F ≠ ⟨#[]⟩ := by
  intro h
  have h1 := crt_bytes hx hl
  rw [h] at h1
  have h2 : bytesOf ⟨#[]⟩ = [] := rfl
  rw [h2] at h1
  unfold encB at h1
  cases h1
/-- What Analyze says where what it finds is taken. -/
theorem an_taken (hG : Glob w) {s : ByteArray} (hm : s.size ≤ maxLen) (hs : progOf (bytesOf s) ≠ none) (h : ∀ r, CertSays (readZ s).2 (bytesOf (crtF (readZ s).2)) r → r = (0, 0)) :
    Calls Tryd.prog 22 #[.string s] w fun e w' => e = .returned (.tuple #[.string (crtF (readZ s).2), .int .i64 0]) ∧ Below w.heap.size w w' := by
  refine (w_analyze hG s hm).mono ?_
  rintro e w' ⟨hb, ⟨h1, -⟩ | ⟨-, a, b, h2, ⟨-, rfl⟩ | ⟨h3, -⟩⟩⟩
  · exact absurd h1 hs
  · exact ⟨rfl, hb⟩
  · exact absurd (congrArg Prod.fst (h _ h2)) h3
/-- A program that is read: its certificate is not empty. -/
theorem crt_not {s : ByteArray} (hs : progOf (bytesOf s) ≠ none) : crtF (readZ s).2 ≠ ⟨#[]⟩ := by
  cases hp : progOf (bytesOf s) with
  | none => exact absurd hp hs
  | some mm =>
    have h160 := (progOf_some hp).1
    have hbl := bytesOf_len s
    have hlen : (readZ s).2.length ≤ 20 := (rStmts_goes s 22 (-1) 0 0 ((0, false), []) ⟨Nat.zero_le _, Nat.zero_le _⟩).ok.len
    rcases prog_whole s (by omega) with ⟨_, hn⟩ | ⟨m', _, hp', hW⟩
    · rw [hp] at hn; cases hn
    · exact crt_ne _ (fun k hk => dq_of hp' hW hk) hlen
theorem crt_le {s : ByteArray} (hs : progOf (bytesOf s) ≠ none) : (crtF (readZ s).2).size ≤ maxLen := by
  cases hp : progOf (bytesOf s) with
  | none => exact absurd hp hs
  | some mm =>
    have h160 := (progOf_some hp).1
    have hbl := bytesOf_len s
    have hlen : (readZ s).2.length ≤ 20 := (rStmts_goes s 22 (-1) 0 0 ((0, false), []) ⟨Nat.zero_le _, Nat.zero_le _⟩).ok.len
    rcases prog_whole s (by omega) with ⟨_, hn⟩ | ⟨m', _, hp', hW⟩
    · rw [hp] at hn; cases hn
    · have := crt_small (fun k hk => dq_of hp' hW hk) hlen
      unfold maxLen
      omega

end Go.Proofs.YtffajooegiempabDoor

/- Less is claimed, less comes out: what the search claims stays below every certificate. No Go in here. -/
namespace Go.Proofs.YtffajooegiempabDoor
variable {M N : Nat → Int} {F : List Ds} {L : List (Option (List Int))}

theorem wi_iff {e1 e2 : Bool} : wiB e1 e2 M N = true ↔ e1 = true ∨ (e1 = false ∧ e2 = false ∧ Le M N) := by
  unfold wiB
  cases e1 with
  | true => exact ⟨fun _ => .inl rfl, fun _ => rfl⟩
  | false =>
    cases e2 with
    | true => exact ⟨(fun h => by cases h), (fun h => by rcases h with h | ⟨_, h, _⟩ <;> cases h)⟩
    | false =>
      show leF M N 64 = true ↔ _
      rw [leF_iff]
      exact ⟨fun h => .inr ⟨rfl, rfl, h⟩, fun h => by
        rcases h with h | ⟨_, _, h⟩
        · cases h
        · exact h⟩
theorem Le.trans {A B C : Nat → Int} (h : Le A B) (k : Le B C) : Le A C := fun a ha => Int.le_trans (h a ha) (k a ha)
theorem wi_trans {e1 e2 e3 : Bool} {A B C : Nat → Int} (h : wiB e1 e2 A B = true) (k : wiB e2 e3 B C = true) : wiB e1 e3 A C = true := by
  rcases wi_iff.1 h with h | ⟨h1, h2, h3⟩
  · exact wi_iff.2 (.inl h)
  · rcases wi_iff.1 k with k | ⟨_, k2, k3⟩
    · rw [h2] at k; cases k
    · exact wi_iff.2 (.inr ⟨h1, k2, h3.trans k3⟩)
theorem wi_refl (e : Bool) (A : Nat → Int) : wiB e e A A = true := by
  cases e with
  | true => rfl
  | false => exact wi_iff.2 (.inr ⟨rfl, rfl, fun _ _ => Int.le_refl _⟩)
theorem mo_mono (h : Le M N) (hN : ∀ a, a < 64 → N a ≤ NB) {i j : Nat} (hi : i < 8) (hj : j < 8) : mo M i j ≤ mo N i j := by
  have h1 := h (i * 8 + j) (by omega)
  have h2 := hN (i * 8 + j) (by omega)
  unfold mo
  generalize M (i * 8 + j) = x at *
  generalize N (i * 8 + j) = y at *
  have tx := tdiv2 x
  have ty := tdiv2 y
  have hx := Int.lt_or_le x 0
  have hy := Int.lt_or_le y 0
  unfold NB at *
  by_cases e : i = j
  · by_cases qy : y = 1000000
    · rw [if_neg (show ¬ (i = j ∧ y ≠ 1000000) from fun z => z.2 qy)]
      split
      · rcases hx with c | c
        · rw [tx.2 c]; omega
        · rw [tx.1 c]; omega
      · omega
    · rw [if_pos (show i = j ∧ y ≠ 1000000 from ⟨e, qy⟩), if_pos (show i = j ∧ x ≠ 1000000 from ⟨e, by omega⟩)]
      rcases hx with c | c
      · rw [tx.2 c]
        rcases hy with d | d
        · rw [ty.2 d]; omega
        · rw [ty.1 d]; omega
      · rw [tx.1 c, ty.1 (by omega)]; omega
  · rw [if_neg (fun z => e z.1), if_neg (fun z => e z.1)]
    exact h1
theorem gr_mono (h : Le M N) (hN : ∀ a, a < 64 → N a ≤ NB) (l : List Int) : grP M l ≤ grP N l := mo_mono h hN (sdS_lt l 4 (Nat.le_refl _)).1 (sdS_lt l 4 (Nat.le_refl _)).2
theorem sf_mono (h : Le M N) (hN : ∀ a, a < 64 → N a ≤ NB) {x : Ds} (hx : DQ x) (hs : sfP false N x = true) : sfP false M x = true := by
  have n := hx.g.num
  have g1 := gr_mono h hN x.sg
  have g2 := gr_mono h hN (ngL x.sg)
  unfold sfP at *
  rw [if_neg (by decide)] at *
  by_cases k0 : x.kind = 0
  · rw [if_pos k0] at *
    cases ha : x.any with
    | true => rfl
    | false =>
      rw [ha, Bool.false_or] at hs
      rw [Bool.false_or]
      unfold ftB at *
      obtain ⟨a, b, c, d⟩ := of_decide_eq_true hs
      unfold NB at *
      exact decide_eq_true ⟨by omega, by omega, by omega, by omega⟩
  · rw [if_neg k0] at *
    by_cases k1 : x.kind = 1
    · rw [if_pos k1, Bool.and_eq_true] at *
      exact ⟨hs.1, decide_eq_true (by have := of_decide_eq_true hs.2; omega)⟩
    · rw [if_neg k1]
theorem at_mono (hM : Wn M) (hN : TQ N) (h : Le M N) {l : List Int} (hl : l.length = 4) (hv : ∀ i, -1 ≤ gAt l i ∧ gAt l i ≤ 1) (h1 : 1 ≤ nz l) (h2 : nz l ≤ 2) {n : Int} (hn : n ≤ 1000) (he : atE false M l n = false) : atE false N l n = false ∧ Le (atM false M l n) (atM false N l n) := by
  have hC := at_tc hM.tq hl hv h1 h2 hn he
  obtain ⟨f, hf, hnf, hgr, hs1, hs2⟩ := grP_form hM.tc hl hv h1 h2
  obtain ⟨f', hf', hnf', hgr', hs1', hs2'⟩ := grP_form hN.tc hl hv h1 h2
  have hff : f' = f := by omega
  subst hff
  have gm := gr_mono h hN.tc.hi l
  have hnb : n ≠ NB := by unfold NB; omega
  have eM : lm M (sd1 l) (sd2 l) n = sb M f' n := by rw [hs1, hs2]; rfl
  have eN : lm N (sd1 l) (sd2 l) n = sb N f' n := by rw [hs1, hs2]; rfl
  obtain ⟨n1, n2, n3, n4, n5, n6⟩ := nf_fs f' hf
  have a1 := fs_lt f' hf
  have a2 := ss_lt f' hf
  by_cases qN : atS false N l n = true
  · have qM : atS false M l n = true := by
      unfold atS at *
      have := of_decide_eq_true qN
      exact decide_eq_true (this.imp id (fun z => by omega))
    unfold atE atM
    rw [if_pos qN, if_pos qN, if_pos qM]
    exact ⟨rfl, h⟩
  · have up : Le (atM false M l n) (sb N f' n) := by
      intro a ha
      have e : a = a / 8 * 8 + a % 8 := by omega
      have hi : a / 8 < 8 := by omega
      have hj : a % 8 < 8 := by omega
      by_cases qM : atS false M l n = true
      · have c0 : bd M f' ≤ n := by
          unfold atS at qM
          have := of_decide_eq_true qM
          rcases this with z | z
          · cases z
          · rw [hgr] at z; exact z
        have eA : atM false M l n = M := by unfold atM; rw [if_pos qM]
        rw [eA, e]
        generalize a / 8 = i at hi
        generalize a % 8 = j at hj
        rw [sb_at N hf hnb hi hj]
        have hMN := h (i * 8 + j) (by omega)
        split
        · rename_i z
          have val : M (fs f' * 8 + ss f') ≤ if f' < 8 then 2 * n else n := by
            by_cases f8 : f' < 8
            · obtain ⟨q1, q2⟩ := fs_lo f' f8
              have hb : bd M f' = mo M f' f' := by unfold bd mo; rw [q1, q2]
              have hd := gr_diag hM f8
              rw [if_pos f8, q1, q2]
              rw [hb] at c0
              omega
            · rw [if_neg f8]
              have hb : bd M f' = M (fs f' * 8 + ss f') := by
                unfold bd
                rw [if_neg (fun z => fs_hi f' hf (by omega) z.1)]
              omega
          rcases z with ⟨z1, z2⟩ | ⟨z1, z2⟩
          · rw [z1, z2]; exact val
          · rw [z1, z2, hM.tc.sym _ _ a2 a1]; exact val
        · exact hMN
      · have eA : atM false M l n = sharp (sb M f' n) := by unfold atM; rw [if_neg qM, eM]
        rw [eA]
        refine Int.le_trans (sharp_le _ a) ?_
        rw [e]
        generalize a / 8 = i at hi
        generalize a % 8 = j at hj
        rw [sb_at M hf hnb hi hj, sb_at N hf hnb hi hj]
        split
        · exact Int.le_refl _
        · exact h _ (by omega)
    have up2 := hC.below_sharp up (sb_le hN.tc hf hn)
    have eB : atM false N l n = sharp (sb N f' n) := by unfold atM; rw [if_neg qN, eN]
    rw [eB]
    refine ⟨?_, up2⟩
    unfold atE
    rw [if_neg qN, eN]
    exact conF_no (fun i hi => by
      have z := up2 (i * 8 + opp i) (by have := opp_lt hi; omega)
      rw [hC.zero i hi] at z
      exact z)
theorem pl_mono {a b c : Int} (h : a ≤ b) (hb : b ≤ NB) (hc : -2000 ≤ c ∧ c ≤ 2000) (ha : a ≤ 1998) : pl a c ≤ pl b c := by
  unfold pl NB at *
  split <;> split <;> omega
/-- Less comes out of less. -/
theorem po_mono (hM : Wn M) (hN : TQ N) (h : Le M N) {x : Ds} (hx : DQ x) (way : Int) (he : poE false M x way = false) : poE false N x way = false ∧ Le (poM false M x way) (poM false N x way) := by
  have n := hx.g.num
  have ht := hx.tg
  have hhi := hN.tc.hi
  have pE : ∀ A, poE false A x way = (if x.kind = 0 then false else if x.any = true then false else if way = 0 then atE false A x.sg x.num else atE false A (ngL x.sg) (-x.num - 1)) := fun A => rfl
  have pM : ∀ A, poM false A x way = (if x.kind = 0 then asM A x else if x.any = true then A else if way = 0 then atM false A x.sg x.num else atM false A (ngL x.sg) (-x.num - 1)) := fun A => rfl
  rw [pE] at he
  rw [pE, pM, pM]
  by_cases k0 : x.kind = 0
  · simp only [if_pos k0]
    refine ⟨trivial, ?_⟩
    unfold asM
    have bt : ∀ {lo hi : Int}, -999 ≤ lo ∧ lo ≤ 999 → -999 ≤ hi ∧ hi ≤ 999 → Le (sbT M x.target.toNat lo hi) (sbT N x.target.toNat lo hi) := fun {lo hi} h1 h2 a ha => by
      have e : a = a / 8 * 8 + a % 8 := by omega
      have hi' : a / 8 < 8 := by omega
      have hj : a % 8 < 8 := by omega
      rw [e]
      generalize a / 8 = i at hi'
      generalize a % 8 = j at hj
      rw [sbT_at M (by omega) h1 h2 hi' hj, sbT_at N (by omega) h1 h2 hi' hj]
      have hMN := h (i * 8 + j) (by omega)
      have mm : ∀ {j : Nat}, j < 8 → mo M j j ≤ mo N j j ∧ mo N j j ≤ NB ∧ mo M j j ≤ 1998 := fun {j} hj => by
        have b := hM.box j hj
        have d := gr_diag hM hj
        have hn := hhi (j * 8 + j) (by omega)
        refine ⟨mo_mono h hhi hj hj, ?_, by omega⟩
        by_cases q : N (j * 8 + j) = NB
        · rw [(mo_tc hN.tc hj).1 q]; exact Int.le_refl _
        · have := ((mo_tc hN.tc hj).2 q).1
          unfold NB at *
          omega
      have uu : ∀ {i : Nat}, isT x.target.toNat i → uF M x.target.toNat lo hi i = uF N x.target.toNat lo hi i ∧ -2000 ≤ uF N x.target.toNat lo hi i ∧ uF N x.target.toNat lo hi i ≤ 2000 := fun {i} q => by
        unfold uF
        rcases q with q | q
        · rw [if_pos q, if_pos q]; exact ⟨rfl, by omega, by omega⟩
        · rw [if_neg (by omega), if_pos q, if_neg (by omega), if_pos q]; exact ⟨rfl, by omega, by omega⟩
      have plc' : ∀ a b : Int, pl a b = pl b a := fun a b => by
        unfold pl
        by_cases q : a = NB ∨ b = NB
        · rw [if_pos q, if_pos q.symm]
        · rw [if_neg q, if_neg (fun z => q z.symm), Int.add_comm]
      unfold sbG
      by_cases ti : isT x.target.toNat i
      · rw [if_pos ti, if_pos ti]
        by_cases tj : isT x.target.toNat j
        · rw [if_pos tj, if_pos tj]
          split
          · exact Int.le_refl _
          · exact hMN
        · rw [if_neg tj, if_neg tj, (uu ti).1, plc', plc' (uF N _ _ _ _)]
          exact pl_mono (mm hj).1 (mm hj).2.1 (uu ti).2 (mm hj).2.2
      · rw [if_neg ti, if_neg ti]
        by_cases tj : isT x.target.toNat j
        · rw [if_pos tj, if_pos tj, (uu tj).1, plc', plc' (uF N _ _ _ _)]
          exact pl_mono (mm hi').1 (mm hi').2.1 (uu tj).2 (mm hi').2.2
        · rw [if_neg tj, if_neg tj]
          exact hMN
    by_cases a : x.any = true
    · rw [if_pos a, if_pos a]
      exact bt ⟨by omega, by omega⟩ ⟨by omega, by omega⟩
    · rw [if_neg a, if_neg a]
      by_cases q : sd1 x.sg = opp (sd2 x.sg)
      · rw [if_pos q, if_pos q]
        exact bt ⟨by omega, by omega⟩ ⟨by omega, by omega⟩
      · rw [if_neg q, if_neg q]
        intro a ha
        have e : a = a / 8 * 8 + a % 8 := by omega
        have hi' : a / 8 < 8 := by omega
        have hj : a % 8 < 8 := by omega
        rw [e]
        generalize a / 8 = i at hi'
        generalize a % 8 = j at hj
        have hf := (sdS_lt x.sg 4 (Nat.le_refl _)).1
        rw [ss_at M _ _ _ hi' hj, ss_at N _ _ _ hi' hj]
        have o1 : orgF x.target.toNat (sd1 x.sg) i < 8 := org_lt hf hi'
        have o2 : orgF x.target.toNat (sd1 x.sg) j < 8 := org_lt hf hj
        have r1 := add_rng (t := x.target.toNat) (n := x.num) ⟨by omega, by omega⟩ i
        have r2 := add_rng (t := x.target.toNat) (n := x.num) ⟨by omega, by omega⟩ j
        exact pl_mono (h _ (by omega)) (hhi _ (by omega)) ⟨by omega, by omega⟩ (hM.all (by omega)).2.2
  · simp only [if_neg k0] at he ⊢
    by_cases ha : x.any = true
    · simp only [if_pos ha]
      exact ⟨trivial, h⟩
    · simp only [if_neg ha] at he ⊢
      have hz1 : 1 ≤ nz x.sg := (hx.fc k0).resolve_left ha
      by_cases w0 : way = 0
      · simp only [if_pos w0] at he ⊢
        exact at_mono hM hN h hx.len hx.g.sg hz1 hx.nz2 (by omega) he
      · simp only [if_neg w0] at he ⊢
        exact at_mono hM hN h (ngL_len _) (ngL_rng hx.g.sg) (by rw [nz_ngL hx.len]; exact hz1) (by rw [nz_ngL hx.len]; exact hx.nz2) (by omega) he

end Go.Proofs.YtffajooegiempabDoor

