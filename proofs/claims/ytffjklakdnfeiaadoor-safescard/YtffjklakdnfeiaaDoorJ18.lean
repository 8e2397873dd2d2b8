import Derived.Test.YtffjklakdnfeiaaDoorJ17
import Derived.Test.YtffjklakdnfeiaaDoorTie
import Derived.Test.YtffjklakdnfeiaaDoorCards
import Derived.ProofKit
import Derived.LaidMore
import Derived.OpenShut
import Derived.Stop.Joined
import Derived.ChangeSlices
import Derived.Carry
import Derived.ChangeMaps5
namespace Go.Proofs.YtffjklakdnfeiaaDoor
open Go.RowKit
variable {w : World}

/-- What the document's Safe answers. -/
def safeD (l : List Int) (p : Int) (o : List Int) : Bool × Int :=
  match progOf l with
  | none => (false, 1)
  | some m => if p < 0 ∨ (m.st.length : Int) ≤ p then (false, 2) else if gdB o = true then (sfD (ovE o) (ovM o) (m.st.getD p.toNat noSt), 0) else (false, 3)
theorem ways_pos (u : St) : 1 ≤ waysR u := by unfold waysR; split <;> decide
theorem waysAt_0 (m : Rd) (p : Int) : ((0 : Int) < 0 ∨ waysAt m p ≤ 0) ↔ (p < 0 ∨ (m.st.length : Int) ≤ p) := by
  unfold waysAt
  by_cases h : p < 0 ∨ (m.st.length : Int) ≤ p
  · rw [if_pos h]; exact ⟨fun _ => h, fun _ => .inr (by decide)⟩
  · rw [if_neg h]
    have := ways_pos (m.st.getD p.toNat noSt)
    exact ⟨fun z => z.elim (fun q => absurd q (by decide)) (fun q => absurd q (by omega)), fun z => absurd z h⟩
/-- Both say the same of a statement. -/
theorem sf_same {x : Ds} {u : St} {o : List Int} (hc : Cor x u) (hu : StG u) (ho : okL o) : sfP (ovE o) (ovM o) x = sfD (ovE o) (ovM o) u := by
  obtain ⟨c0, _, c2, c3, c4⟩ := hc
  unfold sfP sfD
  cases he : ovE o with
  | true => rfl
  | false =>
    have hC0 : ovM o (0 * 8 + 1) = 0 := ((raw_lay ho).tc he).zero 0 (by omega)
    have g1 := (grP_grD hC0 hu.len hu.sg hu.nz).1
    have g2 := (grP_grD hC0 (ngL_len u.sg) (ngL_rng hu.sg) (by rw [nz_ngL hu.len]; exact hu.nz)).1
    have e1 : grP (ovM o) u.sg = grD (ovM o) u.sg := g1
    have e2 : grP (ovM o) (ngL u.sg) = grD (ovM o) (ngL u.sg) := g2
    rw [if_neg (show ¬ (false = true) by decide), if_neg (show ¬ (false = true) by decide)]
    have k0 : x.kind = 0 ↔ u.kind = 61 := by
      rw [c0]; unfold kindOf
      constructor
      · intro h; rw [if_pos h]
      · intro h
        by_cases q : x.kind = 0
        · exact q
        · rw [if_neg q] at h
          split at h
          · cases h
          · split at h <;> cases h
    have k1 : x.kind = 1 ↔ u.kind = 33 := by
      rw [c0]; unfold kindOf
      constructor
      · intro h; rw [if_neg (by omega), if_pos h]
      · intro h
        by_cases q : x.kind = 0
        · rw [if_pos q] at h; cases h
        · rw [if_neg q] at h
          by_cases q1 : x.kind = 1
          · exact q1
          · rw [if_neg q1] at h
            split at h <;> cases h
    by_cases q0 : x.kind = 0
    · rw [if_pos q0, if_pos (k0.1 q0), ← c2, ← c4, ← c3]
      unfold ftB
      rw [e1, e2]
    · rw [if_neg q0, if_neg (fun z => q0 (k0.2 z))]
      by_cases q1 : x.kind = 1
      · rw [if_pos q1, if_pos (k1.1 q1), ← c2, ← c4, ← c3, e1]
      · rw [if_neg q1, if_neg (fun z => q1 (k1.2 z))]
theorem safe_same (s : ByteArray) (p : Int) (o : List Int) : safeP s p o = safeD (bytesOf s) p o := by
  unfold safeP safeD
  cases hp : progOf (bytesOf s) with
  | none => rfl
  | some m =>
    have hl := (progOf_some hp).1
    have hb := bytesOf_len s
    rcases prog_whole s (by omega) with ⟨_, hn⟩ | ⟨m', _, hp', hW⟩
    · rw [hp] at hn; cases hn
    · rw [hp] at hp'
      cases hp'
      show (if p < 0 ∨ (m.st.length : Int) ≤ p then (false, 2) else if gdB o = true then (sfP (ovE o) (ovM o) ((readZ s).2.getD p.toNat (newDs 0 0)), (0 : Int)) else (false, 3)) = if p < 0 ∨ (m.st.length : Int) ≤ p then (false, 2) else if gdB o = true then (sfD (ovE o) (ovM o) (m.st.getD p.toNat noSt), 0) else (false, 3)
      by_cases h : p < 0 ∨ (m.st.length : Int) ≤ p
      · rw [if_pos h, if_pos h]
      · rw [if_neg h, if_neg h]
        by_cases hg : gdB o = true
        · rw [if_pos hg, if_pos hg]
          have hlen := hW.1.len
          have hk : p.toNat < (readZ s).2.length := by omega
          rw [sf_same (dsg_of hp hW hk).2 (stg_of hp p.toNat) (gdB_ok.1 hg)]
        · rw [if_neg hg, if_neg hg]

set_option maxRecDepth 100000 in
set_option maxHeartbeats 1600000 in
theorem ref_safe (s : ByteArray) (p : Int) (v : Value) (o : List Int) (hm : s.size ≤ maxLen) (hol : o.length ≤ 1073741824) (hv : Reads w v o) :
    Calls Tryd.prog 20 #[.string s, .int .i64 p, v] w fun e w' => e = bi (safeD (bytesOf s) p o) ∧ Below w.heap.size w w' := by
  have HV : Hid (Reads w v o) := hv
  have HGd : Hid (∀ w1, Below w.heap.size w w1 → Calls Tryd.prog 25 #[v] w1 fun e w' => e = .returned (.bool (gdB o)) ∧ w' = w1) := fun w1 hb => r_good v o hol (hv.keep hb)
  cases hp : progOf (bytesOf s) with
  | none =>
    have HE : Hid (safeD (bytesOf s) p o = (false, 1)) := by show safeD _ _ _ = _; unfold safeD; rw [hp]
    have hk := ref_known_none s p 0 w hm hp
    obtain ⟨ao, ca, rfl, -, -⟩ := hv
    clear hp hm
    go_enter Tryd.func20, Tryd.ntmps20
    go_wp2_with fail
    refine hk.mono ?_
    rintro e w1 ⟨rfl, hb1⟩
    go_wp2_with fail
    go_ret2
    exact ⟨by rw [HE.out]; rfl, hb1⟩
  | some m =>
    have HE : Hid (safeD (bytesOf s) p o = if p < 0 ∨ (m.st.length : Int) ≤ p then (false, 2) else if gdB o = true then (sfD (ovE o) (ovM o) (m.st.getD p.toNat noSt), 0) else (false, 3)) := by show safeD _ _ _ = _; unfold safeD; rw [hp]
    have hk := ref_known_some s p 0 w hm hp
    have HS : Hid (∀ k, StG (m.st.getD k noSt)) := fun k => stg_of hp k
    have HWy : Hid (_ ↔ _) := waysAt_0 m p
    obtain ⟨ao, ca, rfl, -, -⟩ := id hv
    clear hp hm hv
    go_enter Tryd.func20, Tryd.ntmps20
    go_wp2_with fail
    refine hk.mono ?_
    rintro e w1 ⟨hb1, ⟨rfl, hway⟩ | ⟨hway, hl20, r, B, vs, vo, P, Q, O, rfl, hrep⟩⟩
    · have HE2 : Hid (safeD (bytesOf s) p o = (false, 2)) := HE.out.trans (if_pos (HWy.out.1 hway))
      clear HE hway hk
      go_wp2_with fail
      go_ret2
      exact ⟨by rw [HE2.out]; rfl, hb1⟩
    · have hin : ¬ (p < 0 ∨ (m.st.length : Int) ≤ p) := fun z => hway (HWy.out.2 z)
      obtain ⟨k, rfl⟩ : ∃ k : Nat, p = k := ⟨p.toNat, by omega⟩
      have hkl : k < m.st.length := by omega
      have HE2 : Hid (safeD (bytesOf s) k o = if gdB o = true then (sfD (ovE o) (ovM o) (m.st.getD k noSt), 0) else (false, 3)) := HE.out.trans (if_neg hin)
      have hgd := HGd.out w1 hb1
      have HB1 : Hid (Below w.heap.size w w1) := hb1
      by_cases hok : okL o
      · have hsf := r_safe hrep k hkl (HS.out k) _ o hok (HV.out.keep hb1)
        rw [gdB_ok.2 hok] at hgd
        have HE3 : Hid (safeD (bytesOf s) k o = (sfD (ovE o) (ovM o) (m.st.getD k noSt), 0)) := HE2.out.trans (if_pos (gdB_ok.2 hok))
        clear HE HE2 hway hk hin hrep hb1 hok HWy
        generalize sfD (ovE o) (ovM o) (m.st.getD k noSt) = sf at *
        go_wp2_with fail
        refine hgd.mono ?_
        rintro e w2 ⟨rfl, hw2⟩
        subst hw2
        go_wp2_with fail
        refine hsf.mono ?_
        rintro e w3 ⟨rfl, hb3⟩
        go_wp2_with fail
        go_ret2
        exact ⟨by rw [HE3.out]; rfl, HB1.out.trans (hb3.mono HB1.out.size)⟩
      · rw [gdB_no hok] at hgd
        have HE3 : Hid (safeD (bytesOf s) k o = (false, 3)) := HE2.out.trans (if_neg (by rw [gdB_no hok]; decide))
        clear HE HE2 hway hk hin hrep hb1 hok HWy
        go_wp2_with fail
        refine hgd.mono ?_
        rintro e w2 ⟨rfl, hw2⟩
        subst hw2
        go_wp2_with fail
        go_ret2
        exact ⟨by rw [HE3.out]; rfl, HB1.out⟩

end Go.Proofs.YtffjklakdnfeiaaDoor

namespace Go.Proofs.YtffjklakdnfeiaaDoor
open Go.RowKit
variable {w : World}

set_option maxRecDepth 100000 in
set_option maxHeartbeats 1600000 in
theorem safes_walk (hG : Glob w) (s : ByteArray) (p : Int) (v : Value) (L : List Int) (hm : s.size ≤ maxLen) (hL : L.length ≤ maxLen) (hv : Reads w v L) :
    Calls Tryd.prog 6 #[.string s, .int .i64 p, v] w fun e w' => e = .returned (.bool true) ∧ Below w.heap.size w w' := by
  have hL' : L.length ≤ 9223372036854775807 := by unfold maxLen at hL; omega
  clear hL
  by_cases hbig : 1073741824 < L.length
  · obtain ⟨ao, cap, rfl, -, -⟩ := hv
    have hb' : (1073741824 : Int) < (L.length : Int) := by omega
    clear hG hm
    go_enter Tryd.func6, Tryd.ntmps6
    go_wp2_with fail
    go_ret
    exact ⟨rfl, Below.refl _ _⟩
  have hL2 : L.length ≤ 1073741824 := by omega
  have hb' : ¬ (1073741824 : Int) < (L.length : Int) := by omega
  have hlent := l_lent w v L hL2 hv
  have HV : Hid (Reads w v L) := hv
  have HSf : Hid (∀ w1, Below w.heap.size w w1 → At w1 w.heap.size (lentCells L) tN → Calls Tryd.prog 19 #[.string s, .int .i64 p, .slice (some ⟨w.heap.size, 0, none⟩) L.length (L.length + 2)] w1 fun e w' => e = bi (safeD (bytesOf s) p L) ∧ Below w1.heap.size w1 w') := fun w1 hb1 hat => by
    rw [← safe_same]
    exact w_safe (hG.keep hb1 hG.size) s p _ L hm (Reads.lent hat)
  have HRef : Hid (∀ w1, Below w.heap.size w w1 → Calls Tryd.prog 20 #[.string s, .int .i64 p, v] w1 fun e w' => e = bi (safeD (bytesOf s) p L) ∧ Below w1.heap.size w1 w') := fun w1 hb1 => ref_safe s p v L hm hL2 (HV.out.keep hb1)
  obtain ⟨ao, cap, rfl, -, -⟩ := id hv
  clear hv hL' hbig hG hm
  generalize safeD (bytesOf s) p L = x at *
  obtain ⟨y, c⟩ := x
  unfold bi at HSf HRef
  go_enter Tryd.func6, Tryd.ntmps6
  go_wp2_with fail
  refine hlent.mono ?_
  rintro e w1 ⟨rfl, hb1, hat1, hs1⟩
  have HB1 : Hid (Below w.heap.size w w1) := hb1
  have HA1 : Hid (At w1 w.heap.size (lentCells L) tN) := hat1
  clear hb1 hat1 hlent
  go_wp2_with fail
  refine (HSf.out w1 HB1.out HA1.out).mono ?_
  rintro e w2 ⟨rfl, hb2⟩
  have HB2 : Hid (Below w.heap.size w w2) := HB1.out.trans (hb2.mono (by omega))
  have HA2 : Hid (At w2 w.heap.size (lentCells L) tN) := HA1.out.keep hb2 hs1
  have hs2 : w1.heap.size ≤ w2.heap.size := hb2.size
  clear hb2
  go_wp2_with fail
  refine (HRef.out w2 HB2.out).mono ?_
  rintro e w3 ⟨rfl, hb3⟩
  have HB3 : Hid (Below w.heap.size w w3) := HB2.out.trans (hb3.mono (by omega))
  have HA3 : Hid (At w3 w.heap.size (lentCells L) tN) := HA2.out.keep hb3 (by omega)
  have hwh := l_whole w3 w.heap.size (.slice ao L.length cap) L hL2 HA3.out (HV.out.keep HB3.out)
  clear hb3
  go_wp2_with fail
  refine hwh.mono ?_
  rintro e w5 ⟨rfl, k', rfl⟩
  go_wp2_with fail
  go_ret
  exact ⟨rfl, below_drewN HB3.out k'⟩

end Go.Proofs.YtffjklakdnfeiaaDoor

namespace Go.Proofs.YtffjklakdnfeiaaDoor
open Go.ChangeShapes Go.WideShapes Go.ChangeAt Go.WideMaps Go.WideElems Go.RowKit

theorem Tryd.ownD : ownKnob Tryd.prog.godebug = none := by kernel_rfl
theorem gFirst : Tryd.prog.globalNamed "witness/octagon.firstSide" = some 0 := by kernel_rfl
theorem gSecond : Tryd.prog.globalNamed "witness/octagon.secondSide" = some 1 := by kernel_rfl
theorem tFirst : (Tryd.prog.globals[0]?).map (·.type) = some 114 := by kernel_rfl
theorem tSecond : (Tryd.prog.globals[1]?).map (·.type) = some 114 := by kernel_rfl
def laid2 : List (String × DataW Unit) := [("witness/octagon.firstSide", Rows.laid_witness_octagon_firstSide), ("witness/octagon.secondSide", Rows.laid_witness_octagon_secondSide)]

/-- The door's own heap meets the condition. -/
theorem door_met (os : Os) (args : Array Value) : laidMetH Tryd.prog laid2 ((World.doorLaid Tryd.prog 4000 os).forCall (fun _ _ => 0) ⟨#[], args, []⟩).memory :=
  laidMetH_of_parts3 (fuel := 8) (laidMet_of_run' 8 (by kernel_rfl) (by kernel_rfl)) (by kernel_rfl) (by kernel_rfl)

/-- A table's cells, off its datum. -/
theorem tab_cells {H : Type} {enc : TypeId × Value → H} {w : World} {base : Nat} {sp : Nat → Bool} {held : Bool} {fuel : Nat} {cs : Array Value} {L : List Nat} {ps : List MemPlace}
    (hL : L.length = 32) (h : DataW.trod enc Tryd.prog w base sp held fuel 114 cs.toList = some (.agg (L.map fun n => .lit (.int .i64 ((n : Nat) : Int))), ps)) : ∀ i, i < 32 → cs[i]? = some (.int .i64 ((L.getD i 0 : Nat) : Int)) := by
  obtain ⟨xs, m1, rfl, hx1, hlen, hn3, hel⟩ := DataW.trod_array Tryd.underlying114 h
  have c3 : Tryd.prog.cellsOf 3 = 1 := by kernel_rfl
  simp only [Prod.mk.injEq, DataW.agg.injEq] at hx1
  intro i hi
  have h0 := hel i hi
  rw [c3, Nat.mul_one, List.getElem?_eq_getElem (by omega)] at h0
  obtain ⟨k, e1, e2, _⟩ := DataW.trod_int Tryd.underlying3 h0
  have e3 : (L.map fun n => (DataW.lit (.int .i64 ((n : Nat) : Int)) : DataW H))[i]? = (xs.map (·.1))[i]? := by rw [hx1.1]
  rw [List.getElem?_map, List.getElem?_map, List.getElem?_eq_getElem (by omega), List.getElem?_eq_getElem (show i < xs.length by omega)] at e3
  simp only [Option.map_some, Option.some.injEq] at e3
  rw [e2] at e3
  simp only [DataW.lit.injEq, Lit.int.injEq, true_and] at e3
  have e4 : cs.toList[i]? = some (.int .i64 k) := by
    have := congrArg (fun l : List Value => l[0]?) e1
    simpa [List.getElem?_take, List.getElem?_drop] using this
  rw [← Array.getElem?_toList, e4, ← e3]
  simp [List.getD, show i < L.length by omega]

/-- What the condition gives the walks: the two tables. -/
theorem of_laid {W : World} (h : laidMetH Tryd.prog laid2 W) : Glob W := by
  rw [MakeChecks.laidMetH_plain _ _ _ (by kernel_rfl)] at h
  obtain ⟨ps, ⟨g0, t0, cs0, f0, p0, q0, hg0, ht0, hv0, hd0, ⟨g1, t1, cs1, f1, p1, q1, hg1, ht1, hv1, hd1, _, _⟩, _⟩, _, _⟩ := h
  obtain rfl := Option.some.inj (gFirst.symm.trans hg0)
  obtain rfl := Option.some.inj (gSecond.symm.trans hg1)
  obtain rfl := Option.some.inj (tFirst.symm.trans ht0)
  obtain rfl := Option.some.inj (tSecond.symm.trans ht1)
  have a := tab_cells (L := fsL) rfl hd0
  have b := tab_cells (L := ssL) rfl hd1
  have c1 : ∀ f, f < 32 → W.cell? ⟨0, f, none⟩ = some (.int .i64 ((fs f : Nat) : Int)) := fun f hf => (World.var?_cell hg0 hv0 f).trans (a f hf)
  have c2 : ∀ f, f < 32 → W.cell? ⟨1, f, none⟩ = some (.int .i64 ((ss f : Nat) : Int)) := fun f hf => (World.var?_cell hg1 hv1 f).trans (b f hf)
  have := World.block_lt_of_cell? W _ (c2 0 (by omega))
  exact ⟨c1, c2, by have h' : 1 < W.heap.size := this; omega⟩

end Go.Proofs.YtffjklakdnfeiaaDoor

namespace Go.Proofs.YtffjklakdnfeiaaDoor
open Go.ChangeShapes Go.WideShapes Go.ChangeAt Go.WideMaps Go.WideElems Go.RowKit

theorem Tryd.laidOutD : laidOutB Tryd.prog = true := by kernel_rfl
theorem Tryd.cellsD : Tryd.prog.cellsOf 3 = 1 := by kernel_rfl

/-- A slice of numbers that came in. -/
theorem open_reads {H : Type} {enc : TypeId × Value → H} {W : World} {a0 : Option Addr} {len cap : Nat} {d : DataW H} {p : List MemPlace}
    (h : DataW.Trod enc Tryd.prog W 0 (fun _ => true) true 22 (.slice a0 len cap) d p) (hlt : ∀ x ∈ p, x.block < W.heap.size) : ∃ L : List Int, L.length ≤ maxLen ∧ Reads W (.slice a0 len cap) L := by
  obtain ⟨fuel, hf⟩ := h
  rcases open_ints Tryd.underlying22 Tryd.underlying3 Tryd.cellsD hf with ⟨hcs, hx⟩ | ⟨a, len', cap', zs, hcs, _, hl, hm, hz, hx, hcell, hwz⟩
  · simp [Value.cells] at hcs
    obtain ⟨rfl, rfl, rfl⟩ := hcs
    exact ⟨[], Nat.zero_le _, none, 0, rfl, Nat.le_refl _, fun h => absurd rfl h⟩
  · simp [Value.cells] at hcs
    obtain ⟨rfl, rfl, rfl⟩ := hcs
    simp only [Prod.mk.injEq] at hx
    obtain ⟨rfl, rfl⟩ := hx
    simp only [if_true] at hz
    have htl : (zs.take len).length = len := by simp; omega
    refine ⟨zs.take len, by rw [htl]; exact Nat.le_trans hl hm, some a, cap, by rw [htl], by rw [htl]; exact hl, fun hn => ?_⟩
    rw [htl] at hn
    obtain ⟨bb, off, spot⟩ := a
    have hspot : spot = none := by simpa [Addr.add] using World.cell?_spot (hcell 0 (by omega))
    subst hspot
    refine ⟨bb, off, rfl, hlt (.cell bb off) (MemPlace.mem_row.2 ⟨0, by omega, by simp⟩), fun i hi => ?_⟩
    rw [htl] at hi
    rw [← add_plain, hcell i (by omega)]
    congr 2
    simp [List.getD, hi]

end Go.Proofs.YtffjklakdnfeiaaDoor

namespace Go.Proofs.YtffjklakdnfeiaaDoor
open Go.ChangeShapes Go.WideShapes Go.ChangeAt Go.WideMaps Go.WideElems Go.RowKit Go.ChangeMaps

set_option maxRecDepth 100000 in
theorem safes_lifted (os : Os) (started : os.Started) (H : Type) (enc : TypeId × Value → H) :
    ReturnsInHanded {} Tryd.checked os 6 .any (fun w args => (Rows.safesSpec.pre enc Tryd.prog Tryd.f6 [] false w args ∧ laidMetH Tryd.prog laid2 w) ∧ sizedMet enc Tryd.prog Tryd.f6 (OpenSpec.ofChange Rows.safesSpec) false w args)
      (Rows.safesSpec.post enc Tryd.prog Tryd.f6 false true false false) := by
  refine returnsInHanded_of_change_and (C := Tryd.checked) (X := fun w _ => laidMetH Tryd.prog laid2 w) (fun _ _ _ hh h => h.of_heap hh) Tryd.ownD started (by kernel_rfl) Tryd.func6
    (ChangeSpec.witness_shaped (enc := enc) (C := Tryd.checked) (os := os) (X := fun w _ => laidMetH Tryd.prog laid2 w) false (World.doorLaid Tryd.prog 4000 os) #[.string ByteArray.empty, .int .i64 0, .slice none 0 0] 8 rfl (World.shaped_of_RefB (by kernel_rfl) (by kernel_rfl)) (by kernel_rfl) (by kernel_rfl) (by kernel_rfl) (door_met os _)) ?_
  intro W base args ds gs before hval0 hW _ _ hL _
  have hval : ∀ (j : Nat) t v, Tryd.f6.params[j]? = some t → args[j]? = some v → Value.okWide Tryd.prog W .any base t v := hval0
  have hW' := hW
  obtain ⟨p, q, hA0, hV, rfl, hfz, hnd⟩ := hW
  have hA : DataW.TrodAll enc Tryd.prog W 0 (fun _ => true) true Tryd.f6.params.toList args.toList ds p := hA0
  rw [Tryd.params6] at hA hval
  obtain ⟨v0, vs0, d0, ds0, p0, q0, hargs0, rfl, rfl, h0, r0⟩ := trodAll_cons hA
  obtain ⟨v1, vs1, d1, ds1, p1, q1, hargs1, rfl, rfl, h1, r1⟩ := trodAll_cons r0
  obtain ⟨v2, vs2, d2, ds2, p2, q2, hargs2, rfl, rfl, h2, r2⟩ := trodAll_cons r1
  obtain ⟨rfl, rfl, rfl⟩ := trodAll_nil r2
  obtain rfl : args = #[v0, v1, v2] := by cases args; simp_all
  obtain ⟨rfl, rfl⟩ := trodVars_none hV
  obtain ⟨s, rfl, rfl, rfl, hs⟩ := open_string Tryd.underlying9 (hval 0 9 v0 rfl rfl) h0
  obtain ⟨b, rfl, rfl, rfl, wb⟩ := open_int Tryd.underlying3 (hval 1 3 v1 rfl rfl) h1
  obtain ⟨a0, l0, c0, rfl⟩ := okWide_slice Tryd.underlying22 (hval 2 22 v2 rfl rfl)
  clear hA0 hval0
  simp only [List.append_nil, List.nil_append] at hW'
  have lt2 : ∀ x ∈ p2, x.block < W.heap.size := fun x hx => hW'.lt x (by simp [hx])
  obtain ⟨L2, m2, R2⟩ := open_reads h2 lt2
  refine (safes_walk (of_laid hL) s b _ L2 hs m2 R2).mono fun e W' ⟨he, hb⟩ => ?_
  subst he
  have t2 := Below.trod Tryd.laidOutD (by kernel_rfl) (of_decide_eq_true (by kernel_rfl)) h2 hb lt2
  have hall := trodAll_cons_mk (shut_string Tryd.underlying9 hs) (trodAll_cons_mk (shut_int Tryd.underlying3 wb) (trodAll_cons_mk t2 trodAll_mk0))
  simp only [List.append_nil, List.nil_append] at hall
  exact ⟨_, rfl, _, _, _, [], p2, [], hW', trodAll_cons_mk (shut_bool Tryd.underlying4 _) trodAll_mk0, hall, rfl, hb.frame _, fun h => by cases h⟩

theorem safes_row : Rows.SafesSaid :=
  OpenClaim.holds_of_wide 6 Tryd.f6 rfl rfl rfl rfl rfl rfl rfl ⟨rfl, rfl, rfl, rfl, rfl⟩ rfl rfl rfl rfl rfl (by kernel_rfl) Tryd.func6 (by kernel_rfl)
    (of_decide_eq_true (by kernel_rfl)) (by unfold Func.isWrapper; first | (rw [if_pos (by decide +kernel)]; kernel_rfl) | (rw [if_neg (by decide +kernel)]; exact ⟨rfl, rfl⟩))
    (fun os started H enc _ => safes_lifted os started H enc)

theorem safes_card : Rows.SafesCardSaid :=
  Claim7.holds_tied_plain_at .later [] [.data, .data] true Rows.safesCard.stood.harness false
    safes_row (fun _ h => by cases h) (by kernel_rfl) (fun _ h => by cases h) safes_row_tie rfl ⟨rfl, rfl⟩ (by kernel_rfl) rfl
    (fun f fn hf hfn => by
      obtain rfl : f = 6 := Option.some.inj ((show Tryd.prog.funcNamed "witness/witnesslaw.Safes" = some 6 by kernel_rfl).symm.trans hf) |>.symm
      obtain rfl : fn = Tryd.f6 := (Option.some.inj (Tryd.func6.symm.trans hfn)).symm
      exact ⟨by kernel_rfl, fun j t ht => by
        rw [Tryd.params6] at ht
        have hm : t ∈ [9, 3, 22] := by simpa using Array.mem_of_getElem? ht
        have hall : ([9, 3, 22].all fun u => !Tryd.prog.wantsStandIn u) = true := by kernel_rfl
        exact (show Tryd.prog.wantsStandIn t = false by simpa using List.all_eq_true.1 hall t hm)⟩)
    (by kernel_rfl)

end Go.Proofs.YtffjklakdnfeiaaDoor

