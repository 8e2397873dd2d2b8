import Derived.Test.YtffajooegiempabDoorJ23
import Derived.Test.YtffajooegiempabDoorTie
import Derived.Test.YtffajooegiempabDoorCards
import Derived.ProofKit
import Derived.LaidMore
import Derived.OpenShut
import Derived.Stop.Joined
import Derived.ChangeSlices
import Derived.Carry
import Derived.ChangeMaps5
namespace Go.Proofs.YtffajooegiempabDoor
open Go.RowKit
variable {w : World}

def sn0 : ByteArray := ⟨#[]⟩
def sn1 : ByteArray := ⟨#[1, 1, 0]⟩
theorem sn_size : sn0.size = 0 ∧ sn1.size = 3 := ⟨rfl, rfl⟩
theorem sn_dec : decF (bytesOf sn1) = some [some (List.replicate 32 1000000)] := by decide +kernel
theorem sn_prog : (progOf (bytesOf sn0)).isSome = true ∧ (readZ sn0).2 = [] := by decide +kernel
/-- Of a program without a statement a certificate without a bound is taken. -/
theorem nothing_takes {s c : ByteArray} {o : List Int} (h1 : (progOf (bytesOf s)).isSome = true) (h2 : (readZ s).2 = []) (h3 : decF (bytesOf c) = some [some o]) (h4 : staB (some o) = true) : ∀ r, ChkSays s c r → r = (0, 0) := by
  intro r h
  refine h.one ?_
  clear h
  unfold ChkSays
  cases hp : progOf (bytesOf s) with
  | none => rw [hp] at h1; cases h1
  | some m =>
    show CertSays (readZ s).2 (bytesOf c) (0, 0)
    unfold CertSays
    rw [h3, h2]
    simp only
    rw [if_neg (by simp)]
    have ho := (dec_ok (bys c) h3).2.2.2
    have e0 : atL [some o] 0 = some o := rfl
    rw [sta_same (atL_ok ho 0), e0, h4, if_neg (by decide)]
    exact .inl ⟨fun j hj => absurd hj (by simp), rfl⟩
theorem sn_takes : ∀ r, ChkSays sn0 sn1 r → r = (0, 0) := nothing_takes sn_prog.1 sn_prog.2 sn_dec (by decide +kernel)
theorem check_taken (hG : Glob w) {s c : ByteArray} (h0 : ∀ r, ChkSays s c r → r = (0, 0)) (hm : s.size ≤ maxLen) (hc : c.size ≤ maxLen) : Calls Tryd.prog 21 #[.string s, .string c] w fun e w' => e = .returned (.tuple #[.int .i64 0, .int .i64 0]) ∧ Below w.heap.size w w' := by
  refine (w_check hG s c hm hc).mono ?_
  rintro e w' ⟨a, b, rfl, h1, h2⟩
  cases h0 _ h1
  exact ⟨rfl, h2⟩
theorem sn_small : sn0.size ≤ maxLen ∧ sn1.size ≤ maxLen := by
  rw [sn_size.1, sn_size.2]
  unfold maxLen
  omega

set_option maxRecDepth 100000 in
set_option maxHeartbeats 3200000 in
theorem sound_walk (hG : Glob w) (s c : ByteArray) (v : Value) (I : List Int) (steps : Int) (hm : s.size ≤ maxLen) (hc : c.size ≤ maxLen) (hv : Reads w v I) (hI : I.length ≤ maxLen) :
    Calls Tryd.prog 6 #[.string s, .string c, v, .int .i64 steps] w fun e w' => e = .returned (.bool true) ∧ Below w.heap.size w w' := by
  have HF : Hid (∀ w1, Below w.heap.size w w1 → Calls Tryd.prog 21 #[.string sn0, .string sn1] w1 fun e w' => e = .returned (.tuple #[.int .i64 0, .int .i64 0]) ∧ Below w1.heap.size w1 w') := fun w1 hb => check_taken (hG.keep hb hG.size) sn_takes sn_small.1 sn_small.2
  have HC : Hid (∀ w1, Below w.heap.size w w1 → Calls Tryd.prog 21 #[.string s, .string c] w1 (ChkOut w1 s c)) := fun w1 hb => w_check (hG.keep hb hG.size) s c hm hc
  have HRn : Hid (∀ w1, Below w.heap.size w w1 → Calls Tryd.prog 17 #[.string s, v, .int .i64 steps] w1 (RunSaysF w1 (readZ s).2 (bytesOf s) I steps)) := fun w1 hb => d_wrunF s v I steps w1 hm (hv.keep hb) (by unfold maxLen at hI; omega)
  have HP : Hid (∀ b, ChkSays s c (0, b) → progOf (bytesOf s) ≠ none ∧ ((finP (readZ s).2 I steps).st = 0 ∨ (finP (readZ s).2 I steps).st = 1)) := fun b h => by
    obtain ⟨m, L, hp, _⟩ := chk_ok h
    have h160 := (progOf_some hp).1
    have := bytesOf_len s
    exact ⟨by rw [hp]; exact (fun z => by cases z), sound_of h (by omega) I steps⟩
  obtain ⟨va, vc, rfl, -, -⟩ := id hv
  clear hG hm hc hv hI
  go_enter Tryd.func6, Tryd.ntmps6
  go_wp2_with fail
  refine (HF.out w (Below.refl _ _)).mono ?_
  rintro e w1 ⟨rfl, hb1⟩
  have H1 : Hid (Below w.heap.size w w1) := hb1
  clear hb1
  go_wp2_with fail
  refine (HC.out w1 H1.out).mono ?_
  rintro e w2 ⟨a, b, rfl, h2, hb2⟩
  have H2 : Hid (Below w.heap.size w w2 ∧ ChkSays s c (a, b)) := ⟨H1.out.trans (hb2.mono H1.out.size), h2⟩
  clear hb2 h2
  by_cases ha : a = 0
  · subst ha
    obtain ⟨hne, hst⟩ := HP.out b H2.out.2
    go_wp2_with fail
    refine (HRn.out w2 H2.out.1).mono ?_
    rintro e w3 ⟨hb3, ⟨hn, -⟩ | ⟨m, -, -, -, g, cc, rfl, -⟩⟩
    · exact absurd hn hne
    · have H3 : Hid (Below w.heap.size w w3) := H2.out.1.trans (hb3.mono H2.out.1.size)
      clear hb3 hne
      rcases hst with hst | hst
      · rw [hst]
        clear hst
        go_wp2_with fail
        go_ret
        exact ⟨rfl, H3.out⟩
      · rw [hst]
        clear hst
        go_wp2_with fail
        go_ret
        exact ⟨rfl, H3.out⟩
  · go_wp2_with fail
    go_ret
    exact ⟨rfl, H2.out.1⟩

end Go.Proofs.YtffajooegiempabDoor

namespace Go.Proofs.YtffajooegiempabDoor
open Go.ChangeShapes Go.WideShapes Go.ChangeAt Go.WideMaps Go.WideElems Go.RowKit

theorem Tryd.ownD : ownKnob Tryd.prog.godebug = none := by kernel_rfl
theorem gFirst : Tryd.prog.globalNamed "witness/octagon.firstSide" = some 0 := by kernel_rfl
theorem gSecond : Tryd.prog.globalNamed "witness/octagon.secondSide" = some 1 := by kernel_rfl
theorem tFirst : (Tryd.prog.globals[0]?).map (·.type) = some 111 := by kernel_rfl
theorem tSecond : (Tryd.prog.globals[1]?).map (·.type) = some 111 := by kernel_rfl
def laid2 : List (String × DataW Unit) := [("witness/octagon.firstSide", Rows.laid_witness_octagon_firstSide), ("witness/octagon.secondSide", Rows.laid_witness_octagon_secondSide)]

/-- The door's own heap meets the condition. -/
theorem door_met (os : Os) (args : Array Value) : laidMetH Tryd.prog laid2 ((World.doorLaid Tryd.prog 4000 os).forCall (fun _ _ => 0) ⟨#[], args, []⟩).memory :=
  laidMetH_of_parts3 (fuel := 8) (laidMet_of_run' 8 (by kernel_rfl) (by kernel_rfl)) (by kernel_rfl) (by kernel_rfl)

/-- A table's cells, off its datum. -/
theorem tab_cells {H : Type} {enc : TypeId × Value → H} {w : World} {base : Nat} {sp : Nat → Bool} {held : Bool} {fuel : Nat} {cs : Array Value} {L : List Nat} {ps : List MemPlace}
    (hL : L.length = 32) (h : DataW.trod enc Tryd.prog w base sp held fuel 111 cs.toList = some (.agg (L.map fun n => .lit (.int .i64 ((n : Nat) : Int))), ps)) : ∀ i, i < 32 → cs[i]? = some (.int .i64 ((L.getD i 0 : Nat) : Int)) := by
  obtain ⟨xs, m1, rfl, hx1, hlen, hn3, hel⟩ := DataW.trod_array Tryd.underlying111 h
  have c3 : Tryd.prog.cellsOf 3 = 1 := by kernel_rfl
  simp only [Prod.mk.injEq, DataW.agg.injEq] at hx1
  intro i hi
  have h0 := hel i hi
  rw [c3, Nat.mul_one, List.getElem?_eq_getElem (by omega)] at h0
  obtain ⟨k, e1, e2, _⟩ := DataW.trod_int Tryd.underlying3 h0
  have e3 : (L.map fun n => (DataW.lit (.int .i64 ((n : Nat) : Int)) : DataW H))[i]? = (xs.map (·.1))[i]? := by rw [hx1.1]
  rw [List.getElem?_map, List.getElem?_map, List.getElem?_eq_getElem (by omega), List.getElem?_eq_getElem (show i < xs.length by omega)] at e3
  simp only [Option.map_some, Option.some.injEq] at e3
  rw [e2] at e3
  simp only [DataW.lit.injEq, Lit.int.injEq, true_and] at e3
  have e4 : cs.toList[i]? = some (.int .i64 k) := by
    have := congrArg (fun l : List Value => l[0]?) e1
    simpa [List.getElem?_take, List.getElem?_drop] using this
  rw [← Array.getElem?_toList, e4, ← e3]
  simp [List.getD, show i < L.length by omega]

/-- What the condition gives the walks: the two tables. -/
theorem of_laid {W : World} (h : laidMetH Tryd.prog laid2 W) : Glob W := by
  rw [MakeChecks.laidMetH_plain _ _ _ (by kernel_rfl)] at h
  obtain ⟨ps, ⟨g0, t0, cs0, f0, p0, q0, hg0, ht0, hv0, hd0, ⟨g1, t1, cs1, f1, p1, q1, hg1, ht1, hv1, hd1, _, _⟩, _⟩, _, _⟩ := h
  obtain rfl := Option.some.inj (gFirst.symm.trans hg0)
  obtain rfl := Option.some.inj (gSecond.symm.trans hg1)
  obtain rfl := Option.some.inj (tFirst.symm.trans ht0)
  obtain rfl := Option.some.inj (tSecond.symm.trans ht1)
  have a := tab_cells (L := fsL) rfl hd0
  have b := tab_cells (L := ssL) rfl hd1
  have c1 : ∀ f, f < 32 → W.cell? ⟨0, f, none⟩ = some (.int .i64 ((fs f : Nat) : Int)) := fun f hf => (World.var?_cell hg0 hv0 f).trans (a f hf)
  have c2 : ∀ f, f < 32 → W.cell? ⟨1, f, none⟩ = some (.int .i64 ((ss f : Nat) : Int)) := fun f hf => (World.var?_cell hg1 hv1 f).trans (b f hf)
  have := World.block_lt_of_cell? W _ (c2 0 (by omega))
  exact ⟨c1, c2, by have h' : 1 < W.heap.size := this; omega⟩

end Go.Proofs.YtffajooegiempabDoor

namespace Go.Proofs.YtffajooegiempabDoor
open Go.ChangeShapes Go.WideShapes Go.ChangeAt Go.WideMaps Go.WideElems Go.RowKit

theorem Tryd.laidOutD : laidOutB Tryd.prog = true := by kernel_rfl
theorem Tryd.cellsD : Tryd.prog.cellsOf 3 = 1 := by kernel_rfl

/-- A slice of numbers that came in. -/
theorem open_reads {H : Type} {enc : TypeId × Value → H} {W : World} {a0 : Option Addr} {len cap : Nat} {d : DataW H} {p : List MemPlace}
    (h : DataW.Trod enc Tryd.prog W 0 (fun _ => true) true 22 (.slice a0 len cap) d p) (hlt : ∀ x ∈ p, x.block < W.heap.size) : ∃ L : List Int, L.length ≤ maxLen ∧ Reads W (.slice a0 len cap) L := by
  obtain ⟨fuel, hf⟩ := h
  rcases open_ints Tryd.underlying22 Tryd.underlying3 Tryd.cellsD hf with ⟨hcs, hx⟩ | ⟨a, len', cap', zs, hcs, _, hl, hm, hz, hx, hcell, hwz⟩
  · simp [Value.cells] at hcs
    obtain ⟨rfl, rfl, rfl⟩ := hcs
    exact ⟨[], Nat.zero_le _, none, 0, rfl, Nat.le_refl _, fun h => absurd rfl h⟩
  · simp [Value.cells] at hcs
    obtain ⟨rfl, rfl, rfl⟩ := hcs
    simp only [Prod.mk.injEq] at hx
    obtain ⟨rfl, rfl⟩ := hx
    simp only [if_true] at hz
    have htl : (zs.take len).length = len := by simp; omega
    refine ⟨zs.take len, by rw [htl]; exact Nat.le_trans hl hm, some a, cap, by rw [htl], by rw [htl]; exact hl, fun hn => ?_⟩
    rw [htl] at hn
    obtain ⟨bb, off, spot⟩ := a
    have hspot : spot = none := by simpa [Addr.add] using World.cell?_spot (hcell 0 (by omega))
    subst hspot
    refine ⟨bb, off, rfl, hlt (.cell bb off) (MemPlace.mem_row.2 ⟨0, by omega, by simp⟩), fun i hi => ?_⟩
    rw [htl] at hi
    rw [← add_plain, hcell i (by omega)]
    congr 2
    simp [List.getD, hi]

end Go.Proofs.YtffajooegiempabDoor

namespace Go.Proofs.YtffajooegiempabDoor
open Go.ChangeShapes Go.WideShapes Go.ChangeAt Go.WideMaps Go.WideElems Go.RowKit Go.ChangeMaps

set_option maxRecDepth 100000 in
theorem sound_lifted (os : Os) (started : os.Started) (H : Type) (enc : TypeId × Value → H) :
    ReturnsInHanded {} Tryd.checked os 6 .any (fun w args => (Rows.soundSpec.pre enc Tryd.prog Tryd.f6 [] false w args ∧ laidMetH Tryd.prog laid2 w) ∧ sizedMet enc Tryd.prog Tryd.f6 (OpenSpec.ofChange Rows.soundSpec) false w args)
      (Rows.soundSpec.post enc Tryd.prog Tryd.f6 false true false false) := by
  refine returnsInHanded_of_change_and (C := Tryd.checked) (X := fun w _ => laidMetH Tryd.prog laid2 w) (fun _ _ _ hh h => h.of_heap hh) Tryd.ownD started (by kernel_rfl) Tryd.func6
    (ChangeSpec.witness_shaped (enc := enc) (C := Tryd.checked) (os := os) (X := fun w _ => laidMetH Tryd.prog laid2 w) false (World.doorLaid Tryd.prog 4000 os) #[.string ByteArray.empty, .string ByteArray.empty, .slice none 0 0, .int .i64 0] 8 rfl (World.shaped_of_RefB (by kernel_rfl) (by kernel_rfl)) (by kernel_rfl) (by kernel_rfl) (by kernel_rfl) (door_met os _)) ?_
  intro W base args ds gs before hval0 hW _ _ hL _
  have hval : ∀ (j : Nat) t v, Tryd.f6.params[j]? = some t → args[j]? = some v → Value.okWide Tryd.prog W .any base t v := hval0
  have hW' := hW
  obtain ⟨p, q, hA0, hV, rfl, hfz, hnd⟩ := hW
  have hA : DataW.TrodAll enc Tryd.prog W 0 (fun _ => true) true Tryd.f6.params.toList args.toList ds p := hA0
  rw [Tryd.params6] at hA hval
  obtain ⟨v0, vs0, d0, ds0, p0, q0, hargs0, rfl, rfl, h0, r0⟩ := trodAll_cons hA
  obtain ⟨v1, vs1, d1, ds1, p1, q1, hargs1, rfl, rfl, h1, r1⟩ := trodAll_cons r0
  obtain ⟨v2, vs2, d2, ds2, p2, q2, hargs2, rfl, rfl, h2, r2⟩ := trodAll_cons r1
  obtain ⟨v3, vs3, d3, ds3, p3, q3, hargs3, rfl, rfl, h3, r3⟩ := trodAll_cons r2
  obtain ⟨rfl, rfl, rfl⟩ := trodAll_nil r3
  obtain rfl : args = #[v0, v1, v2, v3] := by cases args; simp_all
  obtain ⟨rfl, rfl⟩ := trodVars_none hV
  obtain ⟨s, rfl, rfl, rfl, hs⟩ := open_string Tryd.underlying9 (hval 0 9 v0 rfl rfl) h0
  obtain ⟨c, rfl, rfl, rfl, hc⟩ := open_string Tryd.underlying9 (hval 1 9 v1 rfl rfl) h1
  obtain ⟨b, rfl, rfl, rfl, wb⟩ := open_int Tryd.underlying3 (hval 3 3 v3 rfl rfl) h3
  obtain ⟨a0, l0, c0, rfl⟩ := okWide_slice Tryd.underlying22 (hval 2 22 v2 rfl rfl)
  clear hA0 hval0
  simp only [List.append_nil, List.nil_append] at hW'
  have lt2 : ∀ x ∈ p2, x.block < W.heap.size := fun x hx => hW'.lt x (by simp [hx])
  obtain ⟨L2, m2, R2⟩ := open_reads h2 lt2
  refine (sound_walk (of_laid hL) s c _ L2 b hs hc R2 m2).mono fun e W' ⟨he, hb⟩ => ?_
  subst he
  have t2 := Below.trod Tryd.laidOutD (by kernel_rfl) (of_decide_eq_true (by kernel_rfl)) h2 hb lt2
  have hall := trodAll_cons_mk (shut_string Tryd.underlying9 hs) (trodAll_cons_mk (shut_string Tryd.underlying9 hc) (trodAll_cons_mk t2 (trodAll_cons_mk (shut_int Tryd.underlying3 wb) trodAll_mk0)))
  simp only [List.append_nil, List.nil_append] at hall
  exact ⟨_, rfl, _, _, _, [], p2, [], hW', trodAll_cons_mk (shut_bool Tryd.underlying4 _) trodAll_mk0, hall, rfl, hb.frame _, fun h => by cases h⟩

theorem sound_row : Rows.SoundSaid :=
  OpenClaim.holds_of_wide 6 Tryd.f6 rfl rfl rfl rfl rfl rfl rfl ⟨rfl, rfl, rfl, rfl, rfl⟩ rfl rfl rfl rfl rfl (by kernel_rfl) Tryd.func6 (by kernel_rfl)
    (of_decide_eq_true (by kernel_rfl)) (by unfold Func.isWrapper; first | (rw [if_pos (by decide +kernel)]; kernel_rfl) | (rw [if_neg (by decide +kernel)]; exact ⟨rfl, rfl⟩))
    (fun os started H enc _ => sound_lifted os started H enc)

theorem sound_card : Rows.SoundCardSaid :=
  Claim7.holds_tied_plain_at .later [] [.data, .data] true Rows.soundCard.stood.harness false
    sound_row (fun _ h => by cases h) (by kernel_rfl) (fun _ h => by cases h) sound_row_tie rfl ⟨rfl, rfl⟩ (by kernel_rfl) rfl
    (fun f fn hf hfn => by
      obtain rfl : f = 6 := Option.some.inj ((show Tryd.prog.funcNamed "witness/witnesskeep.Sound" = some 6 by kernel_rfl).symm.trans hf) |>.symm
      obtain rfl : fn = Tryd.f6 := (Option.some.inj (Tryd.func6.symm.trans hfn)).symm
      exact ⟨by kernel_rfl, fun j t ht => by
        rw [Tryd.params6] at ht
        have hm : t ∈ [9, 9, 22, 3] := by simpa using Array.mem_of_getElem? ht
        have hall : ([9, 9, 22, 3].all fun u => !Tryd.prog.wantsStandIn u) = true := by kernel_rfl
        exact (show Tryd.prog.wantsStandIn t = false by simpa using List.all_eq_true.1 hall t hm)⟩)
    (by kernel_rfl)

end Go.Proofs.YtffajooegiempabDoor

