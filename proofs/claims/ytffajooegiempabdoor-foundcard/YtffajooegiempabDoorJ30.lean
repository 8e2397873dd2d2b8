import Derived.Test.YtffajooegiempabDoorJ29
import Derived.Test.YtffajooegiempabDoorTie
import Derived.Test.YtffajooegiempabDoorCards
import Derived.ProofKit
import Derived.LaidMore
import Derived.OpenShut
import Derived.Stop.Joined
import Derived.ChangeSlices
import Derived.Carry
import Derived.ChangeMaps5
namespace Go.Proofs.YtffajooegiempabDoor
open Go.RowKit
variable {w : World}

/-- Where the rounds end earlier. -/
theorem it_early (F : List Ds) : ∀ (m d : Nat) (s : SS), (itS F m s).2 = false → itS F (m + d) s = itS F m s
  | 0, d, s, h => it_stop F _ h
  | m + 1, d, s, h => by
    rw [show m + 1 + d = (m + d) + 1 by omega]
    by_cases q : s.2 = true
    · rw [itS, if_pos q] at h
      rw [itS, if_pos q, itS, if_pos q]
      exact it_early F m d _ h
    · rw [itS, if_neg q, itS, if_neg q]
def stopB (s : ByteArray) (m : Nat) : Bool := !(itS (readZ s).2 m (begS (readZ s).2.length)).2
def lstM (s : ByteArray) (m : Nat) : List (Option (List Int)) := (itS (readZ s).2 m (begS (readZ s).2.length)).1.map lsP
def chkB (s : ByteArray) (m : Nat) : Bool := staB ((lstM s m).getD 0 none) && (List.range (readZ s).2.length).all fun k => decide (chkP (readZ s).2 (lstM s m) k = 0)
theorem lst_early {s : ByteArray} {m : Nat} (hm : m ≤ 2685334) (h1 : stopB s m = true) : lstF (readZ s).2 = lstM s m := by
  have h2 : (itS (readZ s).2 m (begS (readZ s).2.length)).2 = false := by
    unfold stopB at h1
    simpa using h1
  have := it_early (readZ s).2 m (2685334 - m) _ h2
  rw [show m + (2685334 - m) = 2685334 by omega] at this
  unfold lstF lstM finS
  rw [this]
/-- What the search finds is taken, if it is looked at so far. -/
theorem an_ok {s : ByteArray} {m : Nat} (hm : m ≤ 2685334) (hs : (progOf (bytesOf s)).isSome = true) (h1 : stopB s m = true) (h2 : chkB s m = true) : ∀ r, CertSays (readZ s).2 (bytesOf (crtF (readZ s).2)) r → r = (0, 0) := by
  intro r h
  refine h.one ?_
  cases hp : progOf (bytesOf s) with
  | none => rw [hp] at hs; cases hs
  | some mm =>
    have h160 := (progOf_some hp).1
    have hbl := bytesOf_len s
    have hlen : (readZ s).2.length ≤ 20 := (rStmts_goes s 22 (-1) 0 0 ((0, false), []) ⟨Nat.zero_le _, Nat.zero_le _⟩).ok.len
    have hW : Whole (readZ s).2 mm.st := by
      rcases prog_whole s (by omega) with ⟨_, hn⟩ | ⟨m', _, hp', hW⟩
      · rw [hp] at hn; cases hn
      · rw [hp] at hp'; cases hp'; exact hW
    have hD : ∀ k, k < (readZ s).2.length → DQ ((readZ s).2.getD k (newDs 0 0)) := fun k hk => dq_of hp hW hk
    have hok := lst_okp hD
    have hdec := crt_dec hD hlen
    have hl := lst_len (readZ s).2
    unfold CertSays
    rw [hdec]
    show (if (lstF (readZ s).2).length ≠ (readZ s).2.length + 1 then ((0 : Int), (0 : Int)) = (4, 0) else _)
    rw [if_neg (by omega)]
    unfold chkB at h2
    rw [Bool.and_eq_true, ← lst_early hm h1] at h2
    have e0 : atL (lstF (readZ s).2) 0 = (lstF (readZ s).2).getD 0 none := rfl
    rw [sta_same (atL_ok hok 0), e0, h2.1, if_neg (by decide)]
    refine .inl ⟨fun j hj => ?_, rfl⟩
    exact of_decide_eq_true (List.all_eq_true.1 h2.2 j (by simpa using hj))
theorem crt_ne (F : List Ds) (hx : ∀ k, k < F.length → DQ (F.getD k (newDs 0 0))) (hl : F.length ≤ 20) : crtF F ≠ ⟨#[]⟩ := by
  intro h
  have h1 := crt_bytes hx hl
  rw [h] at h1
  have h2 : bytesOf ⟨#[]⟩ = [] := rfl
  rw [h2] at h1
  unfold encB at h1
  cases h1
theorem ba_eq (a b : ByteArray) : (a.toList == b.toList) = true ↔ a = b := by
  rw [ByteArray.toList_eq, ByteArray.toList_eq]
  obtain ⟨⟨x⟩⟩ := a
  obtain ⟨⟨y⟩⟩ := b
  simp
theorem ba_ne {a : ByteArray} (h : a ≠ ⟨#[]⟩) : a.toList.isEmpty = false := by
  cases e : a.toList.isEmpty with
  | false => rfl
  | true =>
    refine absurd ((ba_eq a ⟨#[]⟩).1 ?_) h
    rw [List.isEmpty_iff.1 e, ByteArray.toList_eq]
    rfl
def fd1 : ByteArray := ⟨#[97, 61, 49, 59, 33, 97, 60, 61, 49, 59]⟩
theorem fd1_ok : ∀ r, CertSays (readZ fd1).2 (bytesOf (crtF (readZ fd1).2)) r → r = (0, 0) := an_ok (m := 2) (by decide) (by decide +kernel) (by decide +kernel) (by decide +kernel)
theorem fd1_size : fd1.size ≤ maxLen := by
  have : fd1.size = 10 := rfl
  rw [this]; unfold maxLen; omega
/-- What Analyze says where what it finds is taken. -/
theorem an_taken (hG : Glob w) {s : ByteArray} (hm : s.size ≤ maxLen) (hs : progOf (bytesOf s) ≠ none) (h : ∀ r, CertSays (readZ s).2 (bytesOf (crtF (readZ s).2)) r → r = (0, 0)) :
    Calls Tryd.prog 22 #[.string s] w fun e w' => e = .returned (.tuple #[.string (crtF (readZ s).2), .int .i64 0]) ∧ Below w.heap.size w w' := by
  refine (w_analyze hG s hm).mono ?_
  rintro e w' ⟨hb, ⟨h1, -⟩ | ⟨-, a, b, h2, ⟨-, rfl⟩ | ⟨h3, -⟩⟩⟩
  · exact absurd h1 hs
  · exact ⟨rfl, hb⟩
  · exact absurd (congrArg Prod.fst (h _ h2)) h3
theorem fd1_prog : progOf (bytesOf fd1) ≠ none := by
  have : (progOf (bytesOf fd1)).isSome = true := by decide +kernel
  intro h
  rw [h] at this
  cases this
/-- A program that is read: its certificate is not empty. -/
theorem crt_not {s : ByteArray} (hs : progOf (bytesOf s) ≠ none) : crtF (readZ s).2 ≠ ⟨#[]⟩ := by
  cases hp : progOf (bytesOf s) with
  | none => exact absurd hp hs
  | some mm =>
    have h160 := (progOf_some hp).1
    have hbl := bytesOf_len s
    have hlen : (readZ s).2.length ≤ 20 := (rStmts_goes s 22 (-1) 0 0 ((0, false), []) ⟨Nat.zero_le _, Nat.zero_le _⟩).ok.len
    rcases prog_whole s (by omega) with ⟨_, hn⟩ | ⟨m', _, hp', hW⟩
    · rw [hp] at hn; cases hn
    · exact crt_ne _ (fun k hk => dq_of hp' hW hk) hlen
theorem crt_le {s : ByteArray} (hs : progOf (bytesOf s) ≠ none) : (crtF (readZ s).2).size ≤ maxLen := by
  cases hp : progOf (bytesOf s) with
  | none => exact absurd hp hs
  | some mm =>
    have h160 := (progOf_some hp).1
    have hbl := bytesOf_len s
    have hlen : (readZ s).2.length ≤ 20 := (rStmts_goes s 22 (-1) 0 0 ((0, false), []) ⟨Nat.zero_le _, Nat.zero_le _⟩).ok.len
    rcases prog_whole s (by omega) with ⟨_, hn⟩ | ⟨m', _, hp', hW⟩
    · rw [hp] at hn; cases hn
    · have := crt_small (fun k hk => dq_of hp' hW hk) hlen
      unfold maxLen
      omega

set_option maxRecDepth 100000 in
set_option maxHeartbeats 3200000 in
theorem found_walk (hG : Glob w) (s : ByteArray) (v : Value) (I : List Int) (steps : Int) (hm : s.size ≤ maxLen) (hv : Reads w v I) (hI : I.length ≤ maxLen) :
    Calls Tryd.prog 7 #[.string s, v, .int .i64 steps] w fun e w' => e = .returned (.bool true) ∧ Below w.heap.size w w' := by
  obtain ⟨c1, hc1⟩ : ∃ c1, c1 = crtF (readZ fd1).2 := ⟨_, rfl⟩
  have HA1 : Hid (∀ w1, Below w.heap.size w w1 → Calls Tryd.prog 22 #[.string fd1] w1 fun e w' => e = .returned (.tuple #[.string c1, .int .i64 0]) ∧ Below w1.heap.size w1 w') := fun w1 hb => by
    rw [hc1]
    exact an_taken (hG.keep hb hG.size) fd1_size fd1_prog fd1_ok
  have hn1 : c1.toList.isEmpty = false := by rw [hc1]; exact ba_ne (crt_not fd1_prog)
  clear hc1
  have HA2 : Hid (∀ w1, Below w.heap.size w w1 → Calls Tryd.prog 22 #[.string s] w1 (AnOut w1 s)) := fun w1 hb => w_analyze (hG.keep hb hG.size) s hm
  have HCk : Hid (∀ w1, Below w.heap.size w w1 → progOf (bytesOf s) ≠ none → Calls Tryd.prog 21 #[.string s, .string (crtF (readZ s).2)] w1 (ChkOut w1 s (crtF (readZ s).2))) := fun w1 hb hs => w_check (hG.keep hb hG.size) s _ hm (crt_le hs)
  have HRn : Hid (∀ w1, Below w.heap.size w w1 → Calls Tryd.prog 17 #[.string s, v, .int .i64 steps] w1 (RunSaysF w1 (readZ s).2 (bytesOf s) I steps)) := fun w1 hb => d_wrunF s v I steps w1 hm (hv.keep hb) (by unfold maxLen at hI; omega)
  have HTk : Hid (∀ b r, progOf (bytesOf s) ≠ none → CertSays (readZ s).2 (bytesOf (crtF (readZ s).2)) (0, b) → ChkSays s (crtF (readZ s).2) r → r.1 = 0 ∧ ((finP (readZ s).2 I steps).st = 0 ∨ (finP (readZ s).2 I steps).st = 1)) := fun b r hs h1 h2 => by
    have h3 : ChkSays s (crtF (readZ s).2) (0, b) := by
      unfold ChkSays
      cases hp : progOf (bytesOf s) with
      | none => exact absurd hp hs
      | some m => exact h1
    have h4 := h2.one h3
    obtain ⟨m, L, hp, _⟩ := chk_ok h3
    have h160 := (progOf_some hp).1
    have := bytesOf_len s
    exact ⟨by rw [h4], sound_of h3 (by omega) I steps⟩
  have HNe : Hid (progOf (bytesOf s) ≠ none → (crtF (readZ s).2).toList.isEmpty = false) := fun hs => ba_ne (crt_not hs)
  obtain ⟨va, vc, rfl, -, -⟩ := id hv
  clear hG hm hv hI
  go_enter Tryd.func7, Tryd.ntmps7
  go_wp2_with fail
  refine (HA1.out w (Below.refl _ _)).mono ?_
  rintro e w1 ⟨rfl, hb1⟩
  have H1 : Hid (Below w.heap.size w w1) := hb1
  clear hb1
  go_wp2_with fail
  refine (HA2.out w1 H1.out).mono ?_
  rintro e w2 ⟨hb2, ⟨-, rfl⟩ | ⟨hs, a, b, hsay, ⟨ha, rfl⟩ | ⟨-, rfl⟩⟩⟩
  · have H2 : Hid (Below w.heap.size w w2) := H1.out.trans (hb2.mono H1.out.size)
    clear hb2
    go_wp2_with fail
    go_ret
    exact ⟨rfl, H2.out⟩
  · have H2 : Hid (Below w.heap.size w w2 ∧ progOf (bytesOf s) ≠ none ∧ CertSays (readZ s).2 (bytesOf (crtF (readZ s).2)) (0, b)) := ⟨H1.out.trans (hb2.mono H1.out.size), hs, by rw [← ha]; exact hsay⟩
    have hne := HNe.out hs
    have hck := HCk.out w2 H2.out.1 hs
    have HTk2 : Hid (∀ r, ChkSays s (crtF (readZ s).2) r → r.1 = 0 ∧ ((finP (readZ s).2 I steps).st = 0 ∨ (finP (readZ s).2 I steps).st = 1)) := fun r => HTk.out b r hs H2.out.2.2
    clear hb2 hs hsay ha HNe HCk HTk
    generalize crtF (readZ s).2 = c2 at *
    go_wp2_with fail
    refine hck.mono ?_
    rintro e w3 ⟨x, y, rfl, h3, hb3⟩
    obtain ⟨hx, hst⟩ := HTk2.out _ h3
    have hx0 : x = 0 := hx
    subst hx0
    have H3 : Hid (Below w.heap.size w w3) := H2.out.1.trans (hb3.mono H2.out.1.size)
    clear hb3 h3 hx hck
    go_wp2_with fail
    refine (HRn.out w3 H3.out).mono ?_
    rintro e w4 ⟨hb4, ⟨hn, -⟩ | ⟨m, -, -, -, g, cc, rfl, -⟩⟩
    · exact absurd hn H2.out.2.1
    · have H4 : Hid (Below w.heap.size w w4) := H3.out.trans (hb4.mono H3.out.size)
      clear hb4
      rcases hst with hst | hst
      · rw [hst]
        clear hst
        go_wp2_with fail
        go_ret
        exact ⟨rfl, H4.out⟩
      · rw [hst]
        clear hst
        go_wp2_with fail
        go_ret
        exact ⟨rfl, H4.out⟩
  · have H2 : Hid (Below w.heap.size w w2) := H1.out.trans (hb2.mono H1.out.size)
    clear hb2
    go_wp2_with fail
    go_ret
    exact ⟨rfl, H2.out⟩

end Go.Proofs.YtffajooegiempabDoor

namespace Go.Proofs.YtffajooegiempabDoor
open Go.ChangeShapes Go.WideShapes Go.ChangeAt Go.WideMaps Go.WideElems Go.RowKit

theorem Tryd.ownD : ownKnob Tryd.prog.godebug = none := by kernel_rfl
theorem gFirst : Tryd.prog.globalNamed "witness/octagon.firstSide" = some 0 := by kernel_rfl
theorem gSecond : Tryd.prog.globalNamed "witness/octagon.secondSide" = some 1 := by kernel_rfl
theorem tFirst : (Tryd.prog.globals[0]?).map (·.type) = some 111 := by kernel_rfl
theorem tSecond : (Tryd.prog.globals[1]?).map (·.type) = some 111 := by kernel_rfl
def laid2 : List (String × DataW Unit) := [("witness/octagon.firstSide", Rows.laid_witness_octagon_firstSide), ("witness/octagon.secondSide", Rows.laid_witness_octagon_secondSide)]

/-- The door's own heap meets the condition. -/
theorem door_met (os : Os) (args : Array Value) : laidMetH Tryd.prog laid2 ((World.doorLaid Tryd.prog 4000 os).forCall (fun _ _ => 0) ⟨#[], args, []⟩).memory :=
  laidMetH_of_parts3 (fuel := 8) (laidMet_of_run' 8 (by kernel_rfl) (by kernel_rfl)) (by kernel_rfl) (by kernel_rfl)

/-- A table's cells, off its datum. -/
theorem tab_cells {H : Type} {enc : TypeId × Value → H} {w : World} {base : Nat} {sp : Nat → Bool} {held : Bool} {fuel : Nat} {cs : Array Value} {L : List Nat} {ps : List MemPlace}
    (hL : L.length = 32) (h : DataW.trod enc Tryd.prog w base sp held fuel 111 cs.toList = some (.agg (L.map fun n => .lit (.int .i64 ((n : Nat) : Int))), ps)) : ∀ i, i < 32 → cs[i]? = some (.int .i64 ((L.getD i 0 : Nat) : Int)) := by
  obtain ⟨xs, m1, rfl, hx1, hlen, hn3, hel⟩ := DataW.trod_array Tryd.underlying111 h
  have c3 : Tryd.prog.cellsOf 3 = 1 := by kernel_rfl
  simp only [Prod.mk.injEq, DataW.agg.injEq] at hx1
  intro i hi
  have h0 := hel i hi
  rw [c3, Nat.mul_one, List.getElem?_eq_getElem (by omega)] at h0
  obtain ⟨k, e1, e2, _⟩ := DataW.trod_int Tryd.underlying3 h0
  have e3 : (L.map fun n => (DataW.lit (.int .i64 ((n : Nat) : Int)) : DataW H))[i]? = (xs.map (·.1))[i]? := by rw [hx1.1]
  rw [List.getElem?_map, List.getElem?_map, List.getElem?_eq_getElem (by omega), List.getElem?_eq_getElem (show i < xs.length by omega)] at e3
  simp only [Option.map_some, Option.some.injEq] at e3
  rw [e2] at e3
  simp only [DataW.lit.injEq, Lit.int.injEq, true_and] at e3
  have e4 : cs.toList[i]? = some (.int .i64 k) := by
    have := congrArg (fun l : List Value => l[0]?) e1
    simpa [List.getElem?_take, List.getElem?_drop] using this
  rw [← Array.getElem?_toList, e4, ← e3]
  simp [List.getD, show i < L.length by omega]

/-- What the condition gives the walks: the two tables. -/
theorem of_laid {W : World} (h : laidMetH Tryd.prog laid2 W) : Glob W := by
  rw [MakeChecks.laidMetH_plain _ _ _ (by kernel_rfl)] at h
  obtain ⟨ps, ⟨g0, t0, cs0, f0, p0, q0, hg0, ht0, hv0, hd0, ⟨g1, t1, cs1, f1, p1, q1, hg1, ht1, hv1, hd1, _, _⟩, _⟩, _, _⟩ := h
  obtain rfl := Option.some.inj (gFirst.symm.trans hg0)
  obtain rfl := Option.some.inj (gSecond.symm.trans hg1)
  obtain rfl := Option.some.inj (tFirst.symm.trans ht0)
  obtain rfl := Option.some.inj (tSecond.symm.trans ht1)
  have a := tab_cells (L := fsL) rfl hd0
  have b := tab_cells (L := ssL) rfl hd1
  have c1 : ∀ f, f < 32 → W.cell? ⟨0, f, none⟩ = some (.int .i64 ((fs f : Nat) : Int)) := fun f hf => (World.var?_cell hg0 hv0 f).trans (a f hf)
  have c2 : ∀ f, f < 32 → W.cell? ⟨1, f, none⟩ = some (.int .i64 ((ss f : Nat) : Int)) := fun f hf => (World.var?_cell hg1 hv1 f).trans (b f hf)
  have := World.block_lt_of_cell? W _ (c2 0 (by omega))
  exact ⟨c1, c2, by have h' : 1 < W.heap.size := this; omega⟩

end Go.Proofs.YtffajooegiempabDoor

namespace Go.Proofs.YtffajooegiempabDoor
open Go.ChangeShapes Go.WideShapes Go.ChangeAt Go.WideMaps Go.WideElems Go.RowKit

theorem Tryd.laidOutD : laidOutB Tryd.prog = true := by kernel_rfl
theorem Tryd.cellsD : Tryd.prog.cellsOf 3 = 1 := by kernel_rfl

/-- A slice of numbers that came in. -/
theorem open_reads {H : Type} {enc : TypeId × Value → H} {W : World} {a0 : Option Addr} {len cap : Nat} {d : DataW H} {p : List MemPlace}
    (h : DataW.Trod enc Tryd.prog W 0 (fun _ => true) true 22 (.slice a0 len cap) d p) (hlt : ∀ x ∈ p, x.block < W.heap.size) : ∃ L : List Int, L.length ≤ maxLen ∧ Reads W (.slice a0 len cap) L := by
  obtain ⟨fuel, hf⟩ := h
  rcases open_ints Tryd.underlying22 Tryd.underlying3 Tryd.cellsD hf with ⟨hcs, hx⟩ | ⟨a, len', cap', zs, hcs, _, hl, hm, hz, hx, hcell, hwz⟩
  · simp [Value.cells] at hcs
    obtain ⟨rfl, rfl, rfl⟩ := hcs
    exact ⟨[], Nat.zero_le _, none, 0, rfl, Nat.le_refl _, fun h => absurd rfl h⟩
  · simp [Value.cells] at hcs
    obtain ⟨rfl, rfl, rfl⟩ := hcs
    simp only [Prod.mk.injEq] at hx
    obtain ⟨rfl, rfl⟩ := hx
    simp only [if_true] at hz
    have htl : (zs.take len).length = len := by simp; omega
    refine ⟨zs.take len, by rw [htl]; exact Nat.le_trans hl hm, some a, cap, by rw [htl], by rw [htl]; exact hl, fun hn => ?_⟩
    rw [htl] at hn
    obtain ⟨bb, off, spot⟩ := a
    have hspot : spot = none := by simpa [Addr.add] using World.cell?_spot (hcell 0 (by omega))
    subst hspot
    refine ⟨bb, off, rfl, hlt (.cell bb off) (MemPlace.mem_row.2 ⟨0, by omega, by simp⟩), fun i hi => ?_⟩
    rw [htl] at hi
    rw [← add_plain, hcell i (by omega)]
    congr 2
    simp [List.getD, hi]

end Go.Proofs.YtffajooegiempabDoor

namespace Go.Proofs.YtffajooegiempabDoor
open Go.ChangeShapes Go.WideShapes Go.ChangeAt Go.WideMaps Go.WideElems Go.RowKit Go.ChangeMaps

set_option maxRecDepth 100000 in
theorem found_lifted (os : Os) (started : os.Started) (H : Type) (enc : TypeId × Value → H) :
    ReturnsInHanded {} Tryd.checked os 7 .any (fun w args => (Rows.foundSpec.pre enc Tryd.prog Tryd.f7 [] false w args ∧ laidMetH Tryd.prog laid2 w) ∧ sizedMet enc Tryd.prog Tryd.f7 (OpenSpec.ofChange Rows.foundSpec) false w args)
      (Rows.foundSpec.post enc Tryd.prog Tryd.f7 false true false false) := by
  refine returnsInHanded_of_change_and (C := Tryd.checked) (X := fun w _ => laidMetH Tryd.prog laid2 w) (fun _ _ _ hh h => h.of_heap hh) Tryd.ownD started (by kernel_rfl) Tryd.func7
    (ChangeSpec.witness_shaped (enc := enc) (C := Tryd.checked) (os := os) (X := fun w _ => laidMetH Tryd.prog laid2 w) false (World.doorLaid Tryd.prog 4000 os) #[.string ByteArray.empty, .slice none 0 0, .int .i64 0] 8 rfl (World.shaped_of_RefB (by kernel_rfl) (by kernel_rfl)) (by kernel_rfl) (by kernel_rfl) (by kernel_rfl) (door_met os _)) ?_
  intro W base args ds gs before hval0 hW _ _ hL _
  have hval : ∀ (j : Nat) t v, Tryd.f7.params[j]? = some t → args[j]? = some v → Value.okWide Tryd.prog W .any base t v := hval0
  have hW' := hW
  obtain ⟨p, q, hA0, hV, rfl, hfz, hnd⟩ := hW
  have hA : DataW.TrodAll enc Tryd.prog W 0 (fun _ => true) true Tryd.f7.params.toList args.toList ds p := hA0
  rw [Tryd.params7] at hA hval
  obtain ⟨v0, vs0, d0, ds0, p0, q0, hargs0, rfl, rfl, h0, r0⟩ := trodAll_cons hA
  obtain ⟨v1, vs1, d1, ds1, p1, q1, hargs1, rfl, rfl, h1, r1⟩ := trodAll_cons r0
  obtain ⟨v2, vs2, d2, ds2, p2, q2, hargs2, rfl, rfl, h2, r2⟩ := trodAll_cons r1
  obtain ⟨rfl, rfl, rfl⟩ := trodAll_nil r2
  obtain rfl : args = #[v0, v1, v2] := by cases args; simp_all
  obtain ⟨rfl, rfl⟩ := trodVars_none hV
  obtain ⟨s, rfl, rfl, rfl, hs⟩ := open_string Tryd.underlying9 (hval 0 9 v0 rfl rfl) h0
  obtain ⟨b, rfl, rfl, rfl, wb⟩ := open_int Tryd.underlying3 (hval 2 3 v2 rfl rfl) h2
  obtain ⟨a1, l1, c1, rfl⟩ := okWide_slice Tryd.underlying22 (hval 1 22 v1 rfl rfl)
  clear hA0 hval0
  simp only [List.append_nil, List.nil_append] at hW'
  have lt1 : ∀ x ∈ p1, x.block < W.heap.size := fun x hx => hW'.lt x (by simp [hx])
  obtain ⟨L1, m1, R1⟩ := open_reads h1 lt1
  refine (found_walk (of_laid hL) s _ L1 b hs R1 m1).mono fun e W' ⟨he, hb⟩ => ?_
  subst he
  have t1 := Below.trod Tryd.laidOutD (by kernel_rfl) (of_decide_eq_true (by kernel_rfl)) h1 hb lt1
  have hall := trodAll_cons_mk (shut_string Tryd.underlying9 hs) (trodAll_cons_mk t1 (trodAll_cons_mk (shut_int Tryd.underlying3 wb) trodAll_mk0))
  simp only [List.append_nil, List.nil_append] at hall
  exact ⟨_, rfl, _, _, _, [], p1, [], hW', trodAll_cons_mk (shut_bool Tryd.underlying4 _) trodAll_mk0, hall, rfl, hb.frame _, fun h => by cases h⟩

theorem found_row : Rows.FoundSaid :=
  OpenClaim.holds_of_wide 7 Tryd.f7 rfl rfl rfl rfl rfl rfl rfl ⟨rfl, rfl, rfl, rfl, rfl⟩ rfl rfl rfl rfl rfl (by kernel_rfl) Tryd.func7 (by kernel_rfl)
    (of_decide_eq_true (by kernel_rfl)) (by unfold Func.isWrapper; first | (rw [if_pos (by decide +kernel)]; kernel_rfl) | (rw [if_neg (by decide +kernel)]; exact ⟨rfl, rfl⟩))
    (fun os started H enc _ => found_lifted os started H enc)

theorem found_card : Rows.FoundCardSaid :=
  Claim7.holds_tied_plain_at .later [] [.data, .data] true Rows.foundCard.stood.harness false
    found_row (fun _ h => by cases h) (by kernel_rfl) (fun _ h => by cases h) found_row_tie rfl ⟨rfl, rfl⟩ (by kernel_rfl) rfl
    (fun f fn hf hfn => by
      obtain rfl : f = 7 := Option.some.inj ((show Tryd.prog.funcNamed "witness/witnesskeep.Found" = some 7 by kernel_rfl).symm.trans hf) |>.symm
      obtain rfl : fn = Tryd.f7 := (Option.some.inj (Tryd.func7.symm.trans hfn)).symm
      exact ⟨by kernel_rfl, fun j t ht => by
        rw [Tryd.params7] at ht
        have hm : t ∈ [9, 22, 3] := by simpa using Array.mem_of_getElem? ht
        have hall : ([9, 22, 3].all fun u => !Tryd.prog.wantsStandIn u) = true := by kernel_rfl
        exact (show Tryd.prog.wantsStandIn t = false by simpa using List.all_eq_true.1 hall t hm)⟩)
    (by kernel_rfl)

end Go.Proofs.YtffajooegiempabDoor

