import Derived.Test.YtffajooegiempabDoorJ23
import Derived.Great.BuildSlice
import Derived.Test.YtffajooegiempabDoorTie
import Derived.Test.YtffajooegiempabDoorCards
import Derived.ProofKit
import Derived.LaidMore
import Derived.OpenShut
import Derived.Stop.Joined
import Derived.ChangeSlices
import Derived.Carry
namespace Go.Proofs.YtffajooegiempabDoor
open Go.RowKit
variable {w : World}

def st1 : ByteArray := ⟨#[97, 61, 49, 59]⟩
theorem st1_size : st1.size = 4 := rfl
theorem st1_prog : (progOf (bytesOf st1)).map (fun m => (waysAt m 0, m.st.length)) = some (1, 1) := by decide +kernel
theorem st1_run : (finP (readZ st1).2 [] 1).st = 1 ∧ (finP (readZ st1).2 [] 1).pt = 1 ∧ (finP (readZ st1).2 [] 1).v = [1, 0, 0, 0] := by decide +kernel
theorem st1_next : nextOf (bytesOf st1) 0 0 = (1, 0) := by decide +kernel
theorem st1_at : (xAt st1 0).kind = 0 ∧ (xAt st1 0).any = false ∧ (xAt st1 0).target = 0 ∧ (xAt st1 0).sg = [0, 0, 0, 0] ∧ (xAt st1 0).num = 1 := by decide +kernel
theorem st1_some : ∃ m, progOf (bytesOf st1) = some m ∧ waysAt m 0 = 1 ∧ m.st.length = 1 := by
  have h := st1_prog
  cases hp : progOf (bytesOf st1) with
  | none => rw [hp] at h; cases h
  | some m =>
    rw [hp] at h
    have h1 := Option.some.inj h
    exact ⟨m, rfl, congrArg Prod.fst h1, congrArg Prod.snd h1⟩
def so1 : List Int := bndL [] 0 32
theorem so1_ok : okL so1 := bnd_ok [] 0 (by decide)
theorem so1_has : Sat (gAt [0, 0, 0, 0]) (ovM so1) ∧ ovE so1 = false := sat_ov so1_ok.1 (by decide +kernel)
theorem so1_tq : TQ (ovM so1) := ov_tq so1_ok so1_has.2
theorem st1_post : postC st1 0 0 so1 = 0 := by
  obtain ⟨m, hp, hw, _⟩ := st1_some
  unfold postC
  rw [hp]
  simp only
  rw [hw, if_neg (by decide), if_pos (gdB_ok.2 so1_ok)]
theorem st1_po : poE (ovE so1) (ovM so1) (xAt st1 0) 0 = false ∧ poM (ovE so1) (ovM so1) (xAt st1 0) 0 = sbT (ovM so1) 0 1 1 := by
  obtain ⟨h1, h2, h3, h4, h5⟩ := st1_at
  rw [so1_has.2]
  unfold poE poM asM
  rw [h1, h2, h3, h4, h5]
  exact ⟨rfl, rfl⟩
theorem st1_in : hasB (outL false (sbT (ovM so1) 0 1 1)) [1, 0, 0, 0] = true :=
  has_out_true (by decide) (sat_bt (v := [0, 0, 0, 0]) so1_has.1 rfl (t := 0) (by decide) (lo := 1) (hi := 1) (c := 1) (by decide) (by decide) (by decide) (by decide))
theorem st1_out : hasB (outL false (sbT (ovM so1) 0 1 1)) [2, 0, 0, 0] = false := by
  cases e : hasB (outL false (sbT (ovM so1) 0 1 1)) [2, 0, 0, 0] with
  | false => rfl
  | true =>
    have e1 : outL false (sbT (ovM so1) 0 1 1) = bdL (sbT (ovM so1) 0 1 1) := rfl
    rw [e1] at e
    have h := (has_iff (bdL_len _)).1 e 0 (by decide)
    have h0 : gAt (bdL (sbT (ovM so1) 0 1 1)) 0 = bd (sbT (ovM so1) 0 1 1) 0 := bdL_get _ 0 (by decide)
    have h1 := sbT_at (ovM so1) (t := 0) (by decide) (lo := 1) (hi := 1) (by decide) (by decide) (i := 0) (j := 0) (by decide) (by decide)
    have h2 : sbG (ovM so1) 0 1 1 0 0 = 2 := rfl
    rw [h2] at h1
    have h3 : bd (sbT (ovM so1) 0 1 1) 0 = 1 := by
      unfold bd
      have : sbT (ovM so1) 0 1 1 (fs 0 * 8 + ss 0) = 2 := h1
      rw [this]
      decide
    rw [h0, h3] at h
    exact absurd h (by decide)
theorem st1_safe : safeP st1 0 so1 = (true, 0) := by
  obtain ⟨m, hp, _, hl⟩ := st1_some
  obtain ⟨h1, h2, h3, h4, h5⟩ := st1_at
  have hx : (readZ st1).2.getD (0 : Int).toNat (newDs 0 0) = xAt st1 0 := rfl
  unfold safeP
  rw [hp]
  simp only
  rw [hl, if_neg (by decide), if_pos (gdB_ok.2 so1_ok), hx, so1_has.2]
  unfold sfP
  rw [if_neg (by decide), if_pos h1, h2, h4, h5, Bool.false_or]
  have hz : ovM so1 (0 * 8 + 1) = 0 := so1_tq.tc.zero 0 (by decide)
  have g1 : grP (ovM so1) [0, 0, 0, 0] = 0 := by
    have e : grP (ovM so1) [0, 0, 0, 0] = mo (ovM so1) 0 1 := rfl
    rw [e]; unfold mo; rw [if_neg (fun z => by cases z.1)]; exact hz
  have g2 : grP (ovM so1) (ngL [0, 0, 0, 0]) = 0 := by
    have e : grP (ovM so1) (ngL [0, 0, 0, 0]) = mo (ovM so1) 0 1 := rfl
    rw [e]; unfold mo; rw [if_neg (fun z => by cases z.1)]; exact hz
  unfold ftB
  rw [g1, g2]
  rfl

set_option maxRecDepth 100000 in
set_option maxHeartbeats 3200000 in
theorem steps_walk (hG : Glob w) : Calls Tryd.prog 15 #[] w fun e w' => e = .returned (.bool true) ∧ Below w.heap.size w w' := by
  have hk := k_bounds (w := w) (.slice none 0 0) [] 0 (by decide) (by decide) ⟨none, 0, rfl, Nat.le_refl _, fun h => absurd rfl h⟩ (by decide)
  have HRn : Hid (∀ w1, Calls Tryd.prog 17 #[.string st1, .slice none 0 0, .int .i64 1] w1 (RunSaysF w1 (readZ st1).2 (bytesOf st1) [] 1)) := fun w1 => d_wrunF st1 _ [] 1 w1 (by unfold maxLen; rw [st1_size]; omega) ⟨none, 0, rfl, Nat.le_refl _, fun h => absurd rfl h⟩ (by decide)
  have HNx : Hid (∀ w1, Calls Tryd.prog 19 #[.string st1, .int .i64 0, .int .i64 0] w1 fun e w' => e = .returned (.tuple #[.int .i64 1, .int .i64 0]) ∧ Below w1.heap.size w1 w') := fun w1 => by
    have := d_wnext st1 0 0 w1 (by unfold maxLen; rw [st1_size]; omega)
    rw [st1_next] at this
    exact this
  have HPo : Hid (∀ w1 u, Below w.heap.size w w1 → Reads w1 u so1 → Calls Tryd.prog 20 #[.string st1, .int .i64 0, .int .i64 0, u] w1 fun e w' => ∃ a n c, e = .returned (.tuple #[.slice a n c, .int .i64 0]) ∧ Reads w' (.slice a n c) (outL false (sbT (ovM so1) 0 1 1)) ∧ Below w1.heap.size w1 w') := fun w1 u hb hr => by
    have := w_post (hG.keep hb hG.size) st1 0 0 u so1 (by unfold maxLen; rw [st1_size]; omega) hr
    rw [st1_post, st1_po.1, st1_po.2] at this
    refine this.mono ?_
    rintro e w' (⟨h, -⟩ | ⟨-, h⟩)
    · exact absurd rfl h
    · obtain ⟨y, rfl, h1, h2⟩ := LSaysE.out h
      obtain ⟨a, n, c, rfl⟩ := h1.slice
      exact ⟨a, n, c, rfl, h1, h2⟩
  have HSa : Hid (∀ w1 u, Below w.heap.size w w1 → Reads w1 u so1 → Calls Tryd.prog 18 #[.string st1, .int .i64 0, u] w1 fun e w' => e = .returned (.tuple #[.bool true, .int .i64 0]) ∧ Below w1.heap.size w1 w') := fun w1 u hb hr => by
    have := w_safe (hG.keep hb hG.size) st1 0 u so1 (by unfold maxLen; rw [st1_size]; omega) hr
    rw [st1_safe] at this
    exact this
  have HHs : Hid (∀ w1 u v l, l.length = 4 → (∀ i, i < 4 → -5000 ≤ gAt l i ∧ gAt l i ≤ 5000) → Reads w1 u (outL false (sbT (ovM so1) 0 1 1)) → Reads w1 v l → Calls Tryd.prog 13 #[u, v] w1 fun e w' => e = .returned (.bool (hasB (outL false (sbT (ovM so1) 0 1 1)) l)) ∧ Below w1.heap.size w1 w') := fun w1 u v l hl hv hu hr => k_has u v _ l hl (by rw [show outL false (sbT (ovM so1) 0 1 1) = bdL (sbT (ovM so1) 0 1 1) from rfl, bdL_len]; decide) hu hr hv
  have HIn : Hid (hasB (outL false (sbT (ovM so1) 0 1 1)) [1, 0, 0, 0] = true ∧ hasB (outL false (sbT (ovM so1) 0 1 1)) [2, 0, 0, 0] = false) := ⟨st1_in, st1_out⟩
  have HFi : Hid (progOf (bytesOf st1) ≠ none ∧ (finP (readZ st1).2 [] 1).st = 1 ∧ (finP (readZ st1).2 [] 1).pt = 1 ∧ (finP (readZ st1).2 [] 1).v = [1, 0, 0, 0]) := ⟨by obtain ⟨m, h, _⟩ := st1_some; rw [h]; exact (fun z => by cases z), st1_run⟩
  have hol : so1.length = 32 := so1_ok.1
  rw [show bndL [] 0 32 = so1 from rfl] at hk
  generalize outL false (sbT (ovM so1) 0 1 1) = C1 at *
  obtain ⟨fin, hfin⟩ : ∃ fin, fin = finP (readZ st1).2 [] 1 := ⟨_, rfl⟩
  rw [← hfin] at HFi
  have HFin : Hid (fin = finP (readZ st1).2 [] 1) := hfin
  clear hfin
  have HOl : Hid (∀ w1, At w1 w.heap.size (ic so1) tNk → Reads w1 (.slice (some ⟨w.heap.size, 0, none⟩) 32 32) so1) := fun w1 h => Reads.at_ h hol (Nat.le_refl _) (fun i hi => ic_get _ _ (by omega))
  clear hG hol
  generalize so1 = ol at *
  have HST : Hid (st1 = ⟨#[97, 61, 49, 59]⟩) := rfl
  obtain ⟨F1, hF1⟩ : ∃ F1, F1 = (readZ st1).2 := ⟨_, rfl⟩
  obtain ⟨b1, hb1⟩ : ∃ b1, b1 = bytesOf st1 := ⟨_, rfl⟩
  rw [← hF1, ← hb1] at HRn
  rw [← hb1] at HFi
  rw [← hF1] at HFin
  clear hF1 hb1
  unfold st1 at *
  go_enter Tryd.func15, Tryd.ntmps15
  go_wp2_with fail
  refine hk.mono ?_
  rintro e w1 ⟨rfl, hat1, hb1⟩
  have H1 : Hid (Below w.heap.size w w1 ∧ At w1 w.heap.size (ic ol) tNk) := ⟨hb1, hat1⟩
  clear hb1 hat1 hk
  go_wp2_with fail
  refine (HRn.out w1).mono ?_
  rintro e w2 ⟨hb2, ⟨hn, -⟩ | ⟨m, -, -, -, g, cc, rfl, hg, hat2, hsz, hls⟩⟩
  · exact absurd hn HFi.out.1
  obtain ⟨-, f1, f2, f3⟩ := HFi.out
  rw [← HFin.out] at hls ⊢
  rw [f3] at hls
  rw [f1, f2]
  have hA2 : At w2 g (ic [1, 0, 0, 0]) tN := by
    have : cc = ic [1, 0, 0, 0] := by apply Array.toList_inj.1; rw [hls]; rfl
    rw [← this]; exact hat2
  have H2 : Hid (Below w.heap.size w w2 ∧ At w2 w.heap.size (ic ol) tNk ∧ At w2 g (ic [1, 0, 0, 0]) tN) := ⟨H1.out.1.trans (hb2.mono H1.out.1.size), H1.out.2.keep hb2 H1.out.2.lt, hA2⟩
  clear hb2 hg hat2 hsz hls f1 f2 f3 hA2
  go_wp2_with fail
  refine (HNx.out w2).mono ?_
  rintro e w3 ⟨rfl, hb3⟩
  have H3 : Hid (Below w.heap.size w w3 ∧ At w3 w.heap.size (ic ol) tNk ∧ At w3 g (ic [1, 0, 0, 0]) tN) := ⟨H2.out.1.trans (hb3.mono H2.out.1.size), H2.out.2.1.keep hb3 H2.out.2.1.lt, H2.out.2.2.keep hb3 H2.out.2.2.lt⟩
  clear hb3
  go_wp2_with fail
  refine (HPo.out w3 _ H3.out.1 (HOl.out w3 H3.out.2.1)).mono ?_
  rintro e w4 ⟨pa, pn, pc, rfl, hr4, hb4⟩
  have H4 : Hid (Below w.heap.size w w4 ∧ At w4 w.heap.size (ic ol) tNk ∧ At w4 g (ic [1, 0, 0, 0]) tN ∧ Reads w4 (.slice pa pn pc) C1) := ⟨H3.out.1.trans (hb4.mono H3.out.1.size), H3.out.2.1.keep hb4 H3.out.2.1.lt, H3.out.2.2.keep hb4 H3.out.2.2.lt, hr4⟩
  clear hb4 hr4
  go_wp2_with fail
  refine (HSa.out w4 _ H4.out.1 (HOl.out w4 H4.out.2.1)).mono ?_
  rintro e w5 ⟨rfl, hb5⟩
  have H5 : Hid (Below w.heap.size w w5 ∧ At w5 g (ic [1, 0, 0, 0]) tN ∧ Reads w5 (.slice pa pn pc) C1) := ⟨H4.out.1.trans (hb5.mono H4.out.1.size), H4.out.2.2.1.keep hb5 H4.out.2.2.1.lt, H4.out.2.2.2.keep hb5⟩
  clear hb5
  go_wp2_with (refine wpList_buildFlat rfl 22 tN 4 _ rfl .i64 [1, 0, 0, 0] Tryd.underlying22 (by kernel_rfl) (by kernel_rfl) rfl (by decide) (by decide) rfl ?_)
  have hb6 : Below w5.heap.size w5 (w5.alloc (.cells (ic [1, 0, 0, 0]) tN)) := (Below.refl _ _).alloc (Nat.le_refl _) _
  refine (HHs.out (w5.alloc (.cells (ic [1, 0, 0, 0]) tN)) _ _ [1, 0, 0, 0] rfl (by decide) (H5.out.2.2.keep hb6) (Reads.at_ (At.new w5 (ic [1, 0, 0, 0]) tN) rfl (Nat.le_refl _) (fun i hi => ic_get _ _ hi))).mono ?_
  rw [HIn.out.1]
  rintro e w6 ⟨rfl, hb7⟩
  have H6 : Hid (Below w.heap.size w w6 ∧ At w6 g (ic [1, 0, 0, 0]) tN ∧ Reads w6 (.slice pa pn pc) C1) := by
    have hb8 : Below w5.heap.size w5 w6 := hb6.trans (hb7.mono (by simp))
    exact ⟨H5.out.1.trans (hb8.mono H5.out.1.size), H5.out.2.1.keep hb8 H5.out.2.1.lt, H5.out.2.2.keep hb8⟩
  clear hb6 hb7
  go_wp2_with (refine wpList_buildFlat rfl 22 tN 4 _ rfl .i64 [2, 0, 0, 0] Tryd.underlying22 (by kernel_rfl) (by kernel_rfl) rfl (by decide) (by decide) rfl ?_)
  have hb9 : Below w6.heap.size w6 (w6.alloc (.cells (ic [2, 0, 0, 0]) tN)) := (Below.refl _ _).alloc (Nat.le_refl _) _
  refine (HHs.out (w6.alloc (.cells (ic [2, 0, 0, 0]) tN)) _ _ [2, 0, 0, 0] rfl (by decide) (H6.out.2.2.keep hb9) (Reads.at_ (At.new w6 (ic [2, 0, 0, 0]) tN) rfl (Nat.le_refl _) (fun i hi => ic_get _ _ hi))).mono ?_
  rw [HIn.out.2]
  rintro e w7 ⟨rfl, hb10⟩
  have H7 : Hid (Below w.heap.size w w7 ∧ At w7 g (ic [1, 0, 0, 0]) tN) := by
    have hb8 : Below w6.heap.size w6 w7 := hb9.trans (hb10.mono (by simp))
    exact ⟨H6.out.1.trans (hb8.mono H6.out.1.size), H6.out.2.1.keep hb8 H6.out.2.1.lt⟩
  clear hb9 hb10
  have c0 : w7.cell? ⟨g, 0, none⟩ = some (.int .i64 1) := H7.out.2.cell 0
  go_wp2_with fail
  go_ret
  exact ⟨rfl, H7.out.1⟩

end Go.Proofs.YtffajooegiempabDoor

namespace Go.Proofs.YtffajooegiempabDoor
open Go.RowKit
variable {w : World}

/-- Two runs, one step apart. -/
theorem fin_next {F : List Ds} {I : List Int} {n : Nat} (hn : n < 1999) (h0 : (finP F I (n : Int)).st = 0) : finP F I ((n : Int) + 1) = stpP F I (finP F I (n : Int)) := by
  have e1 : min ((n : Int)).toNat 2000 = n := by rw [Int.toNat_natCast]; omega
  have e2 : min ((n : Int) + 1).toNat 2000 = n + 1 := by omega
  unfold finP at *
  rw [e1] at h0 ⊢
  rw [e2, runP_succ, if_pos h0]
theorem fin_ok {F : List Ds} {I : List Int} (hF : ∀ (k : Nat) (x : Ds), F[k]? = some x → DsOk x) (steps : Int) : MsOk I (finP F I steps) ∧ InR F (finP F I steps) := run_ok hF _ _ (first_ok F I).1 (first_ok F I).2
theorem ic_four {l : List Int} (h : l.length = 4) {c : Array Value} (hc : c.toList = [.int .i64 (sgAt l 0), .int .i64 (sgAt l 1), .int .i64 (sgAt l 2), .int .i64 (sgAt l 3)]) : c = ic l := by
  obtain ⟨a, b, d, e, rfl⟩ := four_of h
  apply Array.toList_inj.1
  rw [hc]
  rfl
theorem valF_rng {l : List Int} (h : ∀ i, -999 ≤ sgAt l i ∧ sgAt l i ≤ 999) : ∀ f, f < 32 → -4000 ≤ valF f l ∧ valF f l ≤ 4000 := by
  intro f hf
  have hs : ∀ i, i < 8 → -999 ≤ sd (gAt l) i ∧ sd (gAt l) i ≤ 999 := by
    intro i hi
    have : -999 ≤ gAt l (i / 2) ∧ gAt l (i / 2) ≤ 999 := h (i / 2)
    unfold sd; split <;> omega
  rw [valF_sd f hf]
  have a1 := fs_lt f hf
  have a2 := ss_lt f hf
  split
  · have := hs f (by omega); omega
  · have := hs _ a1; have := hs _ a2; omega

/-- What stands behind the second run. -/
structure MvS (s : ByteArray) (m : Rd) (I : List Int) (n : Nat) (k : Nat) (ol : List Int) : Prop where
  hp : progOf (bytesOf s) = some m
  hW : Whole (readZ s).2 m.st
  pt : (finP (readZ s).2 I n).pt = (k : Int)
  lt : k < (readZ s).2.length
  ok : okL ol
  e : ovE ol = false
  says : (((finP (readZ s).2 I ((n : Int) + 1)).st = 2 ∨ (finP (readZ s).2 I ((n : Int) + 1)).st = 3) ∧ sfP false (ovM ol) ((readZ s).2.getD k (newDs 0 0)) = false) ∨
    ∃ way : Nat, (way : Int) < waysP ((readZ s).2.getD k (newDs 0 0)).kind ∧ ((finP (readZ s).2 I ((n : Int) + 1)).st = 0 ∨ (finP (readZ s).2 I ((n : Int) + 1)).st = 1) ∧ (finP (readZ s).2 I ((n : Int) + 1)).pt = (nextP (readZ s).2 k way).1 ∧
      hasB (outL (poE (ovE ol) (ovM ol) ((readZ s).2.getD k (newDs 0 0)) way) (poM (ovE ol) (ovM ol) ((readZ s).2.getD k (newDs 0 0)) way)) (finP (readZ s).2 I ((n : Int) + 1)).v = true
theorem mvs_of {s : ByteArray} {m : Rd} {I : List Int} {n : Nat} (hp : progOf (bytesOf s) = some m) (hW : Whole (readZ s).2 m.st) (hF : FOk (readZ s).2) (hn : n < 1999) (h0 : (finP (readZ s).2 I (n : Int)).st = 0) {ol : List Int} (ho : okL ol) : ∃ k, MvS s m I n k (wdL ol (finP (readZ s).2 I (n : Int)).v 32) := by
  obtain ⟨hm, hi⟩ := fin_ok (I := I) hF.ds (n : Int)
  obtain ⟨hm', -⟩ := fin_ok (I := I) hF.ds ((n : Int) + 1)
  have hr := hi h0
  obtain ⟨k, hk⟩ : ∃ k : Nat, (finP (readZ s).2 I (n : Int)).pt = k := ⟨_, (Int.toNat_of_nonneg hr.1).symm⟩
  have hkl : k < (readZ s).2.length := by omega
  have hok := wd_ok ho (valF_rng hm.v)
  obtain ⟨hs, he⟩ := sat_ov hok.1 (wd_has (o := ol) (v := (finP (readZ s).2 I (n : Int)).v))
  have hT := ov_tq hok he
  refine ⟨k, hp, hW, hk, hkl, hok, he, ?_⟩
  have hst := fin_next hn h0
  rw [he]
  generalize wdL ol (finP (readZ s).2 I (n : Int)).v 32 = o at *
  obtain ⟨x, hx⟩ : ∃ x, x = finP (readZ s).2 I (n : Int) := ⟨_, rfl⟩
  rw [← hx] at h0 hk hst hs hm
  obtain ⟨u, st, pt, v⟩ := x
  simp only at h0 hk
  subst h0
  subst hk
  rcases step_says (I := I) (u := u) hkl (dq_of hp hW hkl) hs hT hm.len with ⟨q1, q3⟩ | ⟨way, u', v', hw, e, h1, h2⟩
  · rw [hst]
    exact .inl ⟨q1, q3⟩
  · refine .inr ⟨way, hw, ?_⟩
    have hz := next_z (readZ s).2 k hkl way hw
    have e2 : finP (readZ s).2 I ((n : Int) + 1) = entP (readZ s).2.length ⟨u', 0, k, v'⟩ (nextP (readZ s).2 k way).1 := by
      rw [hst, e]
      unfold leaP
      rw [if_pos hz]
    rw [e2] at hm' ⊢
    refine ⟨?_, rfl, ?_⟩
    · unfold entP
      show (if (nextP (readZ s).2 k way).1 = ((readZ s).2.length : Int) then (1 : Int) else 0) = 0 ∨ (if (nextP (readZ s).2 k way).1 = ((readZ s).2.length : Int) then (1 : Int) else 0) = 1
      split
      · exact .inr rfl
      · exact .inl rfl
    · rw [h1]
      refine has_out_true (fun i _ => ?_) h2
      have : -999 ≤ gAt v' i ∧ gAt v' i ≤ 999 := hm'.v i
      show -5000 ≤ gAt v' i ∧ gAt v' i ≤ 5000
      omega

set_option maxRecDepth 100000 in
set_option maxHeartbeats 6400000 in
theorem moves_walk (hG : Glob w) (s : ByteArray) (v u : Value) (I raw : List Int) (cnt : Int) (hm : s.size ≤ maxLen) (hv : Reads w v I) (hI : I.length ≤ maxLen) (hu : Reads w u raw) (hr : raw.length ≤ maxLen) (hc0 : -9223372036854775808 ≤ cnt) (hc1 : cnt ≤ 9223372036854775807) :
    Calls Tryd.prog 5 #[.string s, v, .int .i64 cnt, u] w fun e w' => e = .returned (.bool true) ∧ Below w.heap.size w w' := by
  have hst := steps_walk (w := w) hG
  have HPk : Hid (∀ w1, Calls Tryd.prog 16 #[.int .i64 cnt, .int .i64 1999] w1 fun e w' => ∃ r : Nat, e = .returned (.int .i64 (r : Int)) ∧ (r : Int) < 1999 ∧ w' = w1) := fun w1 => k_pick cnt 1999 hc0 hc1 (by decide) (by decide)
  have HRn : Hid (∀ w1 (n : Int), Below w.heap.size w w1 → Calls Tryd.prog 17 #[.string s, v, .int .i64 n] w1 (RunSaysF w1 (readZ s).2 (bytesOf s) I n)) := fun w1 n hb => d_wrunF s v I n w1 hm (hv.keep hb) (by unfold maxLen at hI; omega)
  have HBd : Hid (∀ w1, Below w.heap.size w w1 → Calls Tryd.prog 9 #[u, .int .i64 4000] w1 fun e w' => e = .returned (.slice (some ⟨w1.heap.size, 0, none⟩) 32 32) ∧ At w' w1.heap.size (ic (bndL raw 4000 32)) tNk ∧ Below w1.heap.size w1 w') := fun w1 hb => k_bounds u raw 4000 (by decide) (by decide) (hu.keep hb) (by unfold maxLen at hr; omega)
  have HMv : Hid (∀ m (n : Nat), progOf (bytesOf s) = some m → Whole (readZ s).2 m.st → FOk (readZ s).2 → n < 1999 → (finP (readZ s).2 I (n : Int)).st = 0 → ∃ k, MvS s m I n k (wdL (bndL raw 4000 32) (finP (readZ s).2 I (n : Int)).v 32)) := fun m n hp hW hF hn h0 => mvs_of hp hW hF hn h0 (bnd_ok raw 4000 (by decide))
  have HFo : Hid (FOk (readZ s).2 → ∀ n : Int, MsOk I (finP (readZ s).2 I n)) := fun hF n => (fin_ok hF.ds n).1
  have HVal : Hid (∀ w1 l gv, l.length = 4 → (∀ i, -999 ≤ sgAt l i ∧ sgAt l i ≤ 999) → At w1 gv (ic l) tN → ∀ f, f < 32 → Calls Tryd.prog 14 #[.int .i64 ((f : Nat) : Int), .slice (some ⟨gv, 0, none⟩) 4 4] w1 fun e w' => e = .returned (.int .i64 (valF f l)) ∧ Below w1.heap.size w1 w') := fun w1 l gv hl hr ha f hf => k_value f hf _ l hl (Reads.at_ ha hl (Nat.le_refl _) (fun i hi => ic_get _ _ (by omega))) (fun i _ => by have : -999 ≤ gAt l i ∧ gAt l i ≤ 999 := hr i; omega)
  have HSa : Hid (∀ w1 m n k ol u', MvS s m I n k ol → Below w.heap.size w w1 → Reads w1 u' ol → Calls Tryd.prog 18 #[.string s, .int .i64 (k : Int), u'] w1 fun e w' => e = .returned (.tuple #[.bool (sfP false (ovM ol) ((readZ s).2.getD k (newDs 0 0))), .int .i64 0]) ∧ Below w1.heap.size w1 w') := fun w1 m n k ol u' h hb hr => by
    have h1 := w_safe (hG.keep hb hG.size) s (k : Int) u' ol hm hr
    have e : safeP s (k : Int) ol = (sfP false (ovM ol) ((readZ s).2.getD k (newDs 0 0)), 0) := by
      unfold safeP
      rw [h.hp]
      simp only
      rw [if_neg (by have := h.lt; have := h.hW.1.len; omega), if_pos (gdB_ok.2 h.ok), Int.toNat_natCast, h.e]
    rw [e] at h1
    exact h1
  have HNx : Hid (∀ w1 m n k ol (y : Nat), MvS s m I n k ol → (y : Int) < waysP ((readZ s).2.getD k (newDs 0 0)).kind → Calls Tryd.prog 19 #[.string s, .int .i64 (k : Int), .int .i64 (y : Int)] w1 fun e w' => e = .returned (.tuple #[.int .i64 (nextP (readZ s).2 k y).1, .int .i64 0]) ∧ Below w1.heap.size w1 w') := fun w1 m n k ol y h hy => by
    have h1 := d_wnext s (k : Int) (y : Int) w1 hm
    have hl : (readZ s).2.length ≤ 20 := (rStmts_goes s 22 (-1) 0 0 ((0, false), []) ⟨Nat.zero_le _, Nat.zero_le _⟩).ok.len
    have hS := next_same h.hW hl k h.lt (y : Int)
    have hwy := ways_same h.hW h.lt
    have e : nextOf (bytesOf s) (k : Int) (y : Int) = ((nextP (readZ s).2 k y).1, 0) := by
      unfold nextOf
      rw [h.hp]
      simp only
      have hwa : waysAt m (k : Int) = waysP ((readZ s).2.getD k (newDs 0 0)).kind := by
        unfold waysAt
        rw [if_neg (by have := h.lt; have := h.hW.1.len; omega), Int.toNat_natCast, hwy]
      rw [hwa, if_neg (by omega), hS, if_neg (by rw [← hwy]; omega), Int.toNat_natCast]
    rw [e] at h1
    exact h1
  have HPo : Hid (∀ w1 m n k ol (y : Nat) u', MvS s m I n k ol → Below w.heap.size w w1 → Reads w1 u' ol → (y : Int) < waysP ((readZ s).2.getD k (newDs 0 0)).kind → Calls Tryd.prog 20 #[.string s, .int .i64 (k : Int), .int .i64 (y : Int), u'] w1 fun e w' => ∃ a nn c, e = .returned (.tuple #[.slice a nn c, .int .i64 0]) ∧ Reads w' (.slice a nn c) (outL (poE (ovE ol) (ovM ol) ((readZ s).2.getD k (newDs 0 0)) y) (poM (ovE ol) (ovM ol) ((readZ s).2.getD k (newDs 0 0)) y)) ∧ Below w1.heap.size w1 w') := fun w1 m n k ol y u' h hb hr hy => by
    have h1 := w_post (hG.keep hb hG.size) s (k : Int) (y : Int) u' ol hm hr
    have hwa : waysAt m (k : Int) = waysP ((readZ s).2.getD k (newDs 0 0)).kind := by
      unfold waysAt
      rw [if_neg (by have := h.lt; have := h.hW.1.len; omega), Int.toNat_natCast, ways_same h.hW h.lt]
    have e : postC s (k : Int) (y : Int) ol = 0 := by
      unfold postC
      rw [h.hp]
      simp only
      rw [hwa, if_neg (by omega), if_pos (gdB_ok.2 h.ok)]
    have ex : xAt s (k : Int) = (readZ s).2.getD k (newDs 0 0) := by unfold xAt; rw [Int.toNat_natCast]
    rw [e, ex] at h1
    refine h1.mono ?_
    rintro e w' (⟨h, -⟩ | ⟨-, h⟩)
    · exact absurd rfl h
    · obtain ⟨z, rfl, h1, h2⟩ := LSaysE.out h
      obtain ⟨a, nn, c, rfl⟩ := h1.slice
      exact ⟨a, nn, c, rfl, h1, h2⟩
  have HHs : Hid (∀ w1 e M u' l gv, l.length = 4 → (∀ i, -999 ≤ sgAt l i ∧ sgAt l i ≤ 999) → Reads w1 u' (outL e M) → At w1 gv (ic l) tN → Calls Tryd.prog 13 #[u', .slice (some ⟨gv, 0, none⟩) 4 4] w1 fun x w' => x = .returned (.bool (hasB (outL e M) l)) ∧ Below w1.heap.size w1 w') := fun w1 e M u' l gv hl hr hu ha => k_has u' _ _ l hl (by cases e with
      | true => show ([] : List Int).length ≤ _; decide
      | false => show (bdL M).length ≤ _; rw [bdL_len]; decide) hu (Reads.at_ ha hl (Nat.le_refl _) (fun i hi => ic_get _ _ (by omega))) (fun i _ => by have : -999 ≤ gAt l i ∧ gAt l i ≤ 999 := hr i; omega)
  obtain ⟨va, vc, rfl, -, -⟩ := id hv
  obtain ⟨ua, uc, rfl, -, -⟩ := id hu
  clear hG hm hv hI hu hr hc0 hc1
  have hob : (bndL raw 4000 32).length = 32 := bndL_len _ _ _
  generalize bndL raw 4000 32 = ol at *
  go_enter Tryd.func5, Tryd.ntmps5
  go_wp2_with fail
  refine hst.mono ?_
  rintro e w1 ⟨rfl, hb1⟩
  have H1 : Hid (Below w.heap.size w w1) := hb1
  clear hb1 hst
  go_wp2_with fail
  refine (HPk.out w1).mono ?_
  rintro e w2 ⟨n, rfl, hn, rfl⟩
  go_wp2_with fail
  refine (HRn.out _ n H1.out).mono ?_
  rintro e w3 ⟨hb3, ⟨hnp, rfl⟩ | ⟨m, hp, hW, hF, g, cc, rfl, hg, hat3, hsz, hls⟩⟩
  · have H3 : Hid (Below w.heap.size w w3) := H1.out.trans (hb3.mono H1.out.size)
    clear hb3 hnp
    go_wp2_with fail
    go_ret
    exact ⟨rfl, H3.out⟩
  have hmo := HFo.out hF (n : Int)
  have hA3 : At w3 g (ic (finP (readZ s).2 I n).v) tN := by rw [← ic_four hmo.len hls]; exact hat3
  have H3 : Hid (Below w.heap.size w w3 ∧ At w3 g (ic (finP (readZ s).2 I n).v) tN) := ⟨H1.out.trans (hb3.mono H1.out.size), hA3⟩
  have HMo : Hid ((finP (readZ s).2 I n).v.length = 4 ∧ ∀ i, -999 ≤ sgAt (finP (readZ s).2 I n).v i ∧ sgAt (finP (readZ s).2 I n).v i ≤ 999) := ⟨hmo.len, hmo.v⟩
  have HMp : Hid ((finP (readZ s).2 I ((n : Int) + 1)).v.length = 4 ∧ ∀ i, -999 ≤ sgAt (finP (readZ s).2 I ((n : Int) + 1)).v i ∧ sgAt (finP (readZ s).2 I ((n : Int) + 1)).v i ≤ 999) := ⟨(HFo.out hF _).len, (HFo.out hF _).v⟩
  by_cases h0 : (finP (readZ s).2 I n).st = 0
  case neg =>
    clear hb3 hat3 hsz hls hA3 hmo hg
    generalize (finP (readZ s).2 I n).st = stn at *
    go_wp2_with fail
    go_ret
    exact ⟨rfl, H3.out.1⟩
  obtain ⟨k, hk⟩ := HMv.out m n hp hW hF (by omega) h0
  have HK : Hid (MvS s m I n k (wdL ol (finP (readZ s).2 I n).v 32)) := hk
  have hpt := hk.pt
  rw [h0, hpt]
  clear hb3 hat3 hsz hls hA3 hmo hg hpt hk h0 HMv HFo hp hW hF
  generalize (finP (readZ s).2 I n).v = vn at *
  go_wp2_with fail
  refine (HBd.out w3 H3.out.1).mono ?_
  rintro e w4 ⟨rfl, hat4, hb4⟩
  have H4 : Hid (Below w.heap.size w w4 ∧ At w4 g (ic vn) tN ∧ At w4 w3.heap.size (ic (wdL ol vn 0)) tNk) := ⟨H3.out.1.trans (hb4.mono H3.out.1.size), H3.out.2.keep hb4 H3.out.2.lt, by rw [wdL_0 hob]; exact hat4⟩
  have hgl : g < w3.heap.size := H3.out.2.lt
  have hB3 : w.heap.size ≤ w3.heap.size := H3.out.1.size
  clear hb4 hat4 HBd
  go_wp2_with fail
  go_loopw [16] (fun iv wr => ∃ f : Nat, f ≤ 32 ∧ iv = .int .i64 (f : Int) ∧ Hid (Below w.heap.size w wr ∧ At wr g (ic vn) tN ∧ At wr w3.heap.size (ic (wdL ol vn f)) tNk)) (fun iv _ => 32 - (intOf iv).toNat)
  case atStart => exact ⟨0, by omega, rfl, H4.out⟩
  case round =>
    obtain ⟨f, hf, rfl, HR⟩ := hrel
    by_cases hlt : f < 32
    · have hfi : (f : Int) < 32 := by omega
      have hva := HVal.out wr vn g HMo.out.1 HMo.out.2 HR.out.2.1 f hlt
      go_wp2_with fail
      refine hva.mono ?_
      rintro e w5 ⟨rfl, hb5⟩
      have H5 : Hid (Below w.heap.size w w5 ∧ At w5 g (ic vn) tN ∧ At w5 w3.heap.size (ic (wdL ol vn f)) tNk) := ⟨HR.out.1.trans (hb5.mono HR.out.1.size), HR.out.2.1.keep hb5 HR.out.2.1.lt, HR.out.2.2.keep hb5 HR.out.2.2.lt⟩
      clear hb5 hva
      have cx : w5.cell? ⟨w3.heap.size, f, none⟩ = some (.int .i64 (gAt ol f)) := by
        have := wdL_at ol vn f hlt
        rw [if_neg (by omega)] at this
        rw [H5.out.2.2.cell, ic_get _ _ (by rw [wdL_len]; exact hlt)]
        show some (Value.int .i64 (gAt (wdL ol vn f) f)) = _
        rw [this]
      have cf := H5.out.2.2.free
      have hl5 := H5.out.2.2.lt
      have HWd : Hid (wdF ol vn f = if gAt ol f < valF f vn then valF f vn else gAt ol f) := rfl
      have HSe : Hid (∀ x, x = wdF ol vn f → (wdL ol vn f).set f x = wdL ol vn (f + 1)) := fun x hx => wdL_set ol vn f hlt x hx
      have HSm : Hid (gAt ol f = wdF ol vn f → wdL ol vn (f + 1) = wdL ol vn f) := fun hx => wdL_same ol vn f hlt hx
      generalize valF f vn = vf at *
      generalize gAt ol f = of_ at *
      by_cases hgt : of_ < vf
      · have HW2 : Hid (vf = wdF ol vn f) := by show _ = _; rw [HWd.out, if_pos hgt]
        go_wp2_with fail
        go_roundw
        case rel =>
          refine ⟨f + 1, by omega, by go_num, H5.out.1.setCell hB3 _, ?_, ?_⟩
          · exact H5.out.2.1.keep ((Below.refl w3.heap.size _).setCell (Nat.le_refl _) _) hgl
          · rw [← HSe.out vf HW2.out, ← ic_set]
            exact H5.out.2.2.put f _
        case measure => simp [intOf]; omega
      · have HW2 : Hid (of_ = wdF ol vn f) := by show _ = _; rw [HWd.out, if_neg hgt]
        go_wp2_with fail
        go_roundw
        case rel => exact ⟨f + 1, by omega, by go_num, H5.out.1, H5.out.2.1, by rw [HSm.out HW2.out]; exact H5.out.2.2⟩
        case measure => simp [intOf]; omega
    · have hf32 : f = 32 := by omega
      subst hf32
      have hle := wdL_len ol vn 32
      clear HVal H4 HMo hob
      generalize wdL ol vn 32 = oo at *
      go_wp2_with fail
      refine (HRn.out wr ((n : Int) + 1) HR.out.1).mono ?_
      rintro e w6 ⟨hb6, ⟨hnp, -⟩ | ⟨m', -, -, -, g', cc', rfl, hg', hat6, hsz', hls'⟩⟩
      · exact absurd hnp (by rw [HK.out.hp]; exact fun z => by cases z)
      have hA6 : At w6 g' (ic (finP (readZ s).2 I ((n : Int) + 1)).v) tN := by rw [← ic_four HMp.out.1 hls']; exact hat6
      have H6 : Hid (Below w.heap.size w w6 ∧ At w6 g' (ic (finP (readZ s).2 I ((n : Int) + 1)).v) tN ∧ At w6 w3.heap.size (ic oo) tNk) := ⟨HR.out.1.trans (hb6.mono HR.out.1.size), hA6, HR.out.2.2.keep hb6 HR.out.2.2.lt⟩
      have HOo : Hid (∀ w1, At w1 w3.heap.size (ic oo) tNk → Reads w1 (.slice (some ⟨w3.heap.size, 0, none⟩) 32 32) oo) := fun w1 h => Reads.at_ h hle (Nat.le_refl _) (fun i hi => ic_get _ _ (by omega))
      clear hb6 hg' hat6 hsz' hls' hA6
      have hsa := HSa.out w6 m n k oo _ HK.out H6.out.1 (HOo.out w6 H6.out.2.2)
      have hsay := HK.out.says
      have HNxk : Hid (∀ w1 (y : Nat), (y : Int) < waysP ((readZ s).2.getD k (newDs 0 0)).kind → Calls Tryd.prog 19 #[.string s, .int .i64 (k : Int), .int .i64 (y : Int)] w1 fun e w' => e = .returned (.tuple #[.int .i64 (nextP (readZ s).2 k y).1, .int .i64 0]) ∧ Below w1.heap.size w1 w') := fun w1 y hy => HNx.out w1 m n k oo y HK.out hy
      have HPok : Hid (∀ w1 (y : Nat) u', Below w.heap.size w w1 → Reads w1 u' oo → (y : Int) < waysP ((readZ s).2.getD k (newDs 0 0)).kind → Calls Tryd.prog 20 #[.string s, .int .i64 (k : Int), .int .i64 (y : Int), u'] w1 fun e w' => ∃ a nn c, e = .returned (.tuple #[.slice a nn c, .int .i64 0]) ∧ Reads w' (.slice a nn c) (outL (poE (ovE oo) (ovM oo) ((readZ s).2.getD k (newDs 0 0)) y) (poM (ovE oo) (ovM oo) ((readZ s).2.getD k (newDs 0 0)) y)) ∧ Below w1.heap.size w1 w') := fun w1 y u' hb hr hy => HPo.out w1 m n k oo y u' HK.out hb hr hy
      generalize sfP false (ovM oo) ((readZ s).2.getD k (newDs 0 0)) = sf at *
      generalize finP (readZ s).2 I ((n : Int) + 1) = fin at *
      obtain ⟨fu, fst, fpt, fv⟩ := fin
      simp only at hsay H6 HMp
      clear HSa HNx HPo HRn HK HPk
      go_wp2_with fail
      refine hsa.mono ?_
      rintro e w7 ⟨rfl, hb7⟩
      have H7 : Hid (Below w.heap.size w w7 ∧ At w7 g' (ic fv) tN ∧ At w7 w3.heap.size (ic oo) tNk) := ⟨H6.out.1.trans (hb7.mono H6.out.1.size), H6.out.2.1.keep hb7 H6.out.2.1.lt, H6.out.2.2.keep hb7 H6.out.2.2.lt⟩
      clear hb7 hsa
      rcases hsay with ⟨q1 | q1, q2⟩ | ⟨way, hway, hst2, hpt2, hhas⟩
      · subst q1
        subst q2
        go_wp2_with fail
        go_ret
        exact ⟨rfl, H7.out.1⟩
      · subst q1
        subst q2
        go_wp2_with fail
        go_ret
        exact ⟨rfl, H7.out.1⟩
      · have HWy : Hid (∀ y : Nat, y ≤ way → (y : Int) < waysP ((readZ s).2.getD k (newDs 0 0)).kind) := fun y hy => by omega
        have hw2 : way < 2 := by have := ways_rng ((readZ s).2.getD k (newDs 0 0)).kind; omega
        have hs2 : ¬ fst = 2 := by omega
        have hs3 : ¬ fst = 3 := by omega
        have hs2b : (fst == 2) = false := by simpa using hs2
        have hs3b : (fst == 3) = false := by simpa using hs3
        have HWin : Hid (fpt = (nextP (readZ s).2 k way).1 ∧ hasB (outL (poE (ovE oo) (ovM oo) ((readZ s).2.getD k (newDs 0 0)) way) (poM (ovE oo) (ovM oo) ((readZ s).2.getD k (newDs 0 0)) way)) fv = true) := ⟨hpt2, hhas⟩
        clear hway hst2 hpt2 hhas
        go_wp2_with fail
        go_loopw [24] (fun yv wq => ∃ y : Nat, y ≤ way ∧ yv = .int .i64 (y : Int) ∧ Hid (Below w.heap.size w wq ∧ At wq g' (ic fv) tN ∧ At wq w3.heap.size (ic oo) tNk)) (fun yv _ => 2 - (intOf yv).toNat)
        case atStart => exact ⟨0, by omega, rfl, H7.out⟩
        case round =>
          obtain ⟨y, hy, rfl, HQ⟩ := hrel
          have hyi : (y : Int) < 2 := by omega
          have hnx := HNxk.out wr y (HWy.out y hy)
          go_wp2_with fail
          refine hnx.mono ?_
          rintro e w8 ⟨rfl, hb8⟩
          have H8 : Hid (Below w.heap.size w w8 ∧ At w8 g' (ic fv) tN ∧ At w8 w3.heap.size (ic oo) tNk) := ⟨HQ.out.1.trans (hb8.mono HQ.out.1.size), HQ.out.2.1.keep hb8 HQ.out.2.1.lt, HQ.out.2.2.keep hb8 HQ.out.2.2.lt⟩
          clear hb8 hnx
          have hpo := HPok.out w8 y _ H8.out.1 (HOo.out w8 H8.out.2.2) (HWy.out y hy)
          have HNe : Hid ((nextP (readZ s).2 k y).1 = fpt → hasB (outL (poE (ovE oo) (ovM oo) ((readZ s).2.getD k (newDs 0 0)) y) (poM (ovE oo) (ovM oo) ((readZ s).2.getD k (newDs 0 0)) y)) fv = false → y ≠ way) := fun _ h2 e => by
            rw [e, HWin.out.2] at h2
            cases h2
          have HNf : Hid (¬ (nextP (readZ s).2 k y).1 = fpt → y ≠ way) := fun h2 e => h2 (by rw [e]; exact HWin.out.1.symm)
          generalize (nextP (readZ s).2 k y).1 = nq at *
          have hhs := fun w1 u' => HHs.out w1 (poE (ovE oo) (ovM oo) ((readZ s).2.getD k (newDs 0 0)) y) (poM (ovE oo) (ovM oo) ((readZ s).2.getD k (newDs 0 0)) y) u' fv g' HMp.out.1 HMp.out.2
          generalize outL (poE (ovE oo) (ovM oo) ((readZ s).2.getD k (newDs 0 0)) y) (poM (ovE oo) (ovM oo) ((readZ s).2.getD k (newDs 0 0)) y) = cl at *
          go_wp2_with fail
          refine hpo.mono ?_
          rintro e w9 ⟨pa, pn, pc, rfl, hr9, hb9⟩
          have H9 : Hid (Below w.heap.size w w9 ∧ At w9 g' (ic fv) tN ∧ At w9 w3.heap.size (ic oo) tNk) := ⟨H8.out.1.trans (hb9.mono H8.out.1.size), H8.out.2.1.keep hb9 H8.out.2.1.lt, H8.out.2.2.keep hb9 H8.out.2.2.lt⟩
          have hh9 := hhs w9 _ hr9 H9.out.2.1
          clear hb9 hpo hr9 hhs
          generalize hasB cl fv = hb at *
          go_wp2_with fail
          refine hh9.mono ?_
          rintro e w10 ⟨rfl, hb10⟩
          have H10 : Hid (Below w.heap.size w w10 ∧ At w10 g' (ic fv) tN ∧ At w10 w3.heap.size (ic oo) tNk) := ⟨H9.out.1.trans (hb10.mono H9.out.1.size), H9.out.2.1.keep hb10 H9.out.2.1.lt, H9.out.2.2.keep hb10 H9.out.2.2.lt⟩
          clear hb10 hh9
          by_cases hq : nq = fpt
          · cases hb with
            | true =>
              go_wp2_with fail
              go_ret
              exact ⟨rfl, H10.out.1⟩
            | false =>
              have HL : Hid (y + 1 ≤ way) := by have := HNe.out hq rfl; show y + 1 ≤ way; omega
              go_wp2_with fail
              go_roundw
              case rel => exact ⟨y + 1, HL.out, by go_num, H10.out⟩
              case measure => simp [intOf]; omega
          · have HL : Hid (y + 1 ≤ way) := by have := HNf.out hq; show y + 1 ≤ way; omega
            go_wp2_with fail
            go_roundw
            case rel => exact ⟨y + 1, HL.out, by go_num, H10.out⟩
            case measure => simp [intOf]; omega

end Go.Proofs.YtffajooegiempabDoor

namespace Go.Proofs.YtffajooegiempabDoor
open Go.ChangeShapes Go.WideShapes Go.ChangeAt Go.WideMaps Go.WideElems Go.RowKit

theorem Tryd.ownD : ownKnob Tryd.prog.godebug = none := by kernel_rfl
theorem gFirst : Tryd.prog.globalNamed "witness/octagon.firstSide" = some 0 := by kernel_rfl
theorem gSecond : Tryd.prog.globalNamed "witness/octagon.secondSide" = some 1 := by kernel_rfl
theorem tFirst : (Tryd.prog.globals[0]?).map (·.type) = some 111 := by kernel_rfl
theorem tSecond : (Tryd.prog.globals[1]?).map (·.type) = some 111 := by kernel_rfl
def laid2 : List (String × DataW Unit) := [("witness/octagon.firstSide", Rows.laid_witness_octagon_firstSide), ("witness/octagon.secondSide", Rows.laid_witness_octagon_secondSide)]

/-- The door's own heap meets the condition. -/
theorem door_met (os : Os) (args : Array Value) : laidMetH Tryd.prog laid2 ((World.doorLaid Tryd.prog 4000 os).forCall (fun _ _ => 0) ⟨#[], args, []⟩).memory :=
  laidMetH_of_parts3 (fuel := 8) (laidMet_of_run' 8 (by kernel_rfl) (by kernel_rfl)) (by kernel_rfl) (by kernel_rfl)

/-- A table's cells, off its datum. -/
theorem tab_cells {H : Type} {enc : TypeId × Value → H} {w : World} {base : Nat} {sp : Nat → Bool} {held : Bool} {fuel : Nat} {cs : Array Value} {L : List Nat} {ps : List MemPlace}
    (hL : L.length = 32) (h : DataW.trod enc Tryd.prog w base sp held fuel 111 cs.toList = some (.agg (L.map fun n => .lit (.int .i64 ((n : Nat) : Int))), ps)) : ∀ i, i < 32 → cs[i]? = some (.int .i64 ((L.getD i 0 : Nat) : Int)) := by
  obtain ⟨xs, m1, rfl, hx1, hlen, hn3, hel⟩ := DataW.trod_array Tryd.underlying111 h
  have c3 : Tryd.prog.cellsOf 3 = 1 := by kernel_rfl
  simp only [Prod.mk.injEq, DataW.agg.injEq] at hx1
  intro i hi
  have h0 := hel i hi
  rw [c3, Nat.mul_one, List.getElem?_eq_getElem (by omega)] at h0
  obtain ⟨k, e1, e2, _⟩ := DataW.trod_int Tryd.underlying3 h0
  have e3 : (L.map fun n => (DataW.lit (.int .i64 ((n : Nat) : Int)) : DataW H))[i]? = (xs.map (·.1))[i]? := by rw [hx1.1]
  rw [List.getElem?_map, List.getElem?_map, List.getElem?_eq_getElem (by omega), List.getElem?_eq_getElem (show i < xs.length by omega)] at e3
  simp only [Option.map_some, Option.some.injEq] at e3
  rw [e2] at e3
  simp only [DataW.lit.injEq, Lit.int.injEq, true_and] at e3
  have e4 : cs.toList[i]? = some (.int .i64 k) := by
    have := congrArg (fun l : List Value => l[0]?) e1
    simpa [List.getElem?_take, List.getElem?_drop] using this
  rw [← Array.getElem?_toList, e4, ← e3]
  simp [List.getD, show i < L.length by omega]

/-- What the condition gives the walks: the two tables. -/
theorem of_laid {W : World} (h : laidMetH Tryd.prog laid2 W) : Glob W := by
  rw [MakeChecks.laidMetH_plain _ _ _ (by kernel_rfl)] at h
  obtain ⟨ps, ⟨g0, t0, cs0, f0, p0, q0, hg0, ht0, hv0, hd0, ⟨g1, t1, cs1, f1, p1, q1, hg1, ht1, hv1, hd1, _, _⟩, _⟩, _, _⟩ := h
  obtain rfl := Option.some.inj (gFirst.symm.trans hg0)
  obtain rfl := Option.some.inj (gSecond.symm.trans hg1)
  obtain rfl := Option.some.inj (tFirst.symm.trans ht0)
  obtain rfl := Option.some.inj (tSecond.symm.trans ht1)
  have a := tab_cells (L := fsL) rfl hd0
  have b := tab_cells (L := ssL) rfl hd1
  have c1 : ∀ f, f < 32 → W.cell? ⟨0, f, none⟩ = some (.int .i64 ((fs f : Nat) : Int)) := fun f hf => (World.var?_cell hg0 hv0 f).trans (a f hf)
  have c2 : ∀ f, f < 32 → W.cell? ⟨1, f, none⟩ = some (.int .i64 ((ss f : Nat) : Int)) := fun f hf => (World.var?_cell hg1 hv1 f).trans (b f hf)
  have := World.block_lt_of_cell? W _ (c2 0 (by omega))
  exact ⟨c1, c2, by have h' : 1 < W.heap.size := this; omega⟩

end Go.Proofs.YtffajooegiempabDoor

namespace Go.Proofs.YtffajooegiempabDoor
open Go.ChangeShapes Go.WideShapes Go.ChangeAt Go.WideMaps Go.WideElems Go.RowKit

theorem Tryd.laidOutD : laidOutB Tryd.prog = true := by kernel_rfl
theorem Tryd.cellsD : Tryd.prog.cellsOf 3 = 1 := by kernel_rfl

/-- A slice of numbers that came in. -/
theorem open_reads {H : Type} {enc : TypeId × Value → H} {W : World} {a0 : Option Addr} {len cap : Nat} {d : DataW H} {p : List MemPlace}
    (h : DataW.Trod enc Tryd.prog W 0 (fun _ => true) true 22 (.slice a0 len cap) d p) (hlt : ∀ x ∈ p, x.block < W.heap.size) : ∃ L : List Int, L.length ≤ maxLen ∧ Reads W (.slice a0 len cap) L := by
  obtain ⟨fuel, hf⟩ := h
  rcases open_ints Tryd.underlying22 Tryd.underlying3 Tryd.cellsD hf with ⟨hcs, hx⟩ | ⟨a, len', cap', zs, hcs, _, hl, hm, hz, hx, hcell, hwz⟩
  · simp [Value.cells] at hcs
    obtain ⟨rfl, rfl, rfl⟩ := hcs
    exact ⟨[], Nat.zero_le _, none, 0, rfl, Nat.le_refl _, fun h => absurd rfl h⟩
  · simp [Value.cells] at hcs
    obtain ⟨rfl, rfl, rfl⟩ := hcs
    simp only [Prod.mk.injEq] at hx
    obtain ⟨rfl, rfl⟩ := hx
    simp only [if_true] at hz
    have htl : (zs.take len).length = len := by simp; omega
    refine ⟨zs.take len, by rw [htl]; exact Nat.le_trans hl hm, some a, cap, by rw [htl], by rw [htl]; exact hl, fun hn => ?_⟩
    rw [htl] at hn
    obtain ⟨bb, off, spot⟩ := a
    have hspot : spot = none := by simpa [Addr.add] using World.cell?_spot (hcell 0 (by omega))
    subst hspot
    refine ⟨bb, off, rfl, hlt (.cell bb off) (MemPlace.mem_row.2 ⟨0, by omega, by simp⟩), fun i hi => ?_⟩
    rw [htl] at hi
    rw [← add_plain, hcell i (by omega)]
    congr 2
    simp [List.getD, hi]

end Go.Proofs.YtffajooegiempabDoor

