import Derived.Test.YtffajooegiempabDoorJ22
namespace Go.Proofs.YtffajooegiempabDoor
open Go.RowKit

theorem results_tmp4 {fn : Func} {t u v x : Tmp} (h : fn.results = #[.tmp t, .tmp u, .tmp v, .tmp x]) (tmps : Array Value) (P : Program) (w : World) :
    (results fn tmps).run P w = .ok (.tuple #[tmps.getD t undef, tmps.getD u undef, tmps.getD v undef, tmps.getD x undef]) w := by
  simp [results, h]

theorem prog_gd {l : List Int} {m : Rd} (hp : progOf l = some m) : AllGd m ∧ Ok m := by
  obtain ⟨_, ⟨n, hr⟩, _⟩ := progOf_some hp
  exact gd_from (m := init) (fun s hs => absurd hs (by simp [init])) Ok.init hr
theorem sgAt_mem (l : List Int) (i : Nat) (h : ∀ x, x ∈ l → -1 ≤ x ∧ x ≤ 1) : -1 ≤ sgAt l i ∧ sgAt l i ≤ 1 := by
  unfold sgAt
  rw [List.getD_eq_getElem?_getD]
  cases e : l[i]? with
  | none => simp
  | some x => exact h x (List.mem_of_getElem? e)
theorem fok_of {l : List Int} {m : Rd} {F : List Ds} (hp : progOf l = some m) (hW : Whole F m.st) : FOk F := by
  obtain ⟨hg, ok⟩ := prog_gd hp
  have hl := hW.1.len
  refine ⟨by have := ok.len; omega, hW.par, fun k x hx => ?_⟩
  have hk : k < F.length := by
    rcases Nat.lt_or_ge k F.length with h' | h'
    · exact h'
    · simp [List.getElem?_eq_none h'] at hx
  obtain ⟨u, hu⟩ : ∃ u, m.st[k]? = some u := ⟨m.st[k]'(by omega), List.getElem?_eq_getElem _⟩
  obtain ⟨_, c1, _, c3, c4⟩ := hW.1.cor k x u hx hu
  have hm := List.mem_of_getElem? hu
  obtain ⟨g1, g2, g3⟩ := hg u hm
  have hn := ok.nums u hm
  exact ⟨by rw [← c3]; exact ok.sgl u hm, fun i => by rw [← c3]; exact sgAt_mem _ _ g3, by rw [← c4]; exact hn, by rw [← c1]; exact ⟨g1, g2⟩⟩

/-- The same, of these statements. -/
def RunSaysF (w : World) (F : List Ds) (l : List Int) (L : List Int) (steps : Int) : Ending → World → Prop := fun e w' => Below w.heap.size w w' ∧
  ((progOf l = none ∧ e = .returned (.tuple #[.int .i64 0, .int .i64 0, .slice none 0 0, .int .i64 1])) ∨
   ∃ m, progOf l = some m ∧ Whole F m.st ∧ FOk F ∧ ∃ g c, e = .returned (.tuple #[.int .i64 (finP F L steps).st, .int .i64 (finP F L steps).pt, .slice (some ⟨g, 0, none⟩) 4 4, .int .i64 0]) ∧ w.heap.size ≤ g ∧ At w' g c tN ∧ c.size = 4 ∧
     c.toList = [.int .i64 (sgAt (finP F L steps).v 0), .int .i64 (sgAt (finP F L steps).v 1), .int .i64 (sgAt (finP F L steps).v 2), .int .i64 (sgAt (finP F L steps).v 3)])

set_option maxRecDepth 100000 in
set_option maxHeartbeats 800000 in
theorem d_wrunF (s : ByteArray) (iv : Value) (L : List Int) (steps : Int) (w : World) (hm : s.size ≤ maxLen) (hi : Inp w w.heap.size iv L) (hL : L.length ≤ 9223372036854775807) :
    Calls Tryd.prog 17 #[.string s, iv, .int .i64 steps] w (RunSaysF w (readZ s).2 (bytesOf s) L steps) := by
  have hr := d_read s w hm
  have hl := bytesOf_len s
  have HI : Hid (Inp w w.heap.size iv L) := hi
  have bad : progOf (bytesOf s) = none → (∀ e w', DReadPost w s e w' → ∃ c : Int, e = .returned (.tuple #[.agg #[.slice none 0 0], .int .i64 1, .int .i64 c]) ∧ Below w.heap.size w w') →
      Calls Tryd.prog 17 #[.string s, iv, .int .i64 steps] w (RunSaysF w (readZ s).2 (bytesOf s) L steps) := by
    intro hp hq
    have HE : Hid (progOf (bytesOf s) = none) := hp
    have hr' := hr.mono hq
    clear hr hp hq hm hl hi
    go_enter Tryd.func17, Tryd.ntmps17
    go_wp2_with fail
    refine hr'.mono ?_
    rintro e w1 ⟨c, rfl, hb⟩
    go_wp2_with fail
    try simp only [Exit.inBlock, Exit.then]
    refine bodyPost_ret (results_tmp4 rfl _ _ _) rfl ?_
    exact ⟨hb.alloc hb.size _, .inl ⟨HE.out, rfl⟩⟩
  by_cases h160 : 160 < s.size
  · refine bad (by unfold progOf; rw [if_pos (by omega)]) ?_
    rintro e w' ⟨hb, h | h | h⟩
    · exact ⟨0, h.2, hb⟩
    · exact absurd h.1 (by omega)
    · exact absurd h.1 (by omega)
  rcases prog_whole s (by omega) with ⟨hg, hp⟩ | ⟨m, hg, hp, hW⟩
  · refine bad hp ?_
    rintro e w' ⟨hb, h | h | h⟩
    · exact absurd h.1 h160
    · exact ⟨_, h.2.2, hb⟩
    · exact absurd h.2.1 (by rw [hg]; decide)
  clear bad
  have hr' := hr.mono (R' := fun e w' => ∃ v, e = .returned (.tuple #[.agg #[v], .int .i64 0, .int .i64 0]) ∧ Below w.heap.size w w' ∧ w'.ownsRow w.heap.size tDs 10 v (readZ s).2.length (flat (readZ s).2)) (by
    rintro e w' ⟨hb, h | h | h⟩
    · exact absurd h.1 h160
    · exact absurd h.2.1 (by rw [hg]; decide)
    · obtain ⟨_, _, v, he, hrow⟩ := h
      exact ⟨v, he, hb, hrow⟩)
  have HP : Hid (progOf (bytesOf s) = some m) := hp
  have HW : Hid (Whole (readZ s).2 m.st) := hW
  have HFo : Hid (FOk (readZ s).2) := fok_of hp hW
  clear hr hm hl h160 hg hp hW
  generalize (readZ s).2 = F at *
  have HRun : Hid (∀ w1 o v, Below w.heap.size w w1 → w1.ownsRow w.heap.size tDs 10 v F.length (flat F) → Calls Tryd.prog 31 #[.agg #[v], iv, .int .i64 steps] (w1.alloc o) fun e w' => ∃ g, e = .returned (.tuple #[.int .i64 (finP F L steps).st, .int .i64 (finP F L steps).pt, .slice (some ⟨g, 0, none⟩) 4 4]) ∧ Hid (RunSaysF w F (bytesOf s) L steps (.returned (.tuple #[.int .i64 (finP F L steps).st, .int .i64 (finP F L steps).pt, .slice (some ⟨g, 0, none⟩) 4 4, .int .i64 0])) w')) := by
    intro w1 o v hb hrow
    have hba : Below w1.heap.size w1 (w1.alloc o) := (Below.refl _ _).alloc (Nat.le_refl _) _
    have hPA : PAt (w1.alloc o) (w1.alloc o).heap.size v F := by
      obtain ⟨h1, h2⟩ := id hrow
      rcases h2 with ⟨rfl, e⟩ | ⟨g, cap, c, rfl, _⟩
      · exact ⟨none, 0, by rw [e], fun hn => absurd e hn⟩
      · have hlt := (hrow.lt g rfl).2
        exact ⟨_, cap, rfl, fun _ => ⟨g, rfl, by simp; omega, (prow_of hrow rfl hlt).keep hba⟩⟩
    have hIn : Inp (w1.alloc o) (w1.alloc o).heap.size iv L := by
      obtain ⟨ao, cap, hv, hc, h0⟩ := HI.out.keep (hb.alloc hb.size o)
      have := hb.size
      exact ⟨ao, cap, hv, hc, fun hn => by obtain ⟨b, off, q1, q2, q3⟩ := h0 hn; exact ⟨b, off, q1, by simp; omega, q3⟩⟩
    refine (x_run hPA hIn HFo.out hL steps).mono ?_
    rintro e w2 ⟨g, c, rfl, hg, hat, hsz, hls, hb2⟩
    have hs := hb.size
    simp at hg
    exact ⟨g, rfl, (hb.alloc hb.size o).trans (hb2.mono (by simp; omega)), .inr ⟨m, HP.out, HW.out, HFo.out, g, c, rfl, by omega, hat, hsz, hls⟩⟩
  clear hi
  go_enter Tryd.func17, Tryd.ntmps17
  go_wp2_with fail
  refine hr'.mono ?_
  rintro e w1 ⟨v, rfl, hb, hrow⟩
  have HRow : Hid (World.ownsRow _ _ _ _ _ _ _) := hrow
  obtain ⟨ao, cap, rfl⟩ : ∃ ao cap, v = .slice ao F.length cap := by
    obtain ⟨_, h2⟩ := hrow
    rcases h2 with ⟨rfl, e⟩ | ⟨g, cap, c, rfl, _⟩
    · exact ⟨none, 0, by rw [e]⟩
    · exact ⟨_, cap, rfl⟩
  clear hrow
  go_wp2_with fail
  refine (HRun.out _ _ _ hb HRow.out).mono ?_
  rintro e w2 ⟨g, rfl, hsay⟩
  go_wp2_with fail
  try simp only [Exit.inBlock, Exit.then]
  refine bodyPost_ret (results_tmp4 rfl _ _ _) rfl ?_
  exact hsay.out

end Go.Proofs.YtffajooegiempabDoor

namespace Go.Proofs.YtffajooegiempabDoor
open Go.RowKit
variable {w : World}
end Go.Proofs.YtffajooegiempabDoor

namespace Go.Proofs.YtffajooegiempabDoor
open Go.RowKit
variable {w : World}

def sumV (a b : List Int) : Nat → Int
  | 0 => 0
  | j + 1 => sumV a b j + gAt a j * gAt b j
/-- What a form comes to. -/
def valF (f : Nat) (v : List Int) : Int := sumV (frm f) v 4
theorem frm_sg : ∀ f : Nat, f < 32 → (frm f).length = 4 ∧ ∀ i, i < 4 → -1 ≤ gAt (frm f) i ∧ gAt (frm f) i ≤ 1 := by decide
theorem mul_sgV (a b : Int) (h0 : -1 ≤ a) (h1 : a ≤ 1) (h2 : -5000 ≤ b) (h3 : b ≤ 5000) : -5000 ≤ a * b ∧ a * b ≤ 5000 := by
  rcases (show a = -1 ∨ a = 0 ∨ a = 1 by omega) with rfl | rfl | rfl <;> omega

set_option maxRecDepth 100000 in
set_option maxHeartbeats 1600000 in
theorem k_value (f : Nat) (hf : f < 32) (v : Value) (l : List Int) (hl : l.length = 4) (hr : Reads w v l) (hv : ∀ i, i < 4 → -5000 ≤ gAt l i ∧ gAt l i ≤ 5000) :
    Calls Tryd.prog 14 #[.int .i64 (f : Int), v] w fun e w' => e = .returned (.int .i64 (valF f l)) ∧ Below w.heap.size w w' := by
  have hfo : Calls Tryd.prog 29 #[.int .i64 (f : Int)] w fun e w' => e = .returned (.slice (some ⟨w.heap.size, 0, none⟩) 4 4) ∧ At w' w.heap.size (ic (frm f)) tNk ∧ Below w.heap.size w w' := by
    by_cases h8 : f < 8
    · exact k_form_lo f h8
    · exact k_form_hi f hf (by omega)
  obtain ⟨hlen, hx⟩ := frm_sg f hf
  have HE : Hid (valF f l = sumV (frm f) l 4) := rfl
  obtain ⟨ao, cap, rfl, hc, h0⟩ := hr
  obtain ⟨p, off, rfl, hp, hcell⟩ := h0 (by omega)
  rw [hl]
  have HC : Hid (∀ i, i < 4 → w.cell? ⟨p, off + i, none⟩ = some (.int .i64 (gAt l i))) := fun i hi => hcell i (by omega)
  clear h0 hcell hc
  generalize frm f = a at *
  go_enter Tryd.func14, Tryd.ntmps14
  go_wp2_with fail
  refine hfo.mono ?_
  rintro e w1 ⟨rfl, hat, hb⟩
  have HB : Hid (Below w.heap.size w w1) := hb
  have HP : Hid (∀ i, i < 4 → w1.cell? ⟨w.heap.size, i, none⟩ = some (.int .i64 (gAt a i))) := fun i hi => by rw [hat.cell, ic_get _ _ (by omega)]; rfl
  have HQ : Hid (∀ i, i < 4 → w1.cell? ⟨p, off + i, none⟩ = some (.int .i64 (gAt l i))) := fun i hi => (hb.cell (by exact hp)).trans (HC.out i hi)
  clear hat hb hfo
  go_wp2_with fail
  go_loopw [6, 7] (fun sm i wr => ∃ (j k : Nat), j ≤ 4 ∧ i = .int .i64 j ∧ sm = .int .i64 (sumV a l j) ∧ wr = w1.drewN k ∧ (-20000 ≤ sumV a l j ∧ sumV a l j ≤ 20000 ∧ -(5000 * (j : Int)) ≤ sumV a l j ∧ sumV a l j ≤ 5000 * (j : Int))) (fun _ i _ => 4 - (intOf i).toNat)
  case atStart => exact ⟨0, 0, by omega, rfl, rfl, rfl, by show -20000 ≤ (0 : Int) ∧ (0 : Int) ≤ 20000 ∧ -(5000 * ((0 : Nat) : Int)) ≤ (0 : Int) ∧ (0 : Int) ≤ 5000 * ((0 : Nat) : Int); omega⟩
  case round =>
    obtain ⟨j, k, hj, rfl, rfl, hwr, s0, s1, s2, s3⟩ := hrel
    have HW : Hid (∃ k, wr = w1.drewN k) := ⟨k, hwr⟩
    have k1 : ∀ a, wr.cell? a = w1.cell? a := fun a => by rw [hwr]; rfl
    have a0 := (k1 _).trans (HP.out 0 (by omega))
    have a1 := (k1 _).trans (HP.out 1 (by omega))
    have a2 := (k1 _).trans (HP.out 2 (by omega))
    have a3 := (k1 _).trans (HP.out 3 (by omega))
    have b0 := (k1 _).trans (HQ.out 0 (by omega))
    have b1 := (k1 _).trans (HQ.out 1 (by omega))
    have b2 := (k1 _).trans (HQ.out 2 (by omega))
    have b3 := (k1 _).trans (HQ.out 3 (by omega))
    rw [Nat.add_zero] at b0
    clear hwr k1
    rcases (show j = 0 ∨ j = 1 ∨ j = 2 ∨ j = 3 ∨ j = 4 by omega) with rfl | rfl | rfl | rfl | rfl
    · have hp := mul_sgV (gAt a 0) (gAt l 0) (hx 0 (by omega)).1 (hx 0 (by omega)).2 (hv 0 (by omega)).1 (hv 0 (by omega)).2
      have hmw : wrap64 (gAt a 0 * gAt l 0) = gAt a 0 * gAt l 0 := by unfold wrap64; omega
      have hL : Hid (sumV a l (0 + 1) = sumV a l 0 + gAt a 0 * gAt l 0) := rfl
      generalize sumV a l 0 = sm at *
      go_wp2_with fail
      go_quiet (fail)
      go_wp2_with fail
      go_roundw
      case rel => obtain ⟨k', e⟩ := HW.out; exact ⟨0 + 1, _, by omega, rfl, by rw [hL.out], by rw [e]; exact drewN_two _ _ _, by rw [hL.out]; omega⟩
      case measure => simp [intOf]
    · have hp := mul_sgV (gAt a 1) (gAt l 1) (hx 1 (by omega)).1 (hx 1 (by omega)).2 (hv 1 (by omega)).1 (hv 1 (by omega)).2
      have hmw : wrap64 (gAt a 1 * gAt l 1) = gAt a 1 * gAt l 1 := by unfold wrap64; omega
      have hL : Hid (sumV a l (1 + 1) = sumV a l 1 + gAt a 1 * gAt l 1) := rfl
      generalize sumV a l 1 = sm at *
      go_wp2_with fail
      go_quiet (fail)
      go_wp2_with fail
      go_roundw
      case rel => obtain ⟨k', e⟩ := HW.out; exact ⟨1 + 1, _, by omega, rfl, by rw [hL.out], by rw [e]; exact drewN_two _ _ _, by rw [hL.out]; omega⟩
      case measure => simp [intOf]
    · have hp := mul_sgV (gAt a 2) (gAt l 2) (hx 2 (by omega)).1 (hx 2 (by omega)).2 (hv 2 (by omega)).1 (hv 2 (by omega)).2
      have hmw : wrap64 (gAt a 2 * gAt l 2) = gAt a 2 * gAt l 2 := by unfold wrap64; omega
      have hL : Hid (sumV a l (2 + 1) = sumV a l 2 + gAt a 2 * gAt l 2) := rfl
      generalize sumV a l 2 = sm at *
      go_wp2_with fail
      go_quiet (fail)
      go_wp2_with fail
      go_roundw
      case rel => obtain ⟨k', e⟩ := HW.out; exact ⟨2 + 1, _, by omega, rfl, by rw [hL.out], by rw [e]; exact drewN_two _ _ _, by rw [hL.out]; omega⟩
      case measure => simp [intOf]
    · have hp := mul_sgV (gAt a 3) (gAt l 3) (hx 3 (by omega)).1 (hx 3 (by omega)).2 (hv 3 (by omega)).1 (hv 3 (by omega)).2
      have hmw : wrap64 (gAt a 3 * gAt l 3) = gAt a 3 * gAt l 3 := by unfold wrap64; omega
      have hL : Hid (sumV a l (3 + 1) = sumV a l 3 + gAt a 3 * gAt l 3) := rfl
      generalize sumV a l 3 = sm at *
      go_wp2_with fail
      go_quiet (fail)
      go_wp2_with fail
      go_roundw
      case rel => obtain ⟨k', e⟩ := HW.out; exact ⟨3 + 1, _, by omega, rfl, by rw [hL.out], by rw [e]; exact drewN_two _ _ _, by rw [hL.out]; omega⟩
      case measure => simp [intOf]
    · go_wp2_with fail
      go_ret
      refine ⟨by rw [HE.out]; rfl, ?_⟩
      obtain ⟨k', e⟩ := HW.out
      rw [e]
      exact below_drewN HB.out _

end Go.Proofs.YtffajooegiempabDoor

namespace Go.Proofs.YtffajooegiempabDoor
open Go.RowKit
variable {w : World}

/-- Is it in there? As far as the forms were looked at. -/
def allF (o v : List Int) : Nat → Bool
  | 0 => true
  | f + 1 => allF o v f && decide (valF f v ≤ gAt o f)
def hasB (o v : List Int) : Bool := decide (o.length = 32) && allF o v 32
theorem allF_no {o v : List Int} {f : Nat} (hf : f < 32) (h : ¬ valF f v ≤ gAt o f) : allF o v 32 = false := by
  have : ∀ d, allF o v (f + 1 + d) = false := by
    intro d
    induction d with
    | zero => show (allF o v f && decide (valF f v ≤ gAt o f)) = false; rw [decide_eq_false h]; simp
    | succ d ih => show (allF o v (f + 1 + d) && _) = false; rw [ih]; rfl
  rw [show 32 = f + 1 + (31 - f) by omega]
  exact this _
theorem allF_all {o v : List Int} : ∀ {n : Nat}, allF o v n = true ↔ ∀ f, f < n → valF f v ≤ gAt o f := by
  intro n
  induction n with
  | zero => exact ⟨fun _ f hf => absurd hf (by omega), fun _ => rfl⟩
  | succ n ih =>
    show (allF o v n && decide (valF n v ≤ gAt o n)) = true ↔ _
    rw [Bool.and_eq_true, ih, decide_eq_true_eq]
    constructor
    · rintro ⟨h1, h2⟩ f hf
      rcases Nat.lt_or_eq_of_le (Nat.lt_succ_iff.1 hf) with q | q
      · exact h1 f q
      · rw [q]; exact h2
    · intro h
      exact ⟨fun f hf => h f (by omega), h n (by omega)⟩

set_option maxRecDepth 100000 in
set_option maxHeartbeats 1600000 in
theorem k_has (u v : Value) (o l : List Int) (hl : l.length = 4) (_hm : o.length ≤ 1073741824) (hu : Reads w u o) (hr : Reads w v l) (hv : ∀ i, i < 4 → -5000 ≤ gAt l i ∧ gAt l i ≤ 5000) :
    Calls Tryd.prog 13 #[u, v] w fun e w' => e = .returned (.bool (hasB o l)) ∧ Below w.heap.size w w' := by
  have HV : Hid (∀ wr f, f < 32 → Below w.heap.size w wr → Calls Tryd.prog 14 #[.int .i64 ((f : Nat) : Int), v] wr fun e w' => e = .returned (.int .i64 (valF f l)) ∧ Below wr.heap.size wr w') := fun wr f hf hb => k_value f hf v l hl (hr.keep hb) hv
  obtain ⟨av, cv, rfl, -, -⟩ := hr
  obtain ⟨au, cu, rfl, hcu, h0⟩ := hu
  rw [hl] at HV ⊢
  clear hl hv
  by_cases h32 : o.length = 32
  · have HE : Hid (hasB o l = allF o l 32) := by show hasB o l = _; unfold hasB; rw [decide_eq_true h32]; rfl
    obtain ⟨p, off, rfl, hp, hcell⟩ := h0 (by omega)
    have HC : Hid (∀ i, i < 32 → w.cell? ⟨p, off + i, none⟩ = some (.int .i64 (gAt o i))) := fun i hi => hcell i (by omega)
    rw [h32]
    clear h0 hcell hcu h32 _hm
    go_enter Tryd.func13, Tryd.ntmps13
    go_wp2_with fail
    go_loopw [5] (fun i wr => ∃ (f : Nat), f ≤ 32 ∧ i = .int .i64 f ∧ Hid (allF o l f = true ∧ Below w.heap.size w wr)) (fun i _ => 32 - (intOf i).toNat)
    case atStart => exact ⟨0, by omega, rfl, rfl, Below.refl _ _⟩
    case round =>
      obtain ⟨f, hf, rfl, HR⟩ := hrel
      by_cases hlt : f < 32
      · have hfi : (f : Int) < 32 := by omega
        have hval := HV.out wr f hlt HR.out.2
        have HEq : Hid (allF o l (f + 1) = (allF o l f && decide (valF f l ≤ gAt o f))) := rfl
        have HNo : Hid (¬ valF f l ≤ gAt o f → allF o l 32 = false) := fun h => allF_no hlt h
        have cx : wr.cell? ⟨p, off + f, none⟩ = some (.int .i64 (gAt o f)) := (HR.out.2.cell (by exact hp)).trans (HC.out f hlt)
        generalize valF f l = x at *
        generalize gAt o f = y at *
        go_wp2_with fail
        refine hval.mono ?_
        rintro e w2 ⟨rfl, hb2⟩
        have hs := HR.out.2.size
        have cx2 : w2.cell? ⟨p, off + f, none⟩ = some (.int .i64 y) := (hb2.cell (by show p < _; omega)).trans cx
        have HB2 : Hid (Below w.heap.size w w2) := HR.out.2.trans (hb2.mono hs)
        clear hb2 cx hval
        by_cases hn : y < x
        · have HF : Hid (allF o l 32 = false) := HNo.out (by omega)
          go_wp2_with fail
          go_ret
          exact ⟨by rw [HE.out, HF.out]; rfl, HB2.out⟩
        · have hle : x ≤ y := by omega
          go_wp2_with fail
          go_roundw
          case rel => exact ⟨f + 1, by omega, by go_num, by rw [HEq.out, HR.out.1]; simpa using hle, HB2.out⟩
          case measure => simp [intOf]; omega
      · have hf32 : f = 32 := by omega
        subst hf32
        go_wp2_with fail
        go_ret
        exact ⟨by rw [HE.out, HR.out.1]; rfl, HR.out.2⟩
  · have HE : Hid (hasB o l = false) := by show hasB o l = _; unfold hasB; rw [decide_eq_false h32]; rfl
    have hb : ((o.length : Int) != 32) = true := by rw [bne_iff_ne]; omega
    clear h0 h32
    go_enter Tryd.func13, Tryd.ntmps13
    go_wp2_with fail
    go_ret
    exact ⟨by rw [HE.out]; rfl, Below.refl _ _⟩

end Go.Proofs.YtffajooegiempabDoor

namespace Go.Proofs.YtffajooegiempabDoor
open Go.RowKit
variable {w : World}

/-- A bound out of a raw number. -/
def bnd (raw : List Int) (m : Int) (f : Nat) : Int := if f < raw.length ∧ -m ≤ gAt raw f ∧ gAt raw f ≤ m then gAt raw f else NB
def bndL (raw : List Int) (m : Int) (n : Nat) : List Int := (List.range 32).map fun i => if i < n then bnd raw m i else 0
theorem bndL_len (raw : List Int) (m : Int) (n : Nat) : (bndL raw m n).length = 32 := by simp [bndL]
theorem bndL_set (raw : List Int) (m : Int) (n : Nat) (_hn : n < 32) (x : Int) (hx : x = bnd raw m n) (y : Int) : ((bndL raw m n).set n y).set n x = bndL raw m (n + 1) := by
  apply List.ext_getElem
  · simp [bndL]
  · intro i h1 h2
    simp [bndL] at h1 h2 ⊢
    rw [List.getElem_set]
    by_cases e : n = i
    · subst e; rw [if_pos rfl, if_pos (by omega), hx]
    · rw [if_neg e]
      simp
      by_cases q : i < n
      · rw [if_pos q, if_pos (by omega)]
      · rw [if_neg q, if_neg (by omega)]
theorem bndL_set1 (raw : List Int) (m : Int) (n : Nat) (hn : n < 32) (x : Int) (hx : x = bnd raw m n) : (bndL raw m n).set n x = bndL raw m (n + 1) := by
  rw [← bndL_set raw m n hn x hx x, List.set_set]

set_option maxRecDepth 100000 in
set_option maxHeartbeats 1600000 in
theorem k_bounds (v : Value) (raw : List Int) (m : Int) (hm0 : 0 ≤ m) (hm1 : m ≤ 4000) (hr : Reads w v raw) (_hmx : raw.length ≤ 9223372036854775807) :
    Calls Tryd.prog 9 #[v, .int .i64 m] w fun e w' => e = .returned (.slice (some ⟨w.heap.size, 0, none⟩) 32 32) ∧ At w' w.heap.size (ic (bndL raw m 32)) tNk ∧ Below w.heap.size w w' := by
  have hmk0 : ∀ w, (Instr.makeSlice 22 (.int .i64 32) (.int .i64 32)).run Tryd.prog w = .ok (.slice (some ⟨w.heap.size, 0, none⟩) 32 32) (w.alloc (.cells (ic (List.replicate 32 0)) tNk)) := fun _ => by kernel_rfl
  have hmk : ∀ w, (Instr.makeSlice 22 (.int .i64 32) (.int .i64 32)).run Tryd.prog w = .ok (.slice (some ⟨w.heap.size, 0, none⟩) 32 32) (w.alloc (.cells (ic (bndL raw m 0)) tNk)) := hmk0
  clear hmk0
  obtain ⟨ao, cap, rfl, hc, h0⟩ := hr
  have HC : Hid (raw.length ≠ 0 → ∃ b off, ao = some ⟨b, off, none⟩ ∧ b < w.heap.size ∧ ∀ i, i < raw.length → w.cell? ⟨b, off + i, none⟩ = some (.int .i64 (gAt raw i))) := h0
  have HA0 : Hid (At (w.alloc (.cells (ic (bndL raw m 0)) tNk)) w.heap.size (ic (bndL raw m 0)) tNk) := At.new _ _ _
  have HB0 : Hid (∀ o, Below w.heap.size w (w.alloc o)) := fun o => (Below.refl _ _).alloc (Nat.le_refl _) _
  clear h0 hc
  go_enter Tryd.func9, Tryd.ntmps9
  go_wp2_with fail
  go_loopw [6] (fun i wr => ∃ (f : Nat), f ≤ 32 ∧ i = .int .i64 f ∧ Hid (At wr w.heap.size (ic (bndL raw m f)) tNk ∧ Below w.heap.size w wr)) (fun i _ => 32 - (intOf i).toNat)
  case atStart => exact ⟨0, by omega, rfl, HA0.out, HB0.out _⟩
  case round =>
    obtain ⟨f, hf, rfl, HR⟩ := hrel
    by_cases hlt : f < 32
    · have hfi : (f : Int) < 32 := by omega
      clear hmk
      by_cases hlen : f < raw.length
      · have hli : (f : Int) < (raw.length : Int) := by omega
        obtain ⟨b, off, rfl, hb, hcell⟩ := HC.out (by omega)
        have cx : wr.cell? ⟨b, off + f, none⟩ = some (.int .i64 (gAt raw f)) := (HR.out.2.cell (by exact hb)).trans (hcell f hlen)
        have hbne : b ≠ w.heap.size := by omega
        clear hcell
        by_cases h1 : -m ≤ gAt raw f
        · by_cases h2 : gAt raw f ≤ m
          · have HX : Hid (bnd raw m f = gAt raw f) := if_pos ⟨hlen, h1, h2⟩
            have c1 : wr.cell? ⟨w.heap.size, f, none⟩ = some (.int .i64 (gAt (bndL raw m f) f)) := by rw [HR.out.1.cell, ic_get _ _ (by rw [bndL_len]; exact hlt)]; rfl
            have cf := HR.out.1.free f
            have hl := HR.out.1.lt
            generalize gAt (bndL raw m f) f = old at *
            generalize gAt raw f = x at *
            go_wp2_with fail
            go_roundw
            case rel =>
              refine ⟨f + 1, by omega, by go_num, ?_, (HR.out.2.setCell (by show w.heap.size ≤ w.heap.size; omega) _).setCell (by show w.heap.size ≤ w.heap.size; omega) _⟩
              have := (HR.out.1.put f (.int .i64 1000000)).put f (.int .i64 x)
              rw [ic_set, ic_set, bndL_set raw m f hlt x HX.out.symm 1000000] at this
              exact this
            case measure => simp [intOf]; omega
          · have HX : Hid (bnd raw m f = 1000000) := by show bnd raw m f = _; unfold bnd; rw [if_neg (fun e => h2 e.2.2)]; rfl
            have c1 : wr.cell? ⟨w.heap.size, f, none⟩ = some (.int .i64 (gAt (bndL raw m f) f)) := by rw [HR.out.1.cell, ic_get _ _ (by rw [bndL_len]; exact hlt)]; rfl
            have cf := HR.out.1.free f
            have hl := HR.out.1.lt
            generalize gAt (bndL raw m f) f = old at *
            go_wp2_with fail
            go_roundw
            case rel =>
              refine ⟨f + 1, by omega, by go_num, ?_, HR.out.2.setCell (by show w.heap.size ≤ w.heap.size; omega) _⟩
              have := HR.out.1.put f (.int .i64 1000000)
              rw [ic_set, bndL_set1 raw m f hlt 1000000 HX.out.symm] at this
              exact this
            case measure => simp [intOf]; omega
        · have HX : Hid (bnd raw m f = 1000000) := by show bnd raw m f = _; unfold bnd; rw [if_neg (fun e => h1 e.2.1)]; rfl
          have c1 : wr.cell? ⟨w.heap.size, f, none⟩ = some (.int .i64 (gAt (bndL raw m f) f)) := by rw [HR.out.1.cell, ic_get _ _ (by rw [bndL_len]; exact hlt)]; rfl
          have cf := HR.out.1.free f
          have hl := HR.out.1.lt
          generalize gAt (bndL raw m f) f = old at *
          go_wp2_with fail
          go_roundw
          case rel =>
            refine ⟨f + 1, by omega, by go_num, ?_, HR.out.2.setCell (by show w.heap.size ≤ w.heap.size; omega) _⟩
            have := HR.out.1.put f (.int .i64 1000000)
            rw [ic_set, bndL_set1 raw m f hlt 1000000 HX.out.symm] at this
            exact this
          case measure => simp [intOf]; omega
      · have hli : ¬ (f : Int) < (raw.length : Int) := by omega
        have HX : Hid (bnd raw m f = 1000000) := by show bnd raw m f = _; unfold bnd; rw [if_neg (fun e => hlen e.1)]; rfl
        have c1 : wr.cell? ⟨w.heap.size, f, none⟩ = some (.int .i64 (gAt (bndL raw m f) f)) := by rw [HR.out.1.cell, ic_get _ _ (by rw [bndL_len]; exact hlt)]; rfl
        have cf := HR.out.1.free f
        have hl := HR.out.1.lt
        generalize gAt (bndL raw m f) f = old at *
        go_wp2_with fail
        go_roundw
        case rel =>
          refine ⟨f + 1, by omega, by go_num, ?_, HR.out.2.setCell (by show w.heap.size ≤ w.heap.size; omega) _⟩
          have := HR.out.1.put f (.int .i64 1000000)
          rw [ic_set, bndL_set1 raw m f hlt 1000000 HX.out.symm] at this
          exact this
        case measure => simp [intOf]; omega
    · have hf32 : f = 32 := by omega
      subst hf32
      go_wp2_with fail
      go_ret
      exact ⟨rfl, HR.out.1, HR.out.2⟩

end Go.Proofs.YtffajooegiempabDoor

/- What sharper bounds, joined ones and those within have to do with the states. -/
namespace Go.Proofs.YtffajooegiempabDoor

theorem sum_one (a : Nat) (ha : a < 4) (s : Int) (V : Nat → Int) : (if 0 = a then s else 0) * V 0 + (if 1 = a then s else 0) * V 1 + (if 2 = a then s else 0) * V 2 + (if 3 = a then s else 0) * V 3 = s * V a := by
  rcases (show a = 0 ∨ a = 1 ∨ a = 2 ∨ a = 3 by omega) with rfl | rfl | rfl | rfl <;> simp
theorem sd_sgn (V : Nat → Int) (i : Nat) : sd V i = sgn i * V (i / 2) := by
  unfold sd sgn
  by_cases h : i % 2 = 0
  · rw [if_pos h, h]; simp
  · have h1 : i % 2 = 1 := by omega
    rw [if_neg h, h1]; simp
/-- A form's value, by its sides. -/
theorem valF_sd (f : Nat) (hf : f < 32) (v : List Int) : valF f v = if f < 8 then sd (gAt v) f else sd (gAt v) (fs f) + sd (gAt v) (ss f) := by
  unfold valF
  simp only [sumV, Int.zero_add]
  by_cases h : f < 8
  · rw [if_pos h, frm_lo f h 0 (by omega), frm_lo f h 1 (by omega), frm_lo f h 2 (by omega), frm_lo f h 3 (by omega), sd_sgn]
    exact sum_one (f / 2) (by omega) (sgn f) (gAt v)
  · rw [if_neg h, frm_hi f hf (by omega) 0 (by omega), frm_hi f hf (by omega) 1 (by omega), frm_hi f hf (by omega) 2 (by omega), frm_hi f hf (by omega) 3 (by omega), sd_sgn, sd_sgn]
    have a1 := fs_lt f hf
    have a2 := ss_lt f hf
    rw [← sum_one (fs f / 2) (by omega) (sgn (fs f)) (gAt v), ← sum_one (ss f / 2) (by omega) (sgn (ss f)) (gAt v)]
    simp only [Int.add_mul]
    omega

variable {o p v : List Int} {M N : Nat → Int}

/-- A state that a list has keeps to the sums that are laid. -/
theorem sat_lay (h : ∀ f, f < 32 → valF f v ≤ gAt o f) : Sat (gAt v) (lay o 32) := by
  intro i j hi hj
  rcases form_of i hi j hj with e | ⟨f, hf, e⟩
  · subst e
    right
    rw [lay_opp o i hi, sd_opp]; omega
  · have hl := lay_form o f hf
    have hv := valF_sd f hf v
    have hh := h f hf
    have key : lay o 32 (i * 8 + j) = bv o f := by rcases e with ⟨rfl, rfl⟩ | ⟨rfl, rfl⟩; exact hl.1; exact hl.2
    have hsum : f < 8 → sd (gAt v) i + sd (gAt v) j = 2 * sd (gAt v) f := by
      intro h8
      obtain ⟨q1, q2⟩ := fs_lo f h8
      have : i = f ∧ j = f := by omega
      rw [this.1, this.2]; omega
    have hsum2 : ¬ f < 8 → sd (gAt v) i + sd (gAt v) j = sd (gAt v) (fs f) + sd (gAt v) (ss f) := by
      intro _
      rcases e with ⟨rfl, rfl⟩ | ⟨rfl, rfl⟩ <;> omega
    rw [key]
    unfold bv
    by_cases h8 : f < 8
    · rw [if_pos h8] at hv
      obtain ⟨q1, q2⟩ := fs_lo f h8
      by_cases hn : o.getD f 0 = NB
      · left; rw [if_neg (fun q => q.2 hn)]; exact hn
      · right
        rw [if_pos ⟨by omega, hn⟩, hsum h8]
        unfold gAt at hh
        omega
    · rw [if_neg h8] at hv
      rw [if_neg (fun q => fs_hi f hf (by omega) q.1), hsum2 h8]
      right
      unfold gAt at hh
      omega

theorem valF_small (hv : ∀ i, i < 4 → -5000 ≤ gAt v i ∧ gAt v i ≤ 5000) (f : Nat) (hf : f < 32) : valF f v ≤ 10000 := by
  have hs : ∀ i, i < 8 → sd (gAt v) i ≤ 5000 := by
    intro i hi
    have := hv (i / 2) (by omega)
    unfold sd; split <;> omega
  rw [valF_sd f hf]
  have a1 := fs_lt f hf
  have a2 := ss_lt f hf
  split
  · have := hs f (by omega); omega
  · have := hs _ a1; have := hs _ a2; omega

/-- A state that keeps to the sums lies in the list of the bounds. -/
theorem sat_bd (hv : ∀ i, i < 4 → -5000 ≤ gAt v i ∧ gAt v i ≤ 5000) (h : Sat (gAt v) M) (f : Nat) (hf : f < 32) : valF f v ≤ bd M f := by
  have a1 := fs_lt f hf
  have a2 := ss_lt f hf
  have hsm := valF_small hv f hf
  have hq := h (fs f) (ss f) a1 a2
  rw [valF_sd f hf] at hsm ⊢
  unfold bd
  by_cases h8 : f < 8
  · obtain ⟨q1, q2⟩ := fs_lo f h8
    rw [if_pos h8] at hsm ⊢
    rw [q1, q2] at hq ⊢
    by_cases hn : M (f * 8 + f) = NB
    · rw [if_neg (fun q => q.2 hn), hn]; unfold NB; omega
    · rw [if_pos ⟨rfl, hn⟩]
      have hle := hq.resolve_left hn
      have := tdiv2 (M (f * 8 + f))
      rcases Int.lt_or_le (M (f * 8 + f)) 0 with e | e
      · rw [this.2 e]; omega
      · rw [this.1 e]; omega
  · rw [if_neg h8] at hsm ⊢
    rw [if_neg (fun q => fs_hi f hf (by omega) q.1)]
    rcases hq with hq | hq
    · rw [hq]; unfold NB; omega
    · exact hq
/-- The list that comes out: none where it is empty. -/
def outL (e : Bool) (M : Nat → Int) : List Int := if e = true then [] else bdL M
theorem has_out_true (hv : ∀ i, i < 4 → -5000 ≤ gAt v i ∧ gAt v i ≤ 5000) (h : Sat (gAt v) M) : hasB (outL false M) v = true := by
  unfold hasB outL
  rw [if_neg (by decide), Bool.and_eq_true]
  exact ⟨by simp [bdL], allF_all.2 fun f hf => by rw [bdL_get M f hf]; exact sat_bd hv h f hf⟩
theorem has_iff (ho : o.length = 32) : hasB o v = true ↔ ∀ f, f < 32 → valF f v ≤ gAt o f := by
  unfold hasB
  rw [decide_eq_true ho, Bool.true_and]
  exact allF_all
theorem sat_ov (ho : o.length = 32) (h : hasB o v = true) : Sat (gAt v) (ovM o) ∧ ovE o = false := by
  have := (sat_lay ((has_iff ho).1 h)).sharp
  exact ⟨this, this.some⟩

end Go.Proofs.YtffajooegiempabDoor

namespace Go.Proofs.YtffajooegiempabDoor
open Go.RowKit
variable {w : World}

theorem LSaysE.out {w w' : World} {e : Bool} {M : Nat → Int} {x : Ending} (h : LSaysE w e M x w') : ∃ y, x = .returned (.tuple #[y, .int .i64 0]) ∧ Reads w' y (outL e M) ∧ Below w.heap.size w w' := by
  obtain ⟨y, ⟨hb, h1⟩, hx⟩ := h
  refine ⟨y, hx, ?_, hb⟩
  rcases h1 with ⟨he, hy⟩ | ⟨he, g, hy, hg, hat⟩
  · cases hy
    rw [he]
    exact ⟨none, 0, rfl, Nat.le_refl _, fun h => absurd rfl h⟩
  · cases hy
    rw [he]
    exact Reads.at_ hat (by simp [outL, bdL]) (Nat.le_refl _) (fun i hi => by unfold outL; rw [if_neg (by decide), ic_get _ _ (by simpa [bdL] using hi)])
theorem bnd_ok (raw : List Int) (m : Int) (hm1 : m ≤ 4000) : okL (bndL raw m 32) := by
  refine ⟨bndL_len _ _ _, fun i hi => ?_⟩
  have : (bndL raw m 32).getD i 0 = bnd raw m i := by simp [bndL, List.getD, hi]
  rw [this]
  unfold isB bnd
  apply decide_eq_true
  split
  · right; omega
  · left; rfl
theorem Reads.slice {v : Value} {l : List Int} (h : Reads w v l) : ∃ a n k, v = .slice a n k := by
  obtain ⟨a, c, h, _⟩ := h
  exact ⟨a, _, c, h⟩

end Go.Proofs.YtffajooegiempabDoor

namespace Go.Proofs.YtffajooegiempabDoor
open Go.RowKit
variable {w : World}

set_option maxRecDepth 100000 in
set_option maxHeartbeats 800000 in
theorem k_pick (c n : Int) (h0 : -9223372036854775808 ≤ c) (h1 : c ≤ 9223372036854775807) (hn0 : 0 < n) (hn1 : n ≤ 100000) :
    Calls Tryd.prog 16 #[.int .i64 c, .int .i64 n] w fun e w' => ∃ r : Nat, e = .returned (.int .i64 (r : Int)) ∧ (r : Int) < n ∧ w' = w := by
  have hm : ∀ x : Int, 0 ≤ x → ∃ r : Nat, x.tmod n = (r : Int) ∧ (r : Int) < n := fun x hx => by
    have a := Int.tmod_lt_of_pos x hn0
    have b := Int.tmod_nonneg n hx
    exact ⟨(x.tmod n).toNat, by omega, by omega⟩
  by_cases hc : c < 0
  · obtain ⟨r, hr, hrn⟩ := hm (-(c + 1)) (by omega)
    go_enter Tryd.func16, Tryd.ntmps16
    go_wp2_with fail
    go_ret
    exact ⟨r, rfl, hrn, rfl⟩
  · obtain ⟨r, hr, hrn⟩ := hm c (by omega)
    go_enter Tryd.func16, Tryd.ntmps16
    go_wp2_with fail
    go_ret
    exact ⟨r, rfl, hrn, rfl⟩

/-- A list widened so far that it has a state. -/
def wdF (o v : List Int) (f : Nat) : Int := if gAt o f < valF f v then valF f v else gAt o f
def wdL (o v : List Int) (n : Nat) : List Int := (List.range 32).map fun i => if i < n then wdF o v i else gAt o i
theorem wdL_len (o v : List Int) (n : Nat) : (wdL o v n).length = 32 := by simp [wdL]
theorem wdL_at (o v : List Int) (n : Nat) {i : Nat} (hi : i < 32) : gAt (wdL o v n) i = if i < n then wdF o v i else gAt o i := by simp [wdL, gAt, List.getD, hi]
theorem wdL_0 {o : List Int} (h : o.length = 32) (v : List Int) : wdL o v 0 = o := by
  apply List.ext_getElem
  · rw [wdL_len, h]
  · intro i h1 h2
    simp [wdL, gAt, List.getD, h2]
theorem wdL_set (o v : List Int) (n : Nat) (_hn : n < 32) (x : Int) (hx : x = wdF o v n) : (wdL o v n).set n x = wdL o v (n + 1) := by
  apply List.ext_getElem
  · simp [wdL]
  · intro i h1 h2
    simp [wdL] at h1 h2 ⊢
    rw [List.getElem_set]
    by_cases e : n = i
    · subst e; rw [if_pos rfl, if_pos (by omega), hx]
    · rw [if_neg e]
      simp
      by_cases q : i < n
      · rw [if_pos q, if_pos (by omega)]
      · rw [if_neg q, if_neg (by omega)]
theorem wdL_same (o v : List Int) (n : Nat) (_hn : n < 32) (hx : gAt o n = wdF o v n) : wdL o v (n + 1) = wdL o v n := by
  apply List.ext_getElem
  · simp [wdL]
  · intro i h1 h2
    simp [wdL] at h1 h2 ⊢
    by_cases q : i < n
    · rw [if_pos q, if_pos (by omega)]
    · rw [if_neg q]
      by_cases e : i = n
      · subst e; rw [if_pos (by omega), hx]
      · rw [if_neg (by omega)]
theorem wd_ok {o v : List Int} (ho : okL o) (hv : ∀ f, f < 32 → -4000 ≤ valF f v ∧ valF f v ≤ 4000) : okL (wdL o v 32) := by
  refine ⟨wdL_len _ _ _, fun i hi => ?_⟩
  have e := wdL_at o v 32 hi
  have h1 := ho.2 i hi
  have h2 := hv i hi
  show isB (gAt (wdL o v 32) i) = true
  rw [e, if_pos hi]
  unfold wdF
  split
  · unfold isB; exact decide_eq_true (.inr (by omega))
  · exact h1
theorem wd_has {o v : List Int} : hasB (wdL o v 32) v = true := by
  rw [has_iff (wdL_len _ _ _)]
  intro f hf
  rw [wdL_at o v 32 hf, if_pos hf]
  unfold wdF
  split <;> omega

theorem runP_succ (F : List Ds) (I : List Int) : ∀ n (s : Ms), runP F I (n + 1) s = if (runP F I n s).st = 0 then stpP F I (runP F I n s) else runP F I n s := by
  intro n
  induction n with
  | zero => intro s; rfl
  | succ n ih =>
    intro s
    rw [runP]
    by_cases h : s.st = 0
    · rw [if_pos h, ih, runP, if_pos h]
    · rw [if_neg h, runP, if_neg h, if_neg h]
theorem run_ok {F : List Ds} {I : List Int} (hF : ∀ (k : Nat) (x : Ds), F[k]? = some x → DsOk x) : ∀ n (s : Ms), MsOk I s → InR F s → MsOk I (runP F I n s) ∧ InR F (runP F I n s) := by
  intro n
  induction n with
  | zero => intro s h1 h2; exact ⟨h1, h2⟩
  | succ n ih =>
    intro s h1 h2
    rw [runP]
    split
    · exact ih _ (h1.stp hF) h2.stp
    · exact ⟨h1, h2⟩
theorem first_ok (F : List Ds) (I : List Int) : MsOk I (entP F.length ⟨0, 0, 0, [0, 0, 0, 0]⟩ 0) ∧ InR F (entP F.length ⟨0, 0, 0, [0, 0, 0, 0]⟩ 0) := by
  refine ⟨⟨rfl, fun i => ?_, Nat.zero_le _⟩, InR.ent 0 (by decide) (by omega)⟩
  show -999 ≤ sgAt [0, 0, 0, 0] i ∧ sgAt [0, 0, 0, 0] i ≤ 999
  rcases (show i = 0 ∨ i = 1 ∨ i = 2 ∨ i = 3 ∨ 4 ≤ i by omega) with rfl | rfl | rfl | rfl | h4
  · decide
  · decide
  · decide
  · decide
  · have : sgAt [0, 0, 0, 0] i = 0 := by unfold sgAt; rw [List.getD_eq_getElem?_getD, List.getElem?_eq_none (by simp; omega)]; rfl
    rw [this]; decide

end Go.Proofs.YtffajooegiempabDoor

