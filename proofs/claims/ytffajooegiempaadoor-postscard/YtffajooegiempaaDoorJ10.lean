import Derived.Test.YtffajooegiempaaDoorJ9
/- Within and Join: what the document says against what the program says. No Go in here. -/
namespace Go.Proofs.YtffajooegiempaaDoor

/-- Bounds from which nothing follows, below others: they stay below whatever follows from those. -/
theorem TC.below_rd {C T : Nat → Int} (hC : TC C) (h : Le C T) (hi : ∀ a, a < 64 → T a ≤ NB) : Le C (rdF T 8) := by
  intro a ha
  rw [rdF_at]
  have h1 := h a ha
  split
  · rename_i q
    have e : a = a / 9 * 8 + a / 9 := by omega
    have h3 := hi a ha
    rcases hC.even (a / 9) q.2.1 with z | z
    · rw [← e] at z
      have := q.2.2
      omega
    · rw [← e] at z
      omega
  · exact h1
theorem TC.below_ah {C T : Nat → Int} (hC : TC C) (h : Le C T) (hi : ∀ a, a < 64 → T a ≤ NB) : ∀ k, k ≤ 64 → Le C (ahF T k) := by
  intro k
  induction k with
  | zero => intro _; exact h
  | succ k ih =>
    intro hk
    have h1 := ih (by omega)
    have hi1 : ∀ a, a < 64 → ahF T k a ≤ NB := fun a ha => Int.le_trans (ahF_le T k a) (hi a ha)
    rw [ahF]
    generalize ahF T k = S at h1 hi1
    intro a ha
    unfold ah1
    split
    · rename_i q
      unfold upd
      split
      · rename_i e
        obtain ⟨q1, q2, q3⟩ := pl_fin q.1
        have i8 : k / 8 < 8 := by omega
        have j8 : k % 8 < 8 := by omega
        have l1 := h1 (k / 8 * 8 + k / 8) (by omega)
        have l2 := h1 (k % 8 * 8 + k % 8) (by omega)
        have u1 := hi1 (k / 8 * 8 + k / 8) (by omega)
        have u2 := hi1 (k % 8 * 8 + k % 8) (by omega)
        have hh := (hC.half (k / 8) (k % 8) i8 j8 (by omega) (by omega)).2
        rw [show k / 8 * 8 + k % 8 = k by omega] at hh
        rw [e, q3]
        have t := tdiv2 (S (k / 8 * 8 + k / 8) + S (k % 8 * 8 + k % 8))
        rcases Int.lt_or_le (S (k / 8 * 8 + k / 8) + S (k % 8 * 8 + k % 8)) 0 with c | c
        · rw [t.2 c]; omega
        · rw [t.1 c]; omega
      · exact h1 a ha
    · exact h1 a ha
theorem TC.below_sharp {C M : Nat → Int} (hC : TC C) (h : Le C M) (hi : ∀ a, a < 64 → M a ≤ NB) : Le C (sharp M) := by
  have h1 := below_fw hC.tri h hi 8 (Nat.le_refl _)
  have i1 : ∀ a, a < 64 → fw M 8 a ≤ NB := fun a ha => Int.le_trans (fw_le M 8 a) (hi a ha)
  have h2 := hC.below_rd h1 i1
  exact hC.below_ah h2 (fun a ha => Int.le_trans (rdF_le _ 8 a) (i1 a ha)) 64 (Nat.le_refl _)

theorem leF_iff {M N : Nat → Int} : ∀ {n : Nat}, leF M N n = true ↔ ∀ k, k < n → M k ≤ N k := by
  intro n
  induction n with
  | zero => exact ⟨fun _ k hk => absurd hk (by omega), fun _ => rfl⟩
  | succ n ih =>
    show (leF M N n && decide (M n ≤ N n)) = true ↔ _
    rw [Bool.and_eq_true, ih, decide_eq_true_eq]
    constructor
    · rintro ⟨h1, h2⟩ k hk
      rcases Nat.lt_or_eq_of_le (Nat.lt_succ_iff.1 hk) with e | e
      · exact h1 k e
      · rw [e]; exact h2
    · intro h
      exact ⟨fun k hk => h k (by omega), h n (by omega)⟩
theorem conF_no {M : Nat → Int} : ∀ {n : Nat}, (∀ i, i < n → 0 ≤ M (i * 8 + opp i)) → conF M n = false := by
  intro n
  induction n with
  | zero => intro _; rfl
  | succ n ih =>
    intro h
    rw [conF, ih (fun i hi => h i (by omega))]
    have := h n (by omega)
    rw [decide_eq_false (by omega)]
    rfl
/-- The document's bounds below those of a list. -/
theorem lay_above {C : Nat → Int} {p : List Int} (hC : TC C) (hp : okL p) (h : ∀ f, f < 32 → bd C f ≤ p.getD f 0) : Le C (lay p 32) := by
  intro a ha
  have e : a = a / 8 * 8 + a % 8 := by omega
  have hi : a / 8 < 8 := by omega
  have hj : a % 8 < 8 := by omega
  rw [e]
  generalize a / 8 = i at hi
  generalize a % 8 = j at hj
  by_cases e1 : j = opp i
  · rw [e1, lay_opp p i hi, hC.zero i hi]; exact Int.le_refl _
  · rw [lay_nf p hi hj e1]
    have top : ∀ k, k < 64 → C k ≤ NB := fun k hk => by
      rcases hC.top k hk with q | q
      · omega
      · unfold NB; omega
    by_cases e2 : i = j
    · subst e2
      rw [nf_self]
      have b := bv_lo p hi
      by_cases q : p.getD i 0 = NB
      · rw [b.1 q]; exact top _ (by omega)
      · rw [b.2 q]
        have h1 := h i (by omega)
        have h2 := (isB_or (hp.2 i (by omega))).resolve_left q
        by_cases z : C (i * 8 + i) = NB
        · rw [(hC.lo hi).1 z] at h1
          unfold NB at h1
          omega
        · have := ((hC.lo hi).2 z).1
          omega
    · rw [bv_hi p hi hj e2 e1]
      have h1 := h (nf i j) (nf_ok i hi j hj e1).1
      rw [bd_nf hC.sym hi hj e2 e1] at h1
      exact h1
theorem lay_top {p : List Int} (hp : okL p) : ∀ a, a < 64 → lay p 32 a ≤ NB := fun a _ => (lay_range p 32 hp.2 a).2
theorem bd_below {C : Nat → Int} {p : List Int} (hp : okL p) (h : Le C (lay p 32)) : ∀ f, f < 32 → bd C f ≤ p.getD f 0 := by
  intro f hf
  have a := fs_lt f hf
  have b := ss_lt f hf
  have := bd_le (o := p) (M := fun k => if k < 64 then C k else lay p 32 k) hp.2 (fun k => by
    show (if k < 64 then C k else lay p 32 k) ≤ _
    split
    · rename_i hk; exact h k hk
    · exact Int.le_refl _) f hf
  have e : bd (fun k => if k < 64 then C k else lay p 32 k) f = bd C f := by
    unfold bd
    simp only [if_pos (show fs f * 8 + ss f < 64 by omega)]
  rw [e] at this
  exact this
/-- Within, by the document. -/
def dWi (o p : List Int) : Bool := ovE o || leF (bd (ovM o)) (fun f => p.getD f 0) 32
theorem wi_same {o p : List Int} (ho : okL o) (hp : okL p) : wiB (ovE o) (ovE p) (ovM o) (ovM p) = dWi o p := by
  unfold wiB dWi
  cases he : ovE o with
  | true => rfl
  | false =>
    have hC : TC (ovM o) := (raw_lay ho).tc he
    have up : leF (bd (ovM o)) (fun f => p.getD f 0) 32 = true → Le (ovM o) (ovM p) := fun h => hC.below_sharp (lay_above hC hp (leF_iff.1 h)) (lay_top hp)
    have dn : Le (ovM o) (ovM p) → leF (bd (ovM o)) (fun f => p.getD f 0) 32 = true := fun h => leF_iff.2 (bd_below hp (fun a ha => Int.le_trans (h a ha) (sharp_le _ a)))
    cases hq : ovE p with
    | true =>
      show false = (false || leF (bd (ovM o)) (fun f => p.getD f 0) 32)
      cases hl : leF (bd (ovM o)) (fun f => p.getD f 0) 32 with
      | false => rfl
      | true =>
        exfalso
        have h := up hl
        have : conF (ovM p) 8 = false := conF_no (fun i hi => by
          have a := h (i * 8 + opp i) (by have := opp_lt hi; omega)
          rw [hC.zero i hi] at a
          exact a)
        rw [show conF (ovM p) 8 = ovE p from rfl, hq] at this
        cases this
    | false =>
      show leF (ovM o) (ovM p) 64 = (false || leF (bd (ovM o)) (fun f => p.getD f 0) 32)
      cases hl : leF (bd (ovM o)) (fun f => p.getD f 0) 32 with
      | true => exact leF_iff.2 (up hl)
      | false =>
        cases hm : leF (ovM o) (ovM p) 64 with
        | false => rfl
        | true => rw [dn (leF_iff.1 hm)] at hl; cases hl

/-- Join, by the document. -/
def mxR (R S : Nat → Int) (f : Nat) : Int := if R f < S f then S f else R f
theorem jF_eq (M N : Nat → Int) : ∀ k a, jF M N k a = if a < k ∧ M a < N a then N a else M a := by
  intro k
  induction k with
  | zero => intro a; rw [if_neg (by omega)]; rfl
  | succ k ih =>
    intro a
    rw [jF]
    have hk : jF M N k k = M k := by rw [ih, if_neg (by omega)]
    rw [hk]
    by_cases e : a = k
    · subst e
      by_cases c : M a < N a
      · rw [if_pos c, upd_same, if_pos ⟨by omega, c⟩]
      · rw [if_neg c, ih, if_neg (by omega), if_neg (fun z => c z.2)]
    · have : (if M k < N k then upd (jF M N k) k (N k) else jF M N k) a = jF M N k a := by
        split
        · exact upd_other _ _ e
        · rfl
      rw [this, ih]
      by_cases q : a < k ∧ M a < N a
      · rw [if_pos q, if_pos ⟨by omega, q.2⟩]
      · rw [if_neg q, if_neg (fun z => q ⟨by omega, z.2⟩)]
theorem bd_mono {M N : Nat → Int} {f : Nat} (hM : M (fs f * 8 + ss f) ≤ NB) (hN : N (fs f * 8 + ss f) ≤ NB) (h : M (fs f * 8 + ss f) ≤ N (fs f * 8 + ss f)) : bd M f ≤ bd N f := by
  unfold bd
  generalize M (fs f * 8 + ss f) = x at *
  generalize N (fs f * 8 + ss f) = y at *
  have tx := tdiv2 x
  have ty := tdiv2 y
  have hx := Int.lt_or_le x 0
  have hy := Int.lt_or_le y 0
  unfold NB at *
  by_cases e : fs f = ss f
  · by_cases qy : y = 1000000
    · rw [if_neg (show ¬ (fs f = ss f ∧ y ≠ 1000000) from fun z => z.2 qy)]
      split
      · rcases hx with c | c
        · rw [tx.2 c]; omega
        · rw [tx.1 c]; omega
      · omega
    · rw [if_pos (show fs f = ss f ∧ y ≠ 1000000 from ⟨e, qy⟩), if_pos (show fs f = ss f ∧ x ≠ 1000000 from ⟨e, by omega⟩)]
      rcases hx with c | c
      · rw [tx.2 c]
        rcases hy with d | d
        · rw [ty.2 d]; omega
        · rw [ty.1 d]; omega
      · rw [tx.1 c, ty.1 (by omega)]; omega
  · rw [if_neg (show ¬ (fs f = ss f ∧ y ≠ 1000000) from fun z => e z.1), if_neg (show ¬ (fs f = ss f ∧ x ≠ 1000000) from fun z => e z.1)]
    exact h
theorem jo_bd {M N : Nat → Int} (hM : ∀ a, a < 64 → M a ≤ NB) (hN : ∀ a, a < 64 → N a ≤ NB) {f : Nat} (hf : f < 32) : bd (jF M N 64) f = mxR (bd M) (bd N) f := by
  have k : fs f * 8 + ss f < 64 := by have := fs_lt f hf; have := ss_lt f hf; omega
  have e := jF_eq M N 64 (fs f * 8 + ss f)
  unfold mxR
  by_cases c : M (fs f * 8 + ss f) < N (fs f * 8 + ss f)
  · rw [if_pos ⟨k, c⟩] at e
    have h1 : bd (jF M N 64) f = bd N f := by unfold bd; rw [e]
    have h2 := bd_mono (hM _ k) (hN _ k) (Int.le_of_lt c)
    rw [h1]
    split <;> omega
  · rw [if_neg (fun z => c z.2)] at e
    have h1 : bd (jF M N 64) f = bd M f := by unfold bd; rw [e]
    have h2 := bd_mono (f := f) (hN _ k) (hM _ k) (by omega)
    rw [h1, if_neg (by omega)]

end Go.Proofs.YtffajooegiempaaDoor

namespace Go.Proofs.YtffajooegiempaaDoor
open Go.RowKit
variable {w : World}

theorem ret_b {a b : Bool} (h : a = b) : Ending.returned (.bool b) = .returned (.bool a) := by rw [h]

set_option maxRecDepth 100000 in
set_option maxHeartbeats 1600000 in
theorem r_least (a b : Value) (la lb : List Int) (hla : la.length = 32) (hlb : lb.length = 32) (ha : Reads w a la) (hb : Reads w b lb) :
    Calls Tryd.prog 54 #[a, b] w fun e w' => e = .returned (.bool (leF (fun f => la.getD f 0) (fun f => lb.getD f 0) 32)) ∧ Below w.heap.size w w' := by
  obtain ⟨ao, ca, rfl, -, h0⟩ := ha
  obtain ⟨p, off, rfl, hp, hcell⟩ := h0 (by omega)
  obtain ⟨bo, cb, rfl, -, h1⟩ := hb
  obtain ⟨q, ofg, rfl, hq, hcelq⟩ := h1 (by omega)
  have HC : Hid (∀ i, i < 32 → w.cell? ⟨p, off + i, none⟩ = some (.int .i64 (la.getD i 0))) := fun i hi => hcell i (by omega)
  have HD : Hid (∀ i, i < 32 → w.cell? ⟨q, ofg + i, none⟩ = some (.int .i64 (lb.getD i 0))) := fun i hi => hcelq i (by omega)
  rw [hla, hlb]
  obtain ⟨A, hA⟩ : ∃ A : Nat → Int, A = fun f => la.getD f 0 := ⟨_, rfl⟩
  obtain ⟨B, hB⟩ : ∃ B : Nat → Int, B = fun f => lb.getD f 0 := ⟨_, rfl⟩
  have HC' : Hid (∀ i, i < 32 → w.cell? ⟨p, off + i, none⟩ = some (.int .i64 (A i))) := by rw [hA]; exact HC.out
  have HD' : Hid (∀ i, i < 32 → w.cell? ⟨q, ofg + i, none⟩ = some (.int .i64 (B i))) := by rw [hB]; exact HD.out
  rw [← hA, ← hB]
  clear HC HD hA hB hcell hcelq h0 h1 hla hlb
  go_enter Tryd.func54, Tryd.ntmps54
  go_wp2_with fail
  go_loopw [5] (fun i wr => ∃ (f k : Nat), f ≤ 32 ∧ i = .int .i64 f ∧ Hid (wr = w.drewN k ∧ leF A B f = true)) (fun i _ => 32 - (intOf i).toNat)
  case atStart => exact ⟨0, 0, by omega, rfl, rfl, rfl⟩
  case round =>
    obtain ⟨f, k, hf, rfl, HR⟩ := hrel
    by_cases hlt : f < 32
    · have hfi : (f : Int) < 32 := by omega
      have ca : wr.cell? ⟨p, off + f, none⟩ = some (.int .i64 (A f)) := by rw [HR.out.1]; exact HC'.out f hlt
      have cb : wr.cell? ⟨q, ofg + f, none⟩ = some (.int .i64 (B f)) := by rw [HR.out.1]; exact HD'.out f hlt
      have HN : Hid (¬ A f ≤ B f → leF A B 32 = false) := fun h => by
        cases e : leF A B 32 with
        | false => rfl
        | true => exact absurd (leF_iff.1 e f hlt) h
      have HY : Hid (leF A B (f + 1) = (leF A B f && decide (A f ≤ B f))) := rfl
      generalize A f = x at *
      generalize B f = y at *
      by_cases hxy : y < x
      · have HF : Hid (leF A B 32 = false) := HN.out (by omega)
        go_wp2_with fail
        go_quiet (fail)
        go_wp2_with fail
        go_ret
        exact ⟨ret_b HF.out, below_drewN (by rw [HR.out.1]; exact below_drewN (Below.refl _ _) _) _⟩
      · have HF : Hid (leF A B (f + 1) = true) := by show _ = true; rw [HY.out, HR.out.2, decide_eq_true (by omega)]; rfl
        go_wp2_with fail
        go_quiet (fail)
        go_wp2_with fail
        go_roundw
        case rel => exact ⟨f + 1, _, by omega, by go_num, by rw [HR.out.1]; exact drewN_two _ _ _, HF.out⟩
        case measure => simp [intOf]; omega
    · have hf32 : f = 32 := by omega
      subst hf32
      go_wp2_with fail
      go_ret
      exact ⟨ret_b HR.out.2, by rw [HR.out.1]; exact below_drewN (Below.refl _ _) _⟩

theorem leF_congr {A A' B : Nat → Int} : ∀ n, (∀ f, f < n → A f = A' f) → leF A B n = leF A' B n
  | 0, _ => rfl
  | n + 1, h => by
    show (leF A B n && decide (A n ≤ B n)) = (leF A' B n && decide (A' n ≤ B n))
    rw [leF_congr n (fun f hf => h f (by omega)), h n (by omega)]

set_option maxRecDepth 100000 in
set_option maxHeartbeats 1600000 in
theorem r_inside (u v : Value) (o p : List Int) (ho : okL o) (hp : p.length = 32) (hu : Reads w u o) (hv : Reads w v p) :
    Calls Tryd.prog 31 #[u, v] w fun e w' => e = .returned (.bool (dWi o p)) ∧ Below w.heap.size w w' := by
  have hq1 : ∀ (w : World) (a : Option Addr) (n c : Nat), (binOp .eql 22 (.slice a n c) (.slice none 0 0)).run Tryd.prog w = .ok (.bool a.isNone) w := fun w a n c => Lib.run_eql_slice_nil w 22 tN a n c 0 0 Tryd.underlying22
  have hcl := r_closed_ok u o ho hu
  have HL : Hid (∀ w1 g, Below w.heap.size w w1 → At w1 g (ic (bdL (ovM o))) tNo → Calls Tryd.prog 54 #[.slice (some ⟨g, 0, none⟩) 32 32, v] w1 fun e w' => e = .returned (.bool (leF (bd (ovM o)) (fun f => p.getD f 0) 32)) ∧ Below w1.heap.size w1 w') := by
    intro w1 g hb ha
    have hl : (bdL (ovM o)).length = 32 := by simp [bdL]
    have h := r_least (w := w1) (.slice (some ⟨g, 0, none⟩) 32 32) v (bdL (ovM o)) p hl hp (Reads.at_ ha hl (Nat.le_refl _) (fun i hi => ic_get _ _ (by omega))) (hv.keep hb)
    rw [leF_congr (A := fun f => (bdL (ovM o)).getD f 0) (A' := bd (ovM o)) 32 (fun f hf => bdL_get (ovM o) f hf)] at h
    exact h
  have HE : Hid (dWi o p = (ovE o || leF (bd (ovM o)) (fun f => p.getD f 0) 32)) := rfl
  have hol := ho.1
  obtain ⟨ao, ca, rfl, -, h0⟩ := hu
  obtain ⟨bp, off, rfl, -, -⟩ := h0 (by omega)
  obtain ⟨bo, cb, rfl, -, h1⟩ := hv
  obtain ⟨bq, ofg, rfl, -, -⟩ := h1 (by omega)
  generalize leF (bd (ovM o)) (fun f => p.getD f 0) 32 = r at *
  rw [hol] at hcl ⊢
  rw [hp] at HL ⊢
  clear h0 h1 ho hol
  go_enter Tryd.func31, Tryd.ntmps31
  go_wp2_with fail
  refine hcl.mono ?_
  rintro e w1 ⟨hb1, ⟨he, rfl⟩ | ⟨he, g, rfl, hg, ha⟩⟩
  · have HF : Hid (dWi o p = true) := by show _ = true; rw [HE.out, he]; rfl
    have HB1 : Hid (Below w.heap.size w w1) := hb1
    clear hb1 he hcl
    go_wp2_with fail
    go_ret
    exact ⟨ret_b HF.out, HB1.out⟩
  · have HF : Hid (dWi o p = r) := by show _ = r; rw [HE.out, he]; rfl
    have hls := HL.out w1 g hb1 ha
    have HB1 : Hid (Below w.heap.size w w1) := hb1
    clear hb1 he hcl ha
    go_wp2_with fail
    refine hls.mono ?_
    rintro e w2 ⟨rfl, hb2⟩
    go_wp2_with fail
    go_ret
    exact ⟨ret_b HF.out, HB1.out.trans (hb2.mono HB1.out.size)⟩

theorem gdB_no {l : List Int} (h : ¬ okL l) : gdB l = false := by
  cases e : gdB l with
  | false => rfl
  | true => exact absurd (gdB_ok.1 e) h
/-- What both say of Within. -/
def DWithin (w : World) (o p : List Int) : Ending → World → Prop := fun x w' => Below w.heap.size w w' ∧ ((okL o ∧ okL p ∧ x = .returned (.tuple #[.bool (dWi o p), .int .i64 0])) ∨ (¬ (okL o ∧ okL p) ∧ x = .returned (.tuple #[.bool false, .int .i64 3])))
set_option maxRecDepth 100000 in
set_option maxHeartbeats 1600000 in
theorem r_within (u v : Value) (o p : List Int) (ho : o.length ≤ 1073741824) (hp : p.length ≤ 1073741824) (hu : Reads w u o) (hv : Reads w v p) :
    Calls Tryd.prog 14 #[u, v] w (DWithin w o p) := by
  have hg1 := r_good u o ho hu
  have hg2 := r_good v p hp hv
  by_cases k1 : okL o
  · rw [gdB_ok.2 k1] at hg1
    by_cases k2 : okL p
    · rw [gdB_ok.2 k2] at hg2
      have hin := r_inside u v o p k1 k2.1 hu hv
      have HK : Hid (okL o ∧ okL p) := ⟨k1, k2⟩
      obtain ⟨ao, ca, rfl, -, -⟩ := hu
      obtain ⟨bo, cb, rfl, -, -⟩ := hv
      clear k1 k2
      go_enter Tryd.func14, Tryd.ntmps14
      go_wp2_with fail
      refine hg1.mono ?_
      rintro e w1 ⟨rfl, rfl⟩
      go_wp2_with fail
      refine hg2.mono ?_
      rintro e w2 ⟨rfl, rfl⟩
      go_wp2_with fail
      refine hin.mono ?_
      rintro e w3 ⟨rfl, hb3⟩
      go_wp2_with fail
      go_ret2
      exact ⟨hb3, .inl ⟨HK.out.1, HK.out.2, rfl⟩⟩
    · rw [gdB_no k2] at hg2
      have HK : Hid (¬ (okL o ∧ okL p)) := fun h => k2 h.2
      obtain ⟨ao, ca, rfl, -, -⟩ := hu
      obtain ⟨bo, cb, rfl, -, -⟩ := hv
      clear k1 k2
      go_enter Tryd.func14, Tryd.ntmps14
      go_wp2_with fail
      refine hg1.mono ?_
      rintro e w1 ⟨rfl, rfl⟩
      go_wp2_with fail
      refine hg2.mono ?_
      rintro e w2 ⟨rfl, rfl⟩
      go_wp2_with fail
      go_ret2
      exact ⟨Below.refl _ _, .inr ⟨HK.out, rfl⟩⟩
  · rw [gdB_no k1] at hg1
    have HK : Hid (¬ (okL o ∧ okL p)) := fun h => k1 h.1
    obtain ⟨ao, ca, rfl, -, -⟩ := hu
    obtain ⟨bo, cb, rfl, -, -⟩ := hv
    clear k1
    go_enter Tryd.func14, Tryd.ntmps14
    go_wp2_with fail
    refine hg1.mono ?_
    rintro e w1 ⟨rfl, rfl⟩
    go_wp2_with fail
    refine hg2.mono ?_
    rintro e w2 ⟨rfl, rfl⟩
    go_wp2_with fail
    go_ret2
    exact ⟨Below.refl _ _, .inr ⟨HK.out, rfl⟩⟩

end Go.Proofs.YtffajooegiempaaDoor

namespace Go.Proofs.YtffajooegiempaaDoor
open Go.RowKit
variable {w : World}

/-- Some of the bounds, joined; then none. -/
def jnP (A B : Nat → Int) (k : Nat) : Nat → Int := fun f => if f < k then mxR A B f else 0
theorem jnP_0 (A B : Nat → Int) : rl (jnP A B 0) = List.replicate 32 0 := by
  unfold rl
  rw [List.map_congr_left (g := fun _ => (0 : Int)) (fun f _ => by unfold jnP; rw [if_neg (by omega)])]
  rfl
theorem jnP_s (A B : Nat → Int) (k : Nat) : jnP A B (k + 1) = upd (jnP A B k) k (mxR A B k) := by
  funext f
  show (if f < k + 1 then mxR A B f else 0) = if f = k then mxR A B k else if f < k then mxR A B f else 0
  by_cases e : f = k
  · subst e; rw [if_pos (by omega), if_pos rfl]
  · rw [if_neg e]
    by_cases c : f < k
    · rw [if_pos c, if_pos (by omega)]
    · rw [if_neg c, if_neg (by omega)]
theorem joM_1 (e : Bool) (M N : Nat → Int) : joM true e M N = N := if_pos rfl
theorem joM_2 (M N : Nat → Int) : joM false true M N = M := (if_neg (by decide)).trans (if_pos rfl)
theorem joM_3 (M N : Nat → Int) : joM false false M N = jF M N 64 := (if_neg (by decide)).trans (if_neg (by decide))
theorem upd_upd (R : Nat → Int) (k : Nat) (x y : Int) : upd (upd R k x) k y = upd R k y := by
  funext f
  unfold upd
  by_cases e : f = k
  · rw [if_pos e, if_pos e]
  · rw [if_neg e, if_neg e, if_neg e]
theorem ic_zero : (List.replicate 32 (Value.int .i64 0)).toArray = ic (List.replicate 32 0) := by
  unfold ic
  rw [List.map_replicate]

set_option maxRecDepth 100000 in
set_option maxHeartbeats 1600000 in
theorem r_both_some (ga gb : Nat) (A B : Nat → Int) (ha : At w ga (ic (rl A)) tNk) (hb : At w gb (ic (rl B)) tNk) :
    Calls Tryd.prog 33 #[.slice (some ⟨ga, 0, none⟩) 32 32, .slice (some ⟨gb, 0, none⟩) 32 32] w fun e w' => e = .returned (.slice (some ⟨w.heap.size, 0, none⟩) 32 32) ∧ At w' w.heap.size (ic (rl (mxR A B))) tNk ∧ Below w.heap.size w w' := by
  have hq1 : ∀ (w : World) (a : Option Addr) (n c : Nat), (binOp .eql 22 (.slice a n c) (.slice none 0 0)).run Tryd.prog w = .ok (.bool a.isNone) w := fun w a n c => Lib.run_eql_slice_nil w 22 tN a n c 0 0 Tryd.underlying22
  have hmk : ∀ w, (Instr.makeSlice 22 (.int .i64 32) (.int .i64 32)).run Tryd.prog w = .ok (.slice (some ⟨w.heap.size, 0, none⟩) 32 32) (w.alloc (.cells (List.replicate 32 (Value.int .i64 0)).toArray tNk)) := fun _ => by kernel_rfl
  obtain ⟨cur, hcur⟩ : ∃ cur, cur = (List.replicate 32 (Value.int .i64 0)).toArray := ⟨_, rfl⟩
  rw [← hcur] at hmk
  have HBe : Hid (Below w.heap.size w (w.alloc (.cells cur tNk))) := (Below.refl _ _).alloc (Nat.le_refl _) _
  have HA0 : Hid (At (w.alloc (.cells cur tNk)) w.heap.size (ic (rl (jnP A B 0))) tNk) := by
    show At _ _ _ _
    rw [jnP_0, ← ic_zero, ← hcur]; exact At.new _ _ _
  have HAB : Hid (At w ga (ic (rl A)) tNk ∧ At w gb (ic (rl B)) tNk) := ⟨ha, hb⟩
  have HEnd : Hid (rl (jnP A B 32) = rl (mxR A B)) := by
    refine List.map_congr_left fun f hf => ?_
    have : f < 32 := by simpa using hf
    unfold jnP
    rw [if_pos this]
  clear ha hb hcur
  go_enter Tryd.func33, Tryd.ntmps33
  go_wp2_with fail
  go_loopw [6] (fun i wr => ∃ (f : Nat), f ≤ 32 ∧ i = .int .i64 f ∧ Hid (At wr w.heap.size (ic (rl (jnP A B f))) tNk ∧ Below w.heap.size w wr)) (fun i _ => 32 - (intOf i).toNat)
  case atStart => exact ⟨0, by omega, rfl, HA0.out, HBe.out⟩
  case round =>
    obtain ⟨f, hf, rfl, HR⟩ := hrel
    by_cases hlt : f < 32
    · have hfi : (f : Int) < 32 := by omega
      obtain ⟨w4, rfl⟩ : ∃ w4, w4 = wr := ⟨_, rfl⟩
      have la := HAB.out.1.lt
      have lb := HAB.out.2.lt
      have ca := rl_cell (HAB.out.1.keep HR.out.2 la) hlt
      have cb := rl_cell (HAB.out.2.keep HR.out.2 lb) hlt
      have co := rl_cell HR.out.1 hlt
      have cf := HR.out.1.free
      have hl := HR.out.1.lt
      have na : ga ≠ w.heap.size := by omega
      have nb : gb ≠ w.heap.size := by omega
      have HS : Hid (jnP A B (f + 1) = upd (jnP A B f) f (if A f < B f then B f else A f)) := jnP_s A B f
      generalize A f = x at *
      generalize B f = y at *
      by_cases hxy : x < y
      · have HE : Hid (jnP A B (f + 1) = upd (upd (jnP A B f) f x) f y) := by show _ = _; rw [HS.out, if_pos hxy, upd_upd]
        clear HS
        go_wp2_with fail
        go_quiet (fail)
        go_wp2_with fail
        go_roundw
        case rel =>
          refine ⟨f + 1, by omega, by go_num, ?_, ?_⟩
          · rw [HE.out, ← rl_set, ← ic_set, ← rl_set, ← ic_set]
            exact At.put (At.drewN (HR.out.1.put f _) _) f _
          · exact (below_drewN (HR.out.2.setCell (Nat.le_refl _) _) _).setCell (Nat.le_refl _) _
        case measure => simp [intOf]; omega
      · have HE : Hid (jnP A B (f + 1) = upd (jnP A B f) f x) := by show _ = _; rw [HS.out, if_neg hxy]
        clear HS
        go_wp2_with fail
        go_quiet (fail)
        go_wp2_with fail
        go_roundw
        case rel =>
          refine ⟨f + 1, by omega, by go_num, ?_, ?_⟩
          · rw [HE.out, ← rl_set, ← ic_set]
            exact At.drewN (HR.out.1.put f _) _
          · exact below_drewN (HR.out.2.setCell (Nat.le_refl _) _) _
        case measure => simp [intOf]; omega
    · have hf32 : f = 32 := by omega
      subst hf32
      go_wp2_with fail
      go_ret
      exact ⟨rfl, by rw [← HEnd.out]; exact HR.out.1, HR.out.2⟩

set_option maxRecDepth 100000 in
set_option maxHeartbeats 1600000 in
theorem r_both_nil (a : Option Addr) (n c : Nat) : Calls Tryd.prog 33 #[.slice none 0 0, .slice a n c] w fun e w' => e = .returned (.slice a n c) ∧ w' = w := by
  have hq1 : ∀ (w : World) (a : Option Addr) (n c : Nat), (binOp .eql 22 (.slice a n c) (.slice none 0 0)).run Tryd.prog w = .ok (.bool a.isNone) w := fun w a n c => Lib.run_eql_slice_nil w 22 tN a n c 0 0 Tryd.underlying22
  go_enter Tryd.func33, Tryd.ntmps33
  go_wp2_with fail
  go_ret
  exact ⟨rfl, rfl⟩
set_option maxRecDepth 100000 in
set_option maxHeartbeats 1600000 in
theorem r_both_lin (a : Addr) (n c : Nat) : Calls Tryd.prog 33 #[.slice (some a) n c, .slice none 0 0] w fun e w' => e = .returned (.slice (some a) n c) ∧ w' = w := by
  have hq1 : ∀ (w : World) (a : Option Addr) (n c : Nat), (binOp .eql 22 (.slice a n c) (.slice none 0 0)).run Tryd.prog w = .ok (.bool a.isNone) w := fun w a n c => Lib.run_eql_slice_nil w 22 tN a n c 0 0 Tryd.underlying22
  go_enter Tryd.func33, Tryd.ntmps33
  go_wp2_with fail
  go_ret
  exact ⟨rfl, rfl⟩

theorem ovM_top {l : List Int} (h : okL l) : ∀ a, a < 64 → ovM l a ≤ NB := fun a ha => Int.le_trans (sharp_le _ a) (lay_top h a ha)
/-- Both of two closed ones. -/
theorem r_both {w1 w2 : World} {o p : List Int} (ho : okL o) (hp : okL p) {y z : Value} (h1 : LSays w (ovE o) (ovM o) (.returned y) w1) (h2 : LSays w1 (ovE p) (ovM p) (.returned z) w2) :
    Calls Tryd.prog 33 #[y, z] w2 (LSays w (joE (ovE o) (ovE p)) (joM (ovE o) (ovE p) (ovM o) (ovM p))) := by
  obtain ⟨hb1, h1⟩ := h1
  obtain ⟨hb2, h2⟩ := h2
  have hs1 := hb1.size
  have hb12 : Below w.heap.size w w2 := hb1.trans (hb2.mono hs1)
  rcases h1 with ⟨e1, h1⟩ | ⟨e1, g, h1, hg, ha⟩
  · cases h1
    rcases h2 with ⟨e2, h2⟩ | ⟨e2, q, h2, hq, hqa⟩
    · cases h2
      refine (r_both_nil none 0 0).mono ?_
      rintro x w3 ⟨rfl, rfl⟩
      exact ⟨hb12, .inl ⟨by rw [e1, e2]; rfl, rfl⟩⟩
    · cases h2
      refine (r_both_nil (some ⟨q, 0, none⟩) 32 32).mono ?_
      rintro x w3 ⟨rfl, rfl⟩
      refine ⟨hb12, .inr ⟨by rw [e1, e2]; rfl, q, rfl, by omega, ?_⟩⟩
      rw [e1, e2, joM_1]
      exact hqa
  · cases h1
    rcases h2 with ⟨e2, h2⟩ | ⟨e2, q, h2, hq, hqa⟩
    · cases h2
      refine (r_both_lin ⟨g, 0, none⟩ 32 32).mono ?_
      rintro x w3 ⟨rfl, rfl⟩
      refine ⟨hb12, .inr ⟨by rw [e1]; rfl, g, rfl, hg, ?_⟩⟩
      rw [e1, e2, joM_2]
      exact ha.keep hb2 ha.lt
    · cases h2
      refine (r_both_some g q (bd (ovM o)) (bd (ovM p)) (ha.keep hb2 ha.lt) hqa).mono ?_
      rintro x w3 ⟨rfl, ha3, hb3⟩
      have hs2 := hb12.size
      refine ⟨hb12.trans (hb3.mono hs2), .inr ⟨by rw [e1]; rfl, _, rfl, hs2, ?_⟩⟩
      rw [e1, e2, joM_3]
      have : rl (mxR (bd (ovM o)) (bd (ovM p))) = bdL (jF (ovM o) (ovM p) 64) := bdL_of fun f hf => (jo_bd (ovM_top ho) (ovM_top hp) hf).symm
      rw [← this]
      exact ha3

/-- What both say of Join. -/
def DJoin (w : World) (o p : List Int) : Ending → World → Prop := fun x w' => (okL o ∧ okL p ∧ LSaysE w (joE (ovE o) (ovE p)) (joM (ovE o) (ovE p) (ovM o) (ovM p)) x w') ∨ (¬ (okL o ∧ okL p) ∧ Below w.heap.size w w' ∧ x = .returned (.tuple #[.slice none 0 0, .int .i64 3]))
set_option maxRecDepth 100000 in
set_option maxHeartbeats 1600000 in
theorem r_join (u v : Value) (o p : List Int) (ho : o.length ≤ 1073741824) (hp : p.length ≤ 1073741824) (hu : Reads w u o) (hv : Reads w v p) :
    Calls Tryd.prog 16 #[u, v] w (DJoin w o p) := by
  have hg1 := r_good u o ho hu
  have hg2 := r_good v p hp hv
  by_cases k1 : okL o
  · rw [gdB_ok.2 k1] at hg1
    by_cases k2 : okL p
    · rw [gdB_ok.2 k2] at hg2
      have hc1 := r_closed_ok u o k1 hu
      have HC2 : Hid (∀ w1, Below w.heap.size w w1 → Calls Tryd.prog 26 #[v] w1 (LSays w1 (ovE p) (ovM p))) := fun w1 hb => r_closed_ok v p k2 (hv.keep hb)
      have HK : Hid (okL o ∧ okL p) := ⟨k1, k2⟩
      obtain ⟨ao, ca, rfl, -, -⟩ := hu
      obtain ⟨bo, cb, rfl, -, -⟩ := hv
      clear k1 k2
      go_enter Tryd.func16, Tryd.ntmps16
      go_wp2_with fail
      refine hg1.mono ?_
      rintro e w1 ⟨rfl, hw1⟩
      subst hw1
      go_wp2_with fail
      refine hg2.mono ?_
      rintro e w2 ⟨rfl, hw2⟩
      subst hw2
      go_wp2_with fail
      refine hc1.mono ?_
      intro x w3 hx
      obtain ⟨y, rfl, a, n, c, rfl⟩ := hx.val
      have HX : Hid (LSays w2 (ovE o) (ovM o) (.returned (.slice a n c)) w3) := hx
      have hc2 := HC2.out w3 hx.1
      clear hx
      go_wp2_with fail
      refine hc2.mono ?_
      intro x w4 hz
      obtain ⟨z, rfl, a', n', c', rfl⟩ := hz.val
      have hbo := r_both HK.out.1 HK.out.2 HX.out hz
      clear hz hc2
      go_wp2_with fail
      refine hbo.mono ?_
      intro x w5 hr
      obtain ⟨r, rfl, a2, n2, c2, rfl⟩ := hr.val
      have HX5 : Hid (LSays w2 _ _ (.returned (.slice a2 n2 c2)) w5) := hr
      clear hr
      go_wp2_with fail
      go_ret2
      exact .inl ⟨HK.out.1, HK.out.2, _, HX5.out, rfl⟩
    · rw [gdB_no k2] at hg2
      have HK : Hid (¬ (okL o ∧ okL p)) := fun h => k2 h.2
      obtain ⟨ao, ca, rfl, -, -⟩ := hu
      obtain ⟨bo, cb, rfl, -, -⟩ := hv
      clear k1 k2
      go_enter Tryd.func16, Tryd.ntmps16
      go_wp2_with fail
      refine hg1.mono ?_
      rintro e w1 ⟨rfl, rfl⟩
      go_wp2_with fail
      refine hg2.mono ?_
      rintro e w2 ⟨rfl, rfl⟩
      go_wp2_with fail
      go_ret2
      exact .inr ⟨HK.out, Below.refl _ _, rfl⟩
  · rw [gdB_no k1] at hg1
    have HK : Hid (¬ (okL o ∧ okL p)) := fun h => k1 h.1
    obtain ⟨ao, ca, rfl, -, -⟩ := hu
    obtain ⟨bo, cb, rfl, -, -⟩ := hv
    clear k1
    go_enter Tryd.func16, Tryd.ntmps16
    go_wp2_with fail
    refine hg1.mono ?_
    rintro e w1 ⟨rfl, rfl⟩
    go_wp2_with fail
    refine hg2.mono ?_
    rintro e w2 ⟨rfl, rfl⟩
    go_wp2_with fail
    go_ret2
    exact .inr ⟨HK.out, Below.refl _ _, rfl⟩

end Go.Proofs.YtffajooegiempaaDoor

namespace Go.Proofs.YtffajooegiempaaDoor
open Go.RowKit
variable {w : World} {e1 e2 : Bool} {M N : Nat → Int}

set_option maxRecDepth 100000 in
set_option maxHeartbeats 3200000 in
theorem w_readBoth_no (u v : Value) (c : Int) (hc : c ≠ 0) (hr1 : RdS w u e1 M c) (hu : ∃ a n k, u = .slice a n k) (hv : ∃ a n k, v = .slice a n k) :
    Calls Tryd.prog 29 #[u, v] w fun e w' => e = .returned (.tuple #[.agg (oc false fun _ => 0), .agg (oc false fun _ => 0), .int .i64 c]) ∧ Below w.heap.size w w' := by
  have hz := o_zero
  obtain ⟨w0, hw0⟩ : ∃ w0, w0 = (w.alloc (.cells (oc false fun _ => 0) tO)).alloc (.cells (oc false fun _ => 0) tO) := ⟨_, rfl⟩
  have hb0 : Below w.heap.size w w0 := by rw [hw0]; exact ((Below.refl _ _).alloc (Nat.le_refl _) _).alloc (by simp) _
  have hs0 : w0.heap.size = w.heap.size + 2 := by rw [hw0]; simp
  have ha0 : OAt w0 w.heap.size false (fun _ => 0) := by rw [hw0]; exact At.allocH (At.new _ _ _) _
  have ha1 : OAt w0 (w.heap.size + 1) false (fun _ => 0) := by
    have := At.new (w.alloc (.cells (oc false fun _ => 0) tO)) (oc false fun _ => 0) tO
    rw [show (w.alloc (.cells (oc false fun _ => 0) tO)).heap.size = w.heap.size + 1 by simp] at this
    rw [hw0]; exact this
  have hr1' := hr1 w0 hb0
  have HB0 : Hid (Below w.heap.size w w0) := hb0
  have HA0 : Hid (OAt w0 w.heap.size false (fun _ => 0) ∧ OAt w0 (w.heap.size + 1) false (fun _ => 0)) := ⟨ha0, ha1⟩
  rw [hw0] at hr1'
  clear ha0 ha1 hb0
  have hcb : (c != 0) = true := by rw [bne_iff_ne]; exact hc
  obtain ⟨au, nu, cu, rfl⟩ := hu
  obtain ⟨av, nv, cv, rfl⟩ := hv
  clear hr1 hc
  go_enter Tryd.func29, Tryd.ntmps29
  go_wp2_with fail
  refine hr1'.mono ?_
  rintro e w1 ⟨rfl, hb1⟩
  rw [← hw0] at hb1
  have hb1w : Below w.heap.size w w1 := HB0.out.trans (hb1.mono (by omega))
  obtain ⟨w2, hst2, hat2, hb2, hs2⟩ := o_fresh w1 (e1) (M)
  have hsz1 : w.heap.size + 2 ≤ w1.heap.size := by have := hb1.size; omega
  have H1 : Hid (OAt w1 w.heap.size false (fun _ => 0) ∧ OAt w1 (w.heap.size + 1) false (fun _ => 0)) := ⟨At.keep HA0.out.1 hb1 (by omega), At.keep HA0.out.2 hb1 (by omega)⟩
  have H2 : Hid (OAt w2 w1.heap.size (e1) (M) ∧ OAt w2 w.heap.size false (fun _ => 0) ∧ OAt w2 (w.heap.size + 1) false (fun _ => 0) ∧ Below w.heap.size w w2) := ⟨hat2, At.keep H1.out.1 hb2 (by omega), At.keep H1.out.2 hb2 (by omega), hb1w.trans (hb2.mono (by omega))⟩
  clear hb1 hat2 hb2 hr1' hb1w
  obtain ⟨w3, hst3, hat3, ho3⟩ := o_store H2.out.2.1 false (fun _ => 0)
  obtain ⟨w4, hst4, hat4, ho4⟩ := o_store (ho3.at_ H2.out.2.2.1 (by omega)) false (fun _ => 0)
  have H4 : Hid (OAt w4 w.heap.size false (fun _ => 0) ∧ OAt w4 (w.heap.size + 1) false (fun _ => 0) ∧ Below w.heap.size w w4) := by
    have q2 := H2.out.2.2.2.size
    have q3 := ho3.size
    exact ⟨ho4.at_ hat3 (by omega), hat4, (H2.out.2.2.2.trans (ho3.below (Nat.le_refl _) q2)).trans (ho4.below (by omega) (by omega))⟩
  clear hat3 ho3 hat4 ho4
  go_wp2_with fail
  try simp only [Exit.inBlock, Exit.then]
  refine bodyPost_ret (results_occ rfl _ rfl rfl H4.out.1 H4.out.2.1) rfl ?_
  exact ⟨rfl, H4.out.2.2⟩

/-- Both are read, and one of them is none. -/
theorem w_readBoth_bad (hG : Glob w) (u v : Value) (o p : List Int) (hu : Reads w u o) (hv : Reads w v p) (h : ¬ (okL o ∧ okL p)) :
    ∃ e1 e2 M N, Calls Tryd.prog 29 #[u, v] w fun e w' => e = .returned (.tuple #[.agg (oc e1 M), .agg (oc e2 N), .int .i64 3]) ∧ Below w.heap.size w w' := by
  by_cases k1 : okL o
  · have k2 : ¬ okL p := fun k2 => h ⟨k1, k2⟩
    exact ⟨_, _, _, _, w_readBoth u v (rdsOk hG k1 hu) 3 (rdsNo hG k2 hv) hu.isSlice hv.isSlice⟩
  · exact ⟨_, _, _, _, w_readBoth_no u v 3 (by decide) (rdsNo hG k1 hu) hu.isSlice hv.isSlice⟩

set_option maxRecDepth 100000 in
set_option maxHeartbeats 1600000 in
theorem w_within_no (u v : Value) (hb : Calls Tryd.prog 29 #[u, v] w fun e w' => e = .returned (.tuple #[.agg (oc e1 M), .agg (oc e2 N), .int .i64 3]) ∧ Below w.heap.size w w') (hu : ∃ a n k, u = .slice a n k) (hv : ∃ a n k, v = .slice a n k) :
    Calls Tryd.prog 13 #[u, v] w fun e w' => Below w.heap.size w w' ∧ e = .returned (.tuple #[.bool false, .int .i64 3]) := by
  have hz := o_zero
  obtain ⟨au, nu, cu, rfl⟩ := hu
  obtain ⟨av, nv, cv, rfl⟩ := hv
  go_enter Tryd.func13, Tryd.ntmps13
  go_wp2_with fail
  refine hb.mono ?_
  rintro e w1 ⟨rfl, hb1⟩
  obtain ⟨w2, hw2⟩ : ∃ w2, w2 = (w1.alloc (.cells (oc false fun _ => 0) tO)).alloc (.cells (oc false fun _ => 0) tO) := ⟨_, rfl⟩
  have ha0 : OAt w2 w1.heap.size false (fun _ => 0) := by rw [hw2]; exact At.allocH (At.new _ _ _) _
  have ha1 : OAt w2 (w1.heap.size + 1) false (fun _ => 0) := by
    have := At.new (w1.alloc (.cells (oc false fun _ => 0) tO)) (oc false fun _ => 0) tO
    rw [show (w1.alloc (.cells (oc false fun _ => 0) tO)).heap.size = w1.heap.size + 1 by simp] at this
    rw [hw2]; exact this
  have hb2 : Below w1.heap.size w1 w2 := by rw [hw2]; exact ((Below.refl _ _).alloc (Nat.le_refl _) _).alloc (by simp) _
  obtain ⟨w3, hst3, hat3, ho3⟩ := o_store ha0 e1 M
  obtain ⟨w4, hst4, hat4, ho4⟩ := o_store (ho3.at_ ha1 (by omega)) e2 N
  have hs2 : w2.heap.size = w1.heap.size + 2 := by rw [hw2]; simp
  have H4 : Hid (OAt w4 w1.heap.size e1 M ∧ OAt w4 (w1.heap.size + 1) e2 N ∧ Below w.heap.size w w4) := by
    have q1 := hb1.size
    have q3 := ho3.size
    exact ⟨ho4.at_ hat3 (by omega), hat4, ((hb1.trans (hb2.mono q1)).trans (ho3.below q1 (by omega))).trans (ho4.below (by omega) (by omega))⟩
  rw [hw2] at hst3
  clear ha0 ha1 hb2 hat3 ho3 hat4 ho4 hw2 hb1 hb hs2
  go_wp2_with fail
  go_ret2
  exact ⟨H4.out.2.2, rfl⟩
set_option maxRecDepth 100000 in
set_option maxHeartbeats 1600000 in
theorem w_join_no (u v : Value) (hb : Calls Tryd.prog 29 #[u, v] w fun e w' => e = .returned (.tuple #[.agg (oc e1 M), .agg (oc e2 N), .int .i64 3]) ∧ Below w.heap.size w w') (hu : ∃ a n k, u = .slice a n k) (hv : ∃ a n k, v = .slice a n k) :
    Calls Tryd.prog 15 #[u, v] w fun e w' => Below w.heap.size w w' ∧ e = .returned (.tuple #[.slice none 0 0, .int .i64 3]) := by
  have hz := o_zero
  obtain ⟨au, nu, cu, rfl⟩ := hu
  obtain ⟨av, nv, cv, rfl⟩ := hv
  go_enter Tryd.func15, Tryd.ntmps15
  go_wp2_with fail
  refine hb.mono ?_
  rintro e w1 ⟨rfl, hb1⟩
  obtain ⟨w2, hw2⟩ : ∃ w2, w2 = (w1.alloc (.cells (oc false fun _ => 0) tO)).alloc (.cells (oc false fun _ => 0) tO) := ⟨_, rfl⟩
  have ha0 : OAt w2 w1.heap.size false (fun _ => 0) := by rw [hw2]; exact At.allocH (At.new _ _ _) _
  have ha1 : OAt w2 (w1.heap.size + 1) false (fun _ => 0) := by
    have := At.new (w1.alloc (.cells (oc false fun _ => 0) tO)) (oc false fun _ => 0) tO
    rw [show (w1.alloc (.cells (oc false fun _ => 0) tO)).heap.size = w1.heap.size + 1 by simp] at this
    rw [hw2]; exact this
  have hb2 : Below w1.heap.size w1 w2 := by rw [hw2]; exact ((Below.refl _ _).alloc (Nat.le_refl _) _).alloc (by simp) _
  obtain ⟨w3, hst3, hat3, ho3⟩ := o_store ha0 e1 M
  obtain ⟨w4, hst4, hat4, ho4⟩ := o_store (ho3.at_ ha1 (by omega)) e2 N
  have hs2 : w2.heap.size = w1.heap.size + 2 := by rw [hw2]; simp
  have H4 : Hid (OAt w4 w1.heap.size e1 M ∧ OAt w4 (w1.heap.size + 1) e2 N ∧ Below w.heap.size w w4) := by
    have q1 := hb1.size
    have q3 := ho3.size
    exact ⟨ho4.at_ hat3 (by omega), hat4, ((hb1.trans (hb2.mono q1)).trans (ho3.below q1 (by omega))).trans (ho4.below (by omega) (by omega))⟩
  rw [hw2] at hst3
  clear ha0 ha1 hb2 hat3 ho3 hat4 ho4 hw2 hb1 hb hs2
  go_wp2_with fail
  go_ret2
  exact ⟨H4.out.2.2, rfl⟩

theorem w_within_any (hG : Glob w) (u v : Value) (o p : List Int) (hu : Reads w u o) (hv : Reads w v p) : Calls Tryd.prog 13 #[u, v] w (DWithin w o p) := by
  by_cases h : okL o ∧ okL p
  · refine (w_within u v (rdsOk hG h.1 hu) (rdsOk hG h.2 hv) hu.isSlice hv.isSlice).mono ?_
    rintro e w' ⟨rfl, hb⟩
    exact ⟨hb, .inl ⟨h.1, h.2, by rw [wi_same h.1 h.2]⟩⟩
  · obtain ⟨_, _, _, _, hb⟩ := w_readBoth_bad hG u v o p hu hv h
    exact (w_within_no u v hb hu.isSlice hv.isSlice).mono fun e w' h' => ⟨h'.1, .inr ⟨h, h'.2⟩⟩
theorem joS {o p : List Int} (ho : okL o) (hp : okL p) : Sm (joM (ovE o) (ovE p) (ovM o) (ovM p)) := by
  unfold joM
  split
  · exact ovS hp
  split
  · exact ovS ho
  · intro k hk
    have a := ovS ho k hk
    have b := ovS hp k hk
    rw [jF_eq]; split
    · exact b
    · exact a
theorem w_join_any (hG : Glob w) (u v : Value) (o p : List Int) (hu : Reads w u o) (hv : Reads w v p) : Calls Tryd.prog 15 #[u, v] w (DJoin w o p) := by
  by_cases h : okL o ∧ okL p
  · exact (w_join hG u v (rdsOk hG h.1 hu) (rdsOk hG h.2 hv) (joS h.1 h.2) hu.isSlice hv.isSlice).mono fun e w' h' => .inl ⟨h.1, h.2, h'⟩
  · obtain ⟨_, _, _, _, hb⟩ := w_readBoth_bad hG u v o p hu hv h
    exact (w_join_no u v hb hu.isSlice hv.isSlice).mono fun e w' h' => .inr ⟨h, h'⟩

end Go.Proofs.YtffajooegiempaaDoor

namespace Go.Proofs.YtffajooegiempaaDoor
open Go.RowKit
variable {w : World}

theorem DWithin.ok {o p : List Int} {x : Ending} {w' : World} (k : okL o ∧ okL p) (h : DWithin w o p x w') : x = .returned (.tuple #[.bool (dWi o p), .int .i64 0]) ∧ Below w.heap.size w w' := by
  obtain ⟨hb, ⟨_, _, h⟩ | ⟨h, _⟩⟩ := h
  · exact ⟨h, hb⟩
  · exact absurd k h
theorem DWithin.no {o p : List Int} {x : Ending} {w' : World} (k : ¬ (okL o ∧ okL p)) (h : DWithin w o p x w') : x = .returned (.tuple #[.bool false, .int .i64 3]) ∧ Below w.heap.size w w' := by
  obtain ⟨hb, ⟨h1, h2, _⟩ | ⟨_, h⟩⟩ := h
  · exact absurd ⟨h1, h2⟩ k
  · exact ⟨h, hb⟩
theorem DJoin.ok {o p : List Int} {x : Ending} {w' : World} (k : okL o ∧ okL p) (h : DJoin w o p x w') : ∃ a n c, x = .returned (.tuple #[.slice a n c, .int .i64 0]) ∧ LSays w (joE (ovE o) (ovE p)) (joM (ovE o) (ovE p) (ovM o) (ovM p)) (.returned (.slice a n c)) w' := by
  rcases h with ⟨_, _, y, hy, rfl⟩ | ⟨h, _⟩
  · obtain ⟨y', e', a, n, c, rfl⟩ := hy.val
    cases e'
    exact ⟨a, n, c, rfl, hy⟩
  · exact absurd k h
theorem DJoin.no {o p : List Int} {x : Ending} {w' : World} (k : ¬ (okL o ∧ okL p)) (h : DJoin w o p x w') : x = .returned (.tuple #[.slice none 0 0, .int .i64 3]) ∧ Below w.heap.size w w' := by
  rcases h with ⟨h1, h2, _⟩ | ⟨_, hb, h⟩
  · exact absurd ⟨h1, h2⟩ k
  · exact ⟨h, hb⟩

set_option maxRecDepth 100000 in
set_option maxHeartbeats 3200000 in
theorem withins_walk (hG : Glob w) (u v : Value) (o p : List Int) (ho : o.length ≤ maxLen) (hp : p.length ≤ maxLen) (hu : Reads w u o) (hv : Reads w v p) :
    Calls Tryd.prog 4 #[u, v] w fun e w' => e = .returned (.bool true) ∧ Below w.heap.size w w' := by
  unfold maxLen at ho hp
  by_cases hbig : 1073741824 < o.length
  · obtain ⟨ao, ca, rfl, -, -⟩ := hu
    obtain ⟨bo, cb, rfl, -, -⟩ := hv
    have hb' : (1073741824 : Int) < (o.length : Int) := by omega
    clear hG
    go_enter Tryd.func4, Tryd.ntmps4
    go_wp2_with fail
    go_ret
    exact ⟨rfl, Below.refl _ _⟩
  have hb' : ¬ (1073741824 : Int) < (o.length : Int) := by omega
  by_cases hbig2 : 1073741824 < p.length
  · obtain ⟨ao, ca, rfl, -, -⟩ := hu
    obtain ⟨bo, cb, rfl, -, -⟩ := hv
    have hb'' : (1073741824 : Int) < (p.length : Int) := by omega
    clear hG
    go_enter Tryd.func4, Tryd.ntmps4
    go_wp2_with fail
    go_ret
    exact ⟨rfl, Below.refl _ _⟩
  have hb'' : ¬ (1073741824 : Int) < (p.length : Int) := by omega
  have ho2 : o.length ≤ 1073741824 := by omega
  have hp2 : p.length ≤ 1073741824 := by omega
  have hlent := l_lent w u o ho2 hu
  have HLe : Hid (∀ w1, Below w.heap.size w w1 → Calls Tryd.prog 8 #[v] w1 fun e w' => e = .returned (.slice (some ⟨w1.heap.size, 0, none⟩) p.length (p.length + 2)) ∧ Below w1.heap.size w1 w' ∧ At w' w1.heap.size (lentCells p) tN ∧ w1.heap.size < w'.heap.size) := fun w1 hb => l_lent w1 v p hp2 (hv.keep hb)
  have HV : Hid (Reads w u o ∧ Reads w v p) := ⟨hu, hv⟩
  have HWi : Hid (∀ w1 B2, (At w1 w.heap.size (lentCells o) tN ∧ At w1 B2 (lentCells p) tN ∧ Below w.heap.size w w1) → Calls Tryd.prog 13 #[.slice (some ⟨w.heap.size, 0, none⟩) o.length (o.length + 2), .slice (some ⟨B2, 0, none⟩) p.length (p.length + 2)] w1 (DWithin w1 o p)) := fun w1 B2 h => w_within_any (hG.keep h.2.2 hG.size) _ _ o p (Reads.lent h.1) (Reads.lent h.2.1)
  have HJo : Hid (∀ w1 B2, (At w1 w.heap.size (lentCells o) tN ∧ At w1 B2 (lentCells p) tN ∧ Below w.heap.size w w1) → Calls Tryd.prog 15 #[.slice (some ⟨w.heap.size, 0, none⟩) o.length (o.length + 2), .slice (some ⟨B2, 0, none⟩) p.length (p.length + 2)] w1 (DJoin w1 o p)) := fun w1 B2 h => w_join_any (hG.keep h.2.2 hG.size) _ _ o p (Reads.lent h.1) (Reads.lent h.2.1)
  have HRw : Hid (∀ w1, Below w.heap.size w w1 → Calls Tryd.prog 14 #[u, v] w1 (DWithin w1 o p)) := fun w1 hb => r_within u v o p ho2 hp2 (hu.keep hb) (hv.keep hb)
  have HRj : Hid (∀ w1, Below w.heap.size w w1 → Calls Tryd.prog 16 #[u, v] w1 (DJoin w1 o p)) := fun w1 hb => r_join u v o p ho2 hp2 (hu.keep hb) (hv.keep hb)
  obtain ⟨ao, ca, rfl, -, -⟩ := id hu
  obtain ⟨bo, cb, rfl, -, -⟩ := id hv
  clear hu hv ho hp hbig hbig2 hG
  by_cases hk : okL o ∧ okL p
  · have HK : Hid (okL o ∧ okL p) := hk
    clear hk
    go_enter Tryd.func4, Tryd.ntmps4
    go_wp2_with fail
    refine hlent.mono ?_
    rintro e w1 ⟨rfl, hb1, hat1, hs1⟩
    have hle2 := HLe.out w1 hb1
    have HA1 : Hid (At w1 w.heap.size (lentCells o) tN ∧ Below w.heap.size w w1) := ⟨hat1, hb1⟩
    clear hb1 hat1 hlent
    go_wp2_with fail
    refine hle2.mono ?_
    rintro e w2 ⟨rfl, hb2, hat2, hs2⟩
    have HA2 : Hid (At w2 w.heap.size (lentCells o) tN ∧ At w2 w1.heap.size (lentCells p) tN ∧ Below w.heap.size w w2) := ⟨HA1.out.1.keep hb2 hs1, hat2, HA1.out.2.trans (hb2.mono (by omega))⟩
    have hz2 := hb2.size
    clear hb2 hat2 hle2
    generalize hB2 : w1.heap.size = B2 at *
    clear hB2
    have hwi := HWi.out w2 B2 HA2.out
    go_wp2_with fail
    refine hwi.mono ?_
    rintro e w3 he3
    obtain ⟨rfl, hb3⟩ := DWithin.ok HK.out he3
    have HA3 : Hid (At w3 w.heap.size (lentCells o) tN ∧ At w3 B2 (lentCells p) tN ∧ Below w.heap.size w w3) := ⟨HA2.out.1.keep hb3 (by omega), HA2.out.2.1.keep hb3 (by omega), HA2.out.2.2.trans (hb3.mono (by omega))⟩
    have hz3 := hb3.size
    clear hb3 he3 hwi
    have hrw := HRw.out w3 HA3.out.2.2
    go_wp2_with fail
    refine hrw.mono ?_
    rintro e w4 he4
    obtain ⟨rfl, hb4⟩ := DWithin.ok HK.out he4
    have HA4 : Hid (At w4 w.heap.size (lentCells o) tN ∧ At w4 B2 (lentCells p) tN ∧ Below w.heap.size w w4) := ⟨HA3.out.1.keep hb4 (by omega), HA3.out.2.1.keep hb4 (by omega), HA3.out.2.2.trans (hb4.mono (by omega))⟩
    have hz4 := hb4.size
    clear hb4 he4 hrw
    have hjo := HJo.out w4 B2 HA4.out
    go_wp2_with fail
    refine hjo.mono ?_
    rintro e w5 he5
    obtain ⟨a5, n5, c5, rfl, hy⟩ := DJoin.ok HK.out he5
    have HA5 : Hid (At w5 w.heap.size (lentCells o) tN ∧ At w5 B2 (lentCells p) tN ∧ Below w.heap.size w w5) := ⟨HA4.out.1.keep hy.1 (by omega), HA4.out.2.1.keep hy.1 (by omega), HA4.out.2.2.trans (hy.1.mono (by omega))⟩
    have hz5 := hy.1.size
    have HY : Hid (LSays w4 _ _ (.returned (.slice a5 n5 c5)) w5) := hy
    have hrj := HRj.out w5 HA5.out.2.2
    clear hy he5 hjo
    go_wp2_with fail
    refine hrj.mono ?_
    rintro e w6 he6
    obtain ⟨a6, n6, c6, rfl, hy⟩ := DJoin.ok HK.out he6
    have HA6 : Hid (At w6 w.heap.size (lentCells o) tN ∧ At w6 B2 (lentCells p) tN ∧ Below w.heap.size w w6) := ⟨HA5.out.1.keep hy.1 (by omega), HA5.out.2.1.keep hy.1 (by omega), HA5.out.2.2.trans (hy.1.mono (by omega))⟩
    have hz6 := hy.1.size
    have hres := l_result_two HY.out hy
    clear hy he6 hrj
    go_wp2_with fail
    refine hres.mono ?_
    rintro e w7 ⟨rfl, hb7⟩
    have HA7 : Hid (At w7 w.heap.size (lentCells o) tN ∧ At w7 B2 (lentCells p) tN ∧ Below w.heap.size w w7) := ⟨HA6.out.1.keep hb7 (by omega), HA6.out.2.1.keep hb7 (by omega), HA6.out.2.2.trans (hb7.mono (by omega))⟩
    clear hb7 hres
    have hwh := l_whole w7 w.heap.size (.slice ao o.length ca) o ho2 HA7.out.1 (HV.out.1.keep HA7.out.2.2)
    go_wp2_with fail
    refine hwh.mono ?_
    rintro e w8 ⟨rfl, k8, rfl⟩
    have hwh2 := l_whole (w7.drewN k8) B2 (.slice bo p.length cb) p hp2 (HA7.out.2.1.drewN k8) (HV.out.2.keep (below_drewN HA7.out.2.2 k8))
    clear hwh
    go_wp2_with fail
    refine hwh2.mono ?_
    rintro e w9 ⟨rfl, k9, rfl⟩
    go_wp2_with fail
    go_ret
    exact ⟨rfl, below_drewN HA7.out.2.2 (k8 + k9)⟩
  · have HK : Hid (¬ (okL o ∧ okL p)) := hk
    clear hk
    go_enter Tryd.func4, Tryd.ntmps4
    go_wp2_with fail
    refine hlent.mono ?_
    rintro e w1 ⟨rfl, hb1, hat1, hs1⟩
    have hle2 := HLe.out w1 hb1
    have HA1 : Hid (At w1 w.heap.size (lentCells o) tN ∧ Below w.heap.size w w1) := ⟨hat1, hb1⟩
    clear hb1 hat1 hlent
    go_wp2_with fail
    refine hle2.mono ?_
    rintro e w2 ⟨rfl, hb2, hat2, hs2⟩
    have HA2 : Hid (At w2 w.heap.size (lentCells o) tN ∧ At w2 w1.heap.size (lentCells p) tN ∧ Below w.heap.size w w2) := ⟨HA1.out.1.keep hb2 hs1, hat2, HA1.out.2.trans (hb2.mono (by omega))⟩
    have hz2 := hb2.size
    clear hb2 hat2 hle2
    generalize hB2 : w1.heap.size = B2 at *
    clear hB2
    have hwi := HWi.out w2 B2 HA2.out
    go_wp2_with fail
    refine hwi.mono ?_
    rintro e w3 he3
    obtain ⟨rfl, hb3⟩ := DWithin.no HK.out he3
    have HA3 : Hid (At w3 w.heap.size (lentCells o) tN ∧ At w3 B2 (lentCells p) tN ∧ Below w.heap.size w w3) := ⟨HA2.out.1.keep hb3 (by omega), HA2.out.2.1.keep hb3 (by omega), HA2.out.2.2.trans (hb3.mono (by omega))⟩
    have hz3 := hb3.size
    clear hb3 he3 hwi
    have hrw := HRw.out w3 HA3.out.2.2
    go_wp2_with fail
    refine hrw.mono ?_
    rintro e w4 he4
    obtain ⟨rfl, hb4⟩ := DWithin.no HK.out he4
    have HA4 : Hid (At w4 w.heap.size (lentCells o) tN ∧ At w4 B2 (lentCells p) tN ∧ Below w.heap.size w w4) := ⟨HA3.out.1.keep hb4 (by omega), HA3.out.2.1.keep hb4 (by omega), HA3.out.2.2.trans (hb4.mono (by omega))⟩
    have hz4 := hb4.size
    clear hb4 he4 hrw
    have hjo := HJo.out w4 B2 HA4.out
    go_wp2_with fail
    refine hjo.mono ?_
    rintro e w5 he5
    obtain ⟨rfl, hb5⟩ := DJoin.no HK.out he5
    have HA5 : Hid (At w5 w.heap.size (lentCells o) tN ∧ At w5 B2 (lentCells p) tN ∧ Below w.heap.size w w5) := ⟨HA4.out.1.keep hb5 (by omega), HA4.out.2.1.keep hb5 (by omega), HA4.out.2.2.trans (hb5.mono (by omega))⟩
    have hz5 := hb5.size
    have hrj := HRj.out w5 HA5.out.2.2
    clear hb5 he5 hjo
    go_wp2_with fail
    refine hrj.mono ?_
    rintro e w6 he6
    obtain ⟨rfl, hb6⟩ := DJoin.no HK.out he6
    have HA6 : Hid (At w6 w.heap.size (lentCells o) tN ∧ At w6 B2 (lentCells p) tN ∧ Below w.heap.size w w6) := ⟨HA5.out.1.keep hb6 (by omega), HA5.out.2.1.keep hb6 (by omega), HA5.out.2.2.trans (hb6.mono (by omega))⟩
    clear hb6 he6 hrj
    go_wp2_with fail
    refine (l_result_nil w6).mono ?_
    rintro e w7' ⟨rfl, k7, hw7⟩
    obtain ⟨w7, hw7'⟩ : ∃ w7, w7 = w7' := ⟨_, rfl⟩
    have HA7 : Hid (At w7 w.heap.size (lentCells o) tN ∧ At w7 B2 (lentCells p) tN ∧ Below w.heap.size w w7) := by
      show _ ∧ _ ∧ _
      rw [hw7', hw7]
      exact ⟨HA6.out.1.drewN k7, HA6.out.2.1.drewN k7, below_drewN HA6.out.2.2 k7⟩
    subst hw7'
    clear hw7
    have hwh := l_whole w7 w.heap.size (.slice ao o.length ca) o ho2 HA7.out.1 (HV.out.1.keep HA7.out.2.2)
    go_wp2_with fail
    refine hwh.mono ?_
    rintro e w8 ⟨rfl, k8, rfl⟩
    have hwh2 := l_whole (w7.drewN k8) B2 (.slice bo p.length cb) p hp2 (HA7.out.2.1.drewN k8) (HV.out.2.keep (below_drewN HA7.out.2.2 k8))
    clear hwh
    go_wp2_with fail
    refine hwh2.mono ?_
    rintro e w9 ⟨rfl, k9, rfl⟩
    go_wp2_with fail
    go_ret
    exact ⟨rfl, below_drewN HA7.out.2.2 (k8 + k9)⟩

end Go.Proofs.YtffajooegiempaaDoor

namespace Go.Proofs.YtffajooegiempaaDoor
open Go.ChangeShapes Go.WideShapes Go.ChangeAt Go.WideMaps Go.WideElems Go.RowKit

set_option maxRecDepth 100000 in
theorem withins_lifted (os : Os) (started : os.Started) (H : Type) (enc : TypeId × Value → H) :
    ReturnsInHanded {} Tryd.checked os 4 .any (fun w args => (Rows.withinsSpec.pre enc Tryd.prog Tryd.f4 [] false w args ∧ laidMetH Tryd.prog laid2 w) ∧ sizedMet enc Tryd.prog Tryd.f4 (OpenSpec.ofChange Rows.withinsSpec) false w args)
      (Rows.withinsSpec.post enc Tryd.prog Tryd.f4 false true false false) := by
  refine returnsInHanded_of_change_and (C := Tryd.checked) (X := fun w _ => laidMetH Tryd.prog laid2 w) (fun _ _ _ hh h => h.of_heap hh) Tryd.ownD started (by kernel_rfl) Tryd.func4
    (ChangeSpec.witness_shaped (enc := enc) (C := Tryd.checked) (os := os) (X := fun w _ => laidMetH Tryd.prog laid2 w) false (World.doorLaid Tryd.prog 4000 os) #[.slice none 0 0, .slice none 0 0] 8 rfl (World.shaped_of_RefB (by kernel_rfl) (by kernel_rfl)) (by kernel_rfl) (by kernel_rfl) (by kernel_rfl) (door_met os _)) ?_
  intro W base args ds gs before hval0 hW _ _ hL _
  have hval : ∀ (j : Nat) t v, Tryd.f4.params[j]? = some t → args[j]? = some v → Value.okWide Tryd.prog W .any base t v := hval0
  have hW' := hW
  obtain ⟨p, q, hA0, hV, rfl, hfz, hnd⟩ := hW
  have hA : DataW.TrodAll enc Tryd.prog W 0 (fun _ => true) true Tryd.f4.params.toList args.toList ds p := hA0
  rw [Tryd.params4] at hA hval
  obtain ⟨v0, vs0, d0, ds0, p0, q0, hargs0, rfl, rfl, h0, r0⟩ := trodAll_cons hA
  obtain ⟨v1, vs1, d1, ds1, p1, q1, hargs1, rfl, rfl, h1, r1⟩ := trodAll_cons r0
  obtain ⟨rfl, rfl, rfl⟩ := trodAll_nil r1
  obtain rfl : args = #[v0, v1] := by cases args; simp_all
  obtain ⟨rfl, rfl⟩ := trodVars_none hV
  obtain ⟨a0, l0, c0, rfl⟩ := okWide_slice Tryd.underlying22 (hval 0 22 v0 rfl rfl)
  obtain ⟨a1, l1, c1, rfl⟩ := okWide_slice Tryd.underlying22 (hval 1 22 v1 rfl rfl)
  clear hA0 hval0
  simp only [List.append_nil] at hW'
  have hlt : ∀ x ∈ p0 ++ p1, x.block < W.heap.size := fun x hx => hW'.lt x (by simpa using hx)
  have lt0 : ∀ x ∈ p0, x.block < W.heap.size := fun x hx => hlt x (by simp [hx])
  have lt1 : ∀ x ∈ p1, x.block < W.heap.size := fun x hx => hlt x (by simp [hx])
  obtain ⟨L0, m0, R0⟩ := open_reads h0 lt0
  obtain ⟨L1, m1, R1⟩ := open_reads h1 lt1
  refine (withins_walk (of_laid hL) _ _ L0 L1 m0 m1 R0 R1).mono fun e W' ⟨he, hb⟩ => ?_
  subst he
  have t0 := Below.trod Tryd.laidOutD (by kernel_rfl) (of_decide_eq_true (by kernel_rfl)) h0 hb lt0
  have t1 := Below.trod Tryd.laidOutD (by kernel_rfl) (of_decide_eq_true (by kernel_rfl)) h1 hb lt1
  have hall := trodAll_cons_mk t0 (trodAll_cons_mk t1 trodAll_mk0)
  simp only [List.append_nil] at hall
  exact ⟨_, rfl, _, _, _, [], p0 ++ p1, [], hW', trodAll_cons_mk (shut_bool Tryd.underlying4 _) trodAll_mk0, hall, rfl, hb.frame _, fun h => by cases h⟩

theorem withins_row : Rows.WithinsSaid :=
  OpenClaim.holds_of_wide 4 Tryd.f4 rfl rfl rfl rfl rfl rfl rfl ⟨rfl, rfl, rfl, rfl, rfl⟩ rfl rfl rfl rfl rfl (by kernel_rfl) Tryd.func4 (by kernel_rfl)
    (of_decide_eq_true (by kernel_rfl)) (by unfold Func.isWrapper; first | (rw [if_pos (by decide +kernel)]; kernel_rfl) | (rw [if_neg (by decide +kernel)]; exact ⟨rfl, rfl⟩))
    (fun os started H enc _ => withins_lifted os started H enc)

theorem withins_card : Rows.WithinsCardSaid :=
  Claim7.holds_tied_plain_at .later [] [.data, .data] true Rows.withinsCard.stood.harness false
    withins_row (fun _ h => by cases h) (by kernel_rfl) (fun _ h => by cases h) withins_row_tie rfl ⟨rfl, rfl⟩ (by kernel_rfl) rfl
    (fun f fn hf hfn => by
      obtain rfl : f = 4 := Option.some.inj ((show Tryd.prog.funcNamed "witness/witnesslaw.Withins" = some 4 by kernel_rfl).symm.trans hf) |>.symm
      obtain rfl : fn = Tryd.f4 := (Option.some.inj (Tryd.func4.symm.trans hfn)).symm
      exact ⟨by kernel_rfl, fun j t ht => by
        rw [Tryd.params4] at ht
        have hm : t ∈ [22, 22] := by simpa using Array.mem_of_getElem? ht
        have hall : ([22, 22].all fun u => !Tryd.prog.wantsStandIn u) = true := by kernel_rfl
        exact (show Tryd.prog.wantsStandIn t = false by simpa using List.all_eq_true.1 hall t hm)⟩)
    (by kernel_rfl)

end Go.Proofs.YtffajooegiempaaDoor

