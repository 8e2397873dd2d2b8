import Derived.Test.YtffajooegiempabDoorJ3
import Derived.Test.YtffajooegiempabDoorTie
import Derived.Test.YtffajooegiempabDoorCards
import Derived.ProofKit
import Derived.LaidMore
import Derived.OpenShut
import Derived.Stop.Joined
import Derived.ChangeSlices
import Derived.Carry
/- What sharper bounds, joined ones and those within have to do with the states. -/
namespace Go.Proofs.YtffajooegiempabDoor

theorem sum_one (a : Nat) (ha : a < 4) (s : Int) (V : Nat → Int) : (if 0 = a then s else 0) * V 0 + (if 1 = a then s else 0) * V 1 + (if 2 = a then s else 0) * V 2 + (if 3 = a then s else 0) * V 3 = s * V a := by
  rcases (show a = 0 ∨ a = 1 ∨ a = 2 ∨ a = 3 by omega) with rfl | rfl | rfl | rfl <;> simp
theorem sd_sgn (V : Nat → Int) (i : Nat) : sd V i = sgn i * V (i / 2) := by
  unfold sd sgn
  by_cases h : i % 2 = 0
  · rw [if_pos h, h]; simp
  · have h1 : i % 2 = 1 := by omega
    rw [if_neg h, h1]; simp
/-- A form's value, by its sides. -/
theorem valF_sd (f : Nat) (hf : f < 32) (v : List Int) : valF f v = if f < 8 then sd (gAt v) f else sd (gAt v) (fs f) + sd (gAt v) (ss f) := by
  unfold valF
  simp only [sumV, Int.zero_add]
  by_cases h : f < 8
  · rw [if_pos h, frm_lo f h 0 (by omega), frm_lo f h 1 (by omega), frm_lo f h 2 (by omega), frm_lo f h 3 (by omega), sd_sgn]
    exact sum_one (f / 2) (by omega) (sgn f) (gAt v)
  · rw [if_neg h, frm_hi f hf (by omega) 0 (by omega), frm_hi f hf (by omega) 1 (by omega), frm_hi f hf (by omega) 2 (by omega), frm_hi f hf (by omega) 3 (by omega), sd_sgn, sd_sgn]
    have a1 := fs_lt f hf
    have a2 := ss_lt f hf
    rw [← sum_one (fs f / 2) (by omega) (sgn (fs f)) (gAt v), ← sum_one (ss f / 2) (by omega) (sgn (ss f)) (gAt v)]
    simp only [Int.add_mul]
    omega

variable {o p v : List Int} {M N : Nat → Int}

/-- A state that a list has keeps to the sums that are laid. -/
theorem sat_lay (h : ∀ f, f < 32 → valF f v ≤ gAt o f) : Sat (gAt v) (lay o 32) := by
  intro i j hi hj
  rcases form_of i hi j hj with e | ⟨f, hf, e⟩
  · subst e
    right
    rw [lay_opp o i hi, sd_opp]; omega
  · have hl := lay_form o f hf
    have hv := valF_sd f hf v
    have hh := h f hf
    have key : lay o 32 (i * 8 + j) = bv o f := by rcases e with ⟨rfl, rfl⟩ | ⟨rfl, rfl⟩; exact hl.1; exact hl.2
    have hsum : f < 8 → sd (gAt v) i + sd (gAt v) j = 2 * sd (gAt v) f := by
      intro h8
      obtain ⟨q1, q2⟩ := fs_lo f h8
      have : i = f ∧ j = f := by omega
      rw [this.1, this.2]; omega
    have hsum2 : ¬ f < 8 → sd (gAt v) i + sd (gAt v) j = sd (gAt v) (fs f) + sd (gAt v) (ss f) := by
      intro _
      rcases e with ⟨rfl, rfl⟩ | ⟨rfl, rfl⟩ <;> omega
    rw [key]
    unfold bv
    by_cases h8 : f < 8
    · rw [if_pos h8] at hv
      obtain ⟨q1, q2⟩ := fs_lo f h8
      by_cases hn : o.getD f 0 = NB
      · left; rw [if_neg (fun q => q.2 hn)]; exact hn
      · right
        rw [if_pos ⟨by omega, hn⟩, hsum h8]
        unfold gAt at hh
        omega
    · rw [if_neg h8] at hv
      rw [if_neg (fun q => fs_hi f hf (by omega) q.1), hsum2 h8]
      right
      unfold gAt at hh
      omega

theorem valF_small (hv : ∀ i, i < 4 → -5000 ≤ gAt v i ∧ gAt v i ≤ 5000) (f : Nat) (hf : f < 32) : valF f v ≤ 10000 := by
  have hs : ∀ i, i < 8 → sd (gAt v) i ≤ 5000 := by
    intro i hi
    have := hv (i / 2) (by omega)
    unfold sd; split <;> omega
  rw [valF_sd f hf]
  have a1 := fs_lt f hf
  have a2 := ss_lt f hf
  split
  · have := hs f (by omega); omega
  · have := hs _ a1; have := hs _ a2; omega

/-- A state that keeps to the sums lies in the list of the bounds. -/
theorem sat_bd (hv : ∀ i, i < 4 → -5000 ≤ gAt v i ∧ gAt v i ≤ 5000) (h : Sat (gAt v) M) (f : Nat) (hf : f < 32) : valF f v ≤ bd M f := by
  have a1 := fs_lt f hf
  have a2 := ss_lt f hf
  have hsm := valF_small hv f hf
  have hq := h (fs f) (ss f) a1 a2
  rw [valF_sd f hf] at hsm ⊢
  unfold bd
  by_cases h8 : f < 8
  · obtain ⟨q1, q2⟩ := fs_lo f h8
    rw [if_pos h8] at hsm ⊢
    rw [q1, q2] at hq ⊢
    by_cases hn : M (f * 8 + f) = NB
    · rw [if_neg (fun q => q.2 hn), hn]; unfold NB; omega
    · rw [if_pos ⟨rfl, hn⟩]
      have hle := hq.resolve_left hn
      have := tdiv2 (M (f * 8 + f))
      rcases Int.lt_or_le (M (f * 8 + f)) 0 with e | e
      · rw [this.2 e]; omega
      · rw [this.1 e]; omega
  · rw [if_neg h8] at hsm ⊢
    rw [if_neg (fun q => fs_hi f hf (by omega) q.1)]
    rcases hq with hq | hq
    · rw [hq]; unfold NB; omega
    · exact hq
/-- The list that comes out: none where it is empty. -/
def outL (e : Bool) (M : Nat → Int) : List Int := if e = true then [] else bdL M
theorem has_out_true (hv : ∀ i, i < 4 → -5000 ≤ gAt v i ∧ gAt v i ≤ 5000) (h : Sat (gAt v) M) : hasB (outL false M) v = true := by
  unfold hasB outL
  rw [if_neg (by decide), Bool.and_eq_true]
  exact ⟨by simp [bdL], allF_all.2 fun f hf => by rw [bdL_get M f hf]; exact sat_bd hv h f hf⟩
theorem has_iff (ho : o.length = 32) : hasB o v = true ↔ ∀ f, f < 32 → valF f v ≤ gAt o f := by
  unfold hasB
  rw [decide_eq_true ho, Bool.true_and]
  exact allF_all
theorem ovM_le (o : List Int) (k : Nat) : ovM o k ≤ lay o 32 k := sharp_le _ k
theorem sat_ov (ho : o.length = 32) (h : hasB o v = true) : Sat (gAt v) (ovM o) ∧ ovE o = false := by
  have := (sat_lay ((has_iff ho).1 h)).sharp
  exact ⟨this, this.some⟩

/-- Sharper bounds have the same states. -/
theorem holds_close (ho : okL o) (hv : ∀ i, i < 4 → -5000 ≤ gAt v i ∧ gAt v i ≤ 5000) : hasB o v = hasB (outL (ovE o) (ovM o)) v := by
  cases h : hasB o v with
  | true =>
    obtain ⟨h1, h2⟩ := sat_ov ho.1 h
    rw [h2]
    exact (has_out_true hv h1).symm
  | false =>
    cases h2 : hasB (outL (ovE o) (ovM o)) v with
    | false => rfl
    | true =>
      exfalso
      cases he : ovE o with
      | true => rw [he] at h2; unfold outL at h2; rw [if_pos rfl] at h2; cases h2
      | false =>
        rw [he] at h2
        unfold outL at h2
        rw [if_neg (by decide), has_iff (by simp [bdL])] at h2
        have : hasB o v = true := (has_iff ho.1).2 fun f hf => Int.le_trans (by have := h2 f hf; rw [bdL_get _ f hf] at this; exact this) (bd_le ho.2 (ovM_le o) f hf)
        rw [this] at h; cases h

theorem jF_at (M N : Nat → Int) : ∀ n a, jF M N n a = if a < n ∧ M a < N a then N a else M a := by
  intro n
  induction n with
  | zero => intro a; rw [jF, if_neg (by omega)]
  | succ n ih =>
    intro a
    rw [jF]
    have hn : jF M N n n = M n := by rw [ih, if_neg (by omega)]
    rw [hn]
    by_cases q : M n < N n
    · rw [if_pos q]
      by_cases e : a = n
      · subst e; rw [upd_same, if_pos ⟨by omega, q⟩]
      · rw [upd_other _ _ e, ih]
        by_cases z : a < n ∧ M a < N a
        · rw [if_pos z, if_pos ⟨by omega, z.2⟩]
        · rw [if_neg z, if_neg (fun y => z ⟨by omega, y.2⟩)]
    · rw [if_neg q, ih]
      by_cases z : a < n ∧ M a < N a
      · rw [if_pos z, if_pos ⟨by omega, z.2⟩]
      · rw [if_neg z, if_neg (fun y => by
          rcases Nat.lt_or_eq_of_le (Nat.lt_succ_iff.1 y.1) with r | r
          · exact z ⟨r, y.2⟩
          · rw [r] at y; exact q y.2)]
theorem ovM_hi (ho : okL o) (k : Nat) : ovM o k ≤ 1000000 := Int.le_trans (ovM_le o k) (lay_range o 32 ho.2 k).2
theorem sat_mono {V : Nat → Int} (h : Sat V M) (hle : ∀ k, k < 64 → M k ≤ N k) (hN : ∀ k, N k ≤ 1000000) : Sat V N := by
  intro i j hi hj
  have h1 := hle (i * 8 + j) (by omega)
  have h2 := hN (i * 8 + j)
  rcases h i j hi hj with q | q
  · left; unfold NB at *; omega
  · right; omega
theorem jF_ge (M N : Nat → Int) (k : Nat) (hk : k < 64) : M k ≤ jF M N 64 k ∧ N k ≤ jF M N 64 k := by
  rw [jF_at]
  by_cases z : k < 64 ∧ M k < N k
  · rw [if_pos z]; omega
  · rw [if_neg z]; omega
theorem jF_hi (hM : ∀ k, M k ≤ 1000000) (hN : ∀ k, N k ≤ 1000000) (k : Nat) : jF M N 64 k ≤ 1000000 := by
  rw [jF_at]; split
  · exact hN k
  · exact hM k

theorem joM_ft : joM false true M N = M := by unfold joM; rw [if_neg (by decide), if_pos rfl]
theorem joM_tf : joM true false M N = N := by unfold joM; rw [if_pos rfl]
theorem joM_ff : joM false false M N = jF M N 64 := by unfold joM; rw [if_neg (by decide), if_neg (by decide)]
theorem joE_ft : joE false true = false := rfl
theorem joE_tf : joE true false = false := rfl
theorem joE_ff : joE false false = false := rfl
/-- What is joined has the states of both. -/
theorem holds_join (ho : okL o) (hp : okL p) (hv : ∀ i, i < 4 → -5000 ≤ gAt v i ∧ gAt v i ≤ 5000) (h : hasB o v = true ∨ hasB p v = true) :
    hasB (outL (joE (ovE o) (ovE p)) (joM (ovE o) (ovE p) (ovM o) (ovM p))) v = true := by
  have hJ := jF_hi (ovM_hi ho) (ovM_hi hp)
  rcases h with h | h
  · obtain ⟨h1, h2⟩ := sat_ov ho.1 h
    rw [h2]
    cases he : ovE p with
    | true => rw [joM_ft, joE_ft]; exact has_out_true hv h1
    | false => rw [joM_ff, joE_ff]; exact has_out_true hv (sat_mono h1 (fun k hk => (jF_ge _ _ k hk).1) hJ)
  · obtain ⟨h1, h2⟩ := sat_ov hp.1 h
    rw [h2]
    cases he : ovE o with
    | true => rw [joM_tf, joE_tf]; exact has_out_true hv h1
    | false => rw [joM_ff, joE_ff]; exact has_out_true hv (sat_mono h1 (fun k hk => (jF_ge _ _ k hk).2) hJ)
theorem leF_all {n : Nat} (h : leF M N n = true) : ∀ k, k < n → M k ≤ N k := by
  induction n with
  | zero => intro k hk; omega
  | succ n ih =>
    rw [leF, Bool.and_eq_true] at h
    intro k hk
    rcases Nat.lt_or_eq_of_le (Nat.lt_succ_iff.1 hk) with q | q
    · exact ih h.1 k q
    · rw [q]; exact of_decide_eq_true h.2
/-- What lies within has no states besides. -/
theorem holds_within (ho : okL o) (hp : okL p) (hv : ∀ i, i < 4 → -5000 ≤ gAt v i ∧ gAt v i ≤ 5000) (hw : wiB (ovE o) (ovE p) (ovM o) (ovM p) = true) (h : hasB o v = true) : hasB p v = true := by
  obtain ⟨h1, h2⟩ := sat_ov ho.1 h
  rw [h2] at hw
  cases he : ovE p with
  | true => rw [he] at hw; cases hw
  | false =>
    rw [he] at hw
    have hle := leF_all (by unfold wiB at hw; rw [if_neg (by decide)] at hw; exact hw)
    rw [holds_close hp hv, he]
    exact has_out_true hv (sat_mono h1 hle (ovM_hi hp))

theorem ov_sm (ho : okL o) : Sm (ovM o) := ah_sm (lay_rng o 32 ho.2) 64 (Nat.le_refl _)
theorem jo_sm (ho : okL o) (hp : okL p) : Sm (joM (ovE o) (ovE p) (ovM o) (ovM p)) := by
  unfold joM
  split
  · exact ov_sm hp
  split
  · exact ov_sm ho
  · intro k hk
    have a := ov_sm ho k hk
    have b := ov_sm hp k hk
    rw [jF_at]; split
    · exact b
    · exact a

end Go.Proofs.YtffajooegiempabDoor

namespace Go.Proofs.YtffajooegiempabDoor
open Go.RowKit
variable {w : World}

theorem LSaysE.out {w w' : World} {e : Bool} {M : Nat → Int} {x : Ending} (h : LSaysE w e M x w') : ∃ y, x = .returned (.tuple #[y, .int .i64 0]) ∧ Reads w' y (outL e M) ∧ Below w.heap.size w w' := by
  obtain ⟨y, ⟨hb, h1⟩, hx⟩ := h
  refine ⟨y, hx, ?_, hb⟩
  rcases h1 with ⟨he, hy⟩ | ⟨he, g, hy, hg, hat⟩
  · cases hy
    rw [he]
    exact ⟨none, 0, rfl, Nat.le_refl _, fun h => absurd rfl h⟩
  · cases hy
    rw [he]
    exact Reads.at_ hat (by simp [outL, bdL]) (Nat.le_refl _) (fun i hi => by unfold outL; rw [if_neg (by decide), ic_get _ _ (by simpa [bdL] using hi)])
theorem rds_of {v : Value} {l : List Int} (hG : Glob w) (hl : okL l) (hv : Reads w v l) : RdS w v (ovE l) (ovM l) 0 := fun _ hb => o_read_ok (hG.keep hb hG.size) v l hl (hv.keep hb)
theorem bnd_ok (raw : List Int) (m : Int) (hm1 : m ≤ 4000) : okL (bndL raw m 32) := by
  refine ⟨bndL_len _ _ _, fun i hi => ?_⟩
  have : (bndL raw m 32).getD i 0 = bnd raw m i := by simp [bndL, List.getD, hi]
  rw [this]
  unfold isB bnd
  apply decide_eq_true
  split
  · right; omega
  · left; rfl
theorem Reads.slice {v : Value} {l : List Int} (h : Reads w v l) : ∃ a n k, v = .slice a n k := by
  obtain ⟨a, c, h, _⟩ := h
  exact ⟨a, _, c, h⟩

/-- The state that the raw numbers tell. -/
def wsL (v : List Int) (n : Nat) : List Int := (List.range 4).map fun i => if i < n then (gAt v i).tmod 5000 else 0
theorem wsL_len (v : List Int) (n : Nat) : (wsL v n).length = 4 := by simp [wsL]
theorem wsL_set (v : List Int) (n : Nat) : (wsL v n).set n ((gAt v n).tmod 5000) = wsL v (n + 1) := by
  apply List.ext_getElem
  · simp [wsL]
  · intro i h1 h2
    simp [wsL] at h1 h2 ⊢
    rw [List.getElem_set]
    by_cases e : n = i
    · subst e; rw [if_pos rfl, if_pos (by omega)]
    · rw [if_neg e]
      simp
      by_cases q : i < n
      · rw [if_pos q, if_pos (by omega)]
      · rw [if_neg q, if_neg (by omega)]
theorem wsL_small (v : List Int) : ∀ i, i < 4 → -5000 ≤ gAt (wsL v 4) i ∧ gAt (wsL v 4) i ≤ 5000 := by
  intro i hi
  have : gAt (wsL v 4) i = (gAt v i).tmod 5000 := by simp [wsL, gAt, List.getD, hi]
  rw [this]
  have h1 := Int.tmod_lt_of_pos (gAt v i) (show (0 : Int) < 5000 by decide)
  have h2 := Int.lt_tmod_of_pos (gAt v i) (show (0 : Int) < 5000 by decide)
  omega

set_option maxRecDepth 100000 in
set_option maxHeartbeats 3200000 in
theorem holds_walk (hG : Glob w) (v0 v1 v2 : Value) (raw other v : List Int) (h0 : Reads w v0 raw) (h1 : Reads w v1 other) (h2 : Reads w v2 v) (m0 : raw.length ≤ 9223372036854775807) (m1 : other.length ≤ 9223372036854775807) (m2 : v.length ≤ 9223372036854775807) :
    Calls Tryd.prog 3 #[v0, v1, v2] w fun e w' => e = .returned (.bool true) ∧ Below w.heap.size w w' := by
  have hmk : ∀ w, (Instr.makeSlice 22 (.int .i64 4) (.int .i64 4)).run Tryd.prog w = .ok (.slice (some ⟨w.heap.size, 0, none⟩) 4 4) (w.alloc (.cells (ic [0, 0, 0, 0]) tNk)) := fun _ => by kernel_rfl
  have hgs := hG.size
  have HG : Hid (Glob w) := hG
  have H0 : Hid (Reads w v0 raw) := h0
  have H1 : Hid (Reads w v1 other) := h1
  have H2 : Hid (Reads w v2 v) := h2
  obtain ⟨a0, c0, rfl, -, -⟩ := id h0
  obtain ⟨a1, c1, rfl, -, -⟩ := id h1
  obtain ⟨a2, c2, rfl, -, hv⟩ := id h2
  by_cases hlen : v.length < 4
  · have hli : (v.length : Int) < 4 := by omega
    clear hG h0 h1 h2 hv
    go_enter Tryd.func3, Tryd.ntmps3
    go_wp2_with fail
    go_ret
    exact ⟨rfl, Below.refl _ _⟩
  have hli : ¬ (v.length : Int) < 4 := by omega
  obtain ⟨p, off, rfl, hp, hcell⟩ := hv (by omega)
  have HC : Hid (∀ i, i < 4 → w.cell? ⟨p, off + i, none⟩ = some (.int .i64 (gAt v i))) := fun i hi => hcell i (by omega)
  have hk0 := k_bounds _ raw 4000 (by omega) (by omega) h0 m0
  have HK1 : Hid (∀ w1, Below w.heap.size w w1 → Calls Tryd.prog 9 #[.slice a1 other.length c1, .int .i64 4000] w1 fun e w' => e = .returned (.slice (some ⟨w1.heap.size, 0, none⟩) 32 32) ∧ At w' w1.heap.size (ic (bndL other 4000 32)) tNk ∧ Below w1.heap.size w1 w') := fun w1 hb => k_bounds _ other 4000 (by omega) (by omega) (H1.out.keep hb) m1
  have HO : Hid (okL (bndL raw 4000 32)) := bnd_ok raw 4000 (by omega)
  have HP : Hid (okL (bndL other 4000 32)) := bnd_ok other 4000 (by omega)
  clear hG h0 h1 h2 hv hcell hlen
  generalize bndL raw 4000 32 = ol at *
  generalize bndL other 4000 32 = pl_ at *
  go_enter Tryd.func3, Tryd.ntmps3
  go_wp2_with fail
  refine hk0.mono ?_
  rintro e w1 ⟨rfl, hat1, hb1⟩
  have HB1 : Hid (Below w.heap.size w w1 ∧ At w1 w.heap.size (ic ol) tNk) := ⟨hb1, hat1⟩
  have hk1 := HK1.out w1 hb1
  have hl1 := hat1.lt
  clear hb1 hat1 hk0
  go_wp2_with fail
  refine hk1.mono ?_
  rintro e w2 ⟨rfl, hat2, hb2⟩
  have hl2 := hat2.lt
  have hs1 := HB1.out.1.size
  have HB2 : Hid (Below w.heap.size w w2 ∧ At w2 w.heap.size (ic ol) tNk ∧ At w2 w1.heap.size (ic pl_) tNk) := ⟨HB1.out.1.trans (hb2.mono hs1), HB1.out.2.keep hb2 hl1, hat2⟩
  clear hb2 hat2 hk1
  go_wp2_with fail
  go_loopw [10] (fun i wr => ∃ (j : Nat), j ≤ 4 ∧ i = .int .i64 j ∧ Hid (At wr w2.heap.size (ic (wsL v j)) tNk ∧ Below w2.heap.size w2 wr)) (fun i _ => 4 - (intOf i).toNat)
  case atStart => exact ⟨0, by omega, rfl, At.new _ _ _, (Below.refl _ _).alloc (Nat.le_refl _) _⟩
  case round =>
    obtain ⟨j, hj, rfl, HR⟩ := hrel
    have hs2 := HB2.out.1.size
    by_cases hlt : j < 4
    · have hji : (j : Int) < 4 := by omega
      have hjl : (j : Int) < (v.length : Int) := by omega
      have cx : wr.cell? ⟨p, off + j, none⟩ = some (.int .i64 (gAt v j)) := ((HR.out.2.cell (by show p < _; omega)).trans (HB2.out.1.cell (by exact hp))).trans (HC.out j hlt)
      have cy : wr.cell? ⟨w2.heap.size, j, none⟩ = some (.int .i64 (gAt (wsL v j) j)) := by rw [HR.out.1.cell, ic_get _ _ (by rw [wsL_len]; exact hlt)]; rfl
      have cf := HR.out.1.free j
      have hl := HR.out.1.lt
      have hne : p ≠ w2.heap.size := by omega
      have HX : Hid ((wsL v j).set j ((gAt v j).tmod 5000) = wsL v (j + 1)) := wsL_set v j
      generalize gAt (wsL v j) j = old at *
      generalize gAt v j = x at *
      go_wp2_with fail
      go_roundw
      case rel =>
        refine ⟨j + 1, by omega, by go_num, ?_, HR.out.2.setCell (by show w2.heap.size ≤ w2.heap.size; omega) _⟩
        have := HR.out.1.put j (.int .i64 (x.tmod 5000))
        rw [ic_set, HX.out] at this
        exact this
      case measure => simp [intOf]; omega
    · have hj4 : j = 4 := by omega
      subst hj4
      obtain ⟨w3, rfl⟩ : ∃ w3, w3 = wr := ⟨_, rfl⟩
      have hsw := wsL_small v
      have hwl := wsL_len v 4
      have hb3 : Below w.heap.size w w3 := HB2.out.1.trans (HR.out.2.mono hs2)
      have hro : Reads w3 (.slice (some ⟨w.heap.size, 0, none⟩) 32 32) ol := Reads.at_ (HB2.out.2.1.keep HR.out.2 (by omega)) HO.out.1 (Nat.le_refl _) (fun i hi => ic_get _ _ (by have := HO.out.1; omega))
      have hrp : Reads w3 (.slice (some ⟨w1.heap.size, 0, none⟩) 32 32) pl_ := Reads.at_ (HB2.out.2.2.keep HR.out.2 hl2) HP.out.1 (Nat.le_refl _) (fun i hi => ic_get _ _ (by have := HP.out.1; omega))
      have hrw : Reads w3 (.slice (some ⟨w2.heap.size, 0, none⟩) 4 4) (wsL v 4) := Reads.at_ HR.out.1 hwl (Nat.le_refl _) (fun i hi => ic_get _ _ (by omega))
      have hg3 := HG.out.keep hb3 hgs
      have HRo : Hid (Reads w3 _ ol) := hro
      have HRp : Hid (Reads w3 _ pl_) := hrp
      have HRw : Hid (Reads w3 _ (wsL v 4)) := hrw
      have HG3 : Hid (Glob w3) := hg3
      have HB3 : Hid (Below w.heap.size w w3) := hb3
      have hcl := w_close hg3 _ (rds_of hg3 HO.out hro) (ov_sm HO.out) hro.slice
      have HJ : Hid (∀ w4, Below w3.heap.size w3 w4 → Calls Tryd.prog 11 #[.slice (some ⟨w.heap.size, 0, none⟩) 32 32, .slice (some ⟨w1.heap.size, 0, none⟩) 32 32] w4 (LSaysE w4 (joE (ovE ol) (ovE pl_)) (joM (ovE ol) (ovE pl_) (ovM ol) (ovM pl_)))) := fun w4 hb => w_join (HG3.out.keep hb HG3.out.size) _ _ (rds_of (HG3.out.keep hb HG3.out.size) HO.out (HRo.out.keep hb)) (rds_of (HG3.out.keep hb HG3.out.size) HP.out (HRp.out.keep hb)) (jo_sm HO.out HP.out) ⟨_, _, _, rfl⟩ ⟨_, _, _, rfl⟩
      have HWi : Hid (∀ w4, Below w3.heap.size w3 w4 → Calls Tryd.prog 12 #[.slice (some ⟨w.heap.size, 0, none⟩) 32 32, .slice (some ⟨w1.heap.size, 0, none⟩) 32 32] w4 fun e w' => e = .returned (.tuple #[.bool (wiB (ovE ol) (ovE pl_) (ovM ol) (ovM pl_)), .int .i64 0]) ∧ Below w4.heap.size w4 w') := fun w4 hb => w_within _ _ (rds_of (HG3.out.keep hb HG3.out.size) HO.out (HRo.out.keep hb)) (rds_of (HG3.out.keep hb HG3.out.size) HP.out (HRp.out.keep hb)) ⟨_, _, _, rfl⟩ ⟨_, _, _, rfl⟩
      have HH : Hid (∀ w4 u l, Below w3.heap.size w3 w4 → Reads w4 u l → l.length ≤ 32 → Calls Tryd.prog 13 #[u, .slice (some ⟨w2.heap.size, 0, none⟩) 4 4] w4 fun e w' => e = .returned (.bool (hasB l (wsL v 4))) ∧ Below w4.heap.size w4 w') := fun w4 u l hb hu hl => k_has u _ l (wsL v 4) hwl (by omega) hu (HRw.out.keep hb) hsw
      have hd := holds_close HO.out hsw
      have hj := holds_join HO.out HP.out hsw
      have hw := holds_within HO.out HP.out hsw
      have hlo := HO.out.1
      have hlp := HP.out.1
      have HLo : Hid ((outL (ovE ol) (ovM ol)).length ≤ 32) := by show List.length _ ≤ _; unfold outL; split <;> simp [bdL]
      have HLj : Hid ((outL (joE (ovE ol) (ovE pl_)) (joM (ovE ol) (ovE pl_) (ovM ol) (ovM pl_))).length ≤ 32) := by show List.length _ ≤ _; unfold outL; split <;> simp [bdL]
      have HLL : Hid (ol.length ≤ 32 ∧ pl_.length ≤ 32) := ⟨by omega, by omega⟩
      clear hro hrp hrw hg3 hb3 hsw hwl hmk hlo hlp HK1
      have HD : Hid (hasB ol (wsL v 4) = hasB (outL (ovE ol) (ovM ol)) (wsL v 4)) := hd
      have HJj : Hid (hasB ol (wsL v 4) = true ∨ hasB pl_ (wsL v 4) = true → hasB (outL (joE (ovE ol) (ovE pl_)) (joM (ovE ol) (ovE pl_) (ovM ol) (ovM pl_))) (wsL v 4) = true) := hj
      have HWw : Hid (wiB (ovE ol) (ovE pl_) (ovM ol) (ovM pl_) = true → hasB ol (wsL v 4) = true → hasB pl_ (wsL v 4) = true) := hw
      clear hd hj hw
      have HCl : Hid (Calls Tryd.prog 10 #[.slice (some ⟨w.heap.size, 0, none⟩) 32 32] w3 fun x w' => ∃ y, x = .returned (.tuple #[y, .int .i64 0]) ∧ Reads w' y (outL (ovE ol) (ovM ol)) ∧ Below w3.heap.size w3 w') := hcl.mono fun x w' h => h.out
      have HJ2 : Hid (∀ w4, Below w3.heap.size w3 w4 → Calls Tryd.prog 11 #[.slice (some ⟨w.heap.size, 0, none⟩) 32 32, .slice (some ⟨w1.heap.size, 0, none⟩) 32 32] w4 fun x w' => ∃ y, x = .returned (.tuple #[y, .int .i64 0]) ∧ Reads w' y (outL (joE (ovE ol) (ovE pl_)) (joM (ovE ol) (ovE pl_) (ovM ol) (ovM pl_))) ∧ Below w4.heap.size w4 w') := fun w4 hb => (HJ.out w4 hb).mono fun x w' h => h.out
      clear hcl HJ HG3 HG
      generalize outL (ovE ol) (ovM ol) = cl at *
      generalize outL (joE (ovE ol) (ovE pl_)) (joM (ovE ol) (ovE pl_) (ovM ol) (ovM pl_)) = jl at *
      generalize wiB (ovE ol) (ovE pl_) (ovM ol) (ovM pl_) = yb at *
      generalize wsL v 4 = ws at *
      go_wp2_with fail
      refine HCl.out.mono ?_
      rintro e w4 ⟨y, rfl, hry, hb4⟩
      obtain ⟨ya, yn, yc, rfl⟩ := hry.slice
      have H4 : Hid (Below w3.heap.size w3 w4 ∧ Reads w4 (.slice ya yn yc) cl) := ⟨hb4, hry⟩
      have hjo := HJ2.out w4 hb4
      clear hry hb4
      go_wp2_with fail
      refine hjo.mono ?_
      rintro e w5 ⟨z, rfl, hrz, hb5⟩
      obtain ⟨za, zn, zc, rfl⟩ := hrz.slice
      have H5 : Hid (Below w3.heap.size w3 w5 ∧ Reads w5 (.slice ya yn yc) cl ∧ Reads w5 (.slice za zn zc) jl) := ⟨H4.out.1.trans (hb5.mono H4.out.1.size), H4.out.2.keep hb5, hrz⟩
      have hwi := HWi.out w5 H5.out.1
      clear hrz hb5 hjo
      go_wp2_with fail
      refine hwi.mono ?_
      rintro e w6 ⟨rfl, hb6⟩
      have H6 : Hid (Below w3.heap.size w3 w6 ∧ Reads w6 (.slice ya yn yc) cl ∧ Reads w6 (.slice za zn zc) jl) := ⟨H5.out.1.trans (hb6.mono H5.out.1.size), H5.out.2.1.keep hb6, H5.out.2.2.keep hb6⟩
      have hh1 := HH.out w6 _ ol H6.out.1 (HRo.out.keep H6.out.1) HLL.out.1
      clear hb6 hwi
      go_wp2_with fail
      refine hh1.mono ?_
      rintro e w7 ⟨rfl, hb7⟩
      have H7 : Hid (Below w3.heap.size w3 w7 ∧ Reads w7 (.slice ya yn yc) cl ∧ Reads w7 (.slice za zn zc) jl) := ⟨H6.out.1.trans (hb7.mono H6.out.1.size), H6.out.2.1.keep hb7, H6.out.2.2.keep hb7⟩
      have hh2 := HH.out w7 _ pl_ H7.out.1 (HRp.out.keep H7.out.1) HLL.out.2
      clear hb7 hh1
      go_wp2_with fail
      refine hh2.mono ?_
      rintro e w8 ⟨rfl, hb8⟩
      have H8 : Hid (Below w3.heap.size w3 w8 ∧ Reads w8 (.slice ya yn yc) cl ∧ Reads w8 (.slice za zn zc) jl) := ⟨H7.out.1.trans (hb8.mono H7.out.1.size), H7.out.2.1.keep hb8, H7.out.2.2.keep hb8⟩
      have hh3 := HH.out w8 _ cl H8.out.1 H8.out.2.1 HLo.out
      clear hb8 hh2
      go_wp2_with fail
      refine hh3.mono ?_
      rintro e w9 ⟨rfl, hb9⟩
      have H9 : Hid (Below w3.heap.size w3 w9 ∧ Reads w9 (.slice za zn zc) jl) := ⟨H8.out.1.trans (hb9.mono H8.out.1.size), H8.out.2.2.keep hb9⟩
      have hh4 := HH.out w9 _ jl H9.out.1 H9.out.2 HLj.out
      clear hb9 hh3
      go_wp2_with fail
      refine hh4.mono ?_
      rintro e wA ⟨rfl, hbA⟩
      have HBA : Hid (Below w.heap.size w wA) := by
        have q1 := H9.out.1.size
        have q3 := HB3.out.size
        exact HB3.out.trans ((H9.out.1.trans (hbA.mono q1)).mono q3)
      rw [← HD.out]
      have hJ := HJj.out
      have hW := HWw.out
      clear hbA hh4 HD HJj HWw
      generalize hasB ol ws = a at *
      generalize hasB pl_ ws = b at *
      generalize hasB jl ws = h at *
      cases a <;> cases b <;> cases h <;> cases yb <;> simp at hJ hW
      all_goals
        go_wp2_with fail
        go_ret
        exact ⟨rfl, HBA.out⟩

end Go.Proofs.YtffajooegiempabDoor

namespace Go.Proofs.YtffajooegiempabDoor
open Go.ChangeShapes Go.WideShapes Go.ChangeAt Go.WideMaps Go.WideElems Go.RowKit

theorem Tryd.ownD : ownKnob Tryd.prog.godebug = none := by kernel_rfl
theorem gFirst : Tryd.prog.globalNamed "witness/octagon.firstSide" = some 0 := by kernel_rfl
theorem gSecond : Tryd.prog.globalNamed "witness/octagon.secondSide" = some 1 := by kernel_rfl
theorem tFirst : (Tryd.prog.globals[0]?).map (·.type) = some 111 := by kernel_rfl
theorem tSecond : (Tryd.prog.globals[1]?).map (·.type) = some 111 := by kernel_rfl
def laid2 : List (String × DataW Unit) := [("witness/octagon.firstSide", Rows.laid_witness_octagon_firstSide), ("witness/octagon.secondSide", Rows.laid_witness_octagon_secondSide)]

/-- The door's own heap meets the condition. -/
theorem door_met (os : Os) (args : Array Value) : laidMetH Tryd.prog laid2 ((World.doorLaid Tryd.prog 4000 os).forCall (fun _ _ => 0) ⟨#[], args, []⟩).memory :=
  laidMetH_of_parts3 (fuel := 8) (laidMet_of_run' 8 (by kernel_rfl) (by kernel_rfl)) (by kernel_rfl) (by kernel_rfl)

/-- A table's cells, off its datum. -/
theorem tab_cells {H : Type} {enc : TypeId × Value → H} {w : World} {base : Nat} {sp : Nat → Bool} {held : Bool} {fuel : Nat} {cs : Array Value} {L : List Nat} {ps : List MemPlace}
    (hL : L.length = 32) (h : DataW.trod enc Tryd.prog w base sp held fuel 111 cs.toList = some (.agg (L.map fun n => .lit (.int .i64 ((n : Nat) : Int))), ps)) : ∀ i, i < 32 → cs[i]? = some (.int .i64 ((L.getD i 0 : Nat) : Int)) := by
  obtain ⟨xs, m1, rfl, hx1, hlen, hn3, hel⟩ := DataW.trod_array Tryd.underlying111 h
  have c3 : Tryd.prog.cellsOf 3 = 1 := by kernel_rfl
  simp only [Prod.mk.injEq, DataW.agg.injEq] at hx1
  intro i hi
  have h0 := hel i hi
  rw [c3, Nat.mul_one, List.getElem?_eq_getElem (by omega)] at h0
  obtain ⟨k, e1, e2, _⟩ := DataW.trod_int Tryd.underlying3 h0
  have e3 : (L.map fun n => (DataW.lit (.int .i64 ((n : Nat) : Int)) : DataW H))[i]? = (xs.map (·.1))[i]? := by rw [hx1.1]
  rw [List.getElem?_map, List.getElem?_map, List.getElem?_eq_getElem (by omega), List.getElem?_eq_getElem (show i < xs.length by omega)] at e3
  simp only [Option.map_some, Option.some.injEq] at e3
  rw [e2] at e3
  simp only [DataW.lit.injEq, Lit.int.injEq, true_and] at e3
  have e4 : cs.toList[i]? = some (.int .i64 k) := by
    have := congrArg (fun l : List Value => l[0]?) e1
    simpa [List.getElem?_take, List.getElem?_drop] using this
  rw [← Array.getElem?_toList, e4, ← e3]
  simp [List.getD, show i < L.length by omega]

/-- What the condition gives the walks: the two tables. -/
theorem of_laid {W : World} (h : laidMetH Tryd.prog laid2 W) : Glob W := by
  rw [MakeChecks.laidMetH_plain _ _ _ (by kernel_rfl)] at h
  obtain ⟨ps, ⟨g0, t0, cs0, f0, p0, q0, hg0, ht0, hv0, hd0, ⟨g1, t1, cs1, f1, p1, q1, hg1, ht1, hv1, hd1, _, _⟩, _⟩, _, _⟩ := h
  obtain rfl := Option.some.inj (gFirst.symm.trans hg0)
  obtain rfl := Option.some.inj (gSecond.symm.trans hg1)
  obtain rfl := Option.some.inj (tFirst.symm.trans ht0)
  obtain rfl := Option.some.inj (tSecond.symm.trans ht1)
  have a := tab_cells (L := fsL) rfl hd0
  have b := tab_cells (L := ssL) rfl hd1
  have c1 : ∀ f, f < 32 → W.cell? ⟨0, f, none⟩ = some (.int .i64 ((fs f : Nat) : Int)) := fun f hf => (World.var?_cell hg0 hv0 f).trans (a f hf)
  have c2 : ∀ f, f < 32 → W.cell? ⟨1, f, none⟩ = some (.int .i64 ((ss f : Nat) : Int)) := fun f hf => (World.var?_cell hg1 hv1 f).trans (b f hf)
  have := World.block_lt_of_cell? W _ (c2 0 (by omega))
  exact ⟨c1, c2, by have h' : 1 < W.heap.size := this; omega⟩

end Go.Proofs.YtffajooegiempabDoor

namespace Go.Proofs.YtffajooegiempabDoor
open Go.ChangeShapes Go.WideShapes Go.ChangeAt Go.WideMaps Go.WideElems Go.RowKit

theorem Tryd.laidOutD : laidOutB Tryd.prog = true := by kernel_rfl
theorem Tryd.cellsD : Tryd.prog.cellsOf 3 = 1 := by kernel_rfl

/-- A slice of numbers that came in. -/
theorem open_reads {H : Type} {enc : TypeId × Value → H} {W : World} {a0 : Option Addr} {len cap : Nat} {d : DataW H} {p : List MemPlace}
    (h : DataW.Trod enc Tryd.prog W 0 (fun _ => true) true 22 (.slice a0 len cap) d p) (hlt : ∀ x ∈ p, x.block < W.heap.size) : ∃ L : List Int, L.length ≤ maxLen ∧ Reads W (.slice a0 len cap) L := by
  obtain ⟨fuel, hf⟩ := h
  rcases open_ints Tryd.underlying22 Tryd.underlying3 Tryd.cellsD hf with ⟨hcs, hx⟩ | ⟨a, len', cap', zs, hcs, _, hl, hm, hz, hx, hcell, hwz⟩
  · simp [Value.cells] at hcs
    obtain ⟨rfl, rfl, rfl⟩ := hcs
    exact ⟨[], Nat.zero_le _, none, 0, rfl, Nat.le_refl _, fun h => absurd rfl h⟩
  · simp [Value.cells] at hcs
    obtain ⟨rfl, rfl, rfl⟩ := hcs
    simp only [Prod.mk.injEq] at hx
    obtain ⟨rfl, rfl⟩ := hx
    simp only [if_true] at hz
    have htl : (zs.take len).length = len := by simp; omega
    refine ⟨zs.take len, by rw [htl]; exact Nat.le_trans hl hm, some a, cap, by rw [htl], by rw [htl]; exact hl, fun hn => ?_⟩
    rw [htl] at hn
    obtain ⟨bb, off, spot⟩ := a
    have hspot : spot = none := by simpa [Addr.add] using World.cell?_spot (hcell 0 (by omega))
    subst hspot
    refine ⟨bb, off, rfl, hlt (.cell bb off) (MemPlace.mem_row.2 ⟨0, by omega, by simp⟩), fun i hi => ?_⟩
    rw [htl] at hi
    rw [← add_plain, hcell i (by omega)]
    congr 2
    simp [List.getD, hi]

end Go.Proofs.YtffajooegiempabDoor

namespace Go.Proofs.YtffajooegiempabDoor
open Go.ChangeShapes Go.WideShapes Go.ChangeAt Go.WideMaps Go.WideElems Go.RowKit

set_option maxRecDepth 100000 in
theorem holds_lifted (os : Os) (started : os.Started) (H : Type) (enc : TypeId × Value → H) :
    ReturnsInHanded {} Tryd.checked os 3 .any (fun w args => (Rows.holdsSpec.pre enc Tryd.prog Tryd.f3 [] false w args ∧ laidMetH Tryd.prog laid2 w) ∧ sizedMet enc Tryd.prog Tryd.f3 (OpenSpec.ofChange Rows.holdsSpec) false w args)
      (Rows.holdsSpec.post enc Tryd.prog Tryd.f3 false true false false) := by
  refine returnsInHanded_of_change_and (C := Tryd.checked) (X := fun w _ => laidMetH Tryd.prog laid2 w) (fun _ _ _ hh h => h.of_heap hh) Tryd.ownD started (by kernel_rfl) Tryd.func3
    (ChangeSpec.witness_shaped (enc := enc) (C := Tryd.checked) (os := os) (X := fun w _ => laidMetH Tryd.prog laid2 w) false (World.doorLaid Tryd.prog 4000 os) #[.slice none 0 0, .slice none 0 0, .slice none 0 0] 8 rfl (World.shaped_of_RefB (by kernel_rfl) (by kernel_rfl)) (by kernel_rfl) (by kernel_rfl) (by kernel_rfl) (door_met os _)) ?_
  intro W base args ds gs before hval0 hW _ _ hL _
  have hval : ∀ (j : Nat) t v, Tryd.f3.params[j]? = some t → args[j]? = some v → Value.okWide Tryd.prog W .any base t v := hval0
  have hW' := hW
  obtain ⟨p, q, hA0, hV, rfl, hfz, hnd⟩ := hW
  have hA : DataW.TrodAll enc Tryd.prog W 0 (fun _ => true) true Tryd.f3.params.toList args.toList ds p := hA0
  rw [Tryd.params3] at hA hval
  obtain ⟨v0, vs0, d0, ds0, p0, q0, hargs0, rfl, rfl, h0, r0⟩ := trodAll_cons hA
  obtain ⟨v1, vs1, d1, ds1, p1, q1, hargs1, rfl, rfl, h1, r1⟩ := trodAll_cons r0
  obtain ⟨v2, vs2, d2, ds2, p2, q2, hargs2, rfl, rfl, h2, r2⟩ := trodAll_cons r1
  obtain ⟨rfl, rfl, rfl⟩ := trodAll_nil r2
  obtain rfl : args = #[v0, v1, v2] := by cases args; simp_all
  obtain ⟨rfl, rfl⟩ := trodVars_none hV
  obtain ⟨a0, l0, c0, rfl⟩ := okWide_slice Tryd.underlying22 (hval 0 22 v0 rfl rfl)
  obtain ⟨a1, l1, c1, rfl⟩ := okWide_slice Tryd.underlying22 (hval 1 22 v1 rfl rfl)
  obtain ⟨a2, l2, c2, rfl⟩ := okWide_slice Tryd.underlying22 (hval 2 22 v2 rfl rfl)
  clear hA0 hval0
  simp only [List.append_nil] at hW'
  have hlt : ∀ x ∈ p0 ++ (p1 ++ p2), x.block < W.heap.size := fun x hx => hW'.lt x (by simpa using hx)
  have lt0 : ∀ x ∈ p0, x.block < W.heap.size := fun x hx => hlt x (by simp [hx])
  have lt1 : ∀ x ∈ p1, x.block < W.heap.size := fun x hx => hlt x (by simp [hx])
  have lt2 : ∀ x ∈ p2, x.block < W.heap.size := fun x hx => hlt x (by simp [hx])
  obtain ⟨L0, m0, R0⟩ := open_reads h0 lt0
  obtain ⟨L1, m1, R1⟩ := open_reads h1 lt1
  obtain ⟨L2, m2, R2⟩ := open_reads h2 lt2
  have hmx : ∀ L : List Int, L.length ≤ maxLen → L.length ≤ 9223372036854775807 := fun L h => by unfold maxLen at h; omega
  refine (holds_walk (of_laid hL) _ _ _ L0 L1 L2 R0 R1 R2 (hmx _ m0) (hmx _ m1) (hmx _ m2)).mono fun e W' ⟨he, hb⟩ => ?_
  subst he
  have t0 := Below.trod Tryd.laidOutD (by kernel_rfl) (of_decide_eq_true (by kernel_rfl)) h0 hb lt0
  have t1 := Below.trod Tryd.laidOutD (by kernel_rfl) (of_decide_eq_true (by kernel_rfl)) h1 hb lt1
  have t2 := Below.trod Tryd.laidOutD (by kernel_rfl) (of_decide_eq_true (by kernel_rfl)) h2 hb lt2
  have hall := trodAll_cons_mk t0 (trodAll_cons_mk t1 (trodAll_cons_mk t2 trodAll_mk0))
  simp only [List.append_nil] at hall
  exact ⟨_, rfl, _, _, _, [], p0 ++ (p1 ++ p2), [], hW', trodAll_cons_mk (shut_bool Tryd.underlying4 _) trodAll_mk0, hall, rfl, hb.frame _, fun h => by cases h⟩

theorem holds_row : Rows.HoldsSaid :=
  OpenClaim.holds_of_wide 3 Tryd.f3 rfl rfl rfl rfl rfl rfl rfl ⟨rfl, rfl, rfl, rfl, rfl⟩ rfl rfl rfl rfl rfl (by kernel_rfl) Tryd.func3 (by kernel_rfl)
    (of_decide_eq_true (by kernel_rfl)) (by unfold Func.isWrapper; first | (rw [if_pos (by decide +kernel)]; kernel_rfl) | (rw [if_neg (by decide +kernel)]; exact ⟨rfl, rfl⟩))
    (fun os started H enc _ => holds_lifted os started H enc)

theorem holds_card : Rows.HoldsCardSaid :=
  Claim7.holds_tied_plain_at .later [] [.data, .data] true Rows.holdsCard.stood.harness false
    holds_row (fun _ h => by cases h) (by kernel_rfl) (fun _ h => by cases h) holds_row_tie rfl ⟨rfl, rfl⟩ (by kernel_rfl) rfl
    (fun f fn hf hfn => by
      obtain rfl : f = 3 := Option.some.inj ((show Tryd.prog.funcNamed "witness/witnesskeep.Holds" = some 3 by kernel_rfl).symm.trans hf) |>.symm
      obtain rfl : fn = Tryd.f3 := (Option.some.inj (Tryd.func3.symm.trans hfn)).symm
      exact ⟨by kernel_rfl, fun j t ht => by
        rw [Tryd.params3] at ht
        have hm : t ∈ [22, 22, 22] := by simpa using Array.mem_of_getElem? ht
        have hall : ([22, 22, 22].all fun u => !Tryd.prog.wantsStandIn u) = true := by kernel_rfl
        exact (show Tryd.prog.wantsStandIn t = false by simpa using List.all_eq_true.1 hall t hm)⟩)
    (by kernel_rfl)

end Go.Proofs.YtffajooegiempabDoor

