import Derived.Test.YtffajooegiempabDoorJ7
/- Sharp: all small states are looked at. No Go in here. -/
namespace Go.Proofs.YtffajooegiempabDoor
variable {o : List Int}

/-- The k-th state. -/
def vk (k : Nat) : List Int := [(k : Int) % 5 - 2, (k : Int) / 5 % 5 - 2, (k : Int) / 25 % 5 - 2, (k : Int) / 125 - 2]
def anF (o : List Int) : Nat → Bool
  | 0 => false
  | k + 1 => anF o k || hasB o (vk k)
/-- The best so far. -/
def beF (o : List Int) : Nat → Nat → Int
  | 0, _ => 0
  | k + 1, f => if hasB o (vk k) = true ∧ (anF o k = false ∨ beF o k f < valF f (vk k)) then valF f (vk k) else beF o k f
theorem anF_iff : ∀ k, anF o k = true ↔ ∃ j, j < k ∧ hasB o (vk j) = true := by
  intro k
  induction k with
  | zero => exact ⟨fun h => Bool.noConfusion h, fun ⟨j, hj, _⟩ => absurd hj (by omega)⟩
  | succ k ih =>
    show (anF o k || hasB o (vk k)) = true ↔ _
    rw [Bool.or_eq_true, ih]
    constructor
    · rintro (⟨j, hj, h⟩ | h)
      · exact ⟨j, by omega, h⟩
      · exact ⟨k, by omega, h⟩
    · rintro ⟨j, hj, h⟩
      rcases Nat.lt_or_eq_of_le (Nat.lt_succ_iff.1 hj) with e | e
      · exact .inl ⟨j, e, h⟩
      · rw [e] at h; exact .inr h
theorem beF_best (f : Nat) : ∀ k, anF o k = true → (∃ j, j < k ∧ hasB o (vk j) = true ∧ beF o k f = valF f (vk j)) ∧ ∀ j, j < k → hasB o (vk j) = true → valF f (vk j) ≤ beF o k f := by
  intro k
  induction k with
  | zero => intro h; cases h
  | succ k ih =>
    intro h
    rw [beF]
    by_cases c : hasB o (vk k) = true ∧ (anF o k = false ∨ beF o k f < valF f (vk k))
    · rw [if_pos c]
      refine ⟨⟨k, by omega, c.1, rfl⟩, fun j hj hh => ?_⟩
      rcases Nat.lt_or_eq_of_le (Nat.lt_succ_iff.1 hj) with e | e
      · have ha : anF o k = true := (anF_iff k).2 ⟨j, e, hh⟩
        rcases c.2 with z | z
        · rw [ha] at z; cases z
        · have := (ih ha).2 j e hh
          omega
      · rw [e]; exact Int.le_refl _
    · rw [if_neg c]
      have ha : anF o k = true := by
        cases e : anF o k with
        | true => rfl
        | false =>
          have h' : (anF o k || hasB o (vk k)) = true := h
          rw [e, Bool.false_or] at h'
          exact absurd ⟨h', .inl e⟩ c
      obtain ⟨⟨j, hj, h1, h2⟩, h3⟩ := ih ha
      refine ⟨⟨j, by omega, h1, h2⟩, fun i hi hh => ?_⟩
      rcases Nat.lt_or_eq_of_le (Nat.lt_succ_iff.1 hi) with e | e
      · exact h3 i e hh
      · subst e
        rcases Int.lt_or_le (beF o i f) (valF f (vk i)) with z | z
        · exact absurd ⟨hh, .inr z⟩ c
        · exact z
/-- Every small state is one of them. -/
theorem vk_all {v : Nat → Int} (h : ∀ i, i < 4 → -2 ≤ v i ∧ v i ≤ 2) : ∃ k, k < 625 ∧ ∀ i, i < 4 → gAt (vk k) i = v i := by
  have h0 := h 0 (by omega)
  have h1 := h 1 (by omega)
  have h2 := h 2 (by omega)
  have h3 := h 3 (by omega)
  refine ⟨((v 0 + 2) + 5 * (v 1 + 2) + 25 * (v 2 + 2) + 125 * (v 3 + 2)).toNat, by omega, fun i hi => ?_⟩
  generalize hk : ((v 0 + 2) + 5 * (v 1 + 2) + 25 * (v 2 + 2) + 125 * (v 3 + 2)).toNat = k
  have hk' : (k : Int) = (v 0 + 2) + 5 * (v 1 + 2) + 25 * (v 2 + 2) + 125 * (v 3 + 2) := by omega
  rcases (show i = 0 ∨ i = 1 ∨ i = 2 ∨ i = 3 by omega) with rfl | rfl | rfl | rfl
  · show (k : Int) % 5 - 2 = v 0; omega
  · show (k : Int) / 5 % 5 - 2 = v 1; omega
  · show (k : Int) / 25 % 5 - 2 = v 2; omega
  · show (k : Int) / 125 - 2 = v 3; omega
theorem vk_rng {k : Nat} (hk : k < 625) : ∀ i, i < 4 → -2 ≤ gAt (vk k) i ∧ gAt (vk k) i ≤ 2 := by
  intro i hi
  rcases (show i = 0 ∨ i = 1 ∨ i = 2 ∨ i = 3 by omega) with rfl | rfl | rfl | rfl
  · show -2 ≤ (k : Int) % 5 - 2 ∧ (k : Int) % 5 - 2 ≤ 2; omega
  · show -2 ≤ (k : Int) / 5 % 5 - 2 ∧ (k : Int) / 5 % 5 - 2 ≤ 2; omega
  · show -2 ≤ (k : Int) / 25 % 5 - 2 ∧ (k : Int) / 25 % 5 - 2 ≤ 2; omega
  · show -2 ≤ (k : Int) / 125 - 2 ∧ (k : Int) / 125 - 2 ≤ 2; omega
theorem vk_5000 {k : Nat} (hk : k < 625) : ∀ i, i < 4 → -5000 ≤ gAt (vk k) i ∧ gAt (vk k) i ≤ 5000 := fun i hi => by
  have := vk_rng hk i hi
  omega
theorem sd_congr {v v' : Nat → Int} (h : ∀ i, i < 4 → v i = v' i) {i : Nat} (hi : i < 8) : sd v i = sd v' i := by
  unfold sd
  rw [h (i / 2) (by omega)]
/-- A state of the sharp bounds is one of the list. -/
theorem sat_has (ho : okL o) {l : List Int} (hv : ∀ i, i < 4 → -5000 ≤ gAt l i ∧ gAt l i ≤ 5000) (h : Sat (gAt l) (ovM o)) (he : ovE o = false) : hasB o l = true := by
  rw [holds_close ho hv, he]
  exact has_out_true hv h
theorem sharp_all (ho : okL o) (hb : ∀ f, f < 8 → gAt o f ≤ 2) : (ovE o = true → anF o 625 = false) ∧ (ovE o = false → anF o 625 = true ∧ ∀ f, f < 32 → beF o 625 f = bd (ovM o) f) := by
  refine ⟨fun he => ?_, fun he => ?_⟩
  · cases e : anF o 625 with
    | false => rfl
    | true =>
      obtain ⟨j, _, h⟩ := (anF_iff 625).1 e
      have := (sat_ov ho.1 h).2
      rw [he] at this
      cases this
  · have hT : TC (ovM o) := (raw_lay ho).tc he
    have hd : ∀ i, i < 8 → ovM o (i * 8 + i) ≤ 4 := by
      intro i hi
      have a := ovM_le o (i * 8 + i)
      rw [lay_nf o hi hi (fun e => opp_ne i e.symm), nf_self] at a
      have b := bv_lo o hi
      have c := hb i hi
      have c' : o.getD i 0 ≤ 2 := c
      have n : o.getD i 0 ≠ NB := by unfold NB; omega
      rw [b.2 n] at a
      omega
    have hdf : ∀ i, i < 8 → ovM o (i * 8 + i) ≠ NB := fun i hi => by have := hd i hi; unfold NB; omega
    have hfin : ∀ a, a < 64 → ovM o a ≠ NB := by
      intro a ha
      have := (hT.half (a / 8) (a % 8) (by omega) (by omega) (hdf _ (by omega)) (hdf _ (by omega))).1
      rw [show a / 8 * 8 + a % 8 = a by omega] at this
      exact this
    have box : ∀ v, Sat v (ovM o) → ∀ i, i < 4 → -2 ≤ v i ∧ v i ≤ 2 := by
      intro v hs i hi
      have a := (hs (2 * i) (2 * i) (by omega) (by omega)).resolve_left (hdf _ (by omega))
      have b := (hs (2 * i + 1) (2 * i + 1) (by omega) (by omega)).resolve_left (hdf _ (by omega))
      have a2 := hd (2 * i) (by omega)
      have b2 := hd (2 * i + 1) (by omega)
      have e1 : sd v (2 * i) = v i := by unfold sd; rw [if_pos (by omega), show 2 * i / 2 = i by omega]
      have e2 : sd v (2 * i + 1) = -v i := by unfold sd; rw [if_neg (by omega), show (2 * i + 1) / 2 = i by omega]
      rw [e1] at a
      rw [e2] at b
      omega
    have find : ∀ f, f < 32 → ∃ k, k < 625 ∧ hasB o (vk k) = true ∧ valF f (vk k) = bd (ovM o) f := by
      intro f hf
      obtain ⟨v, hs, hv⟩ := hT.reach hfin hf
      obtain ⟨k, hk, hv'⟩ := vk_all (box v hs)
      have hsat : Sat (gAt (vk k)) (ovM o) := fun i j hi hj => by
        rw [sd_congr hv' hi, sd_congr hv' hj]
        exact hs i j hi hj
      refine ⟨k, hk, sat_has ho (vk_5000 hk) hsat he, ?_⟩
      rw [valF_sd f hf, ← hv]
      unfold fval
      by_cases f8 : f < 8
      · rw [if_pos f8, if_pos f8, sd_congr hv' f8]
      · rw [if_neg f8, if_neg f8, sd_congr hv' (fs_lt f hf), sd_congr hv' (ss_lt f hf)]
    have hany : anF o 625 = true := by
      obtain ⟨k, hk, h, _⟩ := find 0 (by omega)
      exact (anF_iff 625).2 ⟨k, hk, h⟩
    refine ⟨hany, fun f hf => ?_⟩
    obtain ⟨⟨j, hj, h1, h2⟩, h3⟩ := beF_best (o := o) f 625 hany
    obtain ⟨k, hk, h4, h5⟩ := find f hf
    have a := h3 k hk h4
    have b := sat_bd (vk_5000 hj) (sat_ov ho.1 h1).1 f hf
    omega

end Go.Proofs.YtffajooegiempabDoor

namespace Go.Proofs.YtffajooegiempabDoor
open Go.RowKit
variable {w : World}

/-- Thirty-two numbers as a list. -/
def ql (R : Nat → Int) : List Int := (List.range 32).map R
theorem ql_len (R : Nat → Int) : (ql R).length = 32 := by simp [ql]
theorem ql_get (R : Nat → Int) {i : Nat} (h : i < 32) : (ql R).getD i 0 = R i := by simp [ql, List.getD, h]
theorem ql_set (R : Nat → Int) {n : Nat} (c : Int) : (ql R).set n c = ql (upd R n c) := by
  refine List.ext_getElem (by simp [ql]) fun i h1 h2 => ?_
  rw [List.getElem_set]
  simp only [ql, List.getElem_map, List.getElem_range]
  unfold upd
  by_cases e : n = i
  · rw [if_pos e, if_pos e.symm]
  · rw [if_neg e, if_neg (fun z => e z.symm)]
theorem ql_cell {p : Nat} {R : Nat → Int} {t : TypeId} (h : At w p (ic (ql R)) t) {i : Nat} (hi : i < 32) : w.cell? ⟨p, i, none⟩ = some (.int .i64 (R i)) := by
  rw [h.cell, ic_get _ _ (by rw [ql_len]; exact hi), ql_get R hi]
theorem ql_congr {R S : Nat → Int} (h : ∀ f, f < 32 → R f = S f) : ql R = ql S := List.map_congr_left fun f hf => h f (by simpa using hf)
theorem ql_reads {p : Nat} {R : Nat → Int} (h : At w p (ic (ql R)) tNk) : Reads w (.slice (some ⟨p, 0, none⟩) 32 32) (ql R) := Reads.at_ h (ql_len R) (Nat.le_refl _) (fun i hi => ic_get _ _ (by rw [ql_len]; exact hi))
/-- The first bounds, kept to 2. -/
def clF (A : Nat → Int) (n i : Nat) : Int := if i < n ∧ 2 < A i then 2 else A i
theorem clF_no (A : Nat → Int) (n : Nat) : clF A n n = A n := if_neg (by omega)
theorem clF_put (A : Nat → Int) {n : Nat} (h : 2 < A n) : clF A (n + 1) = upd (clF A n) n 2 := by
  funext i
  unfold upd clF
  by_cases e : i = n
  · subst e; rw [if_pos ⟨by omega, h⟩, if_pos rfl]
  · rw [if_neg e]
    by_cases c : i < n ∧ 2 < A i
    · rw [if_pos c, if_pos ⟨by omega, c.2⟩]
    · rw [if_neg c, if_neg (fun z => c ⟨by omega, z.2⟩)]
theorem clF_same (A : Nat → Int) {n : Nat} (h : ¬ 2 < A n) : clF A (n + 1) = clF A n := by
  funext i
  unfold clF
  by_cases e : i = n
  · subst e; rw [if_neg (fun z => h z.2), if_neg (by omega)]
  · by_cases c : i < n ∧ 2 < A i
    · rw [if_pos c, if_pos ⟨by omega, c.2⟩]
    · rw [if_neg c, if_neg (fun z => c ⟨by omega, z.2⟩)]
/-- The octagon that is looked at. -/
def shO (raw : List Int) : List Int := ql (clF (bnd raw 8) 8)
theorem bnd_8 (raw : List Int) (f : Nat) : bnd raw 8 f = NB ∨ (-8 ≤ bnd raw 8 f ∧ bnd raw 8 f ≤ 8) := by
  unfold bnd
  split
  · rename_i h; exact .inr h.2
  · exact .inl rfl
theorem shO_ok (raw : List Int) : okL (shO raw) ∧ ∀ f, f < 8 → gAt (shO raw) f ≤ 2 := by
  refine ⟨⟨ql_len _, fun f hf => ?_⟩, fun f hf => ?_⟩
  · show isB ((ql (clF (bnd raw 8) 8)).getD f 0) = true
    rw [ql_get _ hf]
    unfold isB clF
    apply decide_eq_true
    rcases bnd_8 raw f with h | h
    · split
      · exact .inr (by omega)
      · exact .inl h
    · split
      · exact .inr (by omega)
      · exact .inr (by omega)
  · show (ql (clF (bnd raw 8) 8)).getD f 0 ≤ 2
    rw [ql_get _ (by omega)]
    unfold clF
    split
    · omega
    · rename_i h
      rcases Int.lt_or_le 2 (bnd raw 8 f) with c | c
      · exact absurd ⟨hf, c⟩ h
      · exact c
theorem bndL_ql (raw : List Int) : bndL raw 8 32 = ql (clF (bnd raw 8) 0) := by
  unfold bndL ql
  refine List.map_congr_left fun f hf => ?_
  have : f < 32 := by simpa using hf
  rw [if_pos this]
  unfold clF
  rw [if_neg (by omega)]
/-- The best, in the midst of a round. -/
def mixF (o : List Int) (k n i : Nat) : Int := if i < n then beF o (k + 1) i else beF o k i
theorem mixF_0 (o : List Int) (k : Nat) : mixF o k 0 = beF o k := by funext i; exact if_neg (by omega)
theorem mixF_at (o : List Int) (k n : Nat) : mixF o k n n = beF o k n := if_neg (by omega)
theorem mixF_put (o : List Int) (k n : Nat) : mixF o k (n + 1) = upd (mixF o k n) n (beF o (k + 1) n) := by
  funext i
  unfold upd mixF
  by_cases e : i = n
  · subst e; rw [if_pos (by omega), if_pos rfl]
  · rw [if_neg e]
    by_cases c : i < n
    · rw [if_pos c, if_pos (by omega)]
    · rw [if_neg c, if_neg (by omega)]
theorem mixF_same {o : List Int} {k n : Nat} (h : beF o (k + 1) n = beF o k n) : mixF o k (n + 1) = mixF o k n := by
  rw [mixF_put, h]
  funext i
  unfold upd
  by_cases e : i = n
  · rw [if_pos e, e, mixF_at]
  · rw [if_neg e]
theorem mixF_32 (o : List Int) (k : Nat) : ql (mixF o k 32) = ql (beF o (k + 1)) := ql_congr fun _ hf => if_pos hf
theorem be_no {o : List Int} {k : Nat} (h : hasB o (vk k) = false) : beF o (k + 1) = beF o k := by
  funext f
  rw [beF, if_neg (fun z => by rw [h] at z; cases z.1)]
theorem be_eq {o : List Int} {k : Nat} (h : hasB o (vk k) = true) (f : Nat) : beF o (k + 1) f = if anF o k = false ∨ beF o k f < valF f (vk k) then valF f (vk k) else beF o k f := by
  rw [beF]
  by_cases c : anF o k = false ∨ beF o k f < valF f (vk k)
  · rw [if_pos ⟨h, c⟩, if_pos c]
  · rw [if_neg (fun z => c z.2), if_neg c]
theorem an_eq (o : List Int) (k : Nat) : anF o (k + 1) = (anF o k || hasB o (vk k)) := rfl
theorem ic_zeros : (List.replicate 32 (Value.int .i64 0)).toArray = ic (ql fun _ => 0) := by
  have : ql (fun _ => 0) = List.replicate 32 0 := rfl
  rw [this]
  unfold ic
  rw [List.map_replicate]

end Go.Proofs.YtffajooegiempabDoor

namespace Go.Proofs.YtffajooegiempabDoor
open Go.RowKit
variable {w : World}

set_option maxRecDepth 100000 in
set_option maxHeartbeats 6400000 in
theorem sharp_walk (hG : Glob w) (v : Value) (raw : List Int) (hr : Reads w v raw) (hmx : raw.length ≤ 9223372036854775807) :
    Calls Tryd.prog 4 #[v] w fun e w' => e = .returned (.bool true) ∧ Below w.heap.size w w' := by
  have hq1 : ∀ (w : World) (a : Option Addr) (n c : Nat), (binOp .eql 22 (.slice a n c) (.slice none 0 0)).run Tryd.prog w = .ok (.bool a.isNone) w := fun w a n c => Lib.run_eql_slice_nil w 22 tNk a n c 0 0 Tryd.underlying22
  have hmk : ∀ w, (Instr.makeSlice 22 (.int .i64 4) (.int .i64 4)).run Tryd.prog w = .ok (.slice (some ⟨w.heap.size, 0, none⟩) 4 4) (w.alloc (.cells #[.int .i64 0, .int .i64 0, .int .i64 0, .int .i64 0] tNk)) := fun _ => by kernel_rfl
  have hmk2 : ∀ w, (Instr.makeSlice 22 (.int .i64 32) (.int .i64 32)).run Tryd.prog w = .ok (.slice (some ⟨w.heap.size, 0, none⟩) 32 32) (w.alloc (.cells (List.replicate 32 (Value.int .i64 0)).toArray tNk)) := fun _ => by kernel_rfl
  obtain ⟨cur, hcur⟩ : ∃ cur, cur = (List.replicate 32 (Value.int .i64 0)).toArray := ⟨_, rfl⟩
  rw [← hcur] at hmk2
  have hbo := k_bounds v raw 8 (by omega) (by omega) hr hmx
  rw [bndL_ql] at hbo
  obtain ⟨hok, hle⟩ := shO_ok raw
  have HOk : Hid (okL (shO raw)) := hok
  have HAll : Hid (_ ∧ _) := sharp_all hok hle
  have HO : Hid (shO raw = ql (clF (bnd raw 8) 8)) := rfl
  have HG : Hid (Glob w) := hG
  have HLen : Hid ((shO raw).length = 32) := hok.1
  obtain ⟨av, cv, rfl, -, -⟩ := hr
  clear hok hle hG hmx
  generalize shO raw = o at *
  generalize bnd raw 8 = A at *
  go_enter Tryd.func4, Tryd.ntmps4
  go_wp2_with fail
  refine hbo.mono ?_
  rintro e w1 ⟨rfl, hat1, hb1⟩
  have H1 : Hid (At w1 w.heap.size (ic (ql (clF A 0))) tNk ∧ Below w.heap.size w w1) := ⟨hat1, hb1⟩
  clear hat1 hb1 hbo
  go_wp2_with fail
  go_loopw [4] (fun iv wr => ∃ (f : Nat), f ≤ 8 ∧ iv = .int .i64 f ∧ Hid (At wr w.heap.size (ic (ql (clF A f))) tNk ∧ Below w.heap.size w wr)) (fun iv _ => 8 - (intOf iv).toNat)
  case atStart => exact ⟨0, by omega, rfl, H1.out⟩
  case round =>
    obtain ⟨f, hf, rfl, HR⟩ := hrel
    clear H1
    by_cases hlt : f < 8
    · have hfi : (f : Int) < 8 := by omega
      have cx := ql_cell HR.out.1 (show f < 32 by omega)
      rw [clF_no] at cx
      have cf := HR.out.1.free
      have hl := HR.out.1.lt
      by_cases c : 2 < A f
      · have HE : Hid (clF A (f + 1) = upd (clF A f) f 2) := clF_put A c
        generalize A f = x at *
        go_wp2_with fail
        go_roundw
        case rel =>
          refine ⟨f + 1, by omega, by go_num, ?_, HR.out.2.setCell (Nat.le_refl _) _⟩
          rw [HE.out, ← ql_set, ← ic_set]
          exact HR.out.1.put f _
        case measure => simp [intOf]; omega
      · have HE : Hid (clF A (f + 1) = clF A f) := clF_same A c
        generalize A f = x at *
        go_wp2_with fail
        go_roundw
        case rel => exact ⟨f + 1, by omega, by go_num, by rw [HE.out]; exact HR.out.1, HR.out.2⟩
        case measure => simp [intOf]; omega
    · have hf8 : f = 8 := by omega
      subst hf8
      obtain ⟨w2, rfl⟩ : ∃ w2, w2 = wr := ⟨_, rfl⟩
      have H2 : Hid (At w2 w.heap.size (ic o) tNk ∧ Below w.heap.size w w2) := ⟨by rw [HO.out]; exact HR.out.1, HR.out.2⟩
      clear HR
      have hro : Reads w2 (.slice (some ⟨w.heap.size, 0, none⟩) 32 32) o := Reads.at_ H2.out.1 HLen.out (Nat.le_refl _) (fun i hi => ic_get _ _ (by rw [HLen.out]; exact hi))
      have hg2 := HG.out.keep H2.out.2 HG.out.size
      have hcl := w_close hg2 _ (rds_of hg2 HOk.out hro) (ov_sm HOk.out) hro.slice
      have hlt2 : w.heap.size < w2.heap.size := H2.out.1.lt
      clear hg2 hro
      go_wp2_with fail
      refine hcl.mono ?_
      rintro e w3 ⟨y, hy, rfl⟩
      obtain ⟨y', e', a, n, c, rfl⟩ := hy.val
      cases e'
      have HY : Hid (LSays w2 (ovE o) (ovM o) (.returned (.slice a n c)) w3) := hy
      have hs3 := hy.1.size
      have H3 : Hid (At w3 w.heap.size (ic o) tNk ∧ Below w.heap.size w w3) := ⟨H2.out.1.keep hy.1 hlt2, H2.out.2.trans (hy.1.mono (by omega))⟩
      clear hy hcl H2
      obtain ⟨w4, hw4⟩ : ∃ w4, w4 = (w3.alloc (.cells cur tNk)).alloc (.cells #[.int .i64 0, .int .i64 0, .int .i64 0, .int .i64 0] tNk) := ⟨_, rfl⟩
      have H4 : Hid (At w4 w3.heap.size (ic (ql (beF o 0))) tNk ∧ At w4 (w3.heap.size + 1) (ic [0, 0, 0, 0]) tNk ∧ Below w3.heap.size w3 w4) := by
        refine ⟨?_, ?_, ?_⟩
        · have : ic (ql (beF o 0)) = cur := by rw [hcur, ic_zeros]; rfl
          rw [this, hw4]
          exact At.allocH (At.new _ _ _) _
        · have := At.new (w3.alloc (.cells cur tNk)) #[.int .i64 0, .int .i64 0, .int .i64 0, .int .i64 0] tNk
          rw [show (w3.alloc (.cells cur tNk)).heap.size = w3.heap.size + 1 by simp] at this
          rw [hw4]; exact this
        · rw [hw4]; exact ((Below.refl _ _).alloc (Nat.le_refl _) _).alloc (by simp) _
      rw [hw4] at H4
      clear hw4 hcur
      go_wp2_with fail
      go_loopw [8, 10] (fun anyv kv wr => ∃ (k : Nat) (l0 : List Int), k ≤ 625 ∧ kv = .int .i64 k ∧ anyv = .bool (anF o k) ∧ Hid (At wr w3.heap.size (ic (ql (beF o k))) tNk ∧ (l0.length = 4 ∧ At wr (w3.heap.size + 1) (ic l0) tNk) ∧ Below w3.heap.size w3 wr)) (fun _ kv _ => 625 - (intOf kv).toNat)
      case atStart => exact ⟨0, [0, 0, 0, 0], by omega, rfl, rfl, H4.out.1, ⟨rfl, H4.out.2.1⟩, H4.out.2.2⟩
      case round =>
        obtain ⟨k, l0, hk, rfl, rfl, HR⟩ := hrel
        clear H4
        by_cases hlk : k < 625
        · have hki : (k : Int) < 625 := by omega
          obtain ⟨w5, rfl⟩ : ∃ w5, w5 = wr := ⟨_, rfl⟩
          obtain ⟨p0, p1, p2, p3, hp0⟩ : ∃ a b c d, l0 = [a, b, c, d] := by
            have := HR.out.2.1.1
            match l0, this with
            | [a, b, c, d], _ => exact ⟨a, b, c, d, rfl⟩
          have y0 : w5.cell? ⟨w3.heap.size + 1, 0, none⟩ = some (.int .i64 p0) := by rw [HR.out.2.1.2.cell, hp0]; rfl
          have y1 : w5.cell? ⟨w3.heap.size + 1, 1, none⟩ = some (.int .i64 p1) := by rw [HR.out.2.1.2.cell, hp0]; rfl
          have y2 : w5.cell? ⟨w3.heap.size + 1, 2, none⟩ = some (.int .i64 p2) := by rw [HR.out.2.1.2.cell, hp0]; rfl
          have y3 : w5.cell? ⟨w3.heap.size + 1, 3, none⟩ = some (.int .i64 p3) := by rw [HR.out.2.1.2.cell, hp0]; rfl
          have cf := HR.out.2.1.2.free
          have hl5 := HR.out.2.1.2.lt
          obtain ⟨w6, hw6⟩ : ∃ w6, w6 = (((w5.setCell ⟨w3.heap.size + 1, 0, none⟩ (.int .i64 ((k : Int) % 5 - 2))).setCell ⟨w3.heap.size + 1, 1, none⟩ (.int .i64 ((k : Int) / 5 % 5 - 2))).setCell ⟨w3.heap.size + 1, 2, none⟩ (.int .i64 ((k : Int) / 25 % 5 - 2))).setCell ⟨w3.heap.size + 1, 3, none⟩ (.int .i64 ((k : Int) / 125 - 2)) := ⟨_, rfl⟩
          have H6 : Hid (At w6 w3.heap.size (ic (ql (beF o k))) tNk ∧ At w6 (w3.heap.size + 1) (ic (vk k)) tNk ∧ Below w3.heap.size w3 w6) := by
            rw [hw6]
            refine ⟨(((HR.out.1.other _ _ (by omega)).other _ _ (by omega)).other _ _ (by omega)).other _ _ (by omega), ?_, (((HR.out.2.2.setCell (by show w3.heap.size ≤ w3.heap.size + 1; omega) _).setCell (by show w3.heap.size ≤ w3.heap.size + 1; omega) _).setCell (by show w3.heap.size ≤ w3.heap.size + 1; omega) _).setCell (by show w3.heap.size ≤ w3.heap.size + 1; omega) _⟩
            have := (((HR.out.2.1.2.put 0 (.int .i64 ((k : Int) % 5 - 2))).put 1 (.int .i64 ((k : Int) / 5 % 5 - 2))).put 2 (.int .i64 ((k : Int) / 25 % 5 - 2))).put 3 (.int .i64 ((k : Int) / 125 - 2))
            rw [hp0] at this
            exact this
          have hvl : (vk k).length = 4 := rfl
          have HVal : Hid (∀ w7 f, f < 32 → At w7 (w3.heap.size + 1) (ic (vk k)) tNk → Calls Tryd.prog 14 #[.int .i64 ((f : Nat) : Int), .slice (some ⟨w3.heap.size + 1, 0, none⟩) 4 4] w7 fun e w' => e = .returned (.int .i64 (valF f (vk k))) ∧ Below w7.heap.size w7 w') := fun w7 f hf ha => k_value f hf _ (vk k) hvl (Reads.at_ ha hvl (Nat.le_refl _) (fun i hi => ic_get _ _ (by rw [hvl]; exact hi))) (vk_5000 hlk)
          have hs6 : w3.heap.size + 1 < w6.heap.size := H6.out.2.1.lt
          obtain ⟨BW, hBW⟩ : ∃ BW : World → Prop, BW = fun w' => Below w6.heap.size w6 w' := ⟨_, rfl⟩
          have hha : Calls Tryd.prog 13 #[.slice (some ⟨w.heap.size, 0, none⟩) 32 32, .slice (some ⟨w3.heap.size + 1, 0, none⟩) 4 4] w6 fun e w' => e = .returned (.bool (hasB o (vk k))) ∧ BW w' := by
            have a1 := H3.out.1.keep H6.out.2.2 (by omega)
            rw [hBW]
            exact k_has _ _ o (vk k) hvl (by rw [HLen.out]; omega) (Reads.at_ a1 HLen.out (Nat.le_refl _) (fun i hi => ic_get _ _ (by rw [HLen.out]; exact hi))) (Reads.at_ H6.out.2.1 hvl (Nat.le_refl _) (fun i hi => ic_get _ _ (by rw [hvl]; exact hi))) (vk_5000 hlk)
          have HAn : Hid (anF o (k + 1) = (anF o k || hasB o (vk k))) := rfl
          have HBe : Hid ((hasB o (vk k) = false → beF o (k + 1) = beF o k) ∧ (hasB o (vk k) = true → ∀ f, beF o (k + 1) f = if anF o k = false ∨ beF o k f < valF f (vk k) then valF f (vk k) else beF o k f)) := ⟨be_no, be_eq⟩
          rw [hw6] at hha
          clear hvl
          generalize hin : hasB o (vk k) = hn at *
          generalize han : anF o k = an at *
          clear hin han
          go_wp2_with fail
          refine hha.mono ?_
          rintro e w7 ⟨rfl, hb7⟩
          rw [hBW] at hb7
          have H7 : Hid (At w7 w3.heap.size (ic (ql (beF o k))) tNk ∧ At w7 (w3.heap.size + 1) (ic (vk k)) tNk ∧ Below w3.heap.size w3 w7) := ⟨H6.out.1.keep hb7 (by omega), H6.out.2.1.keep hb7 hs6, H6.out.2.2.trans (hb7.mono (by omega))⟩
          clear hb7 hha hBW hw6 H6 HR y0 y1 y2 y3 cf hl5 hs6 hp0
          cases hn with
          | false =>
            have HE : Hid (beF o (k + 1) = beF o k) := HBe.out.1 rfl
            clear HBe HVal
            go_wp2_with fail
            go_loopw [12] (fun fv wr => fv = .int .i64 0 ∧ Hid (wr = w7)) (fun _ _ => 0)
            case atStart => exact ⟨rfl, rfl⟩
            case round =>
              obtain ⟨rfl, HW⟩ := hrel
              cases an with
              | false =>
                go_wp2_with fail
                go_roundw
                case rel => exact ⟨k + 1, vk k, by omega, by go_num, by rw [HAn.out]; rfl, by rw [HE.out, HW.out]; exact H7.out.1, ⟨rfl, by rw [HW.out]; exact H7.out.2.1⟩, by rw [HW.out]; exact H7.out.2.2⟩
                case measure => simp [intOf]; omega
              | true =>
                go_wp2_with fail
                go_roundw
                case rel => exact ⟨k + 1, vk k, by omega, by go_num, by rw [HAn.out]; rfl, by rw [HE.out, HW.out]; exact H7.out.1, ⟨rfl, by rw [HW.out]; exact H7.out.2.1⟩, by rw [HW.out]; exact H7.out.2.2⟩
                case measure => simp [intOf]; omega
          | true =>
            have HE : Hid (∀ f, beF o (k + 1) f = if an = false ∨ beF o k f < valF f (vk k) then valF f (vk k) else beF o k f) := HBe.out.2 rfl
            have HAn2 : Hid (anF o (k + 1) = true) := by show _ = true; rw [HAn.out]; cases an <;> rfl
            clear HBe HAn
            go_wp2_with fail
            go_loopw [12] (fun fv wr => ∃ (f : Nat), f ≤ 32 ∧ fv = .int .i64 f ∧ Hid (At wr w3.heap.size (ic (ql (mixF o k f))) tNk ∧ At wr (w3.heap.size + 1) (ic (vk k)) tNk ∧ Below w3.heap.size w3 wr)) (fun fv _ => 32 - (intOf fv).toNat)
            case atStart => exact ⟨0, by omega, rfl, by rw [mixF_0]; exact H7.out.1, H7.out.2⟩
            case round =>
              obtain ⟨f, hf, rfl, HQ⟩ := hrel
              by_cases hlf : f < 32
              · have hfi : (f : Int) < 32 := by omega
                obtain ⟨w8, rfl⟩ : ∃ w8, w8 = wr := ⟨_, rfl⟩
                have hva := HVal.out w8 f hlf HQ.out.2.1
                have HEf := HE.out f
                have HMp : Hid (mixF o k (f + 1) = upd (mixF o k f) f (beF o (k + 1) f)) := mixF_put o k f
                have HMs : Hid (beF o (k + 1) f = beF o k f → mixF o k (f + 1) = mixF o k f) := mixF_same
                have hl8 := HQ.out.2.1.lt
                go_wp2_with fail
                refine hva.mono ?_
                rintro e w9 ⟨rfl, hb9⟩
                have HT : Hid (At w9 w3.heap.size (ic (ql (mixF o k f))) tNk ∧ At w9 (w3.heap.size + 1) (ic (vk k)) tNk ∧ Below w3.heap.size w3 w9) := ⟨HQ.out.1.keep hb9 (by omega), HQ.out.2.1.keep hb9 hl8, HQ.out.2.2.trans (hb9.mono (by have := HQ.out.2.2.size; omega))⟩
                have cx := ql_cell HT.out.1 hlf
                rw [mixF_at] at cx
                have cf := HT.out.1.free
                have hl9 := HT.out.1.lt
                clear hb9 hva HQ
                generalize valF f (vk k) = t at *
                generalize beF o k f = bb at *
                cases an with
                | false =>
                  have HM : Hid (mixF o k (f + 1) = upd (mixF o k f) f t) := by show _ = _; rw [HMp.out, HEf, if_pos (.inl rfl)]
                  clear HMp HMs HEf
                  go_wp2_with fail
                  go_roundw
                  case rel =>
                    refine ⟨f + 1, by omega, by go_num, ?_, HT.out.2.1.other _ _ (by omega), HT.out.2.2.setCell (Nat.le_refl _) _⟩
                    rw [HM.out, ← ql_set, ← ic_set]
                    exact HT.out.1.put f _
                  case measure => simp [intOf]; omega
                | true =>
                  by_cases c2 : bb < t
                  · have HM : Hid (mixF o k (f + 1) = upd (mixF o k f) f t) := by show _ = _; rw [HMp.out, HEf, if_pos (.inr c2)]
                    clear HMp HMs HEf
                    go_wp2_with fail
                    go_roundw
                    case rel =>
                      refine ⟨f + 1, by omega, by go_num, ?_, HT.out.2.1.other _ _ (by omega), HT.out.2.2.setCell (Nat.le_refl _) _⟩
                      rw [HM.out, ← ql_set, ← ic_set]
                      exact HT.out.1.put f _
                    case measure => simp [intOf]; omega
                  · have HM : Hid (mixF o k (f + 1) = mixF o k f) := HMs.out (HEf.trans (if_neg (fun z => z.elim (fun q => Bool.noConfusion q) c2)))
                    clear HMp HMs HEf
                    go_wp2_with fail
                    go_roundw
                    case rel => exact ⟨f + 1, by omega, by go_num, by rw [HM.out]; exact HT.out.1, HT.out.2⟩
                    case measure => simp [intOf]; omega
              · have hf32 : f = 32 := by omega
                subst hf32
                have HT : Hid (At wr w3.heap.size (ic (ql (beF o (k + 1)))) tNk) := by show At _ _ _ _; rw [← mixF_32]; exact HQ.out.1
                cases an with
                | false =>
                  go_wp2_with fail
                  go_roundw
                  case rel => exact ⟨k + 1, vk k, by omega, by go_num, by rw [HAn2.out], HT.out, ⟨rfl, HQ.out.2.1⟩, HQ.out.2.2⟩
                  case measure => simp [intOf]; omega
                | true =>
                  go_wp2_with fail
                  go_roundw
                  case rel => exact ⟨k + 1, vk k, by omega, by go_num, by rw [HAn2.out], HT.out, ⟨rfl, HQ.out.2.1⟩, HQ.out.2.2⟩
                  case measure => simp [intOf]; omega
        · have hk625 : k = 625 := by omega
          subst hk625
          obtain ⟨wz, rfl⟩ : ∃ wz, wz = wr := ⟨_, rfl⟩
          have HB5 : Hid (Below w.heap.size w wz) := H3.out.2.trans (HR.out.2.2.mono H3.out.2.size)
          obtain ⟨hbY, hY⟩ := HY.out
          rcases hY with ⟨he, hye⟩ | ⟨he, g, hye, hg, hag⟩
          · cases hye
            have han := HAll.out.1 he
            rw [han]
            clear HY hbY han HAll
            go_wp2_with fail
            go_ret
            exact ⟨rfl, HB5.out⟩
          · cases hye
            obtain ⟨han, hbe⟩ := HAll.out.2 he
            rw [han]
            have HC : Hid (∀ f, f < 32 → wz.cell? ⟨g, f, none⟩ = some (.int .i64 (bd (ovM o) f)) ∧ wz.cell? ⟨w3.heap.size, f, none⟩ = some (.int .i64 (bd (ovM o) f))) := fun f hf => by
              have a1 := hag.keep HR.out.2.2 hag.lt
              refine ⟨?_, ?_⟩
              · rw [a1.cell, ic_get _ _ (by simpa [bdL] using hf)]
                exact congrArg (fun z => some (Value.int .i64 z)) (bdL_get (ovM o) f hf)
              · rw [ql_cell HR.out.1 hf, hbe f hf]
            clear HY hbY han HAll hbe hag HR
            go_wp2_with fail
            go_loopw [14] (fun fv wr => ∃ (f j : Nat), f ≤ 32 ∧ fv = .int .i64 f ∧ Hid (wr = wz.drewN j)) (fun fv _ => 32 - (intOf fv).toNat)
            case atStart => exact ⟨0, 0, by omega, rfl, rfl⟩
            case round =>
              obtain ⟨f, j, hf, rfl, HW⟩ := hrel
              by_cases hlf : f < 32
              · have hfi : (f : Int) < 32 := by omega
                have ca : wr.cell? ⟨g, f, none⟩ = some (.int .i64 (bd (ovM o) f)) := by rw [HW.out]; exact (HC.out f hlf).1
                have cb : wr.cell? ⟨w3.heap.size, f, none⟩ = some (.int .i64 (bd (ovM o) f)) := by rw [HW.out]; exact (HC.out f hlf).2
                generalize bd (ovM o) f = x at *
                go_wp2_with fail
                go_quiet (fail)
                go_wp2_with fail
                go_roundw
                case rel => exact ⟨f + 1, _, by omega, by go_num, by rw [HW.out]; exact drewN_two _ _ _⟩
                case measure => simp [intOf]; omega
              · have hf32 : f = 32 := by omega
                subst hf32
                go_wp2_with fail
                go_ret
                exact ⟨rfl, by rw [HW.out]; exact below_drewN HB5.out _⟩

end Go.Proofs.YtffajooegiempabDoor

namespace Go.Proofs.YtffajooegiempabDoor
open Go.ChangeShapes Go.WideShapes Go.ChangeAt Go.WideMaps Go.WideElems Go.RowKit

set_option maxRecDepth 100000 in
theorem sharp_lifted (os : Os) (started : os.Started) (H : Type) (enc : TypeId × Value → H) :
    ReturnsInHanded {} Tryd.checked os 4 .any (fun w args => (Rows.sharpSpec.pre enc Tryd.prog Tryd.f4 [] false w args ∧ laidMetH Tryd.prog laid2 w) ∧ sizedMet enc Tryd.prog Tryd.f4 (OpenSpec.ofChange Rows.sharpSpec) false w args)
      (Rows.sharpSpec.post enc Tryd.prog Tryd.f4 false true false false) := by
  refine returnsInHanded_of_change_and (C := Tryd.checked) (X := fun w _ => laidMetH Tryd.prog laid2 w) (fun _ _ _ hh h => h.of_heap hh) Tryd.ownD started (by kernel_rfl) Tryd.func4
    (ChangeSpec.witness_shaped (enc := enc) (C := Tryd.checked) (os := os) (X := fun w _ => laidMetH Tryd.prog laid2 w) false (World.doorLaid Tryd.prog 4000 os) #[.slice none 0 0] 8 rfl (World.shaped_of_RefB (by kernel_rfl) (by kernel_rfl)) (by kernel_rfl) (by kernel_rfl) (by kernel_rfl) (door_met os _)) ?_
  intro W base args ds gs before hval0 hW _ _ hL _
  have hval : ∀ (j : Nat) t v, Tryd.f4.params[j]? = some t → args[j]? = some v → Value.okWide Tryd.prog W .any base t v := hval0
  have hW' := hW
  obtain ⟨p, q, hA0, hV, rfl, hfz, hnd⟩ := hW
  have hA : DataW.TrodAll enc Tryd.prog W 0 (fun _ => true) true Tryd.f4.params.toList args.toList ds p := hA0
  rw [Tryd.params4] at hA hval
  obtain ⟨v0, vs0, d0, ds0, p0, q0, hargs0, rfl, rfl, h0, r0⟩ := trodAll_cons hA
  obtain ⟨rfl, rfl, rfl⟩ := trodAll_nil r0
  obtain rfl : args = #[v0] := by cases args; simp_all
  obtain ⟨rfl, rfl⟩ := trodVars_none hV
  obtain ⟨a0, l0, c0, rfl⟩ := okWide_slice Tryd.underlying22 (hval 0 22 v0 rfl rfl)
  clear hA0 hval0
  simp only [List.append_nil] at hW'
  have lt0 : ∀ x ∈ p0, x.block < W.heap.size := fun x hx => hW'.lt x (by simpa using hx)
  obtain ⟨L0, m0, R0⟩ := open_reads h0 lt0
  refine (sharp_walk (of_laid hL) _ L0 R0 (by unfold maxLen at m0; omega)).mono fun e W' ⟨he, hb⟩ => ?_
  subst he
  have t0 := Below.trod Tryd.laidOutD (by kernel_rfl) (of_decide_eq_true (by kernel_rfl)) h0 hb lt0
  have hall := trodAll_cons_mk t0 trodAll_mk0
  simp only [List.append_nil] at hall
  exact ⟨_, rfl, _, _, _, [], p0, [], hW', trodAll_cons_mk (shut_bool Tryd.underlying4 _) trodAll_mk0, hall, rfl, hb.frame _, fun h => by cases h⟩

theorem sharp_row : Rows.SharpSaid :=
  OpenClaim.holds_of_wide 4 Tryd.f4 rfl rfl rfl rfl rfl rfl rfl ⟨rfl, rfl, rfl, rfl, rfl⟩ rfl rfl rfl rfl rfl (by kernel_rfl) Tryd.func4 (by kernel_rfl)
    (of_decide_eq_true (by kernel_rfl)) (by unfold Func.isWrapper; first | (rw [if_pos (by decide +kernel)]; kernel_rfl) | (rw [if_neg (by decide +kernel)]; exact ⟨rfl, rfl⟩))
    (fun os started H enc _ => sharp_lifted os started H enc)

theorem sharp_card : Rows.SharpCardSaid :=
  Claim7.holds_tied_plain_at .later [] [.data, .data] true Rows.sharpCard.stood.harness false
    sharp_row (fun _ h => by cases h) (by kernel_rfl) (fun _ h => by cases h) sharp_row_tie rfl ⟨rfl, rfl⟩ (by kernel_rfl) rfl
    (fun f fn hf hfn => by
      obtain rfl : f = 4 := Option.some.inj ((show Tryd.prog.funcNamed "witness/witnesskeep.Sharp" = some 4 by kernel_rfl).symm.trans hf) |>.symm
      obtain rfl : fn = Tryd.f4 := (Option.some.inj (Tryd.func4.symm.trans hfn)).symm
      exact ⟨by kernel_rfl, fun j t ht => by
        rw [Tryd.params4] at ht
        have hm : t ∈ [22] := by simpa using Array.mem_of_getElem? ht
        have hall : ([22].all fun u => !Tryd.prog.wantsStandIn u) = true := by kernel_rfl
        exact (show Tryd.prog.wantsStandIn t = false by simpa using List.all_eq_true.1 hall t hm)⟩)
    (by kernel_rfl)

end Go.Proofs.YtffajooegiempabDoor

