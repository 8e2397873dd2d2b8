import Derived.Test.YtffajooegiempabDoorJ18
import Derived.Great.BuildSlice
import Derived.Deep.MidRow
namespace Go.Proofs.YtffajooegiempabDoor
open Go.RowKit
variable {w : World} {r : Nat} {s : ByteArray} {d : CSt}

/-- A list of its own, or nil. -/
def PV (w : World) (base : Nat) (v : Value) : Option (List Int) → Prop
  | none => v = .slice none 0 0
  | some l => ∃ g, base ≤ g ∧ v = .slice (some ⟨g, 0, none⟩) 32 32 ∧ At w g (ic l) 3 ∧ l.length = 32
theorem LRow.at_ {base : Nat} {v : Value} {l : List Int} (h : LRow w base v l) (hl : l.length = 32) : PV w base v (some l) := by
  obtain ⟨g, hg, rfl, ho⟩ := h
  rw [hl] at ho ⊢
  refine ⟨g, hg, rfl, ?_, hl⟩
  rcases ho.2 with ⟨e, _⟩ | ⟨g', cap, cur, e, _, hh, hn4, hc4, hsz, htk⟩
  · cases e
  · cases e
    have : cur = ic l := by
      apply Array.toList_inj.1
      rw [← List.take_of_length_le (l := cur.toList) (i := 32 * 1) (by simp; omega), htk]
      simp [ic, iv]
    rw [← this]
    exact hh
theorem bsN_len (d : CSt) (N : Nat) : (bsN (bytesOf s) N d).1.length = N := fms_len rfl N
theorem bsN_at (hd : d.1 ≤ s.size) (N : Nat) : (bsN (bytesOf s) N d).2.1 ≤ s.size := fms_at (num_at (by omega) hd) N
theorem bs_len (d : CSt) : (bsF (bytesOf s) d).1.length = 32 := bsN_len d 32
theorem bs_at (hd : d.1 ≤ s.size) : (bsF (bytesOf s) d).2.1 ≤ s.size := bsN_at hd 32
theorem pt_at (hd : d.1 ≤ s.size) : (ptF (bytesOf s) d).2.1 ≤ s.size := by
  have h1 := num_at (s := s) (d := d) (lo := 0) (hi := 1) (by omega) hd
  have h2 := bs_at h1
  unfold ptF
  simp only
  generalize bsF (bytesOf s) (numF (bytesOf s) 0 1 d).2 = b at *
  split
  · exact h1
  · exact h2
def POut (w : World) (r : Nat) (s : ByteArray) (d : CSt) : Ending → World → Prop := fun e w' => ∃ v, e = .returned v ∧ PV w' w.heap.size v (ptF (bytesOf s) d).1 ∧ Cat w' r s (ptF (bytesOf s) d).2 ∧ Onl r w w'

set_option maxRecDepth 100000 in
set_option maxHeartbeats 1600000 in
theorem c_point (h : Cat w r s d) (hs : s.size ≤ 9223372036854775807) (hd : d.1 ≤ s.size) :
    Calls Tryd.prog 93 #[.pointer (some ⟨r, 0, none⟩)] w (POut w r s d) := by
  have h1 := c_number h hs hd 0 1 (by omega)
  have hd1 := num_at (s := s) (lo := 0) (hi := 1) (by omega) hd
  have HB : Hid (∀ w1, Cat w1 r s (numF (bytesOf s) 0 1 d).2 → Calls Tryd.prog 103 #[.pointer (some ⟨r, 0, none⟩)] w1 fun e w' => ∃ v, e = .returned v ∧ LRow w' w1.heap.size v (bsF (bytesOf s) (numF (bytesOf s) 0 1 d).2).1 ∧ Cat w' r s (bsF (bytesOf s) (numF (bytesOf s) 0 1 d).2).2 ∧ Onl r w1 w') := fun w1 hc => c_bounds hc hs hd1
  have HE : Hid (ptF (bytesOf s) d = if (numF (bytesOf s) 0 1 d).1 = 0 then (none, (numF (bytesOf s) 0 1 d).2) else (some (bsF (bytesOf s) (numF (bytesOf s) 0 1 d).2).1, (bsF (bytesOf s) (numF (bytesOf s) 0 1 d).2).2)) := rfl
  have HL : Hid ((bsF (bytesOf s) (numF (bytesOf s) 0 1 d).2).1.length = 32) := bs_len _
  clear h hd1
  generalize numF (bytesOf s) 0 1 d = x at *
  obtain ⟨x1, x2⟩ := x
  generalize bsF (bytesOf s) x2 = b at *
  by_cases hx : x1 = 0
  · subst hx
    go_enter Tryd.func93, Tryd.ntmps93
    go_wp2_with fail
    refine h1.mono ?_
    rintro e w1 ⟨rfl, hc1, ho1⟩
    have H1 : Hid (Cat w1 r s x2 ∧ Onl r w w1) := ⟨hc1, ho1⟩
    clear hc1 ho1 h1
    go_wp2_with fail
    go_ret
    exact ⟨_, rfl, by rw [HE.out]; rfl, by rw [HE.out]; exact H1.out.1, H1.out.2⟩
  · have hx' : (x1 == 0) = false := by simpa using hx
    have HX : Hid (ptF (bytesOf s) d = (some b.1, b.2)) := HE.out.trans (if_neg hx)
    go_enter Tryd.func93, Tryd.ntmps93
    go_wp2_with fail
    refine h1.mono ?_
    rintro e w1 ⟨rfl, hc1, ho1⟩
    have hb := HB.out w1 hc1
    have HO : Hid (Onl r w w1) := ho1
    have hs1 := ho1.size
    clear hc1 ho1 h1
    go_wp2_with fail
    refine hb.mono ?_
    rintro e w2 ⟨v, rfl, hv, hc2, ho2⟩
    have H2 : Hid (PV w2 w.heap.size v (some b.1) ∧ Cat w2 r s b.2 ∧ Onl r w w2) := by
      obtain ⟨g, hg, q⟩ := hv.at_ HL.out
      exact ⟨⟨g, by omega, q⟩, hc2, HO.out.trans ho2⟩
    clear hv hc2 ho2 hb
    go_wp2_with fail
    go_ret
    exact ⟨_, rfl, by rw [HX.out]; exact H2.out.1, by rw [HX.out]; exact H2.out.2.1, H2.out.2.2⟩

/-- The lists that come out: each of its own. -/
structure LLs (w : World) (base g : Nat) (X : List Value) (L : List (Option (List Int))) : Prop where
  len : X.length = L.length
  each : ∀ i, i < L.length → PV w base (X.getD i (.bool false)) (L.getD i none)
  away : ∀ i, i < L.length → (X.getD i (.bool false)).ownBlock ≠ some g
  apart : ∀ i j a, i < L.length → j < L.length → i ≠ j → (X.getD i (.bool false)).ownBlock = some a → (X.getD j (.bool false)).ownBlock ≠ some a
theorem PV.lt {base : Nat} {v : Value} {o : Option (List Int)} (h : PV w base v o) : ∀ k, v.ownBlock = some k → base ≤ k ∧ k < w.heap.size := by
  intro k hk
  cases o with
  | none => rw [show v = .slice none 0 0 from h] at hk; cases hk
  | some l => obtain ⟨g, hg, rfl, ha, _⟩ := h; cases hk; exact ⟨hg, ha.lt⟩
theorem PV.same {w w' : World} {base : Nat} {v : Value} {o : Option (List Int)} (h : PV w base v o) (hb : ∀ k, v.ownBlock = some k → w'.heap[k]? = w.heap[k]?) : PV w' base v o := by
  cases o with
  | none => exact h
  | some l => obtain ⟨g, hg, rfl, ha, hl⟩ := h; exact ⟨g, hg, rfl, ha.same (hb g rfl), hl⟩
theorem LLs.same {w w' : World} {base g : Nat} {X : List Value} {L : List (Option (List Int))} (h : LLs w base g X L) (hb : ∀ k, k < w.heap.size → base ≤ k → k ≠ g → w'.heap[k]? = w.heap[k]?) : LLs w' base g X L :=
  ⟨h.len, fun i hi => (h.each i hi).same (fun k hk => by have := (h.each i hi).lt k hk; exact hb k this.2 this.1 (fun e => h.away i hi (by rw [hk, e]))), h.away, h.apart⟩
theorem getD_snocV (X : List Value) (x u : Value) (i : Nat) : (X ++ [x]).getD i u = if i < X.length then X.getD i u else if i = X.length then x else u := by
  by_cases h : i < X.length
  · rw [if_pos h]; simp [List.getD, List.getElem?_append_left h]
  · rw [if_neg h]
    by_cases e : i = X.length
    · rw [if_pos e]; simp [List.getD, e]
    · rw [if_neg e]
      have : (X ++ [x])[i]? = none := List.getElem?_eq_none (by simp; omega)
      simp [List.getD, this]
theorem LLs.snoc {base base' g : Nat} {X : List Value} {L : List (Option (List Int))} {x : Value} {o : Option (List Int)} (h : LLs w base g X L) (hx : PV w base' x o) (hb : base ≤ base') (hg : g < base') (hnew : ∀ i, i < L.length → ∀ k, (X.getD i (.bool false)).ownBlock = some k → k < base') : LLs w base g (X ++ [x]) (L ++ [o]) := by
  have hl := h.len
  have hX : ∀ i, i < L.length → (X ++ [x]).getD i (.bool false) = X.getD i (.bool false) := fun i hi => by rw [getD_snocV, if_pos (by omega)]
  have hXn : (X ++ [x]).getD L.length (.bool false) = x := by rw [getD_snocV, if_neg (by omega), if_pos hl.symm]
  have hL : ∀ i, i < L.length → (L ++ [o]).getD i none = L.getD i none := fun i hi => by simp [List.getD, List.getElem?_append_left hi]
  have hLn : (L ++ [o]).getD L.length none = o := by simp [List.getD]
  have hlen : (L ++ [o]).length = L.length + 1 := by simp
  refine ⟨by simp [hl], fun i hi => ?_, fun i hi => ?_, fun i j a hi hj hij ha => ?_⟩
  · rw [hlen] at hi
    rcases Nat.lt_or_eq_of_le (Nat.lt_succ_iff.1 hi) with q | q
    · rw [hX i q, hL i q]; exact h.each i q
    · rw [q, hXn, hLn]
      cases o with
      | none => exact hx
      | some l => obtain ⟨a, h1, h2⟩ := hx; exact ⟨a, by omega, h2⟩
  · rw [hlen] at hi
    rcases Nat.lt_or_eq_of_le (Nat.lt_succ_iff.1 hi) with q | q
    · rw [hX i q]; exact h.away i q
    · rw [q, hXn]; intro e; have := hx.lt g e; omega
  · rw [hlen] at hi hj
    rcases Nat.lt_or_eq_of_le (Nat.lt_succ_iff.1 hi) with q | q
    · rw [hX i q] at ha
      rcases Nat.lt_or_eq_of_le (Nat.lt_succ_iff.1 hj) with q' | q'
      · rw [hX j q']; exact h.apart i j a q q' hij ha
      · rw [q', hXn]; intro e; have := hx.lt a e; have := hnew i q a ha; omega
    · rw [q, hXn] at ha
      rcases Nat.lt_or_eq_of_le (Nat.lt_succ_iff.1 hj) with q' | q'
      · rw [hX j q']; intro e; have := hx.lt a ha; have := hnew j q' a e; omega
      · omega

/-- What Decode says. -/
def DOut (w : World) (s : ByteArray) : Ending → World → Prop := fun e w' => Below w.heap.size w w' ∧
  ((decF (bytesOf s) = none ∧ e = .returned (.tuple #[.slice none 0 0, .int .i64 4])) ∨
   ∃ L g X, decF (bytesOf s) = some L ∧ e = .returned (.tuple #[.slice (some ⟨g, 0, none⟩) L.length 21, .int .i64 0]) ∧ w.heap.size ≤ g ∧ w'.ownsRow w.heap.size 22 1 (.slice (some ⟨g, 0, none⟩) L.length 21) L.length X ∧ LLs w' w.heap.size g X L)

end Go.Proofs.YtffajooegiempabDoor

namespace Go.Proofs.YtffajooegiempabDoor
open Go.RowKit
variable {w : World} {s : ByteArray}

theorem pts_at {i : CSt} (hi : i.1 ≤ s.size) : ∀ n, (ptsF (bytesOf s) (i, []) n).1.1 ≤ s.size
  | 0 => hi
  | n + 1 => by
    have := pts_at hi n
    show (if (ptsF (bytesOf s) (i, []) n).1.2 then ptsF (bytesOf s) (i, []) n else _).1.1 ≤ _
    split
    · exact this
    · exact pt_at this
theorem pts_len {i : CSt} : ∀ n, (ptsF (bytesOf s) (i, []) n).2.length ≤ n
  | 0 => Nat.le_refl _
  | n + 1 => by
    have := pts_len (i := i) n
    show (if (ptsF (bytesOf s) (i, []) n).1.2 then ptsF (bytesOf s) (i, []) n else _).2.length ≤ _
    split
    · omega
    · simp; omega
theorem pts_stay {x : CSt × List (Option (List Int))} {n : Nat} (h : (ptsF (bytesOf s) x n).1.2 = true) : ∀ k, ptsF (bytesOf s) x (n + k) = ptsF (bytesOf s) x n
  | 0 => rfl
  | k + 1 => by
    have := pts_stay h k
    show (if (ptsF (bytesOf s) x (n + k)).1.2 then ptsF (bytesOf s) x (n + k) else _) = _
    rw [this, if_pos h]

set_option maxRecDepth 100000 in
set_option maxHeartbeats 3200000 in
theorem c_decode (hs : s.size ≤ 9223372036854775807) : Calls Tryd.prog 81 #[.string s] w (DOut w s) := by
  obtain ⟨wa, hwa⟩ : ∃ wa, wa = w.alloc (.cells #[.string s, .int .i64 0, .bool false] tCr) := ⟨_, rfl⟩
  have hc0 : Cat wa w.heap.size s (0, false) := by rw [hwa]; exact At.new _ _ _
  have h1 := c_number hc0 hs (by show 0 ≤ s.size; omega) 1 21 (by omega)
  have hsa : wa.heap.size = w.heap.size + 1 := by rw [hwa]; simp
  have r1 := num_range (bys s) 1 21 (by omega) (0, false)
  have hd1 := num_at (s := s) (lo := 1) (hi := 21) (d := (0, false)) (by omega) (by show 0 ≤ s.size; omega)
  have HBa : Hid (Below w.heap.size w wa) := by rw [hwa]; exact (Below.refl _ _).alloc (Nat.le_refl _) _
  obtain ⟨F, hF⟩ : ∃ F, F = ptsF (bytesOf s) ((numF (bytesOf s) 1 21 (0, false)).2, []) := ⟨_, rfl⟩
  have h21 : (numF (bytesOf s) 1 21 (0, false)).1 ≤ 21 := by
    unfold numF; split
    · show (0 : Int) ≤ 21; omega
    · rename_i q; show pkc _ _ ≤ 21; omega
  have HE : Hid (decF (bytesOf s) = if (F (numF (bytesOf s) 1 21 (0, false)).1.toNat).1.2 = true ∨ (F (numF (bytesOf s) 1 21 (0, false)).1.toNat).1.1 ≠ (bytesOf s).length then none else some (F (numF (bytesOf s) 1 21 (0, false)).1.toNat).2) := by rw [hF]; rfl
  have HF : Hid (∀ n, F (n + 1) = if (F n).1.2 then F n else ((ptF (bytesOf s) (F n).1).2, (F n).2 ++ [(ptF (bytesOf s) (F n).1).1])) := by rw [hF]; intro n; rfl
  have HFa : Hid (∀ n, (F n).1.1 ≤ s.size) := by rw [hF]; exact pts_at hd1
  have HFs : Hid (∀ n k, (F n).1.2 = true → F (n + k) = F n) := by rw [hF]; exact fun n k h => pts_stay h k
  have HFl : Hid (∀ n, (F n).2.length ≤ n) := by rw [hF]; exact pts_len
  have HF0 : Hid (F 0 = ((numF (bytesOf s) 1 21 (0, false)).2, [])) := by rw [hF]; rfl
  have hmk : ∀ w, (Instr.makeSlice 107 (.int .i64 0) (.int .i64 21)).run Tryd.prog w = .ok (.slice (some ⟨w.heap.size, 0, none⟩) 0 21) (w.alloc (.cells (List.replicate 21 (Value.slice none 0 0)).toArray 22)) := fun _ => by kernel_rfl
  obtain ⟨i0, hi0, hz0, hz1, hz2⟩ := info_parts (P := Tryd.prog) (e := 22) (z := .slice none 0 0) (size := 1) (bytes := 24) (by kernel_rfl)
  have HOw : Hid (∀ (w1 : World), (w1.alloc (.cells (List.replicate 21 (Value.slice none 0 0)).toArray 22)).ownsRow w1.heap.size 22 1 (.slice (some ⟨w1.heap.size, 0, none⟩) 0 21) 0 []) := fun w1 => World.ownsRow_made w1 _ 21 (Nat.le_refl _) (by decide) rfl
  have HPt : Hid (∀ (w1 : World) (d : CSt), Cat w1 w.heap.size s d → d.1 ≤ s.size → Calls Tryd.prog 93 #[.pointer (some ⟨w.heap.size, 0, none⟩)] w1 (POut w1 w.heap.size s d)) := fun w1 d hc hd => c_point hc hs hd
  have HLb : Hid ((bytesOf s).length = s.size) := bytesOf_len s
  generalize numF (bytesOf s) 1 21 (0, false) = x at *
  obtain ⟨x1, x2⟩ := x
  simp only at r1 hd1 h1 h21 HE
  have hx0 : 0 ≤ x1 := r1.1
  obtain ⟨k, rfl⟩ : ∃ k : Nat, x1 = (k : Int) := ⟨x1.toNat, by omega⟩
  rw [Int.toNat_natCast] at HE
  generalize (List.replicate 21 (Value.slice none 0 0)).toArray = zs at *
  rw [hwa] at h1
  clear hF r1 hc0
  go_enter Tryd.func81, Tryd.ntmps81
  go_wp2_with fail
  rw [← hwa] at h1 ⊢
  refine h1.mono ?_
  rintro e w1 ⟨rfl, hc1, ho1⟩
  have hs1 := ho1.size
  have hr1 := hc1.lt
  have H1 : Hid (Cat (w1.alloc (.cells zs 22)) w.heap.size s x2 ∧ Below w.heap.size w (w1.alloc (.cells zs 22)) ∧ (w1.alloc (.cells zs 22)).ownsRow w1.heap.size 22 1 (.slice (some ⟨w1.heap.size, 0, none⟩) 0 21) 0 []) := ⟨At.allocH hc1 _, (HBa.out.trans (ho1.below (Nat.le_refl _) (by omega))).alloc (by omega) _, HOw.out w1⟩
  clear hc1 ho1 h1 hwa
  go_wp2_with fail
  go_loopw [6, 7] (fun sl i wr => ∃ (q n : Nat) (X : List Value), q ≤ k ∧ i = .int .i64 q ∧ n ≤ q ∧ sl = .slice (some ⟨w1.heap.size, 0, none⟩) n 21 ∧ Hid (n = (F q).2.length ∧ wr.ownsRow w1.heap.size 22 1 (.slice (some ⟨w1.heap.size, 0, none⟩) n 21) n X ∧ Cat wr w.heap.size s (F q).1 ∧ Below w.heap.size w wr ∧ w1.heap.size < wr.heap.size ∧ LLs wr (w1.heap.size + 1) w1.heap.size X (F q).2)) (fun _ i _ => k - (intOf i).toNat)
  case atStart => exact ⟨0, 0, [], by omega, rfl, by omega, rfl, by rw [HF0.out]; rfl, H1.out.2.2, by rw [HF0.out]; exact H1.out.1, H1.out.2.1, by simp, by rw [HF0.out]; exact ⟨rfl, fun i hi => absurd hi (by simp), fun i hi => absurd hi (by simp), fun i j a hi => absurd hi (by simp)⟩⟩
  case round =>
    obtain ⟨q, n, X, hq, rfl, hn, rfl, HR⟩ := hrel
    have hat := HFa.out q
    have HCq : Hid (Cat wr w.heap.size s (F q).1) := HR.out.2.2.1
    obtain ⟨c0, c1, c2, cf⟩ := HCq.out.cells
    have hrr := HCq.out.lt
    have hzr := HR.out.2.2.2.2.1
    have HFq := (show Hid (_ = _) from HF.out q)
    have HStay : Hid ((F q).1.2 = true → F k = F q) := fun h => by have := HFs.out q (k - q) h; rwa [show q + (k - q) = k by omega] at this
    by_cases hlt : q < k
    · have hqi : (q : Int) < (k : Int) := by omega
      cases hw : (F q).1.2 with
      | true =>
        rw [hw] at c2
        have HX : Hid (decF (bytesOf s) = none) := by show _ = _; rw [HE.out, HStay.out hw, if_pos (.inl hw)]
        clear hw
        go_wp2_with fail
        go_ret2
        exact ⟨HR.out.2.2.2.1, .inl ⟨HX.out, rfl⟩⟩
      | false =>
        rw [hw] at c2
        have hpt := HPt.out wr (F q).1 HCq.out hat
        unfold POut at hpt
        have HX : Hid (F (q + 1) = ((ptF (bytesOf s) (F q).1).2, (F q).2 ++ [(ptF (bytesOf s) (F q).1).1])) := by show _ = _; rw [HFq.out, hw]; rfl
        clear hw
        generalize ptF (bytesOf s) (F q).1 = pp at *
        go_wp2_with fail
        refine hpt.mono ?_
        rintro e w3 ⟨v3, rfl, hv3, hc3, ho3⟩
        have hz3 : wr.heap.size ≤ w3.heap.size := ho3.size
        have H3 : Hid (Cat w3 w.heap.size s pp.2 ∧ Below w.heap.size w w3 ∧ w3.ownsRow w1.heap.size 22 1 (.slice (some ⟨w1.heap.size, 0, none⟩) n 21) n X ∧ LLs w3 (w1.heap.size + 1) w1.heap.size (X ++ [v3]) ((F q).2 ++ [pp.1])) := by
          refine ⟨hc3, HR.out.2.2.2.1.trans (ho3.below (Nat.le_refl _) (by omega)), ownsRow_below HR.out.2.1 (fun k hk => ho3.block k (HR.out.2.1.lt k hk).2 (by cases hk; show w1.heap.size ≠ w.heap.size; omega)), ?_⟩
          have hL := HR.out.2.2.2.2.2
          refine (hL.same (w' := w3) (fun k hk hb _ => ho3.block k hk (by omega))).snoc hv3 (by omega) (by omega) (fun i hi k hk => ((hL.each i hi).lt k hk).2)
        have HF1 : Hid (∀ w5, (w3.alloc (.cells #[v3] 22)).grownBy w5 (some w1.heap.size) → w5.ownsRow w1.heap.size 22 1 (.slice (some ⟨w1.heap.size, 0, none⟩) (n + 1) 21) (n + 1) (X ++ [v3]) →
            n + 1 = (F (q + 1)).2.length ∧ w5.ownsRow w1.heap.size 22 1 (.slice (some ⟨w1.heap.size, 0, none⟩) (n + 1) 21) (n + 1) (X ++ [v3]) ∧ Cat w5 w.heap.size s (F (q + 1)).1 ∧ Below w.heap.size w w5 ∧ w1.heap.size < w5.heap.size ∧ LLs w5 (w1.heap.size + 1) w1.heap.size (X ++ [v3]) (F (q + 1)).2) := by
          intro w5 hg ho
          have hbk : ∀ k, k < w3.heap.size → k ≠ w1.heap.size → w5.heap[k]? = w3.heap[k]? := fun k hk hne => (hg.block k (by simp; omega) (by intro e; have := Option.some.inj e; omega)).trans (heap_alloc_old _ _ hk)
          have hs5 := hg.size
          rw [HX.out]
          refine ⟨by simp [HR.out.1], ho, At.same H3.out.1 (hbk _ (by omega) (by omega)), ?_, by simp at hs5; omega, H3.out.2.2.2.same (fun k hk _ hne => hbk k hk hne)⟩
          exact (H3.out.2.1.alloc H3.out.2.1.size _).grown hg (by simp; omega) (fun k hk => by cases hk; omega)
        have HV : Hid (PV w3 wr.heap.size v3 pp.1) := hv3
        clear hv3 hc3 ho3 hpt HX
        generalize pp.1 = oo at *
        cases oo with
        | none =>
          have hv : v3 = .slice none 0 0 := HV.out
          subst hv
          go_wp2_with (at_builtin; refine wpList_append_fits _ rfl (.tmp 24) (.tmp 26) 107 rfl w1.heap.size 22 i0 1 Tryd.underlying107 hi0 hz1 w1.heap.size n 21 _ rfl (H3.out.2.2.1.alloc _) ⟨w3.heap.size, 0, none⟩ 1 1 [Value.slice none 0 0] rfl rfl (by intro t u ht; match t, ht with | 0, ht => simp at ht; subst ht; exact World.cell?_alloc_at _ _ _ _ rfl) (by intro u hu; simp at hu; subst hu; rfl) (by omega) ?_; intro w5 hown5 hgrow5)
          go_roundw
          case rel => exact ⟨q + 1, n + 1, X ++ [Value.slice none 0 0], by omega, by go_num, by omega, rfl, HF1.out w5 hgrow5 hown5⟩
          case measure => simp [intOf]; omega
        | some l =>
          obtain ⟨g3, hg3, hv, -, -⟩ := HV.out
          subst hv
          go_wp2_with (at_builtin; refine wpList_append_fits _ rfl (.tmp 24) (.tmp 26) 107 rfl w1.heap.size 22 i0 1 Tryd.underlying107 hi0 hz1 w1.heap.size n 21 _ rfl (H3.out.2.2.1.alloc _) ⟨w3.heap.size, 0, none⟩ 1 1 [Value.slice (some ⟨g3, 0, none⟩) 32 32] rfl rfl (by intro t u ht; match t, ht with | 0, ht => simp at ht; subst ht; exact World.cell?_alloc_at _ _ _ _ rfl) (by intro u hu; simp at hu; subst hu; rfl) (by omega) ?_; intro w5 hown5 hgrow5)
          go_roundw
          case rel => exact ⟨q + 1, n + 1, X ++ [Value.slice (some ⟨g3, 0, none⟩) 32 32], by omega, by go_num, by omega, rfl, HF1.out w5 hgrow5 hown5⟩
          case measure => simp [intOf]; omega
    · have hqk : q = k := by omega
      subst hqk
      have hqi : ¬ (q : Int) < (q : Int) := by omega
      have HFin : Hid (∀ wr' : World, w.heap.size ≤ w1.heap.size → wr.ownsRow w1.heap.size 22 1 (.slice (some ⟨w1.heap.size, 0, none⟩) n 21) n X → n = (F q).2.length → wr.ownsRow w.heap.size 22 1 (.slice (some ⟨w1.heap.size, 0, none⟩) (F q).2.length 21) (F q).2.length X ∧ LLs wr w.heap.size w1.heap.size X (F q).2) := by
        intro _ hb ho hn
        rw [← hn]
        refine ⟨ownsRow_base' ho hb, ?_⟩
        have hL := HR.out.2.2.2.2.2
        refine ⟨hL.len, fun i hi => ?_, hL.away, hL.apart⟩
        have := hL.each i hi
        cases e : (F q).2.getD i none with
        | none => rw [e] at this; exact this
        | some l => rw [e] at this; obtain ⟨a, h1, h2⟩ := this; exact ⟨a, by omega, h2⟩
      cases hw : (F q).1.2 with
      | true =>
        rw [hw] at c2
        have HX : Hid (decF (bytesOf s) = none) := by show _ = _; rw [HE.out, if_pos (.inl hw)]
        clear hw
        go_wp2_with fail
        go_ret2
        exact ⟨HR.out.2.2.2.1, .inl ⟨HX.out, rfl⟩⟩
      | false =>
        rw [hw] at c2
        by_cases hl : (F q).1.1 = s.size
        · have HX : Hid (decF (bytesOf s) = some (F q).2) := by show _ = _; rw [HE.out, if_neg (by rw [hw, HLb.out]; simp [hl])]
          rw [hl] at c1
          have HN := (show Hid (_ = _) from HR.out.1)
          clear hw hl
          go_wp2_with fail
          go_ret2
          have hf := HFin.out wr (by omega) HR.out.2.1 HR.out.1
          refine ⟨HR.out.2.2.2.1, .inr ⟨(F q).2, w1.heap.size, X, HX.out, ?_, by omega, hf.1, hf.2⟩⟩
          rw [← HN.out]; rfl
        · have HX : Hid (decF (bytesOf s) = none) := by show _ = _; rw [HE.out, if_pos (.inr (by rw [HLb.out]; exact hl))]
          have hl' : (((F q).1.1 : Int) != (s.size : Int)) = true := by rw [bne_iff_ne]; omega
          clear hw hl
          go_wp2_with fail
          go_ret2
          exact ⟨HR.out.2.2.2.1, .inl ⟨HX.out, rfl⟩⟩

end Go.Proofs.YtffajooegiempabDoor

namespace Go.Proofs.YtffajooegiempabDoor
open Go.RowKit
variable {s : ByteArray}
theorem okp_gd {r : Option (List Int)} : okp r ↔ gdO r = true := by
  cases r with
  | none => exact ⟨fun _ => rfl, fun _ l e => by cases e⟩
  | some l =>
    show _ ↔ gdB l = true
    rw [gdB_ok]
    constructor
    · intro h
      obtain ⟨h1, h2⟩ := h l rfl
      exact ⟨h1, fun i hi => decide_eq_true (h2 i hi)⟩
    · rintro ⟨h1, h2⟩ l' e
      injection e with e
      subst e
      exact ⟨h1, fun f hf => by have := of_decide_eq_true (h2 f hf); exact this⟩
end Go.Proofs.YtffajooegiempabDoor

namespace Go.Proofs.YtffajooegiempabDoor
open Go.RowKit
variable {w : World} {s : ByteArray}

theorem addr_add (g i : Nat) : (⟨g, 0, none⟩ : Addr).add i = ⟨g, i, none⟩ := by unfold Addr.add; split <;> simp_all
end Go.Proofs.YtffajooegiempabDoor

namespace Go.Proofs.YtffajooegiempabDoor
open Go.RowKit
variable {w : World}

theorem fold_put (l : List Value) : ∀ (n : Nat) (C : Array Value), n + l.length ≤ C.size → (l.zipIdx n).foldl (fun cs (x : Value × Nat) => cs.setIfInBounds (0 * 65 + x.2) x.1) C = (C.toList.take n ++ l ++ C.toList.drop (n + l.length)).toArray := by
  induction l with
  | nil => intro n C _; simp
  | cons a l ih =>
    intro n C h
    rw [List.length_cons] at h
    rw [List.zipIdx_cons, List.foldl_cons, ih (n + 1) _ (by simp; omega)]
    congr 1
    have hn : n < C.toList.length := by simp; omega
    simp only [Nat.zero_mul, Nat.zero_add, Array.toList_setIfInBounds]
    rw [List.take_add_one, List.getElem?_set_self (by simpa using hn), List.take_set_of_le (Nat.le_refl _), List.drop_set_of_lt (by omega)]
    simp only [Option.toList, List.append_assoc, List.cons_append, List.length_cons]
    rw [show n + 1 + l.length = n + (l.length + 1) by omega]
    simp
theorem fill_any (A C : Array Value) (hs : A.size = 65) (hC : C.size = 65) : Instr.fill (fun i => some (i * 65, 65)) C [(0, .agg A)] = some A := by
  have hf : A.zipIdx.foldl (fun cs (x : Value × Nat) => cs.setIfInBounds (0 * 65 + x.2) x.1) C = A := by
    rw [← Array.foldl_toList, Array.toList_zipIdx]
    have := fold_put A.toList 0 C (by simp [hs, hC])
    rw [this]
    rw [List.drop_of_length_le (by simp [hs, hC])]
    simp
  have hb : (decide (A.size ≠ 65) || decide (0 * 65 + A.size > C.size)) = false := by simp [hs, hC]
  have h1 : Instr.fill (fun i => some (i * 65, 65)) C [(0, .agg A)] = if (decide (A.size ≠ 65) || decide (0 * 65 + A.size > C.size)) = true then none else some (A.zipIdx.foldl (fun cs (x : Value × Nat) => cs.setIfInBounds (0 * 65 + x.2) x.1) C) := rfl
  rw [h1, hb, hf]
  rfl
theorem fill_one (e : Bool) (M : Nat → Int) (C : Array Value) (hC : C.size = 65) : Instr.fill (fun i => some (i * 65, 65)) C [(0, .agg (oc e M))] = some (oc e M) := fill_any _ C (oc_size e M) hC
/-- A slice of one octagon. -/
theorem wpList_one {ops : Array Oper} {rest : List Oper} {o : Oper} {a : Act} {Q : Exit → Act → World → Prop} (hg : o.guard = none) (x : Operand) (ho : o.op = .buildSlice 96 1 #[(0, x)]) (e : Bool) (M : Nat → Int) (hx : a.eval x = .agg (oc e M))
    (h : wpList Tryd.prog ops Q rest (a.put o.dst (.slice (some ⟨w.heap.size, 0, none⟩) 1 1)) (w.alloc (.cells (oc e M) tO))) : wpList Tryd.prog ops Q (o :: rest) a w := by
  obtain ⟨i0, hi, hz0, hz1, hz2⟩ := info_parts (P := Tryd.prog) (e := tO) (z := .agg (oc false fun _ => 0)) (size := 65) (bytes := 520) (by kernel_rfl)
  refine wpList_buildSlice hg 96 tO 1 _ ho (oc e M) i0 _ Tryd.underlying96 hi hz0 (by rw [hz1]; decide) (by rw [hz1]; decide) ?_ h
  rw [hz1]
  have := fill_one e M ((Array.range (1 * 65)).map ((Value.agg (oc false fun _ => 0)).cells[· % (Value.agg (oc false fun _ => 0)).cells.size]!)) (by simp)
  simpa [hx] using this

end Go.Proofs.YtffajooegiempabDoor

namespace Go.Proofs.YtffajooegiempabDoor
open Go.RowKit
variable {w : World} {s : ByteArray}

/-- What is claimed at a point: an octagon. -/
def cE : Option (List Int) → Bool
  | none => true
  | some l => ovE l
def cM : Option (List Int) → Nat → Int
  | none => fun _ => 0
  | some l => ovM l
def ocs (r : Option (List Int)) : List Value := (oc (cE r) (cM r)).toList
theorem ocs_len (r : Option (List Int)) : (ocs r).length = 65 := by simp [ocs, oc_size]
def flatO (L : List (Option (List Int))) : List Value := L.flatMap ocs
theorem flatO_snoc (L : List (Option (List Int))) (r : Option (List Int)) : flatO (L ++ [r]) = flatO L ++ ocs r := by simp [flatO]
theorem flatO_get (L : List (Option (List Int))) (i k : Nat) (hi : i < L.length) (hk : k < 65) : (flatO L)[i * 65 + k]? = (ocs (L.getD i none))[k]? := by
  induction L generalizing i with
  | nil => cases hi
  | cons r L ih =>
    have e : flatO (r :: L) = ocs r ++ flatO L := rfl
    rw [e]
    cases i with
    | zero => rw [List.getElem?_append_left (by rw [ocs_len]; omega)]; simp [List.getD]
    | succ i =>
      rw [List.getElem?_append_right (by rw [ocs_len]; omega), ocs_len]
      rw [show (i + 1) * 65 + k - 65 = i * 65 + k by omega, ih i (by simpa using hi)]
      simp [List.getD]
theorem okp_ok {l : List Int} (h : okp (some l)) : okL l := gdB_ok.1 (okp_gd.1 h)
/-- A row of octagons. -/
def ORow (w : World) (g : Nat) (L : List (Option (List Int))) : Prop := g < w.heap.size ∧ ∀ i k, i < L.length → k < 65 → w.cell? ⟨g, i * 65 + k, none⟩ = (oc (cE (L.getD i none)) (cM (L.getD i none)))[k]?
theorem ORow.keep {w w' : World} {g : Nat} {L : List (Option (List Int))} (h : ORow w g L) (hb : Below w.heap.size w w') : ORow w' g L :=
  ⟨Nat.lt_of_lt_of_le h.1 hb.size, fun i k hi hk => (hb.cell h.1).trans (h.2 i k hi hk)⟩
theorem orow_of {base g cap : Nat} {L : List (Option (List Int))} (h : w.ownsRow base 55 65 (.slice (some ⟨g, 0, none⟩) L.length cap) L.length (flatO L)) : ORow w g L := by
  refine ⟨(h.lt g rfl).2, fun i k hi hk => ?_⟩
  have e := flatO_get L i k hi hk
  have e2 : (ocs (L.getD i none))[k]? = (oc (cE (L.getD i none)) (cM (L.getD i none)))[k]? := by simp [ocs]
  rw [e2] at e
  have hs : k < (oc (cE (L.getD i none)) (cM (L.getD i none))).size := by rw [oc_size]; exact hk
  rw [Array.getElem?_eq_getElem hs] at e ⊢
  have := h.cells (g := g) rfl (i * 65 + k) _ e
  rw [addr_add] at this
  exact this
/-- What the reading of the claims says. -/
def CLOut (w : World) (s : ByteArray) : Ending → World → Prop := fun e w' => Below w.heap.size w w' ∧
  ((decF (bytesOf s) = none ∧ e = .returned (.tuple #[.slice none 0 0, .int .i64 4])) ∨
   ∃ L g, decF (bytesOf s) = some L ∧ e = .returned (.tuple #[.slice (some ⟨g, 0, none⟩) L.length 21, .int .i64 0]) ∧ w.heap.size ≤ g ∧ ORow w' g L)

theorem lls_reads {base g : Nat} {X : List Value} {L : List (Option (List Int))} (hr : w.ownsRow base 22 1 (.slice (some ⟨g, 0, none⟩) L.length 21) L.length X) (h : LLs w base g X L) : ∀ i, i < L.length → w.cell? ⟨g, i, none⟩ = some (X.getD i (.bool false)) ∧ PV w base (X.getD i (.bool false)) (L.getD i none) := by
  intro i hi
  have hXi : X[i]? = some (X.getD i (.bool false)) := by simp [List.getD, show i < X.length by rw [h.len]; exact hi]
  have hc := hr.cells (g := g) rfl i _ hXi
  rw [addr_add] at hc
  exact ⟨hc, h.each i hi⟩

theorem o_info : ∃ i0, Tryd.prog.info? tO = some i0 ∧ i0.size = 65 := by
  obtain ⟨i0, hi, hz0, hz1, hz2⟩ := info_parts (P := Tryd.prog) (e := tO) (z := .agg (oc false fun _ => 0)) (size := 65) (bytes := 520) (by kernel_rfl)
  exact ⟨i0, hi, hz1⟩
theorem mk_claims : ∃ zs : Array Value, zs.size = 21 * 65 ∧ ∀ w, (Instr.makeSlice 96 (.int .i64 0) (.int .i64 21)).run Tryd.prog w = .ok (.slice (some ⟨w.heap.size, 0, none⟩) 0 21) (w.alloc (.cells zs tO)) := by
  obtain ⟨i0, hi, hz0, hz1, hz2⟩ := info_parts (P := Tryd.prog) (e := tO) (z := .agg (oc false fun _ => 0)) (size := 65) (bytes := 520) (by kernel_rfl)
  refine ⟨madeCells (Value.agg (oc false fun _ => 0)).cells (21 * 65), by rw [size_madeCells], fun w => ?_⟩
  have := run_make (P := Tryd.prog) w 96 tO i0 _ Tryd.underlying96 hi hz0 .i64 .i64 0 21 (by omega) (by omega) (by rw [hz2]; omega) (by omega)
  rw [this, hz1]
  rfl
set_option maxRecDepth 100000 in
set_option maxHeartbeats 3200000 in
theorem c_readClaims (hG : Glob w) (hs : s.size ≤ 9223372036854775807) : Calls Tryd.prog 55 #[.string s] w (CLOut w s) := by
  have hd := c_decode (w := w) hs
  have hq1 : ∀ (w : World) (a : Option Addr) (n c : Nat), (binOp .neq 22 (.slice a n c) (.slice none 0 0)).run Tryd.prog w = .ok (.bool (!a.isNone)) w := fun w a n c => by
    simp only [binOp]
    simp [Op.equal, Op.maxDepth, Lib.run_equalIn_slice_nil w 9999 22 3 a n c 0 0 Tryd.underlying22]
  obtain ⟨M0, hM0⟩ : ∃ M0 : Nat → Int, M0 = fun _ => 0 := ⟨_, rfl⟩
  have hz : ∀ w, (zeroValue tO).run Tryd.prog w = .ok (.agg (oc false M0)) w := by rw [hM0]; exact o_zero
  have ho1 : (oc false M0).toList.set 0 (.bool true) = (oc true M0).toList := by simp [oc]
  have ho2 : (oc false M0).setIfInBounds 0 (.bool true) = oc true M0 := by apply Array.toList_inj.1; simp [oc]
  have ho3 : (oc false M0).size = 65 := oc_size _ _
  have ho4 : ¬ oc false M0 = #[] := fun h => by have := congrArg Array.size h; rw [oc_size] at this; simp at this
  have HFr : Hid (∀ w1 : World, ∃ w2, (storeCells ⟨w1.heap.size, 0, none⟩ (oc true M0).toList).run Tryd.prog (w1.alloc (.cells (oc false M0) tO)) = .ok () w2 ∧ OAt w2 w1.heap.size true M0 ∧ Below w1.heap.size w1 w2 ∧ w1.heap.size < w2.heap.size) := by rw [hM0]; exact fun w1 => o_fresh w1 true _
  have HNn : Hid ((oc true M0).toList = ocs none) := by rw [hM0]; rfl
  clear hM0
  go_enter Tryd.func55, Tryd.ntmps55
  go_wp2_with fail
  refine hd.mono ?_
  rintro e w1 ⟨hb1, ⟨hn, rfl⟩ | ⟨L, g, X, hL, rfl, hg, hrow, hls⟩⟩
  · have HB : Hid (Below w.heap.size w w1) := hb1
    have HN : Hid (decF (bytesOf s) = none) := hn
    clear hb1 hn hd
    go_wp2_with fail
    go_ret2
    exact ⟨HB.out, .inl ⟨HN.out, rfl⟩⟩
  · have hdk := dec_ok (bys s) hL
    have HB : Hid (Below w.heap.size w w1) := hb1
    have HD : Hid (decF (bytesOf s) = some L ∧ ∀ r, r ∈ L → okp r) := ⟨hL, hdk.2.2.2⟩
    have h21 := hdk.2.2.1
    have HC : Hid (∀ i, i < L.length → w1.cell? ⟨g, i, none⟩ = some (X.getD i (.bool false)) ∧ PV w1 w.heap.size (X.getD i (.bool false)) (L.getD i none)) := lls_reads hrow hls
    have hgl : g < w1.heap.size := (hrow.lt g rfl).2
    obtain ⟨i0, hi, hz1⟩ := o_info
    obtain ⟨zs, hzs, hmk⟩ := mk_claims
    have HR0 : Hid ((w1.alloc (.cells zs tO)).ownsRow w1.heap.size tO 65 (.slice (some ⟨w1.heap.size, 0, none⟩) 0 21) 0 []) := World.ownsRow_made w1 zs 21 (Nat.le_refl _) (by decide) hzs
    have HG1 : Hid (Glob w1) := hG.keep HB.out hG.size
    clear hb1 hdk hd hrow hls hL hG hzs
    go_wp2_with fail
    go_loopw [5, 6, 21] (fun ev cv iv wr => ∃ i, i ≤ L.length ∧ iv = .int .i64 (i : Nat) ∧ ev = .int .i64 0 ∧ cv = .slice (some ⟨w1.heap.size, 0, none⟩) i 21 ∧ Hid (wr.ownsRow w1.heap.size tO 65 (.slice (some ⟨w1.heap.size, 0, none⟩) i 21) i (flatO (L.take i)) ∧ Below w1.heap.size w1 wr)) (fun _ _ iv _ => L.length - (intOf iv).toNat)
    case atStart => exact ⟨0, by omega, rfl, rfl, rfl, HR0.out, (Below.refl _ _).alloc (Nat.le_refl _) _⟩
    case round =>
      obtain ⟨i, hile, rfl, rfl, rfl, HR⟩ := hrel
      have hsr := HR.out.2.size
      by_cases hlt : i < L.length
      · have hii : (i : Int) < (L.length : Int) := by omega
        have hgr : g < wr.heap.size := by omega
        have c0 : wr.cell? ⟨g, i, none⟩ = some (X.getD i (.bool false)) := (HR.out.2.cell hgl).trans (HC.out i hlt).1
        have HPv : Hid (PV w1 w.heap.size (X.getD i (.bool false)) (L.getD i none)) := (HC.out i hlt).2
        have HTk : Hid (flatO (L.take (i + 1)) = flatO (L.take i) ++ ocs (L.getD i none)) := by
          show _ = _
          rw [← flatO_snoc]
          congr 1
          rw [List.take_add_one]
          simp [List.getD, hlt]
        have HOk : Hid (okp (L.getD i none)) := getD_ok HD.out.2 i
        generalize X.getD i (.bool false) = xv at *
        generalize L.getD i none = ro at *
        obtain ⟨w3, hst3, hat3, hb3, hs3⟩ := HFr.out wr
        have H3 : Hid (OAt w3 wr.heap.size true M0 ∧ Below wr.heap.size wr w3) := ⟨hat3, hb3⟩
        clear hat3 hb3
        cases ro with
        | none =>
          have hxe : xv = .slice none 0 0 := HPv.out
          subst hxe
          have HO3 : Hid (w3.ownsRow w1.heap.size tO 65 (.slice (some ⟨w1.heap.size, 0, none⟩) i 21) i (flatO (L.take i)) ∧ Below w1.heap.size w1 w3) := ⟨ownsRow_below HR.out.1 (fun k hk => (H3.out).2.block k (HR.out.1.lt k hk).2), HR.out.2.trans ((H3.out).2.mono hsr)⟩
          go_wp2_with (first | refine wpList_load_o rfl (.tmp 9) rfl rfl (H3.out).1 ?_ | refine wpList_one rfl (.tmp 37) rfl (true) (M0) rfl ?_ | (at_builtin; refine wpList_append_fits _ rfl (.tmp 36) (.tmp 38) 96 rfl w1.heap.size tO i0 65 Tryd.underlying96 hi hz1 w1.heap.size i 21 _ rfl (HO3.out.1.alloc _) ⟨w3.heap.size, 0, none⟩ 1 1 (oc (true) (M0)).toList rfl (by simp [oc_size]) (by intro t u ht; rw [addr_add]; exact (World.cell?_alloc_at _ _ _ _ rfl).trans (by rw [← Array.getElem?_toList]; exact ht)) (by intro u hu; exact oc_one _ _ u hu) (by omega) ?_; intro w5 hown5 hgrow5))
          go_roundw
          case rel => exact ⟨i + 1, by omega, by go_num, rfl, rfl, by rw [HTk.out, ← HNn.out]; exact hown5, (HO3.out.2.alloc HO3.out.2.size _).grown hgrow5 (by simp; have := HO3.out.2.size; omega) (fun k hk => by cases hk; exact Nat.le_refl _)⟩
          case measure => simp [intOf]; omega
        | some l =>
          obtain ⟨p, hp, rfl, hap, hlp⟩ := HPv.out
          have hok : okL l := okp_ok HOk.out
          have hrd := fun w4 (hb : Below w1.heap.size w1 w4) => o_read_ok (w := w4) (HG1.out.keep hb HG1.out.size) (.slice (some ⟨p, 0, none⟩) 32 32) l hok (Reads.at_ (hap.keep hb hap.lt) hlp (Nat.le_refl _) (fun j hj => ic_get _ _ (by omega)))
          have hrd3 := hrd w3 (HR.out.2.trans (H3.out.2.mono hsr))
          have HMs : Hid ((oc (ovE l) (ovM l)).toList = ocs (some l)) := rfl
          generalize ovE l = el at *
          generalize ovM l = ml at *
          clear hok hap hrd
          go_wp2_with fail
          refine hrd3.mono ?_
          rintro e w4 ⟨rfl, hb4⟩
          have ha4 : OAt w4 wr.heap.size true M0 := At.keep H3.out.1 hb4 hs3
          obtain ⟨w6, hst6, hat6, ho6⟩ := o_store ha4 el ml
          have H6 : Hid (OAt w6 wr.heap.size el ml ∧ Below wr.heap.size wr w6) := ⟨hat6, (H3.out.2.trans (hb4.mono (by omega))).trans (ho6.below (Nat.le_refl _) (by have := hb4.size; omega))⟩
          clear hb4 ha4 hat6 ho6 hrd3
          have HO3 : Hid (w6.ownsRow w1.heap.size tO 65 (.slice (some ⟨w1.heap.size, 0, none⟩) i 21) i (flatO (L.take i)) ∧ Below w1.heap.size w1 w6) := ⟨ownsRow_below HR.out.1 (fun k hk => (H6.out).2.block k (HR.out.1.lt k hk).2), HR.out.2.trans ((H6.out).2.mono hsr)⟩
          go_wp2_with (first | refine wpList_load_o rfl (.tmp 9) rfl rfl (H6.out).1 ?_ | refine wpList_one rfl (.tmp 37) rfl (el) (ml) rfl ?_ | (at_builtin; refine wpList_append_fits _ rfl (.tmp 36) (.tmp 38) 96 rfl w1.heap.size tO i0 65 Tryd.underlying96 hi hz1 w1.heap.size i 21 _ rfl (HO3.out.1.alloc _) ⟨w6.heap.size, 0, none⟩ 1 1 (oc (el) (ml)).toList rfl (by simp [oc_size]) (by intro t u ht; rw [addr_add]; exact (World.cell?_alloc_at _ _ _ _ rfl).trans (by rw [← Array.getElem?_toList]; exact ht)) (by intro u hu; exact oc_one _ _ u hu) (by omega) ?_; intro w5 hown5 hgrow5))
          go_roundw
          case rel => exact ⟨i + 1, by omega, by go_num, rfl, rfl, by rw [HTk.out, ← HMs.out]; exact hown5, (HO3.out.2.alloc HO3.out.2.size _).grown hgrow5 (by simp; have := HO3.out.2.size; omega) (fun k hk => by cases hk; exact Nat.le_refl _)⟩
          case measure => simp [intOf]; omega
      · have hie : i = L.length := by omega
        subst hie
        have HOr : Hid (ORow wr w1.heap.size L) := by
          have := HR.out.1
          rw [List.take_of_length_le (Nat.le_refl _)] at this
          exact orow_of this
        have HB2 : Hid (Below w.heap.size w wr ∧ w.heap.size ≤ w1.heap.size) := ⟨HB.out.trans (HR.out.2.mono HB.out.size), HB.out.size⟩
        go_wp2_with fail
        go_ret2
        exact ⟨HB2.out.1, .inr ⟨L, _, HD.out.1, rfl, HB2.out.2, HOr.out⟩⟩

end Go.Proofs.YtffajooegiempabDoor

namespace Go.Proofs.YtffajooegiempabDoor
open Go.RowKit
variable {w : World} {s : ByteArray}

def atL (L : List (Option (List Int))) (pt : Int) : Option (List Int) := if pt < 0 then none else L.getD pt.toNat none

set_option maxRecDepth 100000 in
set_option maxHeartbeats 3200000 in
theorem c_claimAt {g : Nat} {L : List (Option (List Int))} (h : ORow w g L) (pt : Int) :
    Calls Tryd.prog 57 #[.slice (some ⟨g, 0, none⟩) L.length 21, .int .i64 pt] w fun e w' => e = .returned (.agg (oc (cE (atL L pt)) (cM (atL L pt)))) ∧ Below w.heap.size w w' := by
  obtain ⟨M0, hM0⟩ : ∃ M0 : Nat → Int, M0 = fun _ => 0 := ⟨_, rfl⟩
  have hz : ∀ w, (zeroValue tO).run Tryd.prog w = .ok (.agg (oc false M0)) w := by rw [hM0]; exact o_zero
  have ho1 : (oc false M0).toList.set 0 (.bool true) = (oc true M0).toList := by simp [oc]
  have ho2 : (oc false M0).setIfInBounds 0 (.bool true) = oc true M0 := by apply Array.toList_inj.1; simp [oc]
  have ho3 : (oc false M0).size = 65 := oc_size _ _
  have ho4 : ¬ oc false M0 = #[] := fun h => by have := congrArg Array.size h; rw [oc_size] at this; simp at this
  have HFr : Hid (∀ e M, ∃ w2, (storeCells ⟨w.heap.size, 0, none⟩ (oc e M).toList).run Tryd.prog (w.alloc (.cells (oc false M0) tO)) = .ok () w2 ∧ OAt w2 w.heap.size e M ∧ Below w.heap.size w w2 ∧ w.heap.size < w2.heap.size) := by rw [hM0]; exact fun e M => o_fresh w e M
  have HN : Hid (atL L pt = none → oc (cE (atL L pt)) (cM (atL L pt)) = oc true M0) := fun q => by rw [q, hM0]; rfl
  clear hM0
  by_cases p0 : pt < 0
  · have HE : Hid (oc (cE (atL L pt)) (cM (atL L pt)) = oc true M0) := HN.out (by unfold atL; rw [if_pos p0])
    obtain ⟨w3, hst3, hat3, hb3, hs3⟩ := HFr.out true M0
    have H3 : Hid (OAt w3 w.heap.size true M0 ∧ Below w.heap.size w w3) := ⟨hat3, hb3⟩
    clear hat3 hb3
    go_enter Tryd.func57, Tryd.ntmps57
    go_wp2_with fail
    try simp only [Exit.inBlock, Exit.then]
    refine bodyPost_ret (results_o rfl _ rfl H3.out.1) rfl ?_
    exact ⟨by rw [HE.out], H3.out.2⟩
  · obtain ⟨k, rfl⟩ : ∃ k : Nat, pt = (k : Int) := ⟨pt.toNat, by omega⟩
    by_cases hk : k < L.length
    · have hki : (k : Int) < (L.length : Int) := by omega
      have HE : Hid (atL L (k : Int) = L.getD k none) := by show atL _ _ = _; unfold atL; rw [if_neg p0]; rfl
      have HO : Hid (w.rangeAt g (k * 65) (oc (cE (L.getD k none)) (cM (L.getD k none))).toList) := by
        intro j v hv
        have hj : j < 65 := by
          rcases Nat.lt_or_ge j 65 with q | q
          · exact q
          · rw [List.getElem?_eq_none (by simp [oc_size]; omega)] at hv; cases hv
        rw [h.2 k j hk hj, ← Array.getElem?_toList]
        exact hv
      have hg := h.1
      have HE' : Hid (oc (cE (atL L (k : Int))) (cM (atL L (k : Int))) = oc (cE (L.getD k none)) (cM (L.getD k none))) := by show _ = _; rw [HE.out]
      clear HE
      generalize L.getD k none = r at *
      have hl : (Tryd.prog.info? tO).map (·.size) = some (oc (cE r) (cM r)).toList.length := by
        obtain ⟨i0, hi, hz1⟩ := o_info
        simp [hi, hz1, oc_size]
      generalize cE r = e0 at *
      generalize cM r = m0 at *
      obtain ⟨w3, hst3, hat3, hb3, hs3⟩ := HFr.out e0 m0
      have H3 : Hid (OAt w3 w.heap.size e0 m0 ∧ Below w.heap.size w w3) := ⟨hat3, hb3⟩
      have HO2 : Hid ((w.alloc (.cells (oc false M0) tO)).rangeAt g (k * 65) (oc e0 m0).toList) := fun j v hv => (World.cell?_alloc_old w _ ⟨g, k * 65 + j, none⟩ (Nat.ne_of_lt hg)).trans (HO.out j v hv)
      clear hat3 hb3 h HN
      go_enter Tryd.func57, Tryd.ntmps57
      go_wp2_with (refine wpList_load_mid rfl tO (.tmp 16) rfl g (k * 65) rfl (oc e0 m0).toList _ HO2.out Tryd.underlying55 rfl hl ?_)
      try simp only [Exit.inBlock, Exit.then]
      refine bodyPost_ret (results_o rfl _ rfl H3.out.1) rfl ?_
      exact ⟨by rw [HE'.out], H3.out.2⟩
    · have hki : ¬ (k : Int) < (L.length : Int) := by omega
      have HE : Hid (oc (cE (atL L (k : Int))) (cM (atL L (k : Int))) = oc true M0) := HN.out (by unfold atL; rw [if_neg p0]; simp [List.getD, hk])
      obtain ⟨w3, hst3, hat3, hb3, hs3⟩ := HFr.out true M0
      have H3 : Hid (OAt w3 w.heap.size true M0 ∧ Below w.heap.size w w3) := ⟨hat3, hb3⟩
      clear hat3 hb3
      go_enter Tryd.func57, Tryd.ntmps57
      go_wp2_with fail
      try simp only [Exit.inBlock, Exit.then]
      refine bodyPost_ret (results_o rfl _ rfl H3.out.1) rfl ?_
      exact ⟨by rw [HE.out], H3.out.2⟩

end Go.Proofs.YtffajooegiempabDoor

