import Derived.Test.YtffajooegiempaaGreatDoorJ2
import Derived.Laws.AppendOwn
import Derived.Laws.OwnMore
import Derived.ArgAppend
namespace Go.Proofs.YtffajooegiempaaGreatDoor
open Go.RowKit
variable {w : World} {r : Nat} {s : ByteArray} {d : CSt}

/-- A list of its own, or nil. -/
def PV (w : World) (base : Nat) (v : Value) : Option (List Int) → Prop
  | none => v = .slice none 0 0
  | some l => ∃ g, base ≤ g ∧ v = .slice (some ⟨g, 0, none⟩) 32 32 ∧ At w g (ic l) 3 ∧ l.length = 32
theorem LRow.at_ {base : Nat} {v : Value} {l : List Int} (h : LRow w base v l) (hl : l.length = 32) : PV w base v (some l) := by
  obtain ⟨g, hg, rfl, ho⟩ := h
  rw [hl] at ho ⊢
  refine ⟨g, hg, rfl, ?_, hl⟩
  rcases ho.2 with ⟨e, _⟩ | ⟨g', cap, cur, e, _, hh, hn4, hc4, hsz, htk⟩
  · cases e
  · cases e
    have : cur = ic l := by
      apply Array.toList_inj.1
      rw [← List.take_of_length_le (l := cur.toList) (i := 32 * 1) (by simp; omega), htk]
      simp [ic, iv]
    rw [← this]
    exact hh
theorem bsN_len (d : CSt) (N : Nat) : (bsN (bytesOf s) N d).1.length = N := fms_len rfl N
theorem bsN_at (hd : d.1 ≤ s.size) (N : Nat) : (bsN (bytesOf s) N d).2.1 ≤ s.size := fms_at (num_at (by omega) hd) N
theorem bs_len (d : CSt) : (bsF (bytesOf s) d).1.length = 32 := bsN_len d 32
theorem bs_at (hd : d.1 ≤ s.size) : (bsF (bytesOf s) d).2.1 ≤ s.size := bsN_at hd 32
theorem pt_at (hd : d.1 ≤ s.size) : (ptF (bytesOf s) d).2.1 ≤ s.size := by
  have h1 := num_at (s := s) (d := d) (lo := 0) (hi := 1) (by omega) hd
  have h2 := bs_at h1
  unfold ptF
  simp only
  generalize bsF (bytesOf s) (numF (bytesOf s) 0 1 d).2 = b at *
  split
  · exact h1
  · exact h2
def POut (w : World) (r : Nat) (s : ByteArray) (d : CSt) : Ending → World → Prop := fun e w' => ∃ v, e = .returned v ∧ PV w' w.heap.size v (ptF (bytesOf s) d).1 ∧ Cat w' r s (ptF (bytesOf s) d).2 ∧ Onl r w w'

set_option maxRecDepth 100000 in
set_option maxHeartbeats 1600000 in
theorem c_point (h : Cat w r s d) (hs : s.size ≤ 9223372036854775807) (hd : d.1 ≤ s.size) :
    Calls Tryz.prog 118 #[.pointer (some ⟨r, 0, none⟩)] w (POut w r s d) := by
  have h1 := c_number h hs hd 0 1 (by omega)
  have hd1 := num_at (s := s) (lo := 0) (hi := 1) (by omega) hd
  have HB : Hid (∀ w1, Cat w1 r s (numF (bytesOf s) 0 1 d).2 → Calls Tryz.prog 144 #[.pointer (some ⟨r, 0, none⟩)] w1 fun e w' => ∃ v, e = .returned v ∧ LRow w' w1.heap.size v (bsF (bytesOf s) (numF (bytesOf s) 0 1 d).2).1 ∧ Cat w' r s (bsF (bytesOf s) (numF (bytesOf s) 0 1 d).2).2 ∧ Onl r w1 w') := fun w1 hc => c_bounds hc hs hd1
  have HE : Hid (ptF (bytesOf s) d = if (numF (bytesOf s) 0 1 d).1 = 0 then (none, (numF (bytesOf s) 0 1 d).2) else (some (bsF (bytesOf s) (numF (bytesOf s) 0 1 d).2).1, (bsF (bytesOf s) (numF (bytesOf s) 0 1 d).2).2)) := rfl
  have HL : Hid ((bsF (bytesOf s) (numF (bytesOf s) 0 1 d).2).1.length = 32) := bs_len _
  clear h hd1
  generalize numF (bytesOf s) 0 1 d = x at *
  obtain ⟨x1, x2⟩ := x
  generalize bsF (bytesOf s) x2 = b at *
  by_cases hx : x1 = 0
  · subst hx
    go_enter Tryz.func118, Tryz.ntmps118
    go_wp2_with fail
    refine h1.mono ?_
    rintro e w1 ⟨rfl, hc1, ho1⟩
    have H1 : Hid (Cat w1 r s x2 ∧ Onl r w w1) := ⟨hc1, ho1⟩
    clear hc1 ho1 h1
    go_wp2_with fail
    go_ret
    exact ⟨_, rfl, by rw [HE.out]; rfl, by rw [HE.out]; exact H1.out.1, H1.out.2⟩
  · have hx' : (x1 == 0) = false := by simpa using hx
    have HX : Hid (ptF (bytesOf s) d = (some b.1, b.2)) := HE.out.trans (if_neg hx)
    go_enter Tryz.func118, Tryz.ntmps118
    go_wp2_with fail
    refine h1.mono ?_
    rintro e w1 ⟨rfl, hc1, ho1⟩
    have hb := HB.out w1 hc1
    have HO : Hid (Onl r w w1) := ho1
    have hs1 := ho1.size
    clear hc1 ho1 h1
    go_wp2_with fail
    refine hb.mono ?_
    rintro e w2 ⟨v, rfl, hv, hc2, ho2⟩
    have H2 : Hid (PV w2 w.heap.size v (some b.1) ∧ Cat w2 r s b.2 ∧ Onl r w w2) := by
      obtain ⟨g, hg, q⟩ := hv.at_ HL.out
      exact ⟨⟨g, by omega, q⟩, hc2, HO.out.trans ho2⟩
    clear hv hc2 ho2 hb
    go_wp2_with fail
    go_ret
    exact ⟨_, rfl, by rw [HX.out]; exact H2.out.1, by rw [HX.out]; exact H2.out.2.1, H2.out.2.2⟩

/-- The lists that come out: each of its own. -/
structure LLs (w : World) (base g : Nat) (X : List Value) (L : List (Option (List Int))) : Prop where
  len : X.length = L.length
  each : ∀ i, i < L.length → PV w base (X.getD i (.bool false)) (L.getD i none)
  away : ∀ i, i < L.length → (X.getD i (.bool false)).ownBlock ≠ some g
  apart : ∀ i j a, i < L.length → j < L.length → i ≠ j → (X.getD i (.bool false)).ownBlock = some a → (X.getD j (.bool false)).ownBlock ≠ some a
theorem PV.lt {base : Nat} {v : Value} {o : Option (List Int)} (h : PV w base v o) : ∀ k, v.ownBlock = some k → base ≤ k ∧ k < w.heap.size := by
  intro k hk
  cases o with
  | none => rw [show v = .slice none 0 0 from h] at hk; cases hk
  | some l => obtain ⟨g, hg, rfl, ha, _⟩ := h; cases hk; exact ⟨hg, ha.lt⟩
theorem PV.same {w w' : World} {base : Nat} {v : Value} {o : Option (List Int)} (h : PV w base v o) (hb : ∀ k, v.ownBlock = some k → w'.heap[k]? = w.heap[k]?) : PV w' base v o := by
  cases o with
  | none => exact h
  | some l => obtain ⟨g, hg, rfl, ha, hl⟩ := h; exact ⟨g, hg, rfl, ha.same (hb g rfl), hl⟩
theorem LLs.same {w w' : World} {base g : Nat} {X : List Value} {L : List (Option (List Int))} (h : LLs w base g X L) (hb : ∀ k, k < w.heap.size → base ≤ k → k ≠ g → w'.heap[k]? = w.heap[k]?) : LLs w' base g X L :=
  ⟨h.len, fun i hi => (h.each i hi).same (fun k hk => by have := (h.each i hi).lt k hk; exact hb k this.2 this.1 (fun e => h.away i hi (by rw [hk, e]))), h.away, h.apart⟩
theorem getD_snocV (X : List Value) (x u : Value) (i : Nat) : (X ++ [x]).getD i u = if i < X.length then X.getD i u else if i = X.length then x else u := by
  by_cases h : i < X.length
  · rw [if_pos h]; simp [List.getD, List.getElem?_append_left h]
  · rw [if_neg h]
    by_cases e : i = X.length
    · rw [if_pos e]; simp [List.getD, e]
    · rw [if_neg e]
      have : (X ++ [x])[i]? = none := List.getElem?_eq_none (by simp; omega)
      simp [List.getD, this]
theorem LLs.snoc {base base' g : Nat} {X : List Value} {L : List (Option (List Int))} {x : Value} {o : Option (List Int)} (h : LLs w base g X L) (hx : PV w base' x o) (hb : base ≤ base') (hg : g < base') (hnew : ∀ i, i < L.length → ∀ k, (X.getD i (.bool false)).ownBlock = some k → k < base') : LLs w base g (X ++ [x]) (L ++ [o]) := by
  have hl := h.len
  have hX : ∀ i, i < L.length → (X ++ [x]).getD i (.bool false) = X.getD i (.bool false) := fun i hi => by rw [getD_snocV, if_pos (by omega)]
  have hXn : (X ++ [x]).getD L.length (.bool false) = x := by rw [getD_snocV, if_neg (by omega), if_pos hl.symm]
  have hL : ∀ i, i < L.length → (L ++ [o]).getD i none = L.getD i none := fun i hi => by simp [List.getD, List.getElem?_append_left hi]
  have hLn : (L ++ [o]).getD L.length none = o := by simp [List.getD]
  have hlen : (L ++ [o]).length = L.length + 1 := by simp
  refine ⟨by simp [hl], fun i hi => ?_, fun i hi => ?_, fun i j a hi hj hij ha => ?_⟩
  · rw [hlen] at hi
    rcases Nat.lt_or_eq_of_le (Nat.lt_succ_iff.1 hi) with q | q
    · rw [hX i q, hL i q]; exact h.each i q
    · rw [q, hXn, hLn]
      cases o with
      | none => exact hx
      | some l => obtain ⟨a, h1, h2⟩ := hx; exact ⟨a, by omega, h2⟩
  · rw [hlen] at hi
    rcases Nat.lt_or_eq_of_le (Nat.lt_succ_iff.1 hi) with q | q
    · rw [hX i q]; exact h.away i q
    · rw [q, hXn]; intro e; have := hx.lt g e; omega
  · rw [hlen] at hi hj
    rcases Nat.lt_or_eq_of_le (Nat.lt_succ_iff.1 hi) with q | q
    · rw [hX i q] at ha
      rcases Nat.lt_or_eq_of_le (Nat.lt_succ_iff.1 hj) with q' | q'
      · rw [hX j q']; exact h.apart i j a q q' hij ha
      · rw [q', hXn]; intro e; have := hx.lt a e; have := hnew i q a ha; omega
    · rw [q, hXn] at ha
      rcases Nat.lt_or_eq_of_le (Nat.lt_succ_iff.1 hj) with q' | q'
      · rw [hX j q']; intro e; have := hx.lt a ha; have := hnew j q' a e; omega
      · omega

/-- What Decode says. -/
def DOut (w : World) (s : ByteArray) : Ending → World → Prop := fun e w' => Below w.heap.size w w' ∧
  ((decF (bytesOf s) = none ∧ e = .returned (.tuple #[.slice none 0 0, .int .i64 4])) ∨
   ∃ L g X, decF (bytesOf s) = some L ∧ e = .returned (.tuple #[.slice (some ⟨g, 0, none⟩) L.length 21, .int .i64 0]) ∧ w.heap.size ≤ g ∧ w'.ownsRow w.heap.size 32 1 (.slice (some ⟨g, 0, none⟩) L.length 21) L.length X ∧ LLs w' w.heap.size g X L)

end Go.Proofs.YtffajooegiempaaGreatDoor

namespace Go.Proofs.YtffajooegiempaaGreatDoor
open Go.RowKit
variable {w : World} {s : ByteArray}

theorem pts_at {i : CSt} (hi : i.1 ≤ s.size) : ∀ n, (ptsF (bytesOf s) (i, []) n).1.1 ≤ s.size
  | 0 => hi
  | n + 1 => by
    have := pts_at hi n
    show (if (ptsF (bytesOf s) (i, []) n).1.2 then ptsF (bytesOf s) (i, []) n else _).1.1 ≤ _
    split
    · exact this
    · exact pt_at this
theorem pts_len {i : CSt} : ∀ n, (ptsF (bytesOf s) (i, []) n).2.length ≤ n
  | 0 => Nat.le_refl _
  | n + 1 => by
    have := pts_len (i := i) n
    show (if (ptsF (bytesOf s) (i, []) n).1.2 then ptsF (bytesOf s) (i, []) n else _).2.length ≤ _
    split
    · omega
    · simp; omega
theorem pts_stay {x : CSt × List (Option (List Int))} {n : Nat} (h : (ptsF (bytesOf s) x n).1.2 = true) : ∀ k, ptsF (bytesOf s) x (n + k) = ptsF (bytesOf s) x n
  | 0 => rfl
  | k + 1 => by
    have := pts_stay h k
    show (if (ptsF (bytesOf s) x (n + k)).1.2 then ptsF (bytesOf s) x (n + k) else _) = _
    rw [this, if_pos h]

set_option maxRecDepth 100000 in
set_option maxHeartbeats 3200000 in
theorem c_decode (hs : s.size ≤ 9223372036854775807) : Calls Tryz.prog 83 #[.string s] w (DOut w s) := by
  obtain ⟨wa, hwa⟩ : ∃ wa, wa = w.alloc (.cells #[.string s, .int .i64 0, .bool false] tCr) := ⟨_, rfl⟩
  have hc0 : Cat wa w.heap.size s (0, false) := by rw [hwa]; exact At.new _ _ _
  have h1 := c_number hc0 hs (by show 0 ≤ s.size; omega) 1 21 (by omega)
  have hsa : wa.heap.size = w.heap.size + 1 := by rw [hwa]; simp
  have r1 := num_range (bys s) 1 21 (by omega) (0, false)
  have hd1 := num_at (s := s) (lo := 1) (hi := 21) (d := (0, false)) (by omega) (by show 0 ≤ s.size; omega)
  have HBa : Hid (Below w.heap.size w wa) := by rw [hwa]; exact (Below.refl _ _).alloc (Nat.le_refl _) _
  obtain ⟨F, hF⟩ : ∃ F, F = ptsF (bytesOf s) ((numF (bytesOf s) 1 21 (0, false)).2, []) := ⟨_, rfl⟩
  have h21 : (numF (bytesOf s) 1 21 (0, false)).1 ≤ 21 := by
    unfold numF; split
    · show (0 : Int) ≤ 21; omega
    · rename_i q; show pkc _ _ ≤ 21; omega
  have HE : Hid (decF (bytesOf s) = if (F (numF (bytesOf s) 1 21 (0, false)).1.toNat).1.2 = true ∨ (F (numF (bytesOf s) 1 21 (0, false)).1.toNat).1.1 ≠ (bytesOf s).length then none else some (F (numF (bytesOf s) 1 21 (0, false)).1.toNat).2) := by rw [hF]; rfl
  have HF : Hid (∀ n, F (n + 1) = if (F n).1.2 then F n else ((ptF (bytesOf s) (F n).1).2, (F n).2 ++ [(ptF (bytesOf s) (F n).1).1])) := by rw [hF]; intro n; rfl
  have HFa : Hid (∀ n, (F n).1.1 ≤ s.size) := by rw [hF]; exact pts_at hd1
  have HFs : Hid (∀ n k, (F n).1.2 = true → F (n + k) = F n) := by rw [hF]; exact fun n k h => pts_stay h k
  have HFl : Hid (∀ n, (F n).2.length ≤ n) := by rw [hF]; exact pts_len
  have HF0 : Hid (F 0 = ((numF (bytesOf s) 1 21 (0, false)).2, [])) := by rw [hF]; rfl
  have hmk : ∀ w, (Instr.makeSlice 54 (.int .i64 0) (.int .i64 21)).run Tryz.prog w = .ok (.slice (some ⟨w.heap.size, 0, none⟩) 0 21) (w.alloc (.cells (List.replicate 21 (Value.slice none 0 0)).toArray 32)) := fun _ => by kernel_rfl
  obtain ⟨i0, hi0, hz0, hz1, hz2⟩ := info_parts (P := Tryz.prog) (e := 32) (z := .slice none 0 0) (size := 1) (bytes := 24) (by kernel_rfl)
  have HOw : Hid (∀ (w1 : World), (w1.alloc (.cells (List.replicate 21 (Value.slice none 0 0)).toArray 32)).ownsRow w1.heap.size 32 1 (.slice (some ⟨w1.heap.size, 0, none⟩) 0 21) 0 []) := fun w1 => World.ownsRow_made w1 _ 21 (Nat.le_refl _) (by decide) rfl
  have HPt : Hid (∀ (w1 : World) (d : CSt), Cat w1 w.heap.size s d → d.1 ≤ s.size → Calls Tryz.prog 118 #[.pointer (some ⟨w.heap.size, 0, none⟩)] w1 (POut w1 w.heap.size s d)) := fun w1 d hc hd => c_point hc hs hd
  have HLb : Hid ((bytesOf s).length = s.size) := bytesOf_len s
  generalize numF (bytesOf s) 1 21 (0, false) = x at *
  obtain ⟨x1, x2⟩ := x
  simp only at r1 hd1 h1 h21 HE
  have hx0 : 0 ≤ x1 := r1.1
  obtain ⟨k, rfl⟩ : ∃ k : Nat, x1 = (k : Int) := ⟨x1.toNat, by omega⟩
  rw [Int.toNat_natCast] at HE
  generalize (List.replicate 21 (Value.slice none 0 0)).toArray = zs at *
  rw [hwa] at h1
  clear hF r1 hc0
  go_enter Tryz.func83, Tryz.ntmps83
  go_wp2_with fail
  rw [← hwa] at h1 ⊢
  refine h1.mono ?_
  rintro e w1 ⟨rfl, hc1, ho1⟩
  have hs1 := ho1.size
  have hr1 := hc1.lt
  have H1 : Hid (Cat (w1.alloc (.cells zs 32)) w.heap.size s x2 ∧ Below w.heap.size w (w1.alloc (.cells zs 32)) ∧ (w1.alloc (.cells zs 32)).ownsRow w1.heap.size 32 1 (.slice (some ⟨w1.heap.size, 0, none⟩) 0 21) 0 []) := ⟨At.allocH hc1 _, (HBa.out.trans (ho1.below (Nat.le_refl _) (by omega))).alloc (by omega) _, HOw.out w1⟩
  clear hc1 ho1 h1 hwa
  go_wp2_with fail
  go_loopw [6, 7] (fun sl i wr => ∃ (q n : Nat) (X : List Value), q ≤ k ∧ i = .int .i64 q ∧ n ≤ q ∧ sl = .slice (some ⟨w1.heap.size, 0, none⟩) n 21 ∧ Hid (n = (F q).2.length ∧ wr.ownsRow w1.heap.size 32 1 (.slice (some ⟨w1.heap.size, 0, none⟩) n 21) n X ∧ Cat wr w.heap.size s (F q).1 ∧ Below w.heap.size w wr ∧ w1.heap.size < wr.heap.size ∧ LLs wr (w1.heap.size + 1) w1.heap.size X (F q).2)) (fun _ i _ => k - (intOf i).toNat)
  case atStart => exact ⟨0, 0, [], by omega, rfl, by omega, rfl, by rw [HF0.out]; rfl, H1.out.2.2, by rw [HF0.out]; exact H1.out.1, H1.out.2.1, by simp, by rw [HF0.out]; exact ⟨rfl, fun i hi => absurd hi (by simp), fun i hi => absurd hi (by simp), fun i j a hi => absurd hi (by simp)⟩⟩
  case round =>
    obtain ⟨q, n, X, hq, rfl, hn, rfl, HR⟩ := hrel
    have hat := HFa.out q
    have HCq : Hid (Cat wr w.heap.size s (F q).1) := HR.out.2.2.1
    obtain ⟨c0, c1, c2, cf⟩ := HCq.out.cells
    have hrr := HCq.out.lt
    have hzr := HR.out.2.2.2.2.1
    have HFq := (show Hid (_ = _) from HF.out q)
    have HStay : Hid ((F q).1.2 = true → F k = F q) := fun h => by have := HFs.out q (k - q) h; rwa [show q + (k - q) = k by omega] at this
    by_cases hlt : q < k
    · have hqi : (q : Int) < (k : Int) := by omega
      cases hw : (F q).1.2 with
      | true =>
        rw [hw] at c2
        have HX : Hid (decF (bytesOf s) = none) := by show _ = _; rw [HE.out, HStay.out hw, if_pos (.inl hw)]
        clear hw
        go_wp2_with fail
        go_ret2
        exact ⟨HR.out.2.2.2.1, .inl ⟨HX.out, rfl⟩⟩
      | false =>
        rw [hw] at c2
        have hpt := HPt.out wr (F q).1 HCq.out hat
        unfold POut at hpt
        have HX : Hid (F (q + 1) = ((ptF (bytesOf s) (F q).1).2, (F q).2 ++ [(ptF (bytesOf s) (F q).1).1])) := by show _ = _; rw [HFq.out, hw]; rfl
        clear hw
        generalize ptF (bytesOf s) (F q).1 = pp at *
        go_wp2_with fail
        refine hpt.mono ?_
        rintro e w3 ⟨v3, rfl, hv3, hc3, ho3⟩
        have hz3 : wr.heap.size ≤ w3.heap.size := ho3.size
        have H3 : Hid (Cat w3 w.heap.size s pp.2 ∧ Below w.heap.size w w3 ∧ w3.ownsRow w1.heap.size 32 1 (.slice (some ⟨w1.heap.size, 0, none⟩) n 21) n X ∧ LLs w3 (w1.heap.size + 1) w1.heap.size (X ++ [v3]) ((F q).2 ++ [pp.1])) := by
          refine ⟨hc3, HR.out.2.2.2.1.trans (ho3.below (Nat.le_refl _) (by omega)), ownsRow_below HR.out.2.1 (fun k hk => ho3.block k (HR.out.2.1.lt k hk).2 (by cases hk; show w1.heap.size ≠ w.heap.size; omega)), ?_⟩
          have hL := HR.out.2.2.2.2.2
          refine (hL.same (w' := w3) (fun k hk hb _ => ho3.block k hk (by omega))).snoc hv3 (by omega) (by omega) (fun i hi k hk => ((hL.each i hi).lt k hk).2)
        have HF1 : Hid (∀ w5, (w3.alloc (.cells #[v3] 32)).grownBy w5 (some w1.heap.size) → w5.ownsRow w1.heap.size 32 1 (.slice (some ⟨w1.heap.size, 0, none⟩) (n + 1) 21) (n + 1) (X ++ [v3]) →
            n + 1 = (F (q + 1)).2.length ∧ w5.ownsRow w1.heap.size 32 1 (.slice (some ⟨w1.heap.size, 0, none⟩) (n + 1) 21) (n + 1) (X ++ [v3]) ∧ Cat w5 w.heap.size s (F (q + 1)).1 ∧ Below w.heap.size w w5 ∧ w1.heap.size < w5.heap.size ∧ LLs w5 (w1.heap.size + 1) w1.heap.size (X ++ [v3]) (F (q + 1)).2) := by
          intro w5 hg ho
          have hbk : ∀ k, k < w3.heap.size → k ≠ w1.heap.size → w5.heap[k]? = w3.heap[k]? := fun k hk hne => (hg.block k (by simp; omega) (by intro e; have := Option.some.inj e; omega)).trans (heap_alloc_old _ _ hk)
          have hs5 := hg.size
          rw [HX.out]
          refine ⟨by simp [HR.out.1], ho, At.same H3.out.1 (hbk _ (by omega) (by omega)), ?_, by simp at hs5; omega, H3.out.2.2.2.same (fun k hk _ hne => hbk k hk hne)⟩
          exact (H3.out.2.1.alloc H3.out.2.1.size _).grown hg (by simp; omega) (fun k hk => by cases hk; omega)
        have HV : Hid (PV w3 wr.heap.size v3 pp.1) := hv3
        clear hv3 hc3 ho3 hpt HX
        generalize pp.1 = oo at *
        cases oo with
        | none =>
          have hv : v3 = .slice none 0 0 := HV.out
          subst hv
          go_wp2_with (at_builtin; refine wpList_append_fits _ rfl (.tmp 24) (.tmp 26) 54 rfl w1.heap.size 32 i0 1 Tryz.underlying54 hi0 hz1 w1.heap.size n 21 _ rfl (H3.out.2.2.1.alloc _) ⟨w3.heap.size, 0, none⟩ 1 1 [Value.slice none 0 0] rfl rfl (by intro t u ht; match t, ht with | 0, ht => simp at ht; subst ht; exact World.cell?_alloc_at _ _ _ _ rfl) (by intro u hu; simp at hu; subst hu; rfl) (by omega) ?_; intro w5 hown5 hgrow5)
          go_roundw
          case rel => exact ⟨q + 1, n + 1, X ++ [Value.slice none 0 0], by omega, by go_num, by omega, rfl, HF1.out w5 hgrow5 hown5⟩
          case measure => simp [intOf]; omega
        | some l =>
          obtain ⟨g3, hg3, hv, -, -⟩ := HV.out
          subst hv
          go_wp2_with (at_builtin; refine wpList_append_fits _ rfl (.tmp 24) (.tmp 26) 54 rfl w1.heap.size 32 i0 1 Tryz.underlying54 hi0 hz1 w1.heap.size n 21 _ rfl (H3.out.2.2.1.alloc _) ⟨w3.heap.size, 0, none⟩ 1 1 [Value.slice (some ⟨g3, 0, none⟩) 32 32] rfl rfl (by intro t u ht; match t, ht with | 0, ht => simp at ht; subst ht; exact World.cell?_alloc_at _ _ _ _ rfl) (by intro u hu; simp at hu; subst hu; rfl) (by omega) ?_; intro w5 hown5 hgrow5)
          go_roundw
          case rel => exact ⟨q + 1, n + 1, X ++ [Value.slice (some ⟨g3, 0, none⟩) 32 32], by omega, by go_num, by omega, rfl, HF1.out w5 hgrow5 hown5⟩
          case measure => simp [intOf]; omega
    · have hqk : q = k := by omega
      subst hqk
      have hqi : ¬ (q : Int) < (q : Int) := by omega
      have HFin : Hid (∀ wr' : World, w.heap.size ≤ w1.heap.size → wr.ownsRow w1.heap.size 32 1 (.slice (some ⟨w1.heap.size, 0, none⟩) n 21) n X → n = (F q).2.length → wr.ownsRow w.heap.size 32 1 (.slice (some ⟨w1.heap.size, 0, none⟩) (F q).2.length 21) (F q).2.length X ∧ LLs wr w.heap.size w1.heap.size X (F q).2) := by
        intro _ hb ho hn
        rw [← hn]
        refine ⟨ownsRow_base' ho hb, ?_⟩
        have hL := HR.out.2.2.2.2.2
        refine ⟨hL.len, fun i hi => ?_, hL.away, hL.apart⟩
        have := hL.each i hi
        cases e : (F q).2.getD i none with
        | none => rw [e] at this; exact this
        | some l => rw [e] at this; obtain ⟨a, h1, h2⟩ := this; exact ⟨a, by omega, h2⟩
      cases hw : (F q).1.2 with
      | true =>
        rw [hw] at c2
        have HX : Hid (decF (bytesOf s) = none) := by show _ = _; rw [HE.out, if_pos (.inl hw)]
        clear hw
        go_wp2_with fail
        go_ret2
        exact ⟨HR.out.2.2.2.1, .inl ⟨HX.out, rfl⟩⟩
      | false =>
        rw [hw] at c2
        by_cases hl : (F q).1.1 = s.size
        · have HX : Hid (decF (bytesOf s) = some (F q).2) := by show _ = _; rw [HE.out, if_neg (by rw [hw, HLb.out]; simp [hl])]
          rw [hl] at c1
          have HN := (show Hid (_ = _) from HR.out.1)
          clear hw hl
          go_wp2_with fail
          go_ret2
          have hf := HFin.out wr (by omega) HR.out.2.1 HR.out.1
          refine ⟨HR.out.2.2.2.1, .inr ⟨(F q).2, w1.heap.size, X, HX.out, ?_, by omega, hf.1, hf.2⟩⟩
          rw [← HN.out]; rfl
        · have HX : Hid (decF (bytesOf s) = none) := by show _ = _; rw [HE.out, if_pos (.inr (by rw [HLb.out]; exact hl))]
          have hl' : (((F q).1.1 : Int) != (s.size : Int)) = true := by rw [bne_iff_ne]; omega
          clear hw hl
          go_wp2_with fail
          go_ret2
          exact ⟨HR.out.2.2.2.1, .inl ⟨HX.out, rfl⟩⟩

end Go.Proofs.YtffajooegiempaaGreatDoor

namespace Go.Proofs.YtffajooegiempaaGreatDoor
open Go.RowKit
variable {s : ByteArray}

theorem son_bytes (s : ByteArray) : strOfNums (bytesOf s) = s := by
  apply ByteArray.ext
  apply Array.toList_inj.1
  simp only [strOfNums, bytesOf, List.map_map]
  conv => rhs; rw [← List.map_id s.data.toList]
  apply List.map_congr_left
  intro b _
  show UInt8.ofNat (Int.toNat ((b.toNat : Nat) : Int)) = b
  rw [Int.toNat_natCast]
  exact UInt8.ofNat_toNat
theorem bytes_son {xs : List Int} (h : ∀ x, x ∈ xs → 0 ≤ x ∧ x ≤ 255) : bytesOf (strOfNums xs) = xs := by
  simp only [strOfNums, bytesOf, List.map_map]
  conv => rhs; rw [← List.map_id xs]
  apply List.map_congr_left
  intro x hx
  have := h x hx
  show (((UInt8.ofNat x.toNat).toNat : Nat) : Int) = x
  rw [UInt8.toNat_ofNat']
  omega
theorem tp_mem {l : List Int} : ∀ n x, x ∈ tpC l n → x.1 < n ∧ x.2 = l.getD x.1 0 ∧ x.2 ≠ 1000000
  | 0, x, h => by cases h
  | n + 1, x, h => by
    have h' : x ∈ tpC l n ++ (if l.getD n 0 = 1000000 then [] else [(n, l.getD n 0)]) := h
    rcases List.mem_append.1 h' with q | q
    · have := tp_mem n x q; exact ⟨by omega, this.2⟩
    · split at q
      · cases q
      · rename_i e
        rw [List.mem_singleton] at q
        subst q
        exact ⟨by show n < n + 1; omega, rfl, e⟩
theorem tl_byte {l : List Int} (hb : ∀ f, f < 32 → cBd (l.getD f 0)) {N : Nat} (hN : N ≤ 32) : ∀ x, x ∈ tl l N → 0 ≤ x ∧ x ≤ 255 := by
  intro x hx
  unfold tl at hx
  obtain ⟨y, hy, hxy⟩ := List.mem_flatMap.1 hx
  obtain ⟨h1, h2, h3⟩ := tp_mem N y hy
  have := (hb y.1 (by omega)).resolve_left (by rw [← h2]; exact h3)
  rw [← h2] at this
  unfold b3 at hxy
  simp only [List.mem_cons, List.not_mem_nil, or_false] at hxy
  rcases hxy with e | e | e <;> omega
theorem enc1_byte {r : Option (List Int)} (hr : okp r) : ∀ x, x ∈ enc1 r → 0 ≤ x ∧ x ≤ 255 := by
  cases r with
  | none => intro x hx; rw [show enc1 none = [0] from rfl, List.mem_singleton] at hx; omega
  | some l =>
    intro x hx
    rw [enc1_some] at hx
    have hc := ct_le l 32
    have ht := tl_byte (hr l rfl).2 (Nat.le_refl 32) x
    generalize tl l 32 = T at *
    generalize ct l 32 = C at *
    rcases List.mem_cons.1 hx with e | hx
    · omega
    · rcases List.mem_cons.1 hx with e | hx
      · omega
      · exact ht hx
theorem encs_byte {L : List (Option (List Int))} (hL : ∀ r, r ∈ L → okp r) : ∀ n x, x ∈ encs L n → 0 ≤ x ∧ x ≤ 255
  | 0, x, h => by cases h
  | n + 1, x, h => by
    have h' : x ∈ encs L n ++ enc1 (L.getD n none) := h
    rcases List.mem_append.1 h' with q | q
    · exact encs_byte hL n x q
    · exact enc1_byte (getD_ok hL n) x q
theorem encB_byte {L : List (Option (List Int))} (hL : ∀ r, r ∈ L → okp r) (h21 : L.length ≤ 21) : ∀ x, x ∈ encB L → 0 ≤ x ∧ x ≤ 255 := by
  intro x hx
  rcases List.mem_cons.1 hx with e | hx
  · omega
  · exact encs_byte hL _ x hx
theorem okp_gd {r : Option (List Int)} : okp r ↔ gdO r = true := by
  cases r with
  | none => exact ⟨fun _ => rfl, fun _ l e => by cases e⟩
  | some l =>
    show _ ↔ gdB l = true
    rw [gdB_ok]
    constructor
    · intro h
      obtain ⟨h1, h2⟩ := h l rfl
      exact ⟨h1, fun i hi => decide_eq_true (h2 i hi)⟩
    · rintro ⟨h1, h2⟩ l' e
      injection e with e
      subst e
      exact ⟨h1, fun f hf => by have := of_decide_eq_true (h2 f hf); exact this⟩
theorem gdA_okp {L : List (Option (List Int))} : gdA L L.length = true ↔ ∀ r, r ∈ L → okp r := by
  rw [gdA_all]
  constructor
  · intro h r hr
    obtain ⟨i, hi, e⟩ := List.getElem_of_mem hr
    have := h i hi
    rw [show L.getD i none = r by simp [List.getD, hi, e]] at this
    exact okp_gd.2 this
  · intro h i _
    exact okp_gd.1 (getD_ok h i)
/-- What the document's Decode says. -/
def decR (s : ByteArray) : Option (List (Option (List Int))) :=
  match looF (bytesOf s) with
  | none => none
  | some L => if (encR L).2 = 0 ∧ strOfNums (encR L).1 = s then some L else none
theorem decR_eq (s : ByteArray) : decR s = decF (bytesOf s) := by
  cases e : decF (bytesOf s) with
  | some L =>
    obtain ⟨h1, h2, h3, h4⟩ := dec_ok (bys s) e
    have hl := loo_yes h2 h3 h4 h1
    have he : encR L = (encB L, 0) := by unfold encR; rw [if_neg (by omega), if_pos (gdA_okp.2 h4)]
    unfold decR
    rw [hl]
    simp only
    rw [he, if_pos ⟨rfl, by rw [← h1, son_bytes]⟩]
  | none =>
    unfold decR
    cases q : looF (bytesOf s) with
    | none => rfl
    | some L =>
      simp only
      rw [if_neg]
      rintro ⟨h1, h2⟩
      unfold encR at h1 h2
      by_cases q1 : L.length < 1 ∨ 21 < L.length
      · rw [if_pos q1] at h1; cases h1
      · rw [if_neg q1] at h1 h2
        by_cases q2 : gdA L L.length = true
        · rw [if_pos q2] at h2
          have h4 := gdA_okp.1 q2
          have hb : bytesOf s = encB L := by
            rw [← show strOfNums (encB L) = s from h2]
            exact bytes_son (encB_byte h4 (by omega))
          rw [dec_yes (by omega) (by omega) h4 hb] at e
          cases e
        · rw [if_neg q2] at h1; cases h1

end Go.Proofs.YtffajooegiempaaGreatDoor

namespace Go.Proofs.YtffajooegiempaaGreatDoor
open Go.RowKit

theorem ownsRow_base {w : World} {B B' : Nat} {e : TypeId} {size : Nat} {v : Value} {n : Nat} {xs : List Value} (h : w.ownsRow B e size v n xs) (hB : B' ≤ B) : w.ownsRow B' e size v n xs := by
  obtain ⟨h1, h2⟩ := h
  refine ⟨h1, ?_⟩
  rcases h2 with h2 | ⟨g, cap, c, hv, hg, rest⟩
  · exact .inl h2
  · exact .inr ⟨g, cap, c, hv, by omega, rest⟩

/-- append to a row of the call's own: the row is the same, or a new one. -/
theorem run_append_own2 {P : Program} (w : World) (base : Nat) (t ty e : TypeId) (i : TypeInfo) (z : Value) (size bytes : Nat) (ht : P.underlying t = some (.slice e)) (hi : P.info? e = some i) (hz : i.zero = some z)
    (hsize : i.size = size) (hby : i.bytes = bytes) (hzs : z.cells.size = size) (hsz : 0 < size)
    (v : Value) (n : Nat) (xs : List Value) (hown : w.ownsRow base e size v n xs)
    (a : Addr) (m c : Nat) (news : List Value) (hl : news.length = m * size) (hnews : ∀ j u, news[j]? = some u → w.cell? (a.add j) = some u) (h1 : ∀ u ∈ news, u.oneCell' = true)
    (h63 : n + m ≤ maxLen) (hbytes : (n + m) * bytes ≤ 140737488355328) (hbase : base ≤ w.heap.size) :
    ∃ v' w', (Builtin.append_ #[t, t] ty #[v, .slice (some a) m c]).run P w = .ok v' w' ∧ w'.ownsRow base e size v' (n + m) (xs ++ news) ∧ w.grownBy w' v.ownBlock ∧
      (v'.ownBlock = v.ownBlock ∨ ∀ g, v'.ownBlock = some g → w.heap.size ≤ g) := by
  rcases hown.2 with ⟨rfl, rfl⟩ | ⟨g, cap, cur, rfl, hbg, hg, hnc, hcm, hcs, htake⟩
  · have hx : xs = [] := List.eq_nil_of_length_eq_zero (by simpa using hown.1)
    subst hx
    obtain ⟨v', w', h2, h3, h4, _⟩ := run_append_own (P := P) w w.heap.size t ty e i z size bytes ht hi hz hsize hby hzs hsz (.slice none 0 0) 0 [] (World.ownsRow_nil w _ e size) a m c news hl hnews h1 h63 hbytes (Nat.le_refl _)
    exact ⟨v', w', h2, ownsRow_base h3 hbase, h4, .inr fun g hg => (h3.lt g hg).1⟩
  · by_cases hroom : n + m ≤ cap
    · obtain ⟨w', h2, h3, h4⟩ := run_append_fits (P := P) w base t ty e i size ht hi hsize g n cap xs hown a m c news hl hnews h1 hroom
      exact ⟨_, w', h2, h3, h4, .inl rfl⟩
    · obtain ⟨v', w', h2, h3, h4⟩ := run_append_arg_grows (P := P) w t ty e i z size bytes ht hi hz hsize hby hzs hsz ⟨g, 0, none⟩ n cap xs hown.1 (hown.cells (g := g) rfl) a m c news hl hnews (by omega) h63 hbytes
      exact ⟨v', w', h2, ownsRow_base h3 hbase, ⟨h4.os, h4.tape, h4.output, h4.size, fun k hk _ => h4.block k hk (by simp)⟩, .inr fun g hg => (h3.lt g hg).1⟩

theorem wpList_append_own2 {P : Program} {w : World} {ops : Array Oper} {rest : List Oper} {o : Oper} {a : Act} {Q : Exit → Act → World → Prop} (hgd : o.guard = none) (s x : Operand) (t : TypeId)
    (ho : o.op = .call { callee := .builtin .append, args := #[s, x], argTypes := #[t, t] })
    (base : Nat) (e : TypeId) (i : TypeInfo) (z : Value) (size bytes : Nat) (ht : P.underlying t = some (.slice e)) (hi : P.info? e = some i) (hz : i.zero = some z)
    (hsize : i.size = size) (hby : i.bytes = bytes) (hzs : z.cells.size = size) (hsz : 0 < size)
    (v : Value) (n : Nat) (xs : List Value) (hs : a.eval s = v) (hown : w.ownsRow base e size v n xs)
    (ad : Addr) (m c : Nat) (news : List Value) (hx : a.eval x = .slice (some ad) m c) (hl : news.length = m * size) (hnews : ∀ j u, news[j]? = some u → w.cell? (ad.add j) = some u) (h1 : ∀ u ∈ news, u.oneCell' = true)
    (h63 : n + m ≤ maxLen) (hbytes : (n + m) * bytes ≤ 140737488355328) (hbase : base ≤ w.heap.size)
    (h : ∀ v' w', w'.ownsRow base e size v' (n + m) (xs ++ news) → w.grownBy w' v.ownBlock → (v'.ownBlock = v.ownBlock ∨ ∀ g, v'.ownBlock = some g → w.heap.size ≤ g) → wpList P ops Q rest (a.put o.dst v') w') : wpList P ops Q (o :: rest) a w := by
  refine wpList_plain hgd fun _ hK => ?_
  obtain ⟨v', w', hr, h2, h3, h4⟩ := run_append_own2 (P := P) w base t o.type e i z size bytes ht hi hz hsize hby hzs hsz v n xs hown ad m c news hl hnews h1 h63 hbytes hbase
  unfold Oper.wp execOp
  simp only [ho, resolve, invoke, builtin, Sem.run_bind, Sem.run_pure, Result.andThen_ok, List.map_toArray, List.map_cons, List.map_nil, hs, hx, hr]
  exact hK _ _ (h v' w' h2 h3 h4)

end Go.Proofs.YtffajooegiempaaGreatDoor

namespace Go.Proofs.YtffajooegiempaaGreatDoor
open Go.RowKit
variable {w : World} {s : ByteArray}

theorem addr_add (g i : Nat) : (⟨g, 0, none⟩ : Addr).add i = ⟨g, i, none⟩ := by unfold Addr.add; split <;> simp_all
/-- The lists so far, away from their row. -/
structure LLo (w : World) (base : Nat) (v : Value) (X : List Value) (L : List (Option (List Int))) : Prop where
  row : w.ownsRow base 32 1 v L.length X
  each : ∀ i, i < L.length → PV w base (X.getD i (.bool false)) (L.getD i none)
  away : ∀ i k, i < L.length → (X.getD i (.bool false)).ownBlock = some k → v.ownBlock ≠ some k
theorem LLo.len {base : Nat} {v : Value} {X : List Value} {L : List (Option (List Int))} (h : LLo w base v X L) : X.length = L.length := by have := h.row.1; simpa using this
theorem LLo.keep {w w' : World} {base B : Nat} {v : Value} {X : List Value} {L : List (Option (List Int))} (h : LLo w base v X L) (hb : Below B w w') (hB : w.heap.size ≤ B) : LLo w' base v X L :=
  ⟨ownsRow_below h.row (fun k hk => hb.block k (by have := (h.row.lt k hk).2; omega)), fun i hi => (h.each i hi).same (fun k hk => hb.block k (by have := ((h.each i hi).lt k hk).2; omega)), h.away⟩
theorem LLo.snoc {w w' : World} {base : Nat} {v v' x : Value} {X : List Value} {L : List (Option (List Int))} {o : Option (List Int)} (h : LLo w base v X L) (hx : PV w base x o) (hxv : ∀ k, x.ownBlock = some k → v.ownBlock ≠ some k)
    (hrow : w'.ownsRow base 32 1 v' (L.length + 1) (X ++ [x])) (hg : w.grownBy w' v.ownBlock) (hv : v'.ownBlock = v.ownBlock ∨ ∀ g, v'.ownBlock = some g → w.heap.size ≤ g) : LLo w' base v' (X ++ [x]) (L ++ [o]) := by
  have hl := h.len
  have hX : ∀ i, i < L.length → (X ++ [x]).getD i (.bool false) = X.getD i (.bool false) := fun i hi => by rw [getD_snocV, if_pos (by omega)]
  have hXn : (X ++ [x]).getD L.length (.bool false) = x := by rw [getD_snocV, if_neg (by omega), if_pos hl.symm]
  have hL : ∀ i, i < L.length → (L ++ [o]).getD i none = L.getD i none := fun i hi => by simp [List.getD, List.getElem?_append_left hi]
  have hLn : (L ++ [o]).getD L.length none = o := by simp [List.getD]
  have hlen : (L ++ [o]).length = L.length + 1 := by simp
  have hP : ∀ i, i < L.length + 1 → PV w base ((X ++ [x]).getD i (.bool false)) ((L ++ [o]).getD i none) ∧ ∀ k, ((X ++ [x]).getD i (.bool false)).ownBlock = some k → v.ownBlock ≠ some k := by
    intro i hi
    rcases Nat.lt_or_eq_of_le (Nat.lt_succ_iff.1 hi) with q | q
    · rw [hX i q, hL i q]; exact ⟨h.each i q, fun k hk => h.away i k q hk⟩
    · rw [q, hXn, hLn]; exact ⟨hx, hxv⟩
  refine ⟨by rw [hlen]; exact hrow, fun i hi => ?_, fun i k hi hk => ?_⟩
  · rw [hlen] at hi
    obtain ⟨h1, h2⟩ := hP i hi
    exact h1.same (fun k hk => hg.block k (h1.lt k hk).2 (fun e => h2 k hk e.symm))
  · rw [hlen] at hi
    obtain ⟨h1, h2⟩ := hP i hi
    rcases hv with e | e
    · rw [e]; exact h2 k hk
    · intro e'
      have := e k e'
      have := (h1.lt k hk).2
      omega
theorem LLo.reads {base : Nat} {v : Value} {X : List Value} {L : List (Option (List Int))} (h : LLo w base v X L) (hn : 1 ≤ L.length) : ReadsL w v L ∧ ∃ a n c, v = .slice (some a) n c := by
  rcases h.row.2 with ⟨_, e⟩ | ⟨g, cap, cur, rfl, hg, hh, hcap, _, hsz, htk⟩
  · omega
  · refine ⟨⟨some ⟨g, 0, none⟩, cap, rfl, hcap, fun _ => ⟨g, 0, rfl, (h.row.lt g rfl).2, fun i hi => ?_⟩⟩, _, _, _, rfl⟩
    have hXi : X[i]? = some (X.getD i (.bool false)) := by simp [List.getD, show i < X.length by rw [h.len]; exact hi]
    have hc := h.row.cells (g := g) rfl i _ hXi
    rw [addr_add] at hc
    refine ⟨_, by rw [Nat.zero_add]; exact hc, ?_⟩
    have hp := h.each i hi
    cases e : L.getD i none with
    | none => rw [e] at hp; exact hp
    | some l =>
      rw [e] at hp
      obtain ⟨a, _, hv, hat, hl⟩ := hp
      rw [hv]
      exact ⟨Reads.at_ hat hl (Nat.le_refl _) (fun j hj => ic_get _ _ (by omega)), _, _, _, rfl⟩
/-- A place of a byte. -/
theorem byte_at (s : ByteArray) (k : Nat) (h : k < s.size) : (bytesOf s).getD k 0 = ((s[k]).toNat : Int) := by rw [List.getD_eq_getElem?_getD, bytesOf_get s k h]; rfl

/-- What the document's Decode gives. -/
def ROut (w : World) (s : ByteArray) : Ending → World → Prop := fun e w' => Below w.heap.size w w' ∧
  ((decR s = none ∧ e = .returned (.tuple #[.slice none 0 0, .int .i64 4])) ∨
   ∃ L v, decR s = some L ∧ e = .returned (.tuple #[v, .int .i64 0]) ∧ ReadsL w' v L ∧ ∃ a n c, v = .slice (some a) n c)

set_option maxRecDepth 100000 in
set_option maxHeartbeats 3200000 in
theorem r_decode_bad (_hs : s.size ≤ 9223372036854775807) (hbad : s.size < 1 ∨ (bytesOf s).getD 0 0 < 1 ∨ 21 < (bytesOf s).getD 0 0) : Calls Tryz.prog 26 #[.string s] w (ROut w s) := by
  have HE : Hid (decR s = none) := by
    show _ = _
    unfold decR looF
    rw [bytesOf_len, if_pos hbad]
  by_cases h0 : s.size < 1
  · have hz : s.size = 0 := by omega
    have h1 : (s.size : Int) < 1 := by omega
    clear hbad
    go_enter Tryz.func26, Tryz.ntmps26
    go_wp2_with fail
    go_ret2
    exact ⟨Below.refl _ _, .inl ⟨HE.out, rfl⟩⟩
  · have h1 : ¬ (s.size : Int) < 1 := by omega
    have h0' : 0 < s.size := by omega
    rw [byte_at s 0 h0'] at hbad
    have hb := hbad.resolve_left h0
    by_cases h2 : ((s[0]).toNat : Int) < 1
    · clear hbad hb
      go_enter Tryz.func26, Tryz.ntmps26
      go_wp2_with fail
      go_ret2
      exact ⟨Below.refl _ _, .inl ⟨HE.out, rfl⟩⟩
    · have h3 : (21 : Int) < ((s[0]).toNat : Int) := by omega
      clear hbad hb
      go_enter Tryz.func26, Tryz.ntmps26
      go_wp2_with fail
      go_ret2
      exact ⟨Below.refl _ _, .inl ⟨HE.out, rfl⟩⟩
end Go.Proofs.YtffajooegiempaaGreatDoor

/- The states of an octagon keep to what is made of its bounds. -/
namespace Go.Proofs.YtffajooegiempaaGreatDoor

theorem tdiv2 (x : Int) : (0 ≤ x → x.tdiv 2 = x / 2) ∧ (x < 0 → x.tdiv 2 = -((-x) / 2)) := by
  constructor
  · intro h; exact Int.tdiv_eq_ediv_of_nonneg h
  · intro h
    have : x.tdiv 2 = -((-x).tdiv 2) := by rw [Int.neg_tdiv, Int.neg_neg]
    rw [this, Int.tdiv_eq_ediv_of_nonneg (by omega)]
theorem tdiv2_le (x : Int) : x.tdiv 2 * 2 ≤ x + 1 ∧ x - 1 ≤ x.tdiv 2 * 2 := by
  have h := tdiv2 x
  rcases Int.lt_or_le x 0 with e | e
  · rw [h.2 e]; omega
  · rw [h.1 e]; omega

theorem rdF_at (M : Nat → Int) : ∀ n a, rdF M n a = if a % 9 = 0 ∧ a / 9 < n ∧ M a ≠ NB then M a / 2 * 2 else M a := by
  intro n
  induction n with
  | zero => intro a; rw [rdF, if_neg (by omega)]
  | succ n ih =>
    intro a
    rw [rdF]
    unfold rd1
    have hn : rdF M n (n * 8 + n) = M (n * 8 + n) := by rw [ih, if_neg (by omega)]
    rw [hn]
    by_cases e : a = n * 8 + n
    · subst e
      split
      · rename_i h; rw [hn, if_neg (fun q => q.2.2 h)]
      · rename_i h; rw [upd_same, if_pos ⟨by omega, by omega, h⟩]
    · have hne : ¬ (a % 9 = 0 ∧ a / 9 = n) := by omega
      have : (if M (n * 8 + n) = NB then rdF M n else upd (rdF M n) (n * 8 + n) (M (n * 8 + n) / 2 * 2)) a = rdF M n a := by
        split
        · rfl
        · exact upd_other _ _ e
      rw [this, ih]
      by_cases q : a % 9 = 0 ∧ a / 9 < n ∧ M a ≠ NB
      · rw [if_pos q, if_pos ⟨q.1, by omega, q.2.2⟩]
      · rw [if_neg q, if_neg (fun p => q ⟨p.1, by omega, p.2.2⟩)]
theorem rdF_lo {L : Int} {M : Nat → Int} (h : Lo L M) (n : Nat) : Lo (L + 1) (rdF M n) := by
  intro a ha
  have := h a ha
  rw [rdF_at]
  split <;> omega
theorem ah1_lo {L : Int} {M : Nat → Int} (hL : 0 ≤ L) (h : Lo L M) {k : Nat} (hk : k < 64) : Lo L (ah1 M k) := by
  intro a ha
  have h1 := h (k / 8 * 8 + k / 8) (by omega)
  have h2 := h (k % 8 * 8 + k % 8) (by omega)
  have h3 := h a ha
  have := pl_ge h1 h2 (by omega)
  unfold ah1
  split
  · unfold upd
    split
    · have := tdiv2_le (pl (M (k / 8 * 8 + k / 8)) (M (k % 8 * 8 + k % 8))); omega
    · exact h3
  · exact h3
theorem ahF_lo {L : Int} {M : Nat → Int} (hL : 0 ≤ L) (h : Lo L M) : ∀ k, k ≤ 64 → Lo L (ahF M k) := by
  intro k
  induction k with
  | zero => intro _; exact h
  | succ k ih => intro hk; rw [ahF]; exact ah1_lo hL (ih (by omega)) (by omega)

/-- The value of a side. -/
def sd (v : Nat → Int) (i : Nat) : Int := if i % 2 = 0 then v (i / 2) else -v (i / 2)
theorem sd_opp (v : Nat → Int) (i : Nat) : sd v (opp i) = -sd v i := by
  unfold sd opp
  by_cases h : i % 2 = 0
  · rw [if_pos h, if_pos h, if_neg (by omega), show (i + 1) / 2 = i / 2 by omega]
  · rw [if_neg h, if_neg h, if_pos (by omega), show (i - 1) / 2 = i / 2 by omega, Int.neg_neg]
/-- A state keeps to the bounds. -/
def Sat (v : Nat → Int) (M : Nat → Int) : Prop := ∀ i j, i < 8 → j < 8 → M (i * 8 + j) = NB ∨ sd v i + sd v j ≤ M (i * 8 + j)
theorem pl_fin {a b : Int} (h : pl a b ≠ NB) : a ≠ NB ∧ b ≠ NB ∧ pl a b = a + b := by
  unfold pl at h ⊢
  by_cases q : a = NB ∨ b = NB
  · rw [if_pos q] at h; exact absurd rfl h
  · rw [if_neg q]; exact ⟨fun e => q (.inl e), fun e => q (.inr e), rfl⟩
theorem Sat.ch1 {v M : Nat → Int} (h : Sat v M) {s k : Nat} (hs : s < 8) (_hk : k < 64) : Sat v (ch1 s M k) := by
  intro i j hi hj
  unfold Go.Proofs.YtffajooegiempaaGreatDoor.ch1
  split
  · unfold upd
    split
    · rename_i e
      have e1 : k / 8 = i := by omega
      have e2 : k % 8 = j := by omega
      rw [e1, e2]
      by_cases q : pl (M (i * 8 + opp s)) (M (s * 8 + j)) = NB
      · exact .inl q
      · obtain ⟨q1, q2, q3⟩ := pl_fin q
        right
        rw [q3]
        have a1 := (h i (opp s) hi (opp_lt hs)).resolve_left q1
        have a2 := (h s j hs hj).resolve_left q2
        rw [sd_opp] at a1
        omega
    · exact h i j hi hj
  · exact h i j hi hj
theorem Sat.chF {v M : Nat → Int} (h : Sat v M) {s : Nat} (hs : s < 8) : ∀ k, k ≤ 64 → Sat v (chF s M k) := by
  intro k
  induction k with
  | zero => intro _; exact h
  | succ k ih => intro hk; rw [Go.Proofs.YtffajooegiempaaGreatDoor.chF]; exact (ih (by omega)).ch1 hs (by omega)
theorem Sat.fw {v M : Nat → Int} (h : Sat v M) : ∀ s, s ≤ 8 → Sat v (fw M s) := by
  intro s
  induction s with
  | zero => intro _; exact h
  | succ s ih => intro hs; rw [Go.Proofs.YtffajooegiempaaGreatDoor.fw]; exact (ih (by omega)).chF (by omega) 64 (Nat.le_refl _)
theorem Sat.rdF {v M : Nat → Int} (h : Sat v M) (n : Nat) : Sat v (rdF M n) := by
  intro i j hi hj
  rw [rdF_at]
  split
  · rename_i q
    have e : i = j := by omega
    subst e
    have := (h i i hi hi).resolve_left q.2.2
    right
    omega
  · exact h i j hi hj
theorem Sat.ah1 {v M : Nat → Int} (h : Sat v M) {k : Nat} (_hk : k < 64) : Sat v (ah1 M k) := by
  intro i j hi hj
  unfold Go.Proofs.YtffajooegiempaaGreatDoor.ah1
  split
  · rename_i q
    unfold upd
    split
    · rename_i e
      have e1 : k / 8 = i := by omega
      have e2 : k % 8 = j := by omega
      rw [e1, e2] at q ⊢
      obtain ⟨q1, q2, q3⟩ := pl_fin q.1
      have a1 := (h i i hi hi).resolve_left q1
      have a2 := (h j j hj hj).resolve_left q2
      have := tdiv2 (pl (M (i * 8 + i)) (M (j * 8 + j)))
      right
      rcases Int.lt_or_le (pl (M (i * 8 + i)) (M (j * 8 + j))) 0 with e | e
      · rw [this.2 e]; omega
      · rw [this.1 e]; omega
    · exact h i j hi hj
  · exact h i j hi hj
theorem Sat.ahF {v M : Nat → Int} (h : Sat v M) : ∀ k, k ≤ 64 → Sat v (ahF M k) := by
  intro k
  induction k with
  | zero => intro _; exact h
  | succ k ih => intro hk; rw [Go.Proofs.YtffajooegiempaaGreatDoor.ahF]; exact (ih (by omega)).ah1 (by omega)
theorem Sat.sharp {v M : Nat → Int} (h : Sat v M) : Sat v (sharp M) := ((h.fw 8 (Nat.le_refl _)).rdF 8).ahF 64 (Nat.le_refl _)
theorem conF_true {M : Nat → Int} : ∀ {n : Nat}, conF M n = true → ∃ i, i < n ∧ M (i * 8 + opp i) < 0 := by
  intro n
  induction n with
  | zero => intro h; cases h
  | succ n ih =>
    intro h
    rw [conF, Bool.or_eq_true] at h
    rcases h with h | h
    · obtain ⟨i, hi, h⟩ := ih h
      exact ⟨i, by omega, h⟩
    · exact ⟨n, by omega, of_decide_eq_true h⟩
/-- An octagon that has a state is not found to be empty. -/
theorem Sat.some {v M : Nat → Int} (h : Sat v M) : conF M 8 = false := by
  cases e : conF M 8 with
  | false => rfl
  | true =>
    obtain ⟨i, hi, h1⟩ := conF_true e
    rcases h i (opp i) hi (opp_lt hi) with q | q
    · rw [q] at h1; exact absurd h1 (by decide)
    · rw [sd_opp] at q; omega
theorem sharp_lo {M : Nat → Int} (h : Lo 8000 M) : Lo (8000 * 6 ^ 8 + 1) (sharp M) := ahF_lo (by decide) (rdF_lo (fw_lo (by decide) h 8 (Nat.le_refl _)) 8) 64 (Nat.le_refl _)

end Go.Proofs.YtffajooegiempaaGreatDoor

