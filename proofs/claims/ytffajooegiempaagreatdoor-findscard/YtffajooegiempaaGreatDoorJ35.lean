import Derived.Test.YtffajooegiempaaGreatDoorJ34
import Derived.Deep.RegionHeld3
import Derived.Deep.MidRow
/- The search: its places, and what its steps make of them. -/
namespace Go.Proofs.YtffajooegiempaaGreatDoor
open Go.RowKit

/-- A point: what is claimed there, and whether it waits. -/
structure Pl where
  e : Bool
  M : Nat → Int
  wt : Bool
def p0 : Pl := ⟨true, fun _ => 0, false⟩
abbrev SS := List Pl × Bool
def clmS (s : SS) (pt : Int) (e : Bool) (M : Nat → Int) : SS :=
  if pt < 0 ∨ (s.1.length : Int) ≤ pt then s
  else if wiB e (s.1.getD pt.toNat p0).e M (s.1.getD pt.toNat p0).M = true then s
  else (s.1.set pt.toNat ⟨joE (s.1.getD pt.toNat p0).e e, joM (s.1.getD pt.toNat p0).e e (s.1.getD pt.toNat p0).M M, true⟩, true)
def wysS (F : List Ds) (k : Nat) (e : Bool) (M : Nat → Int) (s : SS) : Nat → SS
  | 0 => s
  | n + 1 => clmS (wysS F k e M s n) (nextP F k n).1 (poE e M (F.getD k (newDs 0 0)) n) (poM e M (F.getD k (newDs 0 0)) n)
def flwS (F : List Ds) (k : Nat) (e : Bool) (M : Nat → Int) (s : SS) : SS :=
  if k < F.length then (if sfP e M (F.getD k (newDs 0 0)) = true then wysS F k e M s (waysP (F.getD k (newDs 0 0)).kind).toNat else s) else s
def pntS (F : List Ds) (k : Nat) (s : SS) : SS :=
  if (s.1.getD k p0).wt = true then flwS F k (s.1.getD k p0).e (s.1.getD k p0).M (s.1.set k ⟨(s.1.getD k p0).e, (s.1.getD k p0).M, false⟩, s.2) else s
def rndS (F : List Ds) (s : SS) : Nat → SS
  | 0 => (s.1, false)
  | n + 1 => pntS F n (rndS F s n)
def itS (F : List Ds) : Nat → SS → SS
  | 0, s => s
  | r + 1, s => if s.2 = true then itS F r (rndS F s s.1.length) else s
theorem clmS_len (s : SS) (pt : Int) (e : Bool) (M : Nat → Int) : (clmS s pt e M).1.length = s.1.length := by
  unfold clmS
  split
  · rfl
  · split
    · rfl
    · simp
theorem wysS_len (F : List Ds) (k : Nat) (e : Bool) (M : Nat → Int) (s : SS) : ∀ n, (wysS F k e M s n).1.length = s.1.length
  | 0 => rfl
  | n + 1 => by rw [wysS, clmS_len, wysS_len F k e M s n]
theorem flwS_len (F : List Ds) (k : Nat) (e : Bool) (M : Nat → Int) (s : SS) : (flwS F k e M s).1.length = s.1.length := by
  unfold flwS
  split
  · split
    · exact wysS_len F k e M s _
    · rfl
  · rfl
theorem pntS_len (F : List Ds) (k : Nat) (s : SS) : (pntS F k s).1.length = s.1.length := by
  unfold pntS
  split
  · rw [flwS_len]; simp
  · rfl
theorem rndS_len (F : List Ds) (s : SS) : ∀ n, (rndS F s n).1.length = s.1.length
  | 0 => rfl
  | n + 1 => by rw [rndS, pntS_len, rndS_len F s n]

/-- The cells of a point. -/
def plc (p : Pl) : List Value := (oc p.e p.M).toList ++ [.bool p.wt]
theorem plc_len (p : Pl) : (plc p).length = 66 := by simp [plc, oc_size]
theorem plc_oc (p : Pl) {k : Nat} (hk : k < 65) : (plc p)[k]? = (oc p.e p.M)[k]? := by
  unfold plc
  rw [List.getElem?_append_left (by simp [oc_size]; omega)]
  simp
theorem plc_wt (p : Pl) : (plc p)[65]? = some (.bool p.wt) := by
  unfold plc
  rw [List.getElem?_append_right (by simp [oc_size])]
  simp [oc_size]

abbrev tSe : TypeId := 86
abbrev tPl : TypeId := 128
/-- What a walk may write: two blocks. -/
structure On2 (s g : Nat) (w w' : World) : Prop where
  os : w'.os = w.os
  tape : w'.tape = w.tape
  output : w'.output = w.output
  size : w.heap.size ≤ w'.heap.size
  block : ∀ k, k < w.heap.size → k ≠ s → k ≠ g → w'.heap[k]? = w.heap[k]?
variable {s g : Nat} {w w' a b c : World}
theorem On2.refl (s g : Nat) (w : World) : On2 s g w w := ⟨rfl, rfl, rfl, Nat.le_refl _, fun _ _ _ _ => rfl⟩
theorem On2.trans (h : On2 s g a b) (k : On2 s g b c) : On2 s g a c :=
  ⟨k.os.trans h.os, k.tape.trans h.tape, k.output.trans h.output, Nat.le_trans h.size k.size, fun i hi h1 h2 => (k.block i (Nat.lt_of_lt_of_le hi h.size) h1 h2).trans (h.block i hi h1 h2)⟩
theorem On2.of {B : Nat} (h : Below B w w') (hB : w.heap.size ≤ B) (s g : Nat) : On2 s g w w' := ⟨h.os, h.tape, h.output, h.size, fun k hk _ _ => h.block k (by omega)⟩
theorem On2.setCell (h : On2 s g a b) {q : Nat} (hq : q = s ∨ q = g) (o : Nat) (u : Value) : On2 s g a (b.setCell ⟨q, o, none⟩ u) :=
  ⟨h.os, h.tape, h.output, by have := h.size; simpa [World.setCell] using this, fun k hk h1 h2 => (Below.heap_setCell _ _ _ _ (by show k ≠ q; omega)).trans (h.block k hk h1 h2)⟩
theorem On2.setCells : ∀ (vs : List Value) (o : Nat) (b : World), On2 s g a b → On2 s g a (b.setCells g o vs)
  | [], _, _, h => h
  | _ :: r, o, _, h => On2.setCells r (o + 1) _ (h.setCell (.inr rfl) o _)
theorem On2.below (h : On2 s g a b) {B : Nat} (h1 : B ≤ s) (h2 : B ≤ g) (h3 : B ≤ a.heap.size) : Below B a b := ⟨h.os, h.tape, h.output, h.size, fun k hk => h.block k (by omega) (by omega) (by omega)⟩
theorem On2.at_ {q : Nat} {c : Array Value} {t : TypeId} (h : On2 s g w w') (ha : At w q c t) (h1 : q ≠ s) (h2 : q ≠ g) : At w' q c t := ha.same (h.block q ha.lt h1 h2)
theorem On2.cell (h : On2 s g w w') {q : Nat} (hq : q < w.heap.size) (h1 : q ≠ s) (h2 : q ≠ g) (i : Nat) : w'.cell? ⟨q, i, none⟩ = w.cell? ⟨q, i, none⟩ := World.cell?_of_block (a := ⟨q, i, none⟩) (h.block q hq h1 h2)
theorem At.setCells {t : TypeId} : ∀ (vs : List Value) (o : Nat) (C : Array Value) (w : World), At w g C t → ∃ C', At (w.setCells g o vs) g C' t ∧ C'.size = C.size
  | [], _, C, _, h => ⟨C, h, rfl⟩
  | v :: r, o, C, w, h => by
    obtain ⟨C', h1, h2⟩ := At.setCells r (o + 1) _ _ (h.put o v)
    exact ⟨C', h1, by rw [h2]; simp⟩

/-- The search's memory. -/
structure SSt (w : World) (s g : Nat) (pv : Value) (P : SS) : Prop where
  sa : At w s #[pv, .slice (some ⟨g, 0, none⟩) P.1.length 21, .bool P.2] tSe
  ga : ∃ C, At w g C tPl ∧ P.1.length * 66 ≤ C.size
  pl : ∀ i k, i < P.1.length → k < 66 → w.cell? ⟨g, i * 66 + k, none⟩ = (plc (P.1.getD i p0))[k]?
theorem SSt.ne {pv : Value} {P : SS} (h : SSt w s g pv P) : s ≠ g := by
  obtain ⟨C, h1, _⟩ := h.ga
  exact At.ne h.sa h1 (by decide)
theorem SSt.glt {pv : Value} {P : SS} (h : SSt w s g pv P) : g < w.heap.size := by
  obtain ⟨C, h1, _⟩ := h.ga
  exact h1.lt
theorem SSt.keep {pv : Value} {P : SS} (h : SSt w s g pv P) (hb : Below w.heap.size w w') : SSt w' s g pv P := by
  obtain ⟨C, h1, h2⟩ := h.ga
  exact ⟨h.sa.keep hb h.sa.lt, ⟨C, h1.keep hb h1.lt, h2⟩, fun i k hi hk => (hb.cell (by exact h1.lt)).trans (h.pl i k hi hk)⟩
theorem SSt.there {pv : Value} {P : SS} (h : SSt w s g pv P) {i : Nat} (hi : i < P.1.length) : w.there g (i * 66) 65 := by
  obtain ⟨C, h1, h2⟩ := h.ga
  intro j hj
  refine ⟨?_, h1.free _⟩
  rw [h1.cell, Array.getElem?_eq_getElem (show i * 66 + j < C.size by omega)]
  rfl
theorem SSt.oct {pv : Value} {P : SS} (h : SSt w s g pv P) {i : Nat} (hi : i < P.1.length) : w.rangeAt g (i * 66) (oc (P.1.getD i p0).e (P.1.getD i p0).M).toList := by
  intro j v hv
  have hj : j < 65 := by
    rcases Nat.lt_or_ge j 65 with q | q
    · exact q
    · rw [List.getElem?_eq_none (by simp [oc_size]; omega)] at hv; cases hv
  rw [h.pl i j hi (by omega), plc_oc _ hj, ← Array.getElem?_toList]
  exact hv
theorem SSt.row {pv : Value} {P : SS} (h : SSt w s g pv P) {i : Nat} (hi : i < P.1.length) : w.rangeAt g (i * 66) (plc (P.1.getD i p0)) := by
  intro j v hv
  have hj : j < 66 := by
    rcases Nat.lt_or_ge j 66 with q | q
    · exact q
    · rw [List.getElem?_eq_none (by rw [plc_len]; omega)] at hv; cases hv
  rw [h.pl i j hi hj]
  exact hv
theorem plset_at {P : List Pl} {k : Nat} (hk : k < P.length) (i : Nat) (p : Pl) : (P.set k p).getD i p0 = if i = k then p else P.getD i p0 := by
  rw [List.getD_eq_getElem?_getD, List.getElem?_set]
  by_cases e : k = i
  · subst e; simp [hk]
  · rw [if_neg e, if_neg (Ne.symm e), List.getD_eq_getElem?_getD]
/-- A claim is written. -/
theorem SSt.setO {pv : Value} {P : SS} (h : SSt w s g pv P) {k : Nat} (hk : k < P.1.length) (e : Bool) (M : Nat → Int) : SSt (w.setCells g (k * 66) (oc e M).toList) s g pv (P.1.set k ⟨e, M, (P.1.getD k p0).wt⟩, P.2) := by
  obtain ⟨C, h1, h2⟩ := h.ga
  have hth := h.there hk
  have hl : (oc e M).toList.length = 65 := by simp [oc_size]
  refine ⟨?_, ?_, ?_⟩
  · have := (On2.setCells (s := g) (g := g) (oc e M).toList (k * 66) w (On2.refl g g w)).at_ h.sa h.ne h.ne
    simpa using this
  · obtain ⟨C', h3, h4⟩ := At.setCells (oc e M).toList (k * 66) C w h1
    exact ⟨C', h3, by simp; omega⟩
  · intro i j hi hj
    have hi' : i < P.1.length := by simpa using hi
    show _ = (plc ((P.1.set k ⟨e, M, (P.1.getD k p0).wt⟩).getD i p0))[j]?
    rw [plset_at hk]
    by_cases c : i = k
    · subst c
      rw [if_pos rfl]
      by_cases hj5 : j < 65
      · rw [World.cell?_setCells_in g _ (i * 66) w (fun q hq => (hth q (by omega)).1) j (by omega), plc_oc _ hj5, ← Array.getElem?_toList]
        exact (List.getElem?_eq_getElem (by rw [hl]; exact hj5)).symm
      · have : j = 65 := by omega
        subst this
        rw [World.cell?_setCells_out g _ (i * 66) w _ (fun _ _ => .inr (by show _ ≤ i * 66 + 65; omega)), h.pl i 65 hi' (by omega), plc_wt, plc_wt]
    · rw [if_neg c, World.cell?_setCells_out g _ (k * 66) w _ (fun _ _ => by show i * 66 + j < k * 66 ∨ _ ≤ i * 66 + j; omega)]
      exact h.pl i j hi' hj
/-- That a point waits is written. -/
theorem SSt.setW {pv : Value} {P : SS} (h : SSt w s g pv P) {k : Nat} (hk : k < P.1.length) (v : Bool) : SSt (w.setCell ⟨g, k * 66 + 65, none⟩ (.bool v)) s g pv (P.1.set k ⟨(P.1.getD k p0).e, (P.1.getD k p0).M, v⟩, P.2) := by
  obtain ⟨C, h1, h2⟩ := h.ga
  refine ⟨?_, ?_, ?_⟩
  · have := h.sa.other (a := g) (k * 66 + 65) (.bool v) h.ne
    simpa using this
  · exact ⟨_, h1.put _ _, by simpa using h2⟩
  · intro i j hi hj
    have hi' : i < P.1.length := by simpa using hi
    show _ = (plc ((P.1.set k ⟨(P.1.getD k p0).e, (P.1.getD k p0).M, v⟩).getD i p0))[j]?
    rw [plset_at hk]
    have hold := h.pl i j hi' hj
    by_cases c : i = k ∧ j = 65
    · obtain ⟨rfl, rfl⟩ := c
      rw [if_pos rfl, plc_wt]
      rw [plc_wt] at hold
      exact World.cell?_setCell_same _ _ _ hold
    · rw [World.cell?_setCell_other _ _ _ _ (fun z => by
        have := congrArg Addr.off z
        exact c (by have : k * 66 + 65 = i * 66 + j := this; omega)), hold]
      by_cases c2 : i = k
      · subst c2
        rw [if_pos rfl, plc_oc _ (show j < 65 by omega), plc_oc _ (show j < 65 by omega)]
      · rw [if_neg c2]
theorem SSt.setG {pv : Value} {P : SS} (h : SSt w s g pv P) (v : Bool) : SSt (w.setCell ⟨s, 2, none⟩ (.bool v)) s g pv (P.1, v) := by
  obtain ⟨C, h1, h2⟩ := h.ga
  refine ⟨?_, ?_, ?_⟩
  · have := h.sa.put 2 (.bool v)
    simpa using this
  · exact ⟨C, h1.other _ _ (Ne.symm h.ne), h2⟩
  · intro i j hi hj
    rw [World.cell?_setCell_other _ _ _ _ (fun z => h.ne (congrArg Addr.block z))]
    exact h.pl i j hi hj

end Go.Proofs.YtffajooegiempaaGreatDoor

namespace Go.Proofs.YtffajooegiempaaGreatDoor
open Go.RowKit
variable {s g : Nat} {w : World} {pv : Value} {P : SS}
theorem OAt.range {b : Nat} {e : Bool} {M : Nat → Int} (h : OAt w b e M) : w.rangeAt b 0 (oc e M).toList := by
  intro j v hv
  rw [Nat.zero_add, At.cell h, ← Array.getElem?_toList]
  exact hv
set_option maxRecDepth 100000 in
set_option maxHeartbeats 3200000 in
theorem s_claim (h : SSt w s g pv P) (pt : Int) (e : Bool) (M : Nat → Int) :
    Calls Tryz.prog 53 #[.pointer (some ⟨s, 0, none⟩), .int .i64 pt, .agg (oc e M)] w fun x w' => x = .returned (.tuple #[]) ∧ SSt w' s g pv (clmS P pt e M) ∧ On2 s g w w' := by
  obtain ⟨M0, hM0⟩ : ∃ M0 : Nat → Int, M0 = fun _ => 0 := ⟨_, rfl⟩
  have hz : ∀ w, (zeroValue tO).run Tryz.prog w = .ok (.agg (oc false M0)) w := by rw [hM0]; exact o_zero
  have ho3 : (oc false M0).size = 65 := oc_size _ _
  have ho4 : ¬ oc false M0 = #[] := fun h => by have := congrArg Array.size h; rw [oc_size] at this; simp at this
  have HFr : Hid (∀ (w : World) e M, ∃ w2, (storeCells ⟨w.heap.size, 0, none⟩ (oc e M).toList).run Tryz.prog (w.alloc (.cells (oc false M0) tO)) = .ok () w2 ∧ OAt w2 w.heap.size e M ∧ Below w.heap.size w w2 ∧ w.heap.size < w2.heap.size) := by rw [hM0]; exact fun w e M => o_fresh w e M
  clear hM0
  have hb1 : Below w.heap.size w (w.alloc (.cells (oc e M) tO)) := (Below.refl _ _).alloc (Nat.le_refl _) _
  have H1 : Hid (SSt (w.alloc (.cells (oc e M) tO)) s g pv P ∧ OAt (w.alloc (.cells (oc e M) tO)) w.heap.size e M ∧ Below w.heap.size w (w.alloc (.cells (oc e M) tO))) := ⟨h.keep hb1, At.new _ _ _, hb1⟩
  have c1 : (w.alloc (.cells (oc e M) tO)).cell? ⟨s, 1, none⟩ = some (.slice (some ⟨g, 0, none⟩) P.1.length 21) := H1.out.1.sa.cell 1
  have HC : Hid (clmS P pt e M = if pt < 0 ∨ (P.1.length : Int) ≤ pt then P else if wiB e (P.1.getD pt.toNat p0).e M (P.1.getD pt.toNat p0).M = true then P else (P.1.set pt.toNat ⟨joE (P.1.getD pt.toNat p0).e e, joM (P.1.getD pt.toNat p0).e e (P.1.getD pt.toNat p0).M M, true⟩, true)) := rfl
  have hsl := h.sa.lt
  have hgl := h.glt
  have hne := h.ne
  by_cases p0_ : pt < 0
  · have HE : Hid (clmS P pt e M = P) := HC.out.trans (if_pos (.inl p0_))
    clear h hb1
    go_enter Tryz.func53, Tryz.ntmps53
    go_wp2_with fail
    try simp only [Exit.inBlock, Exit.then]
    refine bodyPost_ret (results_none rfl _ _ _) rfl ?_
    exact ⟨rfl, by rw [HE.out]; exact H1.out.1, On2.of H1.out.2.2 (Nat.le_refl _) _ _⟩
  · by_cases p1 : (P.1.length : Int) ≤ pt
    · have HE : Hid (clmS P pt e M = P) := HC.out.trans (if_pos (.inr p1))
      clear h hb1
      go_enter Tryz.func53, Tryz.ntmps53
      go_wp2_with fail
      try simp only [Exit.inBlock, Exit.then]
      refine bodyPost_ret (results_none rfl _ _ _) rfl ?_
      exact ⟨rfl, by rw [HE.out]; exact H1.out.1, On2.of H1.out.2.2 (Nat.le_refl _) _ _⟩
    · obtain ⟨k, rfl⟩ : ∃ k : Nat, pt = (k : Int) := ⟨pt.toNat, by omega⟩
      have hk : k < P.1.length := by omega
      have hk0 : (0 : Int) ≤ (k : Int) := Int.natCast_nonneg _
      have hki : (k : Int) < (P.1.length : Int) := by omega
      have HE : Hid (clmS P (k : Int) e M = if wiB e (P.1.getD k p0).e M (P.1.getD k p0).M = true then P else (P.1.set k ⟨joE (P.1.getD k p0).e e, joM (P.1.getD k p0).e e (P.1.getD k p0).M M, true⟩, true)) := by
        show _ = _
        rw [HC.out, if_neg (by omega), Int.toNat_natCast]
      have HO : Hid ((w.alloc (.cells (oc e M) tO)).rangeAt g (k * 66) (oc (P.1.getD k p0).e (P.1.getD k p0).M).toList) := H1.out.1.oct hk
      have hl : ∀ e M, (Tryz.prog.info? 90).map (·.size) = some (oc e M).toList.length := fun e M => by
        obtain ⟨i0, hi, hz1⟩ := o_info
        have hi' : Tryz.prog.info? 90 = some i0 := hi
        simp [hi', hz1, oc_size]
      have HSO : Hid (∀ w1 e' M', SSt w1 s g pv P → SSt (((w1.setCells g (k * 66) (oc e' M').toList).setCell ⟨g, k * 66 + 65, none⟩ (.bool true)).setCell ⟨s, 2, none⟩ (.bool true)) s g pv (P.1.set k ⟨e', M', true⟩, true)) := fun w1 e' M' h1 => by
        have h2 := ((h1.setO hk e' M').setW (k := k) (by simpa using hk) true).setG true
        have h3 : (P.1.set k ⟨e', M', (P.1.getD k p0).wt⟩).getD k p0 = ⟨e', M', (P.1.getD k p0).wt⟩ := by rw [plset_at hk, if_pos rfl]
        simp only [h3, List.set_set] at h2
        exact h2
      have HTh : Hid (∀ w1, SSt w1 s g pv P → w1.there g (k * 66) 65 ∧ w1.cell? ⟨s, 1, none⟩ = some (.slice (some ⟨g, 0, none⟩) P.1.length 21) ∧ (∃ C, At w1 g C tPl ∧ P.1.length * 66 ≤ C.size)) := fun w1 h1 => ⟨h1.there hk, h1.sa.cell 1, h1.ga⟩
      clear HC h
      generalize (P.1.getD k p0).e = e1 at *
      generalize (P.1.getD k p0).M = M1 at *
      obtain ⟨w3, hst3, hat3, hb3, hs3⟩ := HFr.out (w.alloc (.cells (oc e M) tO)) e1 M1
      have hwz : (w.alloc (.cells (oc e M) tO)).heap.size = w.heap.size + 1 := by simp
      rw [hwz] at hst3 hat3 hb3 hs3
      have H3 : Hid (SSt w3 s g pv P ∧ OAt w3 w.heap.size e M ∧ OAt w3 (w.heap.size + 1) e1 M1 ∧ Below w.heap.size w w3) := ⟨H1.out.1.keep (by rw [hwz]; exact hb3), At.keep H1.out.2.1 hb3 (by omega), hat3, H1.out.2.2.trans (hb3.mono (by omega))⟩
      clear hat3 hb3 hb1
      go_enter Tryz.func53, Tryz.ntmps53
      go_wp2_with (first | refine wpList_load_mid rfl tO (.tmp 24) rfl g (k * 66) rfl (oc e1 M1).toList _ HO.out Tryz.underlying90 rfl (hl _ _) ?_ | refine wpList_load_o rfl (.tmp 5) rfl rfl H3.out.2.1 ?_ | refine wpList_load_o rfl (.tmp 6) rfl rfl H3.out.2.2.1 ?_)
      refine (o_within (w := w3) (e1 := e) (e2 := e1) (M := M) (N := M1)).mono ?_
      rintro x w4 ⟨rfl, hb4⟩
      have H4 : Hid (SSt w4 s g pv P ∧ OAt w4 w.heap.size e M ∧ OAt w4 (w.heap.size + 1) e1 M1 ∧ Below w.heap.size w w4) := ⟨H3.out.1.keep hb4, At.keep H3.out.2.1 hb4 (At.lt H3.out.2.1), At.keep H3.out.2.2.1 hb4 (At.lt H3.out.2.2.1), H3.out.2.2.2.trans (hb4.mono H3.out.2.2.2.size)⟩
      clear hb4
      cases hwi : wiB e e1 M M1 with
      | true =>
        have HF : Hid (clmS P (k : Int) e M = P) := HE.out.trans (if_pos hwi)
        clear hwi
        go_wp2_with fail
        try simp only [Exit.inBlock, Exit.then]
        refine bodyPost_ret (results_none rfl _ _ _) rfl ?_
        exact ⟨rfl, by rw [HF.out]; exact H4.out.1, On2.of H4.out.2.2.2 (Nat.le_refl _) _ _⟩
      | false =>
        have HF : Hid (clmS P (k : Int) e M = (P.1.set k ⟨joE e1 e, joM e1 e M1 M, true⟩, true)) := HE.out.trans (if_neg (by rw [hwi]; decide))
        clear hwi HE
        have HJ : Hid (∀ w1, Calls Tryz.prog 78 #[.agg (oc e1 M1), .agg (oc e M)] w1 fun x w' => x = .returned (.agg (oc (joE e1 e) (joM e1 e M1 M))) ∧ Below w1.heap.size w1 w') := fun w1 => o_join
        obtain ⟨S, hS⟩ : ∃ S : World → Prop, S = fun w' => w'.cell? ⟨s, 1, none⟩ = some (.slice (some ⟨g, 0, none⟩) P.1.length 21) ∧ OAt w' w.heap.size e M ∧ OAt w' (w.heap.size + 1) e1 M1 := ⟨_, rfl⟩
        have HS4 : Hid (S w4.drew ∧ SSt w4.drew s g pv P ∧ Below w.heap.size w w4.drew ∧ w.heap.size + 1 < w4.drew.heap.size) := by
          have k4 : SSt w4.drew s g pv P := H4.out.1.keep (Below.refl _ _).drew
          refine ⟨?_, k4, H4.out.2.2.2.drew, At.lt H4.out.2.2.1⟩
          rw [hS]
          exact ⟨k4.sa.cell 1, H4.out.2.1, H4.out.2.2.1⟩
        have HSb : Hid (∀ w1 w2, S w1 → w.heap.size + 1 < w1.heap.size → Below w1.heap.size w1 w2 → S w2) := by
          rw [hS]
          exact fun w1 w2 ⟨q1, q2, q3⟩ hz hb => ⟨(hb.cell (by show s < _; omega)).trans q1, At.keep q2 hb (At.lt q2), At.keep q3 hb (At.lt q3)⟩
        have HSc : Hid (∀ w1 o vs, S w1 → S (w1.setCells g o vs)) := by
          rw [hS]
          intro w1 o vs ⟨q1, q2, q3⟩
          have on := On2.setCells (s := g) (g := g) vs o w1 (On2.refl g g w1)
          have l2 := At.lt q2
          exact ⟨(on.cell (by show s < _; omega) hne hne 1).trans q1, on.at_ q2 (by omega) (by omega), on.at_ q3 (by omega) (by omega)⟩
        have HSv : Hid (∀ w1, S w1 → w1.cell? ⟨s, 1, none⟩ = some (.slice (some ⟨g, 0, none⟩) P.1.length 21) ∧ w1.rangeAt w.heap.size 0 (oc e M).toList ∧ w1.rangeAt (w.heap.size + 1) 0 (oc e1 M1).toList) := by
          rw [hS]
          exact fun w1 ⟨q1, q2, q3⟩ => ⟨q1, OAt.range q2, OAt.range q3⟩
        have HOn : Hid (∀ w1 w2 vs, Below w.heap.size w w1 → Below w1.heap.size w1 w2 → On2 s g w (((w2.setCells g (k * 66) vs).setCell ⟨g, k * 66 + 65, none⟩ (.bool true)).setCell ⟨s, 2, none⟩ (.bool true))) := fun w1 w2 vs h1 h2 =>
          ((On2.setCells vs (k * 66) w2 (On2.of (h1.trans (h2.mono h1.size)) (Nat.le_refl _) s g)).setCell (.inr rfl) _ _).setCell (.inl rfl) _ _
        have hu := Tryz.underlying90
        clear hS
        go_wp2_with fail
        refine wp_region_held (S := S) (by kernel_rfl) ?_
        change wpAnyH _ _ _ _ _ _ _ _ (World.drew _)
        generalize w4.drew = w5 at *
        refine wpAnyH_take (i := 0) (v := .pointer (some ⟨s, 0, none⟩)) rfl (by kernel_rfl) (by kernel_rfl) (by kernel_rfl) (fun _ _ _ h => h) (Or.inl ⟨by rfl, by intro w1 _; go_simp⟩) (HS4.out.1) ?_
        simp only [Act.put]
        refine wpAnyH_take (i := 1) (v := .pointer (some ⟨s, 0, none⟩)) rfl (by kernel_rfl) (by kernel_rfl) (by kernel_rfl) (fun _ _ _ h => h) (Or.inl ⟨by rfl, by intro w1 _; go_simp⟩) (HS4.out.1) ?_
        simp only [Act.put]
        refine wpAnyH_take (i := 2) (v := .pointer (some ⟨s, 1, none⟩)) rfl (by kernel_rfl) (by kernel_rfl) (by kernel_rfl) (fun _ _ _ h => h) (Or.inl ⟨by rfl, by intro w1 _; go_simp⟩) (HS4.out.1) ?_
        simp only [Act.put]
        refine wpAnyH_take (i := 3) (v := .slice (some ⟨g, 0, none⟩) P.1.length 21) rfl (by kernel_rfl) (by kernel_rfl) (by kernel_rfl) (fun _ _ _ h => h) (Or.inl ⟨by rfl, by intro w1 hw1; have cc := (HSv.out w1 hw1).1; go_simp⟩) HS4.out.1 ?_
        simp only [Act.put]
        refine wpAnyH_take (i := 4) (v := .int .i64 (k : Int)) rfl (by kernel_rfl) (by kernel_rfl) (by kernel_rfl) (fun _ _ _ h => h) (Or.inl ⟨by rfl, by intro w1 _; go_simp⟩) (HS4.out.1) ?_
        simp only [Act.put]
        refine wpAnyH_take (i := 5) (v := .agg (oc e1 M1)) rfl (by kernel_rfl) (by kernel_rfl) (by kernel_rfl) (fun _ _ _ h => h) (yieldsIf_load_mid (by rfl) 90 (.tmp 6) rfl (w.heap.size + 1) 0 rfl (oc e1 M1).toList _ (fun w1 hw1 => (HSv.out w1 hw1).2.2) hu rfl (hl e1 M1)) HS4.out.1 ?_
        simp only [Act.put]
        refine wpAnyH_take (i := 6) (v := .agg (oc e M)) rfl (by kernel_rfl) (by kernel_rfl) (by kernel_rfl) (fun _ _ _ h => h) (yieldsIf_load_mid (by rfl) 90 (.tmp 5) rfl w.heap.size 0 rfl (oc e M).toList _ (fun w1 hw1 => (HSv.out w1 hw1).2.1) hu rfl (hl e M)) HS4.out.1 ?_
        simp only [Act.put]
        refine wpAnyH_ready (rs := [7]) (by kernel_rfl) (by simp) ?_
        refine AllReadyH.cons (o := ⟨some 36, .call _, _, _, _, none⟩) rfl (fun K hK => ?_) AllReadyH.nil
        go_simp
        refine (HJ.out w5).mono ?_
        rintro x w6 ⟨rfl, hb6⟩
        have H6 : Hid (S w6 ∧ SSt w6 s g pv P ∧ Below w5.heap.size w5 w6) := ⟨HSb.out w5 w6 HS4.out.1 HS4.out.2.2.2 hb6, HS4.out.2.1.keep hb6, hb6⟩
        clear hb6
        refine hK.out _ _ H6.out.1 (fun _ => ?_)
        clear hK K
        refine wpAnyH_take (i := 8) (v := .pointer (some ⟨g, k * 66, none⟩)) rfl (by kernel_rfl) (by kernel_rfl) (by kernel_rfl) (fun _ _ _ h => h) (Or.inl ⟨by rfl, by intro w1 _; go_simp⟩) (H6.out.1) ?_
        simp only [Act.put]
        refine wpAnyH_take (i := 9) (v := .pointer (some ⟨g, k * 66, none⟩)) rfl (by kernel_rfl) (by kernel_rfl) (by kernel_rfl) (fun _ _ _ h => h) (Or.inl ⟨by rfl, by intro w1 _; go_simp⟩) (H6.out.1) ?_
        simp only [Act.put]
        refine wpAnyH_ready (rs := [10]) (by kernel_rfl) (by simp) ?_
        refine AllReadyH.cons (o := ⟨none, .store 90 (.tmp 38) (.tmp 36), _, _, _, none⟩) rfl (fun K hK => ?_) AllReadyH.nil
        rw [if_pos (by rfl)]
        have hth := (HTh.out w6 H6.out.2.1).1
        have h65 : (oc (joE e1 e) (joM e1 e M1 M)).size = 65 := oc_size _ _
        refine wp_store_mid 90 (.tmp 38) (.tmp 36) rfl g (k * 66) (oc (joE e1 e) (joM e1 e M1 M)) rfl rfl (by rw [h65]; exact hth) (by rw [hl (joE e1 e) (joM e1 e M1 M)]; simp) (Array.all_eq_true_iff_forall_mem.2 fun v hv => oc_one _ _ v (by simpa using hv)) ?_
        refine hK.out _ _ (HSc.out w6 _ _ H6.out.1) (fun _ => ?_)
        clear hK K
        refine wpAnyH_done (by kernel_rfl) ?_ _
        have HFin : Hid (SSt (((w6.setCells g (k * 66) (oc (joE e1 e) (joM e1 e M1 M)).toList).setCell ⟨g, k * 66 + 65, none⟩ (.bool true)).setCell ⟨s, 2, none⟩ (.bool true)) s g pv (P.1.set k ⟨joE e1 e, joM e1 e M1 M, true⟩, true) ∧ On2 s g w (((w6.setCells g (k * 66) (oc (joE e1 e) (joM e1 e M1 M)).toList).setCell ⟨g, k * 66 + 65, none⟩ (.bool true)).setCell ⟨s, 2, none⟩ (.bool true))) := ⟨HSO.out w6 _ _ H6.out.2.1, HOn.out w5 w6 _ HS4.out.2.2.1 H6.out.2.2⟩
        have h7 := H6.out.2.1.setO hk (joE e1 e) (joM e1 e M1 M)
        have hln : (P.1.set k ⟨joE e1 e, joM e1 e M1 M, (P.1.getD k p0).wt⟩).length = P.1.length := by simp
        obtain ⟨w7, hw7⟩ : ∃ w7, w7 = w6.setCells g (k * 66) (oc (joE e1 e) (joM e1 e M1 M)).toList := ⟨_, rfl⟩
        rw [← hw7] at HFin h7 ⊢
        clear hw7
        have c7 : w7.cell? ⟨s, 1, none⟩ = some (.slice (some ⟨g, 0, none⟩) P.1.length 21) := by
          have := h7.sa.cell 1
          rw [this]
          show some (Value.slice (some ⟨g, 0, none⟩) (P.1.set k _).length 21) = _
          rw [hln]
        have c9 : w7.cell? ⟨s, 2, none⟩ = some (.bool P.2) := h7.sa.cell 2
        have f9 := h7.sa.free
        obtain ⟨wt, c8⟩ : ∃ wt, w7.cell? ⟨g, k * 66 + 65, none⟩ = some (.bool wt) := ⟨_, (h7.pl k 65 (by rw [hln]; exact hk) (by omega)).trans (plc_wt _)⟩
        obtain ⟨C7, hC7, -⟩ := h7.ga
        have f8 := hC7.free
        have l7 := hC7.lt
        have l8 := h7.sa.lt
        clear h7 hC7 hth
        go_wp2_with fail
        go_end0
        exact ⟨rfl, by rw [HF.out]; exact HFin.out.1, HFin.out.2⟩

end Go.Proofs.YtffajooegiempaaGreatDoor

namespace Go.Proofs.YtffajooegiempaaGreatDoor
open Go.RowKit
variable {s g : Nat} {w w' : World} {pv : Value} {P : SS} {F : List Ds}

/-- The program's statements, out of the search's way. -/
def PK (w : World) (s g : Nat) (pv : Value) (F : List Ds) : Prop := ∃ ao cap, pv = .slice ao F.length cap ∧ (F.length ≠ 0 → ∃ g0, ao = some ⟨g0, 0, none⟩ ∧ g0 ≠ s ∧ g0 ≠ g ∧ PRow w g0 F)
theorem PK.on (h : PK w s g pv F) (ho : On2 s g w w') : PK w' s g pv F := by
  obtain ⟨ao, cap, hv, h0⟩ := h
  refine ⟨ao, cap, hv, fun hn => ?_⟩
  obtain ⟨g0, h1, h2, h3, h4⟩ := h0 hn
  refine ⟨g0, h1, h2, h3, Nat.lt_of_lt_of_le h4.1 ho.size, fun j x hx => ?_⟩
  have hc : ∀ o, w'.cell? ⟨g0, o, none⟩ = w.cell? ⟨g0, o, none⟩ := fun o => ho.cell h4.1 h2 h3 o
  have := h4.2 j x hx
  simp only [hc]
  exact this
theorem PK.keep (h : PK w s g pv F) (hb : Below w.heap.size w w') : PK w' s g pv F := h.on (On2.of hb (Nat.le_refl _) s g)
/-- What stands while the ways are followed. -/
structure FB (w wr : World) (s g B5 B6 : Nat) (pv : Value) (F : List Ds) (e : Bool) (M : Nat → Int) (x : Ds) (P : SS) : Prop where
  oa : OAt wr B5 e M
  da : At wr B6 (dsCells x) tDs
  st : SSt wr s g pv P
  pk : PK wr s g pv F
  on : On2 s g w wr
theorem FB.keep {wr w' : World} {B5 B6 : Nat} {e : Bool} {M : Nat → Int} {x : Ds} (h : FB w wr s g B5 B6 pv F e M x P) (hb : Below wr.heap.size wr w') : FB w w' s g B5 B6 pv F e M x P :=
  ⟨At.keep h.oa hb (At.lt h.oa), h.da.keep hb h.da.lt, h.st.keep hb, h.pk.keep hb, h.on.trans (On2.of hb (Nat.le_refl _) s g)⟩
theorem FB.step {wr w' : World} {B5 B6 : Nat} {e : Bool} {M : Nat → Int} {x : Ds} {P' : SS} (h : FB w wr s g B5 B6 pv F e M x P) (ho : On2 s g wr w') (hs : SSt w' s g pv P') (h5 : B5 ≠ s ∧ B5 ≠ g) (h6 : B6 ≠ s ∧ B6 ≠ g) : FB w w' s g B5 B6 pv F e M x P' :=
  ⟨ho.at_ h.oa h5.1 h5.2, ho.at_ h.da h6.1 h6.2, hs, h.pk.on ho, h.on.trans ho⟩

set_option maxRecDepth 100000 in
set_option maxHeartbeats 6400000 in
theorem s_follow (h : SSt w s g pv P) (hK : PK w s g pv F) (hl : F.length ≤ 20) (hpar : ∀ (k : Nat) (x : Ds), F[k]? = some x → -1 ≤ x.parent ∧ x.parent < (k : Int)) (k : Nat) (e : Bool) (M : Nat → Int)
    (hx : k < F.length → DsG (F.getD k (newDs 0 0)) ∧ 0 ≤ (F.getD k (newDs 0 0)).target ∧ (F.getD k (newDs 0 0)).target < 4) (hM : ∀ j, j < 64 → -20000000000 ≤ M j ∧ M j ≤ 1000000) (hS : e = false → Sh M) :
    Calls Tryz.prog 86 #[.pointer (some ⟨s, 0, none⟩), .int .i64 (k : Int), .agg (oc e M)] w fun x w' => x = .returned (.tuple #[]) ∧ SSt w' s g pv (flwS F k e M P) ∧ On2 s g w w' := by
  have hb1 : Below w.heap.size w (w.alloc (.cells (oc e M) tO)) := (Below.refl _ _).alloc (Nat.le_refl _) _
  have hsl := h.sa.lt
  have hgl := h.glt
  have H1 : Hid (SSt (w.alloc (.cells (oc e M) tO)) s g pv P ∧ OAt (w.alloc (.cells (oc e M) tO)) w.heap.size e M ∧ Below w.heap.size w (w.alloc (.cells (oc e M) tO)) ∧ PK (w.alloc (.cells (oc e M) tO)) s g pv F) := ⟨h.keep hb1, At.new _ _ _, hb1, hK.keep hb1⟩
  have cp : (w.alloc (.cells (oc e M) tO)).cell? ⟨s, 0, none⟩ = some pv := H1.out.1.sa.cell 0
  obtain ⟨ao, cap, hpv, hrow⟩ := id hK
  by_cases hk : k < F.length
  case neg =>
    have HE : Hid (flwS F k e M P = P) := if_neg hk
    have HAt : Hid (∀ w1, Calls Tryz.prog 81 #[.agg #[pv], .int .i64 (k : Int)] w1 fun x w' => x = .returned (.tuple #[dsv zDs, .int .i64 2]) ∧ Below w1.heap.size w1 w') := fun w1 => by rw [hpv]; exact d_at_out ao F.length hl (k : Int) (.inr (by omega))
    unfold dsv zDs newDs at HAt
    clear hrow hpv hK h hb1 hx hM hS
    go_enter Tryz.func86, Tryz.ntmps86
    go_wp2_with fail
    refine (HAt.out _).mono ?_
    rintro x w2 ⟨rfl, hb2⟩
    have H2 : Hid (SSt w2 s g pv P ∧ Below w.heap.size w w2) := ⟨H1.out.1.keep hb2, H1.out.2.2.1.trans (hb2.mono (by simp))⟩
    clear hb2
    go_wp2_with fail
    try simp only [Exit.inBlock, Exit.then]
    refine bodyPost_ret (results_none rfl _ _ _) rfl ?_
    exact ⟨rfl, by rw [HE.out]; exact H2.out.1.keep ((Below.refl _ _).alloc (Nat.le_refl _) _), On2.of (H2.out.2.alloc H2.out.2.size _) (Nat.le_refl _) _ _⟩
  obtain ⟨g0, hao, hg1, hg2, hP⟩ := hrow (by omega)
  have hx := hx hk
  have HAt : Hid (∀ w1, PK w1 s g pv F → Calls Tryz.prog 81 #[.agg #[pv], .int .i64 (k : Int)] w1 fun e w' => e = .returned (.tuple #[dsv (F.getD k (newDs 0 0)), .int .i64 0]) ∧ Below w1.heap.size w1 w') := fun w1 hp => by
    obtain ⟨ao, cap, e1, h2⟩ := hp
    obtain ⟨g1, e2, _, _, h3⟩ := h2 (by omega)
    rw [e1, e2]
    exact d_at_in h3 k hk
  have HNx : Hid (∀ w1 (way : Nat), (way : Int) < waysP (F.getD k (newDs 0 0)).kind → PK w1 s g pv F → Calls Tryz.prog 68 #[.agg #[pv], .int .i64 (k : Int), .int .i64 (way : Int)] w1 fun e w' => e = .returned (.tuple #[.int .i64 (nextP F k way).1, .int .i64 0]) ∧ Below w1.heap.size w1 w') := fun w1 way hw hp => by
    obtain ⟨ao, cap, e1, h2⟩ := hp
    obtain ⟨g1, e2, _, _, h3⟩ := h2 (by omega)
    rw [e1, e2]
    have := d_next_in (cap := cap) h3 hl hpar k hk (way : Int)
    unfold twoD at this
    rw [next_z F k hk way hw] at this
    exact this
  have HSf : Hid (∀ w1, Calls Tryz.prog 82 #[dsv (F.getD k (newDs 0 0)), .agg (oc e M)] w1 fun x w' => x = .returned (.bool (sfP e M (F.getD k (newDs 0 0)))) ∧ Below w1.heap.size w1 w') := fun w1 => e_safe _ hx.1 (fun j hj => by have := hM j hj; omega)
  have HPo : Hid (∀ w1 (way : Nat), Calls Tryz.prog 80 #[dsv (F.getD k (newDs 0 0)), .int .i64 (way : Int), .agg (oc e M)] w1 fun x w' => x = .returned (.agg (oc (poE e M (F.getD k (newDs 0 0)) way) (poM e M (F.getD k (newDs 0 0)) way))) ∧ Below w1.heap.size w1 w') := fun w1 way => e_post _ hx.1 hx.2 (way : Int) hM hS
  have HCl : Hid (∀ w1 P pt e M, SSt w1 s g pv P → Calls Tryz.prog 53 #[.pointer (some ⟨s, 0, none⟩), .int .i64 pt, .agg (oc e M)] w1 fun x w' => x = .returned (.tuple #[]) ∧ SSt w' s g pv (clmS P pt e M) ∧ On2 s g w1 w') := fun w1 P pt e M h => s_claim h pt e M
  have HC : Hid (flwS F k e M P = if sfP e M (F.getD k (newDs 0 0)) = true then wysS F k e M P (waysP (F.getD k (newDs 0 0)).kind).toNat else P) := if_pos hk
  have HWs : Hid (∀ i : Nat, wysS F k e M P (i + 1) = clmS (wysS F k e M P i) (nextP F k i).1 (poE e M (F.getD k (newDs 0 0)) i) (poM e M (F.getD k (newDs 0 0)) i)) := fun i => rfl
  have HW0 : Hid (wysS F k e M P 0 = P) := rfl
  clear hP hl hpar hx hM hS hK h hrow hb1 hao hpv
  generalize wysS F k e M P = ws at *
  generalize F.getD k (newDs 0 0) = x at *
  have hwr := ways_rng x.kind
  obtain ⟨n, hn⟩ : ∃ n : Nat, waysP x.kind = (n : Int) := ⟨(waysP x.kind).toNat, by omega⟩
  have HW : Hid (∀ w1, Calls Tryz.prog 111 #[dsv x] w1 fun e w' => e = .returned (.int .i64 (n : Int)) ∧ Below w1.heap.size w1 w') := fun w1 => by
    rw [← hn]
    exact (d_ways _ _ _ _ _ _ _ _ _ _ w1).mono fun e w' ⟨h1, o, h2⟩ => ⟨h1, by rw [h2]; exact (Below.refl _ _).alloc (Nat.le_refl _) _⟩
  rw [hn] at HC HNx
  rw [Int.toNat_natCast] at HC
  unfold dsv at HAt HSf HPo HW
  have hn2 : n ≤ 2 := by omega
  clear hwr hn
  have hz := o_zero
  go_enter Tryz.func86, Tryz.ntmps86
  go_wp2_with fail
  refine (HAt.out _ H1.out.2.2.2).mono ?_
  rintro y w1 ⟨rfl, hb1⟩
  have hs1 : w.heap.size + 1 ≤ w1.heap.size := by have := hb1.size; simpa using this
  have H2 : Hid (FB w (w1.alloc (.cells (dsCells x) tDs)) s g w.heap.size w1.heap.size pv F e M x P) := by
    have hB : Below w.heap.size w w1 := H1.out.2.2.1.trans (hb1.mono (by simp))
    have hb2 : Below w1.heap.size w1 (w1.alloc (.cells (dsCells x) tDs)) := (Below.refl _ _).alloc (Nat.le_refl _) _
    have ho : OAt w1 w.heap.size e M := At.keep H1.out.2.1 hb1 (by simp)
    exact ⟨At.keep ho hb2 (At.lt ho), At.new _ _ _, (H1.out.1.keep hb1).keep hb2, (H1.out.2.2.2.keep hb1).keep hb2, On2.of (hB.trans (hb2.mono hB.size)) (Nat.le_refl _) s g⟩
  clear hb1 H1 cp
  obtain ⟨w2, hw2⟩ : ∃ w2, w2 = w1.alloc (.cells (dsCells x) tDs) := ⟨_, rfl⟩
  have y0 : (w1.alloc (.cells (dsCells x) tDs)).cell? ⟨w1.heap.size, 0, none⟩ = some (.int .i64 x.kind) := (H2.out.da).cell 0
  have y1 : (w1.alloc (.cells (dsCells x) tDs)).cell? ⟨w1.heap.size, 1, none⟩ = some (.int .i64 x.target) := (H2.out.da).cell 1
  have y2 : (w1.alloc (.cells (dsCells x) tDs)).cell? ⟨w1.heap.size, 2, none⟩ = some (.bool x.any) := (H2.out.da).cell 2
  have y3 : (w1.alloc (.cells (dsCells x) tDs)).cell? ⟨w1.heap.size, 3, none⟩ = some (.int .i64 (sgAt x.sg 0)) := (H2.out.da).cell 3
  have y4 : (w1.alloc (.cells (dsCells x) tDs)).cell? ⟨w1.heap.size, 4, none⟩ = some (.int .i64 (sgAt x.sg 1)) := (H2.out.da).cell 4
  have y5 : (w1.alloc (.cells (dsCells x) tDs)).cell? ⟨w1.heap.size, 5, none⟩ = some (.int .i64 (sgAt x.sg 2)) := (H2.out.da).cell 5
  have y6 : (w1.alloc (.cells (dsCells x) tDs)).cell? ⟨w1.heap.size, 6, none⟩ = some (.int .i64 (sgAt x.sg 3)) := (H2.out.da).cell 6
  have y7 : (w1.alloc (.cells (dsCells x) tDs)).cell? ⟨w1.heap.size, 7, none⟩ = some (.int .i64 x.num) := (H2.out.da).cell 7
  have y8 : (w1.alloc (.cells (dsCells x) tDs)).cell? ⟨w1.heap.size, 8, none⟩ = some (.int .i64 x.parent) := (H2.out.da).cell 8
  have y9 : (w1.alloc (.cells (dsCells x) tDs)).cell? ⟨w1.heap.size, 9, none⟩ = some (.int .i64 x.block) := (H2.out.da).cell 9
  go_wp2_with (refine wpList_load_o rfl (.tmp 5) rfl rfl H2.out.oa ?_)
  refine (HSf.out _).mono ?_
  rintro y w3 ⟨rfl, hb3⟩
  have h56 : (w.heap.size ≠ s ∧ w.heap.size ≠ g) ∧ (w1.heap.size ≠ s ∧ w1.heap.size ≠ g) := ⟨⟨by omega, by omega⟩, ⟨by omega, by omega⟩⟩
  have H3 : Hid (FB w w3 s g w.heap.size w1.heap.size pv F e M x P) := H2.out.keep hb3
  have H56 : Hid ((w.heap.size ≠ s ∧ w.heap.size ≠ g) ∧ (w1.heap.size ≠ s ∧ w1.heap.size ≠ g)) := h56
  clear hb3 HSf y0 y1 y2 y3 y4 y5 y6 y7 y8 y9 H2 hw2 w2 h56
  cases hsf : sfP e M x with
  | false =>
    have HE : Hid (flwS F k e M P = P) := by show _ = _; rw [HC.out, if_neg (by rw [hsf]; decide)]
    clear hsf
    go_wp2_with fail
    try simp only [Exit.inBlock, Exit.then]
    refine bodyPost_ret (results_none rfl _ _ _) rfl ?_
    exact ⟨rfl, by rw [HE.out]; exact H3.out.st, H3.out.on⟩
  | true =>
    have HE : Hid (flwS F k e M P = ws n) := by show _ = _; rw [HC.out, if_pos hsf]
    clear hsf HC
    go_wp2_with fail
    go_loopw [8] (fun iv wr => ∃ i : Nat, i ≤ n ∧ iv = .int .i64 (i : Int) ∧ Hid (FB w wr s g w.heap.size w1.heap.size pv F e M x (ws i))) (fun iv _ => n - (intOf iv).toNat)
    case atStart => exact ⟨0, by omega, rfl, by rw [HW0.out]; exact H3.out⟩
    case round =>
      obtain ⟨i, hi, rfl, HR⟩ := hrel
      have y0 : wr.cell? ⟨w1.heap.size, 0, none⟩ = some (.int .i64 x.kind) := (HR.out.da).cell 0
      have y1 : wr.cell? ⟨w1.heap.size, 1, none⟩ = some (.int .i64 x.target) := (HR.out.da).cell 1
      have y2 : wr.cell? ⟨w1.heap.size, 2, none⟩ = some (.bool x.any) := (HR.out.da).cell 2
      have y3 : wr.cell? ⟨w1.heap.size, 3, none⟩ = some (.int .i64 (sgAt x.sg 0)) := (HR.out.da).cell 3
      have y4 : wr.cell? ⟨w1.heap.size, 4, none⟩ = some (.int .i64 (sgAt x.sg 1)) := (HR.out.da).cell 4
      have y5 : wr.cell? ⟨w1.heap.size, 5, none⟩ = some (.int .i64 (sgAt x.sg 2)) := (HR.out.da).cell 5
      have y6 : wr.cell? ⟨w1.heap.size, 6, none⟩ = some (.int .i64 (sgAt x.sg 3)) := (HR.out.da).cell 6
      have y7 : wr.cell? ⟨w1.heap.size, 7, none⟩ = some (.int .i64 x.num) := (HR.out.da).cell 7
      have y8 : wr.cell? ⟨w1.heap.size, 8, none⟩ = some (.int .i64 x.parent) := (HR.out.da).cell 8
      have y9 : wr.cell? ⟨w1.heap.size, 9, none⟩ = some (.int .i64 x.block) := (HR.out.da).cell 9
      have hl7 := HR.out.da.lt
      go_wp2_with fail
      refine (HW.out wr).mono ?_
      rintro y w5 ⟨rfl, hb5⟩
      have H5 : Hid (FB w w5 s g w.heap.size w1.heap.size pv F e M x (ws i)) := HR.out.keep hb5
      clear hb5 y0 y1 y2 y3 y4 y5 y6 y7 y8 y9 hl7
      by_cases hin : i < n
      · have hii : (i : Int) < (n : Int) := by omega
        have c3 : w5.cell? ⟨s, 0, none⟩ = some pv := H5.out.st.sa.cell 0
        have l3 := H5.out.st.sa.lt
        have hnx := HNx.out w5 i hii H5.out.pk
        have HWi : Hid (ws (i + 1) = clmS (ws i) (nextP F k i).1 (poE e M x i) (poM e M x i)) := HWs.out i
        generalize (nextP F k i).1 = q at *
        have HPi : Hid _ := fun w1 => HPo.out w1 i
        generalize poE e M x i = e4 at *
        generalize poM e M x i = M4 at *
        go_wp2_with fail
        refine hnx.mono ?_
        rintro y w6 ⟨rfl, hb6⟩
        have H6 : Hid (FB w w6 s g w.heap.size w1.heap.size pv F e M x (ws i)) := H5.out.keep hb6
        clear hb6 hnx c3 l3
        have y0 : w6.cell? ⟨w1.heap.size, 0, none⟩ = some (.int .i64 x.kind) := (H6.out.da).cell 0
        have y1 : w6.cell? ⟨w1.heap.size, 1, none⟩ = some (.int .i64 x.target) := (H6.out.da).cell 1
        have y2 : w6.cell? ⟨w1.heap.size, 2, none⟩ = some (.bool x.any) := (H6.out.da).cell 2
        have y3 : w6.cell? ⟨w1.heap.size, 3, none⟩ = some (.int .i64 (sgAt x.sg 0)) := (H6.out.da).cell 3
        have y4 : w6.cell? ⟨w1.heap.size, 4, none⟩ = some (.int .i64 (sgAt x.sg 1)) := (H6.out.da).cell 4
        have y5 : w6.cell? ⟨w1.heap.size, 5, none⟩ = some (.int .i64 (sgAt x.sg 2)) := (H6.out.da).cell 5
        have y6 : w6.cell? ⟨w1.heap.size, 6, none⟩ = some (.int .i64 (sgAt x.sg 3)) := (H6.out.da).cell 6
        have y7 : w6.cell? ⟨w1.heap.size, 7, none⟩ = some (.int .i64 x.num) := (H6.out.da).cell 7
        have y8 : w6.cell? ⟨w1.heap.size, 8, none⟩ = some (.int .i64 x.parent) := (H6.out.da).cell 8
        have y9 : w6.cell? ⟨w1.heap.size, 9, none⟩ = some (.int .i64 x.block) := (H6.out.da).cell 9
        go_wp2_with (refine wpList_load_o rfl (.tmp 5) rfl rfl H6.out.oa ?_)
        refine (HPi.out w6).mono ?_
        rintro y w7 ⟨rfl, hb7⟩
        obtain ⟨w8, hst8, hat8, hb8, hs8⟩ := o_fresh w7 e4 M4
        have H8 : Hid (OAt w8 w7.heap.size e4 M4 ∧ FB w w8 s g w.heap.size w1.heap.size pv F e M x (ws i)) := ⟨hat8, (H6.out.keep hb7).keep hb8⟩
        clear hb7 hat8 hb8 y0 y1 y2 y3 y4 y5 y6 y7 y8 y9
        go_wp2_with (refine wpList_load_o rfl (.tmp 11) rfl rfl H8.out.1 ?_)
        refine (HCl.out w8 (ws i) q e4 M4 H8.out.2.st).mono ?_
        rintro y w9 ⟨rfl, hst9, hon9⟩
        have H9 : Hid (FB w w9 s g w.heap.size w1.heap.size pv F e M x (ws (i + 1))) := H8.out.2.step hon9 (by rw [HWi.out]; exact hst9) H56.out.1 H56.out.2
        clear hst9 hon9
        go_wp2_with fail
        go_roundw
        case rel => exact ⟨i + 1, by omega, by go_num, H9.out⟩
        case measure => simp [intOf]; omega
      · have hie : i = n := by omega
        subst hie
        go_wp2_with fail
        go_end0
        exact ⟨rfl, by rw [HE.out]; exact H5.out.st, H5.out.on⟩

end Go.Proofs.YtffajooegiempaaGreatDoor

