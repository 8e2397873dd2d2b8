import Derived.Test.YtffajooegiempabDoorJ23
namespace Go.Proofs.YtffajooegiempabDoor
open Go.RowKit
variable {s g : Nat} {w w' : World} {pv : Value} {P : SS} {F : List Ds}

/-- The list of a claim. -/
def lsP (p : Pl) : Option (List Int) := if p.e = true then none else some (bdL p.M)
theorem lls_readsL {base gl n : Nat} {X : List Value} {L : List (Option (List Int))} (hn : L.length = n) (hr : w.ownsRow base 22 1 (.slice (some ⟨gl, 0, none⟩) n 21) n X) (h : LLs w (gl + 1) gl X L) (h21 : n ≤ 21) : ReadsL w (.slice (some ⟨gl, 0, none⟩) n 21) L := by
  subst hn
  refine ⟨_, 21, rfl, h21, fun _ => ⟨gl, 0, rfl, (hr.lt gl rfl).2, fun i hi => ?_⟩⟩
  have hXi : X[i]? = some (X.getD i (.bool false)) := by simp [List.getD, show i < X.length by rw [h.len]; exact hi]
  have hc := hr.cells (g := gl) rfl i _ hXi
  rw [addr_add] at hc
  refine ⟨_, by rw [Nat.zero_add]; exact hc, ?_⟩
  have hp := h.each i hi
  cases e : L.getD i none with
  | none => rw [e] at hp; exact hp
  | some l =>
    rw [e] at hp
    obtain ⟨q, hq, hv, ha, hl⟩ := hp
    rw [hv]
    exact ⟨Reads.at_ ha hl (Nat.le_refl _) (fun j hj => ic_get _ _ (by omega)), _, _, _, rfl⟩

set_option maxRecDepth 100000 in
set_option maxHeartbeats 3200000 in
theorem s_lists (hG : Glob w) (h : SSt w s g pv P) (h21 : P.1.length ≤ 21) (hR : ∀ k, k < P.1.length → Sm (P.1.getD k p0).M) :
    Calls Tryd.prog 63 #[.pointer (some ⟨s, 0, none⟩)] w fun x w' => ∃ ao cap, x = .returned (.slice ao P.1.length cap) ∧ ReadsL w' (.slice ao P.1.length cap) (P.1.map lsP) ∧ Below w.heap.size w w' := by
  obtain ⟨z0, hz0⟩ : ∃ z0 : Pl, z0 = ⟨false, fun _ => 0, false⟩ := ⟨_, rfl⟩
  have hz : ∀ w, (zeroValue 123).run Tryd.prog w = .ok (.agg (plA z0)) w := by rw [hz0]; exact pl_zero
  have HFr : Hid (∀ (w1 : World) (p : Pl), ∃ w2, (storeCells ⟨w1.heap.size, 0, none⟩ (plc p)).run Tryd.prog (w1.alloc (.cells (plA z0) 123)) = .ok () w2 ∧ At w2 w1.heap.size (plA p) tPl ∧ Below w1.heap.size w1 w2 ∧ w1.heap.size < w2.heap.size) := by rw [hz0]; exact pl_fresh
  have hz3 : (plA z0).size = 66 := plA_size z0
  have hz4 : ¬ plA z0 = #[] := fun h => by have := congrArg Array.size h; rw [plA_size] at this; simp at this
  clear hz0
  have hmk : ∀ w, (Instr.makeSlice 107 (.int .i64 0) (.int .i64 21)).run Tryd.prog w = .ok (.slice (some ⟨w.heap.size, 0, none⟩) 0 21) (w.alloc (.cells (List.replicate 21 (Value.slice none 0 0)).toArray 22)) := fun _ => by kernel_rfl
  obtain ⟨i0, hi0, -, hz1, -⟩ := info_parts (P := Tryd.prog) (e := 22) (z := .slice none 0 0) (size := 1) (bytes := 24) (by kernel_rfl)
  have HOw : Hid ((w.alloc (.cells (List.replicate 21 (Value.slice none 0 0)).toArray 22)).ownsRow w.heap.size 22 1 (.slice (some ⟨w.heap.size, 0, none⟩) 0 21) 0 []) := World.ownsRow_made w _ 21 (Nat.le_refl _) (by decide) rfl
  generalize (List.replicate 21 (Value.slice none 0 0)).toArray = zs at *
  have HB1 : Hid (Below w.heap.size w (w.alloc (.cells zs 22))) := (Below.refl _ _).alloc (Nat.le_refl _) _
  have HLi : Hid (∀ w1 k, Below w.heap.size w w1 → k < P.1.length → Calls Tryd.prog 25 #[.agg (oc (P.1.getD k p0).e (P.1.getD k p0).M)] w1 (LSays w1 (P.1.getD k p0).e (P.1.getD k p0).M)) := fun w1 k hb hk => o_list (hG.keep hb hG.size) (hR k hk)
  have HSt : Hid (SSt w s g pv P) := h
  have HTk : Hid (∀ i, i < P.1.length → (P.1.map lsP).take (i + 1) = (P.1.map lsP).take i ++ [lsP (P.1.getD i p0)]) := fun i hi => by
    rw [List.take_add_one]
    congr 1
    simp [List.getD, hi]
  have HLt : Hid (∀ i, i ≤ P.1.length → ((P.1.map lsP).take i).length = i) := fun i hi => by simp; omega
  have HAll : Hid ((P.1.map lsP).take P.1.length = P.1.map lsP) := List.take_of_length_le (by simp)
  have hsl := h.sa.lt
  have hgl := h.glt
  have c1 : (w.alloc (.cells zs 22)).cell? ⟨s, 1, none⟩ = some (.slice (some ⟨g, 0, none⟩) P.1.length 21) := (HSt.out.keep HB1.out).sa.cell 1
  have HRw : Hid (∀ w1 k, Below w.heap.size w w1 → k < P.1.length → w1.rangeAt g (k * 66) (plc (P.1.getD k p0))) := fun w1 k hb hk => (HSt.out.keep hb).row hk
  clear h hG hR
  generalize P.1.map lsP = LL at *
  go_enter Tryd.func63, Tryd.ntmps63
  go_wp2_with fail
  go_loopw [3, 13] (fun cv iv wr => ∃ (i : Nat) (X : List Value), i ≤ P.1.length ∧ iv = .int .i64 (i : Int) ∧ cv = .slice (some ⟨w.heap.size, 0, none⟩) i 21 ∧ Hid (wr.ownsRow w.heap.size 22 1 (.slice (some ⟨w.heap.size, 0, none⟩) i 21) i X ∧ Below w.heap.size w wr ∧ w.heap.size < wr.heap.size ∧ LLs wr (w.heap.size + 1) w.heap.size X (LL.take i))) (fun _ iv _ => P.1.length - (intOf iv).toNat)
  case atStart => exact ⟨0, [], by omega, rfl, rfl, HOw.out, HB1.out, by simp, ⟨rfl, fun i hi => absurd hi (by simp), fun i hi => absurd hi (by simp), fun i j a hi => absurd hi (by simp)⟩⟩
  case round =>
    obtain ⟨i, X, hile, rfl, rfl, HR⟩ := hrel
    have hzr := HR.out.2.2.1
    by_cases hlt : i < P.1.length
    · have hii : (i : Int) < (P.1.length : Int) := by omega
      have hi00 : (0 : Int) ≤ (i : Int) := Int.natCast_nonneg _
      have HRow : Hid (wr.rangeAt g (i * 66) (plc (P.1.getD i p0))) := HRw.out wr i HR.out.2.1 hlt
      have HTi : Hid (LL.take (i + 1) = LL.take i ++ [lsP (P.1.getD i p0)]) := HTk.out i hlt
      have HLi2 : Hid (∀ w1, Below w.heap.size w w1 → Calls Tryd.prog 25 #[.agg (oc (P.1.getD i p0).e (P.1.getD i p0).M)] w1 (LSays w1 (P.1.getD i p0).e (P.1.getD i p0).M)) := fun w1 hb => HLi.out w1 i hb hlt
      have hll := HLt.out i hile
      generalize P.1.getD i p0 = p at *
      have hps := pl_size p
      obtain ⟨w2, hst2, hat2, hb2, hs2⟩ := HFr.out wr p
      have H2 : Hid (At w2 wr.heap.size (plA p) tPl ∧ Below wr.heap.size wr w2) := ⟨hat2, hb2⟩
      have HOc : Hid (w2.rangeAt wr.heap.size 0 (oc p.e p.M).toList) := fun j v hv => by
        have hj : j < 65 := by
          rcases Nat.lt_or_ge j 65 with q | q
          · exact q
          · rw [List.getElem?_eq_none (by simp [oc_size]; omega)] at hv; cases hv
        rw [Nat.zero_add, hat2.cell]
        show (plc p).toArray[j]? = _
        rw [List.getElem?_toArray, plc_oc p hj, ← Array.getElem?_toList]
        exact hv
      have hlo : (Tryd.prog.info? 55).map (·.size) = some (oc p.e p.M).toList.length := by
        obtain ⟨i0, hi, hz1⟩ := o_info
        have hi' : Tryd.prog.info? 55 = some i0 := hi
        simp [hi', hz1, oc_size]
      have hli := HLi2.out w2 (HR.out.2.1.trans (hb2.mono (by omega)))
      clear hat2 hb2
      go_wp2_with (first | refine wpList_load_mid rfl 123 (.tmp 15) rfl g (i * 66) rfl (plc p) _ HRow.out Tryd.underlying123 rfl hps ?_ | refine wpList_load_mid rfl 55 (.tmp 17) rfl wr.heap.size 0 rfl (oc p.e p.M).toList _ HOc.out Tryd.underlying55 rfl hlo ?_)
      refine hli.mono ?_
      intro y w4 hy
      have HPV : ∃ v4, y = .returned v4 ∧ PV w4 w2.heap.size v4 (lsP p) := by
        rcases hy.2 with ⟨he, hv⟩ | ⟨he, gq, hv, hgq, ha⟩
        · exact ⟨_, hv, by unfold lsP; rw [if_pos he]; exact (rfl : _ = _)⟩
        · exact ⟨_, hv, by unfold lsP; rw [if_neg (by rw [he]; decide)]; exact ⟨gq, hgq, rfl, ha, bdL_len _⟩⟩
      obtain ⟨v4, rfl, hv4⟩ := HPV
      have hb24 : Below wr.heap.size wr w4 := H2.out.2.trans (hy.1.mono (by omega))
      have hz4' : w2.heap.size ≤ w4.heap.size := hy.1.size
      have H4 : Hid (w4.ownsRow w.heap.size 22 1 (.slice (some ⟨w.heap.size, 0, none⟩) i 21) i X ∧ Below w.heap.size w w4 ∧ LLs w4 (w.heap.size + 1) w.heap.size (X ++ [v4]) (LL.take i ++ [lsP p])) := by
        have hL := HR.out.2.2.2
        refine ⟨ownsRow_below HR.out.1 (fun k hk => hb24.block k (HR.out.1.lt k hk).2), HR.out.2.1.trans (hb24.mono (by omega)), ?_⟩
        exact (hL.same (w' := w4) (fun k hk _ _ => hb24.block k hk)).snoc hv4 (by omega) (by omega) (fun j hj k hk => by have := ((hL.each j hj).lt k hk).2; omega)
      have HF1 : Hid (∀ w5, (w4.alloc (.cells #[v4] 22)).grownBy w5 (some w.heap.size) → w5.ownsRow w.heap.size 22 1 (.slice (some ⟨w.heap.size, 0, none⟩) (i + 1) 21) (i + 1) (X ++ [v4]) →
          w5.ownsRow w.heap.size 22 1 (.slice (some ⟨w.heap.size, 0, none⟩) (i + 1) 21) (i + 1) (X ++ [v4]) ∧ Below w.heap.size w w5 ∧ w.heap.size < w5.heap.size ∧ LLs w5 (w.heap.size + 1) w.heap.size (X ++ [v4]) (LL.take (i + 1))) := by
        intro w5 hg ho
        have hbk : ∀ k, k < w4.heap.size → k ≠ w.heap.size → w5.heap[k]? = w4.heap[k]? := fun k hk hne => (hg.block k (by simp; omega) (by intro e; have := Option.some.inj e; omega)).trans (heap_alloc_old _ _ hk)
        have hs5 := hg.size
        rw [HTi.out]
        refine ⟨ho, (H4.out.2.1.alloc H4.out.2.1.size _).grown hg (by simp; omega) (fun k hk => by cases hk; exact Nat.le_refl _), by simp at hs5; omega, H4.out.2.2.same (fun k hk _ hne => hbk k hk hne)⟩
      have HV : Hid (PV w4 w2.heap.size v4 (lsP p)) := hv4
      clear hv4 hy hli hb24
      generalize lsP p = oo at *
      cases oo with
      | none =>
        have hv : v4 = .slice none 0 0 := HV.out
        subst hv
        go_wp2_with (at_builtin; refine wpList_append_fits _ rfl (.tmp 20) (.tmp 22) 107 rfl w.heap.size 22 i0 1 Tryd.underlying107 hi0 hz1 w.heap.size i 21 _ rfl (H4.out.1.alloc _) ⟨w4.heap.size, 0, none⟩ 1 1 [Value.slice none 0 0] rfl rfl (by intro t u ht; match t, ht with | 0, ht => simp at ht; subst ht; exact World.cell?_alloc_at _ _ _ _ rfl) (by intro u hu; simp at hu; subst hu; rfl) (by omega) ?_; intro w5 hown5 hgrow5)
        go_roundw
        case rel => exact ⟨i + 1, X ++ [Value.slice none 0 0], by omega, by go_num, rfl, HF1.out w5 hgrow5 hown5⟩
        case measure => simp [intOf]; omega
      | some l =>
        obtain ⟨g3, hg3, hv, -, -⟩ := HV.out
        subst hv
        go_wp2_with (at_builtin; refine wpList_append_fits _ rfl (.tmp 20) (.tmp 22) 107 rfl w.heap.size 22 i0 1 Tryd.underlying107 hi0 hz1 w.heap.size i 21 _ rfl (H4.out.1.alloc _) ⟨w4.heap.size, 0, none⟩ 1 1 [Value.slice (some ⟨g3, 0, none⟩) 32 32] rfl rfl (by intro t u ht; match t, ht with | 0, ht => simp at ht; subst ht; exact World.cell?_alloc_at _ _ _ _ rfl) (by intro u hu; simp at hu; subst hu; rfl) (by omega) ?_; intro w5 hown5 hgrow5)
        go_roundw
        case rel => exact ⟨i + 1, X ++ [Value.slice (some ⟨g3, 0, none⟩) 32 32], by omega, by go_num, rfl, HF1.out w5 hgrow5 hown5⟩
        case measure => simp [intOf]; omega
    · have hie : i = P.1.length := by omega
      subst hie
      have HFin : Hid (ReadsL wr (.slice (some ⟨w.heap.size, 0, none⟩) P.1.length 21) LL) := by
        have hL := HR.out.2.2.2
        have hl2 := HLt.out P.1.length (Nat.le_refl _)
        rw [HAll.out] at hL hl2
        exact lls_readsL hl2 HR.out.1 hL h21
      go_wp2_with fail
      go_ret
      exact ⟨_, _, rfl, HFin.out, HR.out.2.1⟩

end Go.Proofs.YtffajooegiempabDoor

/- A run, plain: the program's machine. -/
namespace Go.Proofs.YtffajooegiempabDoor

structure Ms where
  used : Nat
  st : Int
  pt : Int
  v : List Int

def clampI (n : Int) : Int := if 999 < n then 999 else if n < -999 then -999 else n
def sumTo (a b : List Int) : Nat → Int
  | 0 => 0
  | j + 1 => sumTo a b j + sgAt a j * sgAt b j
def inP (L : List Int) (u : Nat) : Int × Nat := if u < L.length then (L.getD u 0, u + 1) else (0, u)
def valP (L : List Int) (x : Ds) (s : Ms) : Int × Nat := if x.any = true then (clampI (inP L s.used).1, (inP L s.used).2) else (sumTo x.sg s.v 4 + x.num, s.used)
def holP (L : List Int) (x : Ds) (s : Ms) : Bool × Nat := if x.any = true then ((inP L s.used).1 != 0, (inP L s.used).2) else (decide (sumTo x.sg s.v 4 ≤ x.num), s.used)
def entP (n : Nat) (s : Ms) (p : Int) : Ms := ⟨s.used, if p = n then 1 else s.st, p, s.v⟩
def leaP (F : List Ds) (s : Ms) (way : Int) : Ms := if (nextP F s.pt way).2 = 0 then entP F.length s (nextP F s.pt way).1 else s
def asgP (F : List Ds) (L : List Int) (x : Ds) (s : Ms) : Ms :=
  if 999 < (valP L x s).1 ∨ (valP L x s).1 < -999 then ⟨(valP L x s).2, 2, s.pt, s.v⟩ else leaP F ⟨(valP L x s).2, s.st, s.pt, s.v.set x.target.toNat (valP L x s).1⟩ 0
def astP (F : List Ds) (L : List Int) (x : Ds) (s : Ms) : Ms :=
  if (holP L x s).1 = true then leaP F ⟨(holP L x s).2, s.st, s.pt, s.v⟩ 0 else ⟨(holP L x s).2, 3, s.pt, s.v⟩
def braP (F : List Ds) (L : List Int) (x : Ds) (s : Ms) : Ms := leaP F ⟨(holP L x s).2, s.st, s.pt, s.v⟩ (if (holP L x s).1 = true then 0 else 1)
def stpP (F : List Ds) (L : List Int) (s : Ms) : Ms :=
  if s.pt < 0 ∨ (F.length : Int) ≤ s.pt then s else
    if (F.getD s.pt.toNat (newDs 0 0)).kind = 0 then asgP F L (F.getD s.pt.toNat (newDs 0 0)) s
    else if (F.getD s.pt.toNat (newDs 0 0)).kind = 1 then astP F L (F.getD s.pt.toNat (newDs 0 0)) s
    else braP F L (F.getD s.pt.toNat (newDs 0 0)) s
def runP (F : List Ds) (L : List Int) : Nat → Ms → Ms
  | 0, s => s
  | n + 1, s => if s.st = 0 then runP F L n (stpP F L s) else s

/-- What a statement keeps to. -/
structure DsOk (x : Ds) : Prop where
  len : x.sg.length = 4
  sg : ∀ i, -1 ≤ sgAt x.sg i ∧ sgAt x.sg i ≤ 1
  num : -99 ≤ x.num ∧ x.num ≤ 99
  tg : 0 ≤ x.target ∧ x.target ≤ 3
/-- What a machine keeps to. -/
structure MsOk (L : List Int) (s : Ms) : Prop where
  len : s.v.length = 4
  v : ∀ i, -999 ≤ sgAt s.v i ∧ sgAt s.v i ≤ 999
  used : s.used ≤ L.length

theorem inP_used {L : List Int} {u : Nat} (h : u ≤ L.length) : (inP L u).2 ≤ L.length := by
  unfold inP; split <;> simp <;> omega
theorem clampI_le (n : Int) : -999 ≤ clampI n ∧ clampI n ≤ 999 := by
  unfold clampI; split
  · omega
  · split <;> omega
theorem sgAt_set (l : List Int) (i j : Nat) (x : Int) (hi : i < l.length) : sgAt (l.set i x) j = if j = i then x else sgAt l j := by
  unfold sgAt
  rw [List.getD_eq_getElem?_getD, List.getElem?_set]
  by_cases e : i = j
  · subst e; simp [hi]
  · rw [if_neg e, if_neg (Ne.symm e), List.getD_eq_getElem?_getD]

variable {F : List Ds} {L : List Int} {s : Ms} {x : Ds}
theorem MsOk.lea (h : MsOk L s) (way : Int) : MsOk L (leaP F s way) := by
  unfold leaP
  split
  · exact ⟨h.len, h.v, h.used⟩
  · exact h
theorem valP_used (h : MsOk L s) : (valP L x s).2 ≤ L.length := by
  unfold valP; split
  · exact inP_used h.used
  · exact h.used
theorem holP_used (h : MsOk L s) : (holP L x s).2 ≤ L.length := by
  unfold holP; split
  · exact inP_used h.used
  · exact h.used
theorem MsOk.asg (h : MsOk L s) (hx : DsOk x) : MsOk L (asgP F L x s) := by
  unfold asgP
  split
  · exact ⟨h.len, h.v, valP_used h⟩
  · rename_i hn
    refine MsOk.lea ⟨?_, ?_, ?_⟩ 0
    · simp only [List.length_set]; exact h.len
    · intro i
      have := hx.tg
      have hl := h.len
      rw [sgAt_set _ _ _ _ (by omega)]
      split
      · omega
      · exact h.v i
    · exact valP_used h
theorem MsOk.ast (h : MsOk L s) : MsOk L (astP F L x s) := by
  unfold astP
  split
  · exact MsOk.lea (s := ⟨(holP L x s).2, s.st, s.pt, s.v⟩) ⟨h.len, h.v, holP_used h⟩ 0
  · exact ⟨h.len, h.v, holP_used h⟩
theorem MsOk.bra (h : MsOk L s) : MsOk L (braP F L x s) := MsOk.lea (s := ⟨(holP L x s).2, s.st, s.pt, s.v⟩) ⟨h.len, h.v, holP_used h⟩ _
theorem MsOk.stp (h : MsOk L s) (hF : ∀ (k : Nat) (x : Ds), F[k]? = some x → DsOk x) : MsOk L (stpP F L s) := by
  unfold stpP
  split
  · exact h
  · rename_i hn
    have hk : s.pt.toNat < F.length := by omega
    have hx : DsOk (F.getD s.pt.toNat (newDs 0 0)) := hF s.pt.toNat _ (by rw [List.getD_eq_getElem?_getD, List.getElem?_eq_getElem hk]; rfl)
    split
    · exact h.asg hx
    split
    · exact h.ast
    · exact h.bra

end Go.Proofs.YtffajooegiempabDoor

/- A run stays within its program. -/
namespace Go.Proofs.YtffajooegiempabDoor
variable {F : List Ds} {L : List Int} {s : Ms} {x : Ds}

theorem firstGo_in (p b fr : Int) : ∀ (l : List Ds) (i : Nat), firstGo p b fr l i = -1 ∨ ((i : Int) ≤ firstGo p b fr l i ∧ firstGo p b fr l i < ((i + l.length : Nat) : Int)) := by
  intro l
  induction l with
  | nil => intro i; exact .inl rfl
  | cons y l ih =>
    intro i
    rw [firstGo]
    split
    · right; simp only [List.length_cons]; omega
    · rcases ih (i + 1) with h | h
      · exact .inl h
      · right; simp only [List.length_cons]; omega
theorem firstP_in (p b fr : Int) (h : firstP F p b fr ≠ -1) : 0 ≤ firstP F p b fr ∧ firstP F p b fr < F.length := by
  rcases firstGo_in p b fr F 0 with e | e
  · exact absurd e h
  · unfold firstP; omega
theorem followP_in : ∀ (n : Nat) (pt : Int), 0 ≤ followP F n pt ∧ followP F n pt ≤ F.length := by
  intro n
  induction n with
  | zero => intro pt; unfold followP; omega
  | succ n ih =>
    intro pt
    rw [followP]
    split
    · omega
    split
    · rename_i h
      have := firstP_in _ _ _ h
      omega
    split
    · rename_i h
      unfold isRepP at h
      simp only [Bool.and_eq_true, decide_eq_true_eq] at h
      omega
    · exact ih _
theorem nextP_in (pt way : Int) (h : (nextP F pt way).2 = 0) : 0 ≤ (nextP F pt way).1 ∧ (nextP F pt way).1 ≤ F.length := by
  unfold nextP at h ⊢
  by_cases h1 : pt < 0 ∨ (F.length : Int) ≤ pt
  · rw [if_pos h1] at h; simp at h
  rw [if_neg h1] at h ⊢
  by_cases h2 : way < 0 ∨ waysP (F.getD pt.toNat (newDs 0 0)).kind ≤ way
  · rw [if_pos h2] at h; simp at h
  rw [if_neg h2] at h ⊢
  split
  · exact followP_in _ _
  split
  · rename_i h3
    have := firstP_in _ _ _ h3
    simp only; omega
  split
  · simp only; omega
  · exact followP_in _ _

/-- The run, whole. -/
def finP (F : List Ds) (L : List Int) (steps : Int) : Ms := runP F L (min steps.toNat 2000) (entP F.length ⟨0, 0, 0, [0, 0, 0, 0]⟩ 0)

end Go.Proofs.YtffajooegiempabDoor

/- States along a statement: what Safe and Post say of them. No Go in here. -/
namespace Go.Proofs.YtffajooegiempabDoor

/-- What a statement of a program keeps to. -/
structure DQ (x : Ds) : Prop where
  g : DsG x
  len : x.sg.length = 4
  tg : 0 ≤ x.target ∧ x.target < 4
  kd : x.kind = 0 ∨ x.kind = 1 ∨ x.kind = 2 ∨ x.kind = 3
  nz2 : nz x.sg ≤ 2
  fa : x.kind = 0 → nz x.sg ≤ 1
  fc : x.kind ≠ 0 → x.any = true ∨ 1 ≤ nz x.sg
theorem dq_of {l : List Int} {m : Rd} {F : List Ds} (hp : progOf l = some m) (hW : Whole F m.st) {k : Nat} (hk : k < F.length) : DQ (F.getD k (newDs 0 0)) := by
  have hD := dsg_of hp hW hk
  have hq := stq_of hp (show k < m.st.length by have := hW.1.len; omega)
  have hk0 := kind_0 hD.2
  obtain ⟨-, c1, c2, c3, c4⟩ := id hD.2
  refine ⟨hD.1, by rw [← c3]; exact hq.g.len, by rw [← c1]; exact ⟨hq.var.1, by have := hq.var.2; omega⟩, ?_, by rw [← c3]; exact hq.g.nz, fun h => by rw [← c3]; exact hq.fq.1 (hk0.1 h), fun h => by rw [← c3, ← c2]; exact hq.fq.2 (fun z => h (hk0.2 z))⟩
  obtain ⟨x, u, a0, c0, g, hx, hu, hcor, ha, hif, hfc, hC, hs, hr, hkk⟩ := hW.at_ k hk
  rw [getD_some hx]
  obtain ⟨x', u', hx', hu', _, _, _, _, hkd⟩ := hs
  rw [hx] at hx'
  cases hx'
  rcases hkd with ⟨hk01, _⟩ | ⟨hk3, _⟩ | ⟨hk2, _⟩
  · rcases hk01 with e | e
    · exact .inl e
    · exact .inr (.inl e)
  · exact .inr (.inr (.inr hk3))
  · exact .inr (.inr (.inl hk2))

/-- Which sides of which variables a sum has: a table of all sign lists. -/
def coS (s i : Nat) : Int := if s / 2 = i then (if s % 2 = 0 then 1 else -1) else 0
def tabC (l : List Int) : Bool := decide (2 < nz l) || ((List.range 4).all fun i => decide (gAt l i = if sd1 l = sd2 l then coS (sd1 l) i else coS (sd1 l) i + coS (sd2 l) i)) && (decide (1 < nz l) || decide (sd1 l = sd2 l) || decide (sd1 l = opp (sd2 l)))
theorem tabC_all : (sg3.all fun a => sg3.all fun b => sg3.all fun c => sg3.all fun d => tabC [a, b, c, d]) = true := by decide +kernel
theorem tabC_of {l : List Int} (hl : l.length = 4) (h : ∀ i, -1 ≤ gAt l i ∧ gAt l i ≤ 1) : tabC l = true := by
  obtain ⟨a, b, c, d, rfl⟩ := four_of hl
  have t := tabC_all
  simp only [List.all_eq_true] at t
  exact t a (mem_sg3 (h 0)) b (mem_sg3 (h 1)) c (mem_sg3 (h 2)) d (mem_sg3 (h 3))
theorem sd_co (V : Nat → Int) : ∀ s : Nat, s < 8 → sd V s = coS s 0 * V 0 + coS s 1 * V 1 + coS s 2 * V 2 + coS s 3 * V 3 := by
  intro s hs
  rcases (show s = 0 ∨ s = 1 ∨ s = 2 ∨ s = 3 ∨ s = 4 ∨ s = 5 ∨ s = 6 ∨ s = 7 by omega) with rfl | rfl | rfl | rfl | rfl | rfl | rfl | rfl <;> simp [sd, coS]
theorem sumTo_4 (l v : List Int) : sumTo l v 4 = gAt l 0 * gAt v 0 + gAt l 1 * gAt v 1 + gAt l 2 * gAt v 2 + gAt l 3 * gAt v 3 := by
  show 0 + sgAt l 0 * sgAt v 0 + sgAt l 1 * sgAt v 1 + sgAt l 2 * sgAt v 2 + sgAt l 3 * sgAt v 3 = _
  rw [Int.zero_add]
  rfl
theorem sum_sd {l : List Int} (hl : l.length = 4) (h : ∀ i, -1 ≤ gAt l i ∧ gAt l i ≤ 1) (h2 : nz l ≤ 2) (v : List Int) :
    sumTo l v 4 = if sd1 l = sd2 l then sd (gAt v) (sd1 l) else sd (gAt v) (sd1 l) + sd (gAt v) (sd2 l) := by
  have t := tabC_of hl h
  have a1 : sd1 l < 8 := (sdS_lt l 4 (Nat.le_refl _)).1
  have a2 : sd2 l < 8 := (sdS_lt l 4 (Nat.le_refl _)).2
  unfold tabC at t
  rw [decide_eq_false (by omega : ¬ 2 < nz l), Bool.false_or, Bool.and_eq_true] at t
  have t1 := List.all_eq_true.1 t.1
  have e : ∀ i, i < 4 → gAt l i = if sd1 l = sd2 l then coS (sd1 l) i else coS (sd1 l) i + coS (sd2 l) i := fun i hi => of_decide_eq_true (t1 i (by simpa using hi))
  rw [sumTo_4, e 0 (by omega), e 1 (by omega), e 2 (by omega), e 3 (by omega)]
  by_cases q : sd1 l = sd2 l
  · simp only [if_pos q]
    rw [sd_co _ _ a1]
  · simp only [if_neg q]
    rw [sd_co _ _ a1, sd_co _ _ a2]
    simp only [Int.add_mul]
    omega
theorem one_sd {l : List Int} (hl : l.length = 4) (h : ∀ i, -1 ≤ gAt l i ∧ gAt l i ≤ 1) (h1 : nz l ≤ 1) : sd1 l = sd2 l ∨ sd1 l = opp (sd2 l) := by
  have t := tabC_of hl h
  unfold tabC at t
  rw [decide_eq_false (by omega : ¬ 2 < nz l), Bool.false_or, Bool.and_eq_true, decide_eq_false (by omega : ¬ 1 < nz l), Bool.false_or, Bool.or_eq_true] at t
  exact t.2.imp of_decide_eq_true of_decide_eq_true

variable {M : Nat → Int} {v : List Int}

/-- A state's sum is at most its greatest. -/
theorem sum_gr (h : Sat (gAt v) M) {l : List Int} (hl : l.length = 4) (hs : ∀ i, -1 ≤ gAt l i ∧ gAt l i ≤ 1) (h2 : nz l ≤ 2) : grP M l = NB ∨ sumTo l v 4 ≤ grP M l := by
  have a1 : sd1 l < 8 := (sdS_lt l 4 (Nat.le_refl _)).1
  have a2 : sd2 l < 8 := (sdS_lt l 4 (Nat.le_refl _)).2
  have hq := h (sd1 l) (sd2 l) a1 a2
  rw [sum_sd hl hs h2]
  unfold grP mo
  by_cases q : sd1 l = sd2 l
  · rw [← q] at hq ⊢
    rw [if_pos rfl]
    by_cases n : M (sd1 l * 8 + sd1 l) = NB
    · rw [if_neg (fun z => z.2 n)]; exact .inl n
    · rw [if_pos ⟨rfl, n⟩]
      have hle := hq.resolve_left n
      have t := tdiv2 (M (sd1 l * 8 + sd1 l))
      right
      rcases Int.lt_or_le (M (sd1 l * 8 + sd1 l)) 0 with e | e
      · rw [t.2 e]; omega
      · rw [t.1 e]; omega
  · rw [if_neg q, if_neg (fun z => q z.1)]
    exact hq
theorem sum_ng {l : List Int} (v : List Int) : sumTo (ngL l) v 4 = -sumTo l v 4 := by
  rw [sumTo_4, sumTo_4]
  show -gAt l 0 * gAt v 0 + -gAt l 1 * gAt v 1 + -gAt l 2 * gAt v 2 + -gAt l 3 * gAt v 3 = _
  simp only [Int.neg_mul]
  omega
/-- The state behind a condition. -/
theorem sat_at (h : Sat (gAt v) M) (hT : TQ M) {l : List Int} (hl : l.length = 4) (hs : ∀ i, -1 ≤ gAt l i ∧ gAt l i ≤ 1) (h1 : 1 ≤ nz l) (h2 : nz l ≤ 2) {n : Int} (hn : n ≤ 1000) (hle : sumTo l v 4 ≤ n) :
    atE false M l n = false ∧ Sat (gAt v) (atM false M l n) := by
  obtain ⟨f, hf, hnf, hgr, hs1, hs2⟩ := grP_form hT.tc hl hs h1 h2
  unfold atE atM
  by_cases q : atS false M l n = true
  · rw [if_pos q, if_pos q]; exact ⟨rfl, h⟩
  · rw [if_neg q, if_neg q]
    have e : lm M (sd1 l) (sd2 l) n = sb M f n := by rw [hs1, hs2]; rfl
    rw [e]
    have hv : fval (gAt v) f ≤ n := by
      have s := sum_sd hl hs h2 v
      rw [hs1, hs2] at s
      unfold fval
      by_cases h8 : f < 8
      · obtain ⟨q1, q2⟩ := fs_lo f h8
        rw [if_pos (by rw [q1, q2]), q1] at s
        rw [if_pos h8]; omega
      · rw [if_neg (fs_hi f hf (by omega))] at s
        rw [if_neg h8]; omega
    have y := (sat_sb h hf hn hv).sharp
    exact ⟨y.some, y⟩
theorem gAt_set {l : List Int} {i : Nat} (hi : i < l.length) (j : Nat) (x : Int) : gAt (l.set i x) j = if j = i then x else gAt l j := sgAt_set l i j x hi
theorem sd_set {t : Nat} (hv : v.length = 4) (ht : t < 4) (c : Int) {i : Nat} (_hi : i < 8) : sd (gAt (v.set t c)) i = if i = 2 * t then c else if i = 2 * t + 1 then -c else sd (gAt v) i := by
  unfold sd
  rw [gAt_set (by omega)]
  by_cases e1 : i = 2 * t
  · rw [if_pos e1, if_pos (by omega), if_pos (by omega)]
  · by_cases e2 : i = 2 * t + 1
    · rw [if_neg e1, if_pos e2, if_neg (by omega), if_pos (by omega)]
    · rw [if_neg e1, if_neg e2, if_neg (by omega : ¬ i / 2 = t)]
theorem sat_bt (h : Sat (gAt v) M) (hv : v.length = 4) {t : Nat} (ht : t < 4) {lo hi c : Int} (hlo : -999 ≤ lo ∧ lo ≤ 999) (hhi : -999 ≤ hi ∧ hi ≤ 999) (h1 : lo ≤ c) (h2 : c ≤ hi) : Sat (gAt (v.set t c)) (sbT M t lo hi) := by
  intro i j hi' hj
  rw [sbT_at M ht hlo hhi hi' hj, sd_set hv ht c hi', sd_set hv ht c hj]
  have up : ∀ {i : Nat}, i < 8 → isT t i → (if i = 2 * t then c else if i = 2 * t + 1 then -c else sd (gAt v) i) ≤ uF M t lo hi i := fun {i} _ q => by
    unfold uF
    rcases q with q | q
    · rw [if_pos q, if_pos q]; exact h2
    · rw [if_neg (by omega), if_pos q, if_neg (by omega), if_pos q]; omega
  have no : ∀ {i : Nat}, ¬ isT t i → (if i = 2 * t then c else if i = 2 * t + 1 then -c else sd (gAt v) i) = sd (gAt v) i := fun {i} q => by
    rw [if_neg (fun z => q (.inl z)), if_neg (fun z => q (.inr z))]
  have mm : ∀ {j : Nat}, j < 8 → mo M j j = NB ∨ sd (gAt v) j ≤ mo M j j := fun {j} hj => by
    unfold mo
    by_cases n : M (j * 8 + j) = NB
    · rw [if_neg (fun z => z.2 n)]; exact .inl n
    · rw [if_pos ⟨rfl, n⟩]
      have hle := (h j j hj hj).resolve_left n
      have t := tdiv2 (M (j * 8 + j))
      right
      rcases Int.lt_or_le (M (j * 8 + j)) 0 with e | e
      · rw [t.2 e]; omega
      · rw [t.1 e]; omega
  have pls : ∀ {a b x y : Int}, x ≤ a → (b = NB ∨ y ≤ b) → pl a b = NB ∨ x + y ≤ pl a b := fun {a b x y} hx hy => by
    by_cases n : pl a b = NB
    · exact .inl n
    · obtain ⟨_, n2, e⟩ := pl_fin n
      have := hy.resolve_left n2
      right; omega
  unfold sbG
  by_cases ti : isT t i
  · rw [if_pos ti]
    by_cases tj : isT t j
    · rw [if_pos tj]
      by_cases e : i = j
      · rw [if_pos e]
        subst e
        right
        by_cases e2 : i = 2 * t
        · rw [if_pos e2, if_pos e2]; omega
        · have e3 : i = 2 * t + 1 := ti.resolve_left e2
          rw [if_neg e2, if_neg e2, if_pos e3]; omega
      · rw [if_neg e]
        have hq := h i j hi' hj
        have z : sd (gAt v) i + sd (gAt v) j = 0 := by
          have : j = opp i := (isT_eq ti tj).resolve_left (fun z => e z.symm)
          rw [this, sd_opp]; omega
        have z2 : (if i = 2 * t then c else if i = 2 * t + 1 then -c else sd (gAt v) i) + (if j = 2 * t then c else if j = 2 * t + 1 then -c else sd (gAt v) j) = 0 := by
          rcases ti with q | q <;> rcases tj with r | r
          · omega
          · rw [if_pos q, if_neg (by omega), if_pos r]; omega
          · rw [if_neg (by omega), if_pos q, if_pos r]; omega
          · omega
        rw [z2]
        rw [z] at hq
        exact hq
    · rw [if_neg tj, no tj]
      exact pls (up hi' ti) (mm hj)
  · rw [if_neg ti, no ti]
    by_cases tj : isT t j
    · rw [if_pos tj, Int.add_comm]
      exact pls (up hj tj) (mm hi')
    · rw [if_neg tj, no tj]
      exact h i j hi' hj
theorem sat_ss (h : Sat (gAt v) M) (hv : v.length = 4) {t f : Nat} (ht : t < 4) (hf : f < 8) {n : Int} : Sat (gAt (v.set t (sd (gAt v) f + n))) (ssF M t f n 64) := by
  intro i j hi hj
  rw [ss_at M t f n hi hj, sd_set hv ht _ hi, sd_set hv ht _ hj]
  have e : ∀ {i : Nat}, (if i = 2 * t then sd (gAt v) f + n else if i = 2 * t + 1 then -(sd (gAt v) f + n) else sd (gAt v) i) = sd (gAt v) (orgF t f i) + addF t n i := fun {i} => by
    unfold orgF addF
    by_cases e1 : i = 2 * t
    · rw [if_pos e1, if_pos e1, if_pos e1]
    · by_cases e2 : i = 2 * t + 1
      · rw [if_neg e1, if_pos e2, if_neg e1, if_pos e2, if_neg e1, if_pos e2, sd_opp]; omega
      · rw [if_neg e1, if_neg e2, if_neg e1, if_neg e2, if_neg e1, if_neg e2]; omega
  rw [e, e]
  by_cases q : pl (M (orgF t f i * 8 + orgF t f j)) (addF t n i + addF t n j) = NB
  · exact .inl q
  · obtain ⟨n1, _, e2⟩ := pl_fin q
    have := (h (orgF t f i) (orgF t f j) (org_lt hf hi) (org_lt hf hj)).resolve_left n1
    right
    omega
/-- The state behind an assignment. -/
theorem sat_as (h : Sat (gAt v) M) (hv : v.length = 4) {x : Ds} (hx : DQ x) (k0 : x.kind = 0) {c : Int} (hc : if x.any = true then -999 ≤ c ∧ c ≤ 999 else c = sumTo x.sg v 4 + x.num) : Sat (gAt (v.set x.target.toNat c)) (asM M x) := by
  have n := hx.g.num
  have ht := hx.tg
  unfold asM
  by_cases a : x.any = true
  · rw [if_pos a] at hc ⊢
    exact sat_bt h hv (by omega) ⟨by omega, by omega⟩ ⟨by omega, by omega⟩ hc.1 hc.2
  · rw [if_neg a] at hc ⊢
    have s := sum_sd hx.len hx.g.sg hx.nz2 v
    have o := one_sd hx.len hx.g.sg (hx.fa k0)
    by_cases q : sd1 x.sg = opp (sd2 x.sg)
    · rw [if_pos q]
      have ne : ¬ sd1 x.sg = sd2 x.sg := fun z => opp_ne (sd2 x.sg) (by rw [← q]; exact z)
      rw [if_neg ne, q, sd_opp] at s
      exact sat_bt h hv (by omega) ⟨by omega, by omega⟩ ⟨by omega, by omega⟩ (by omega) (by omega)
    · rw [if_neg q]
      have e := o.resolve_right q
      rw [if_pos e] at s
      rw [hc, s]
      exact sat_ss h hv (by omega) (sdS_lt x.sg 4 (Nat.le_refl _)).1

end Go.Proofs.YtffajooegiempabDoor

namespace Go.Proofs.YtffajooegiempabDoor
open Go.RowKit
variable {w : World} {s : ByteArray}

/-- The first point at which something is found, and what. -/
def CkSays (f : Nat → Int) (n : Nat) (r : Int × Int) : Prop := ((∀ j, j < n → f j = 0) ∧ r = (0, 0)) ∨ ∃ k, k < n ∧ (∀ j, j < k → f j = 0) ∧ f k ≠ 0 ∧ r = (f k, (k : Int))
theorem CkSays.one {f : Nat → Int} {n : Nat} {r r' : Int × Int} (h : CkSays f n r) (h' : CkSays f n r') : r = r' := by
  rcases h with ⟨h, rfl⟩ | ⟨k, hk, h1, h2, rfl⟩ <;> rcases h' with ⟨h', rfl⟩ | ⟨k', hk', h1', h2', rfl⟩
  · rfl
  · exact absurd (h k' hk') h2'
  · exact absurd (h' k hk) h2
  · have : k = k' := by
      rcases Nat.lt_trichotomy k k' with q | q | q
      · exact absurd (h1' k q) h2
      · exact q
      · exact absurd (h1 k' q) h2'
    rw [this]
def CertSays (F : List Ds) (b : List Int) (r : Int × Int) : Prop :=
  match decF b with
  | none => r = (4, 0)
  | some L => if L.length ≠ F.length + 1 then r = (4, 0) else if wiB false (cE (atL L 0)) (fun _ => 0) (cM (atL L 0)) = false then r = (5, 0) else CkSays (chkP F L) F.length r

set_option maxRecDepth 100000 in
set_option maxHeartbeats 800000 in
theorem o_origin : Calls Tryd.prog 58 #[] w fun e w' => e = .returned (.agg (oc false fun _ => 0)) ∧ Below w.heap.size w w' := by
  obtain ⟨M0, hM0⟩ : ∃ M0 : Nat → Int, M0 = fun _ => 0 := ⟨_, rfl⟩
  have hz : ∀ w, (zeroValue tO).run Tryd.prog w = .ok (.agg (oc false M0)) w := by rw [hM0]; exact o_zero
  have HFr : Hid (∃ w2, (storeCells ⟨w.heap.size, 0, none⟩ (oc false M0).toList).run Tryd.prog (w.alloc (.cells (oc false M0) tO)) = .ok () w2 ∧ OAt w2 w.heap.size false M0 ∧ Below w.heap.size w w2 ∧ w.heap.size < w2.heap.size) := by rw [hM0]; exact o_fresh w false _
  have ho3 : (oc false M0).size = 65 := oc_size _ _
  have ho4 : ¬ oc false M0 = #[] := fun h => by have := congrArg Array.size h; rw [oc_size] at this; simp at this
  rw [← hM0]
  clear hM0
  obtain ⟨w3, hst3, hat3, hb3, hs3⟩ := HFr.out
  have H3 : Hid (OAt w3 w.heap.size false M0 ∧ Below w.heap.size w w3) := ⟨hat3, hb3⟩
  clear hat3 hb3
  go_enter Tryd.func58, Tryd.ntmps58
  go_wp2_with fail
  try simp only [Exit.inBlock, Exit.then]
  refine bodyPost_ret (results_o rfl _ rfl H3.out.1) rfl ?_
  exact ⟨rfl, H3.out.2⟩

/-- What stands while the points are checked. -/
def KB (w wr : World) (g : Nat) (L : List (Option (List Int))) (pv : Value) : Prop := At wr w.heap.size #[pv] tPr ∧ ORow wr g L ∧ Below w.heap.size w wr
theorem KB.keep {wr w' : World} {g : Nat} {L : List (Option (List Int))} {pv : Value} (h : KB w wr g L pv) (hb : Below wr.heap.size wr w') : KB w w' g L pv :=
  ⟨h.1.keep hb h.1.lt, h.2.1.keep hb, h.2.2.trans (hb.mono h.2.2.size)⟩
set_option maxRecDepth 100000 in
set_option maxHeartbeats 6400000 in
theorem c_check {cap : Nat} {ao : Option Addr} {F : List Ds} (hG : Glob w) (hs : s.size ≤ 9223372036854775807) (hl : F.length ≤ 20)
    (hp : ∀ w1, Below w.heap.size w w1 → ∀ g L, ORow w1 g L → (∀ r, r ∈ L → okp r) → ∀ k, k < F.length → Calls Tryd.prog 59 #[.agg #[.slice ao F.length cap], .slice (some ⟨g, 0, none⟩) L.length 21, .int .i64 (k : Int)] w1 fun e w' => e = .returned (.int .i64 (chkP F L k)) ∧ Below w1.heap.size w1 w') :
    Calls Tryd.prog 37 #[.agg #[.slice ao F.length cap], .string s] w fun e w' => ∃ a b, e = .returned (.tuple #[.int .i64 a, .int .i64 b]) ∧ CertSays F (bytesOf s) (a, b) ∧ Below w.heap.size w w' := by
  obtain ⟨M0, hM0⟩ : ∃ M0 : Nat → Int, M0 = fun _ => 0 := ⟨_, rfl⟩
  have hz : ∀ w, (zeroValue tO).run Tryd.prog w = .ok (.agg (oc false M0)) w := by rw [hM0]; exact o_zero
  have HFr : Hid (∀ (w1 : World) e M, ∃ w2, (storeCells ⟨w1.heap.size, 0, none⟩ (oc e M).toList).run Tryd.prog (w1.alloc (.cells (oc false M0) tO)) = .ok () w2 ∧ OAt w2 w1.heap.size e M ∧ Below w1.heap.size w1 w2 ∧ w1.heap.size < w2.heap.size) := by rw [hM0]; exact fun w1 e M => o_fresh w1 e M
  have HOr : Hid (∀ w1, Calls Tryd.prog 58 #[] w1 fun e w' => e = .returned (.agg (oc false M0)) ∧ Below w1.heap.size w1 w') := by rw [hM0]; exact fun w1 => o_origin
  have HM0 : Hid (M0 = fun _ => 0) := hM0
  have ho3 : (oc false M0).size = 65 := oc_size _ _
  have ho4 : ¬ oc false M0 = #[] := fun h => by have := congrArg Array.size h; rw [oc_size] at this; simp at this
  clear hM0
  have HRc : Hid (∀ w1, Below w.heap.size w w1 → Calls Tryd.prog 55 #[.string s] w1 (CLOut w1 s)) := fun w1 hb => c_readClaims (hG.keep hb hG.size) hs
  have HP : Hid (∀ w1, Below w.heap.size w w1 → ∀ g L, ORow w1 g L → (∀ r, r ∈ L → okp r) → ∀ k, k < F.length → Calls Tryd.prog 59 #[.agg #[.slice ao F.length cap], .slice (some ⟨g, 0, none⟩) L.length 21, .int .i64 (k : Int)] w1 fun e w' => e = .returned (.int .i64 (chkP F L k)) ∧ Below w1.heap.size w1 w') := hp
  obtain ⟨n, hn⟩ : ∃ n, n = F.length := ⟨_, rfl⟩
  have HN : Hid (n = F.length) := hn
  have hln : n ≤ 20 := by omega
  rw [← hn]
  clear hp hG hn
  go_enter Tryd.func37, Tryd.ntmps37
  go_wp2_with fail
  refine (HRc.out _ ((Below.refl _ _).alloc (Nat.le_refl _) _)).mono ?_
  rintro e w1 ⟨hb1, ⟨hd, rfl⟩ | ⟨L, g, hd, rfl, hg, hrow⟩⟩
  · have HB : Hid (Below w.heap.size w w1) := ((Below.refl _ _).alloc (Nat.le_refl _) _).trans (hb1.mono (by simp))
    have HR : Hid (CertSays F (bytesOf s) (4, 0)) := by show CertSays _ _ _; unfold CertSays; rw [hd]
    clear hb1 hd
    go_wp2_with fail
    go_ret2
    exact ⟨_, _, rfl, HR.out, HB.out⟩
  · have HOk : Hid (∀ r, r ∈ L → okp r) := (dec_ok (bys s) hd).2.2.2
    have hL21 := (dec_ok (bys s) hd).2.2.1
    have H1 : Hid (KB w w1 g L (.slice ao n cap)) := ⟨At.keep (At.new w _ _) hb1 (by simp), hrow, ((Below.refl _ _).alloc (Nat.le_refl _) _).trans (hb1.mono (by simp))⟩
    have HS : Hid (∀ r, (L.length ≠ n + 1 → r = (4, 0)) → (L.length = n + 1 → if wiB false (cE (atL L 0)) M0 (cM (atL L 0)) = false then r = (5, 0) else CkSays (chkP F L) n r) → CertSays F (bytesOf s) r) := by
      intro r h1 h2
      rw [HM0.out] at h2
      unfold CertSays
      rw [hd, ← HN.out]
      show if _ then _ else _
      split
      · rename_i q; exact h1 q
      · rename_i q; exact h2 (by simpa using q)
    have HEnd : Hid (∀ w1, Calls Tryd.prog 56 #[.agg #[.slice ao n cap]] w1 fun e w' => e = .returned (.int .i64 (n : Int)) ∧ Below w1.heap.size w1 w') := fun w1 => (d_end ao n cap w1 hln).mono fun e w' ⟨h1, o, h2⟩ => ⟨h1, by rw [h2]; exact (Below.refl _ _).alloc (Nat.le_refl _) _⟩
    have c0 : w1.cell? ⟨w.heap.size, 0, none⟩ = some (.slice ao n cap) := H1.out.1.cell 0
    clear hb1 hd hrow hg HRc
    go_wp2_with fail
    refine (HEnd.out w1).mono ?_
    rintro e w2 ⟨rfl, hb2⟩
    have H2 : Hid (KB w w2 g L (.slice ao n cap)) := H1.out.keep hb2
    clear hb2 c0 H1
    by_cases hlen : L.length = n + 1
    · have hli : (L.length : Int) = (n : Int) + 1 := by omega
      have HS2 : Hid (∀ r, (if wiB false (cE (atL L 0)) M0 (cM (atL L 0)) = false then r = (5, 0) else CkSays (chkP F L) n r) → CertSays F (bytesOf s) r) := fun r h => HS.out r (fun q => absurd hlen q) (fun _ => h)
      have HCl := fun w3 (h : KB w w3 g L (.slice ao n cap)) => c_claimAt h.2.1 (0 : Int)
      have HCl : Hid (∀ w3, KB w w3 g L (.slice ao n cap) → Calls Tryd.prog 57 #[.slice (some ⟨g, 0, none⟩) L.length 21, .int .i64 0] w3 fun e w' => e = .returned (.agg (oc (cE (atL L 0)) (cM (atL L 0)))) ∧ Below w3.heap.size w3 w') := HCl
      have HPt : Hid (∀ w3, KB w w3 g L (.slice ao n cap) → ∀ k, k < n → Calls Tryd.prog 59 #[.agg #[.slice ao n cap], .slice (some ⟨g, 0, none⟩) L.length 21, .int .i64 (k : Int)] w3 fun e w' => e = .returned (.int .i64 (chkP F L k)) ∧ Below w3.heap.size w3 w') := fun w3 h k hk => by
        have := HP.out w3 h.2.2 g L h.2.1 HOk.out k (by rw [← HN.out]; exact hk)
        rw [← HN.out] at this
        exact this
      clear HP HS HOk hli
      generalize L.length = m at *
      subst hlen
      generalize cE (atL L 0) = e1 at *
      generalize cM (atL L 0) = M1 at *
      generalize chkP F L = f at *
      go_wp2_with fail
      refine (HCl.out w2 H2.out).mono ?_
      rintro e w3 ⟨rfl, hb3⟩
      obtain ⟨w4, hst4, hat4, hb4, hs4⟩ := HFr.out w3 e1 M1
      have H4 : Hid (OAt w4 w3.heap.size e1 M1 ∧ KB w w4 g L (.slice ao n cap)) := ⟨hat4, (H2.out.keep hb3).keep hb4⟩
      clear hb3 hat4 hb4
      go_wp2_with fail
      refine (HOr.out w4).mono ?_
      rintro e w5 ⟨rfl, hb5⟩
      obtain ⟨w6, hst6, hat6, hb6, hs6⟩ := HFr.out w5 false M0
      have H6 : Hid (OAt w6 w5.heap.size false M0 ∧ OAt w6 w3.heap.size e1 M1 ∧ KB w w6 g L (.slice ao n cap)) := by
        have h9 : OAt w5 w3.heap.size e1 M1 := At.keep H4.out.1 hb5 (At.lt H4.out.1)
        exact ⟨hat6, At.keep h9 hb6 (At.lt h9), (H4.out.2.keep hb5).keep hb6⟩
      clear hb5 hat6 hb6
      go_wp2_with (first | refine wpList_load_o rfl (.tmp 9) rfl rfl H6.out.1 ?_ | refine wpList_load_o rfl (.tmp 8) rfl rfl H6.out.2.1 ?_)
      refine (o_within (w := w6) (e1 := false) (e2 := e1) (M := M0) (N := M1)).mono ?_
      rintro e w7 ⟨rfl, hb7⟩
      have H7 : Hid (KB w w7 g L (.slice ao n cap)) := H6.out.2.2.keep hb7
      clear hb7 H6
      cases hwi : wiB false e1 M0 M1 with
      | false =>
        have HR : Hid (CertSays F (bytesOf s) (5, 0)) := HS2.out _ (by rw [if_pos hwi])
        clear hwi
        go_wp2_with fail
        go_ret2
        exact ⟨_, _, rfl, HR.out, H7.out.2.2⟩
      | true =>
        have HS3 : Hid (∀ r, CkSays f n r → CertSays F (bytesOf s) r) := fun r h => HS2.out r (by rw [if_neg (by rw [hwi]; decide)]; exact h)
        clear hwi HS2
        go_wp2_with fail
        go_loopw [7, 10] (fun _ iv wr => ∃ i : Nat, i ≤ n ∧ iv = .int .i64 (i : Int) ∧ Hid ((∀ j, j < i → f j = 0) ∧ KB w wr g L (.slice ao n cap))) (fun _ iv _ => n - (intOf iv).toNat)
        case atStart => exact ⟨0, by omega, rfl, fun j hj => by omega, H7.out⟩
        case round =>
          obtain ⟨i, hi, rfl, HR⟩ := hrel
          have c0 : wr.cell? ⟨w.heap.size, 0, none⟩ = some (.slice ao n cap) := HR.out.2.1.cell 0
          go_wp2_with fail
          refine (HEnd.out wr).mono ?_
          rintro e w8 ⟨rfl, hb8⟩
          have H8 : Hid (KB w w8 g L (.slice ao n cap)) := HR.out.2.keep hb8
          clear hb8 c0
          by_cases hin : i < n
          · have hii : (i : Int) < (n : Int) := by omega
            have c0 : w8.cell? ⟨w.heap.size, 0, none⟩ = some (.slice ao n cap) := H8.out.1.cell 0
            have hpt := HPt.out w8 H8.out i hin
            go_wp2_with fail
            refine hpt.mono ?_
            rintro e w9 ⟨rfl, hb9⟩
            have H9 : Hid (KB w w9 g L (.slice ao n cap)) := H8.out.keep hb9
            clear hb9 c0 hpt
            by_cases h0 : f i = 0
            · have HA : Hid (∀ j, j < i + 1 → f j = 0) := fun j hj => by
                rcases Nat.lt_or_ge j i with q | q
                · exact HR.out.1 j q
                · rw [show j = i by omega]; exact h0
              rw [h0]
              clear h0
              go_wp2_with fail
              go_roundw
              case rel => exact ⟨i + 1, by omega, by go_num, HA.out, H9.out⟩
              case measure => simp [intOf]; omega
            · have HA : Hid (CertSays F (bytesOf s) (f i, (i : Int))) := HS3.out _ (.inr ⟨i, hin, HR.out.1, h0, rfl⟩)
              go_wp2_with fail
              go_ret2
              exact ⟨_, _, rfl, HA.out, H9.out.2.2⟩
          · have hie : i = n := by omega
            subst hie
            have HA : Hid (CertSays F (bytesOf s) (0, 0)) := HS3.out _ (.inl ⟨HR.out.1, rfl⟩)
            go_wp2_with fail
            go_ret2
            exact ⟨_, _, rfl, HA.out, H8.out.2.2⟩
    · have hli : ¬ (L.length : Int) = (n : Int) + 1 := by omega
      have HR : Hid (CertSays F (bytesOf s) (4, 0)) := HS.out _ (fun _ => rfl) (fun q => absurd q hlen)
      clear hlen
      go_wp2_with fail
      go_ret2
      exact ⟨_, _, rfl, HR.out, H2.out.2.2⟩

end Go.Proofs.YtffajooegiempabDoor

namespace Go.Proofs.YtffajooegiempabDoor
open Go.RowKit
variable {w : World} {s : ByteArray}

theorem c_rng {r : Option (List Int)} (h : okp r) : ∀ j, j < 64 → -20000000000 ≤ cM r j ∧ cM r j ≤ 1000000 := by
  cases r with
  | none => intro j _; show -20000000000 ≤ (0 : Int) ∧ (0 : Int) ≤ 1000000; omega
  | some l => exact ov_rng (okp_ok h)
theorem c_sh {r : Option (List Int)} (h : okp r) (he : cE r = false) : Sh (cM r) := by
  cases r with
  | none => cases he
  | some l => exact (ov_tq (okp_ok h) he).sh
theorem atL_ok {L : List (Option (List Int))} (h : ∀ r, r ∈ L → okp r) (pt : Int) : okp (atL L pt) := by
  unfold atL
  split
  · intro l e; cases e
  · exact getD_ok h _
/-- A point's check, of a program that was read. -/
theorem c_checkPoint_of {l : List Int} {m : Rd} {F : List Ds} {g0 cap : Nat} (hp : progOf l = some m) (hW : Whole F m.st) (hl : F.length ≤ 20) (hpar : ∀ (k : Nat) (x : Ds), F[k]? = some x → -1 ≤ x.parent ∧ x.parent < (k : Int)) (hP : PRow w g0 F) {g : Nat} {L : List (Option (List Int))} (hO : ORow w g L) (hok : ∀ r, r ∈ L → okp r) {k : Nat} (hk : k < F.length) :
    Calls Tryd.prog 59 #[.agg #[.slice (some ⟨g0, 0, none⟩) F.length cap], .slice (some ⟨g, 0, none⟩) L.length 21, .int .i64 (k : Int)] w fun e w' => e = .returned (.int .i64 (chkP F L k)) ∧ Below w.heap.size w w' := by
  have hD := dsg_of hp hW hk
  have hq := stq_of hp (show k < m.st.length by have := hW.1.len; omega)
  exact c_checkPoint hP hl hpar hk hO hD.1 (by rw [← hD.2.2.1]; exact ⟨hq.var.1, by have := hq.var.2; omega⟩) (c_rng (atL_ok hok _)) (c_sh (atL_ok hok _))

end Go.Proofs.YtffajooegiempabDoor

