import Derived.Test.YtffajooegiempaaJ5
import Derived.StillTailTactics
import Derived.Laws.BitsLemmas
namespace Go.Proofs.Ytffajooegiempaa
open Go.RowKit
variable {w : World}

abbrev tSl : TypeId := 29
abbrev tTab : TypeId := 41
/-- How many cells have been cut off; how many the next list has. -/
def cutN (n : Nat) (k : List Int) : Nat → Nat
  | 0 => 0
  | i + 1 => if k.getD i 0 < 0 then cutN n k i else cutN n k i + (if ((n : Int) - (cutN n k i : Int)) < k.getD i 0 then n - cutN n k i else (k.getD i 0).toNat)
def cutK (n : Nat) (k : List Int) (i : Nat) : Nat := if ((n : Int) - (cutN n k i : Int)) < k.getD i 0 then n - cutN n k i else (k.getD i 0).toNat
theorem cutN_succ (n : Nat) (k : List Int) (i : Nat) : cutN n k (i + 1) = if k.getD i 0 < 0 then cutN n k i else cutN n k i + cutK n k i := rfl
theorem cutN_le (n : Nat) (k : List Int) : ∀ i, cutN n k i ≤ n
  | 0 => Nat.zero_le _
  | i + 1 => by
    have := cutN_le n k i
    rw [cutN]
    split
    · exact this
    · split <;> omega
theorem cutK_le (n : Nat) (k : List Int) (i : Nat) : cutN n k i + cutK n k i ≤ n := by
  have := cutN_le n k i
  unfold cutK
  split <;> omega
/-- The list that is cut there, as a value. -/
def cutV (O n : Nat) (k : List Int) (i : Nat) : Value := if k.getD i 0 < 0 then .slice none 0 0 else .slice (if n = cutN n k i then some ⟨O, 0, none⟩ else some ⟨O, cutN n k i, none⟩) (cutK n k i) (n - cutN n k i)
/-- The list that is cut there. -/
def cutL (c k : List Int) (i : Nat) : Option (List Int) := if k.getD i 0 < 0 then none else some ((c.drop (cutN c.length k i)).take (cutK c.length k i))
def allP (O n : Nat) (k : List Int) (m : Nat) : Nat → List Value
  | 0 => List.replicate (m + 1) (.slice none 0 0)
  | i + 1 => (allP O n k m i).set i (cutV O n k i)
theorem allP_len (O n : Nat) (k : List Int) (m : Nat) : ∀ i, (allP O n k m i).length = m + 1
  | 0 => by simp [allP]
  | i + 1 => by rw [allP, List.length_set]; exact allP_len O n k m i
theorem allP_get (O n : Nat) (k : List Int) (m : Nat) : ∀ i j, j ≤ m → (allP O n k m i)[j]? = some (if j < i then cutV O n k j else .slice none 0 0)
  | 0, j, hj => by rw [if_neg (by omega)]; simp [allP, show j < m + 1 by omega]
  | i + 1, j, hj => by
    have ih := allP_get O n k m i j hj
    have hl := allP_len O n k m i
    rw [allP, List.getElem?_set]
    by_cases e : i = j
    · rw [if_pos e, if_pos (by omega), if_pos (by omega), e]
    · rw [if_neg e, ih]
      by_cases q : j < i
      · rw [if_pos q, if_pos (by omega)]
      · rw [if_neg q, if_neg (by omega)]
theorem allP_skip (O n : Nat) (k : List Int) (m : Nat) {i : Nat} (h : k.getD i 0 < 0) : allP O n k m (i + 1) = allP O n k m i := by
  apply List.ext_getElem?
  intro j
  by_cases hj : j ≤ m
  · rw [allP_get O n k m (i + 1) j hj, allP_get O n k m i j hj]
    by_cases e : j = i
    · rw [e, if_pos (by omega), if_neg (by omega)]
      unfold cutV
      rw [if_pos h]
    · by_cases q : j < i
      · rw [if_pos q, if_pos (by omega)]
      · rw [if_neg q, if_neg (by omega)]
  · rw [List.getElem?_eq_none (by rw [allP_len]; omega), List.getElem?_eq_none (by rw [allP_len]; omega)]
def tabC (O A n m : Nat) : Array Value := #[.slice (some ⟨O, 0, none⟩) n n, .slice (some ⟨A, 0, none⟩) (m + 1) (m + 1), .int .i64 (m : Int)]
/-- A table as it was laid. -/
structure Laid (w : World) (base T O A Z : Nat) (c k : List Int) : Prop where
  tab : At w T (tabC O A c.length k.length) tTab
  own : At w O (ic c) tN
  all : At w A ((allP O c.length k k.length k.length).set k.length (.slice (some ⟨Z, 0, none⟩) 1 1)).toArray tSl
  last : At w Z (ic [77]) tN
  new : base ≤ T ∧ base ≤ O ∧ base ≤ A ∧ base ≤ Z

theorem at_third (w : World) (o1 o2 : Obj) (c : Array Value) (t : TypeId) : At (((w.alloc o1).alloc o2).alloc (.cells c t)).drew (w.heap.size + 2) c t := by
  have := At.new ((w.alloc o1).alloc o2) c t
  rw [show ((w.alloc o1).alloc o2).heap.size = w.heap.size + 2 by simp] at this
  exact this
set_option maxRecDepth 100000 in
set_option maxHeartbeats 3200000 in
theorem l_laid (vc vk : Value) (c k : List Int) (hc : c.length ≤ 1073741824) (hk : k.length ≤ 1073741824) (hvc : Reads w vc c) (hvk : Reads w vk k) :
    Calls Try.prog 17 #[vc, vk] w fun e w' => ∃ T O A Z, e = .returned (.pointer (some ⟨T, 0, none⟩)) ∧ Below w.heap.size w w' ∧ Laid w' w.heap.size T O A Z c k := by
  obtain ⟨n, hn⟩ : ∃ n, n = c.length := ⟨_, rfl⟩
  obtain ⟨m, hm⟩ : ∃ m, m = k.length := ⟨_, rfl⟩
  have hmk1 : ∀ w, (Instr.makeSlice 29 (.int .i64 (n : Int)) (.int .i64 (n : Int))).run Try.prog w = .ok (.slice (some ⟨w.heap.size, 0, none⟩) n n) (w.alloc (.cells (List.replicate n (Value.int .i64 0)).toArray tN)) := by
    intro w
    obtain ⟨i0, hi, hz0, hz1, hz2⟩ := info_parts (P := Try.prog) (e := tN) (z := .int .i64 0) (size := 1) (bytes := 8) (by kernel_rfl)
    have := run_make (P := Try.prog) w 29 tN i0 (.int .i64 0) Try.underlying29 hi hz0 .i64 .i64 (n : Int) (n : Int) (by omega) (Int.le_refl _) (by rw [hz2]; omega) (by omega)
    rw [this]
    rw [Int.toNat_natCast, hz1]
    congr 2
    congr 1
    apply Array.ext
    · simp [size_madeCells]
    · intro i h1 h2
      simp [madeCells, Value.cells, Nat.mod_one]
  have hmk2 : ∀ w, (Instr.makeSlice 39 (.int .i64 ((m : Int) + 1)) (.int .i64 ((m : Int) + 1))).run Try.prog w = .ok (.slice (some ⟨w.heap.size, 0, none⟩) (m + 1) (m + 1)) (w.alloc (.cells (List.replicate (m + 1) (Value.slice none 0 0)).toArray tSl)) := by
    intro w
    obtain ⟨i0, hi, hz0, hz1, hz2⟩ := info_parts (P := Try.prog) (e := tSl) (z := .slice none 0 0) (size := 1) (bytes := 24) (by kernel_rfl)
    have := run_make (P := Try.prog) w 39 tSl i0 (.slice none 0 0) Try.underlying39 hi hz0 .i64 .i64 ((m : Int) + 1) ((m : Int) + 1) (by omega) (Int.le_refl _) (by rw [hz2]; omega) (by omega)
    rw [this]
    have e1 : ((m : Int) + 1).toNat = m + 1 := by omega
    rw [e1, hz1]
    congr 2
    congr 1
    apply Array.ext
    · simp [size_madeCells]
    · intro i h1 h2
      simp [madeCells, Value.cells, Nat.mod_one]
  obtain ⟨ao, cac, rfl, hcac, h0⟩ := id hvc
  obtain ⟨bo, cak, rfl, hcak, h0k⟩ := id hvk
  have HVc : Hid (Reads w (.slice ao c.length cac) c) := hvc
  have HVk : Hid (Reads w (.slice bo k.length cak) k) := hvk
  rw [← hn, ← hm]
  obtain ⟨l1, hl1⟩ : ∃ l1, l1 = (List.replicate n (Value.int .i64 0)).toArray := ⟨_, rfl⟩
  obtain ⟨l2, hl2⟩ : ∃ l2, l2 = (List.replicate (m + 1) (Value.slice none 0 0)).toArray := ⟨_, rfl⟩
  rw [← hl1] at hmk1
  rw [← hl2] at hmk2
  have HN : Hid (c.length = n ∧ k.length = m) := ⟨hn.symm, hm.symm⟩
  have hn30 : n ≤ 1073741824 := by omega
  have hm30 : m ≤ 1073741824 := by omega
  have HL1 : Hid (l1 = (List.replicate n (Value.int .i64 0)).toArray) := hl1
  have HL2 : Hid (l2 = (List.replicate (m + 1) (Value.slice none 0 0)).toArray) := hl2
  have HK : Hid (∀ i, i < m → ∃ b off, bo = some ⟨b, off, none⟩ ∧ b < w.heap.size ∧ w.cell? ⟨b, off + i, none⟩ = some (.int .i64 (k.getD i 0))) := by
    intro i hi
    obtain ⟨b, off, e1, e2, e3⟩ := h0k (by omega)
    exact ⟨b, off, e1, e2, e3 i (by omega)⟩
  have HKr : Hid (∀ i : Nat, True) := fun _ => trivial
  clear hvc hvk h0 h0k hcac hcak hn hm hc hk hl1 hl2
  go_enter Try.func17, Try.ntmps17
  go_wp2_with fail
  go_region
  · have H1 : Hid (At ((((w.alloc (Obj.cells l1 tN)).alloc (Obj.cells l2 tSl)).alloc (Obj.cells #[Value.slice (some ⟨w.heap.size, 0, none⟩) n n, Value.slice (some ⟨w.heap.size + 1, 0, none⟩) (m + 1) (m + 1), Value.int IntKind.i64 (m : Int)] 41)).drew) (w.heap.size + 2) (tabC w.heap.size (w.heap.size + 1) n m) tTab ∧ At ((((w.alloc (Obj.cells l1 tN)).alloc (Obj.cells l2 tSl)).alloc (Obj.cells #[Value.slice (some ⟨w.heap.size, 0, none⟩) n n, Value.slice (some ⟨w.heap.size + 1, 0, none⟩) (m + 1) (m + 1), Value.int IntKind.i64 (m : Int)] 41)).drew) w.heap.size l1 tN ∧ At ((((w.alloc (Obj.cells l1 tN)).alloc (Obj.cells l2 tSl)).alloc (Obj.cells #[Value.slice (some ⟨w.heap.size, 0, none⟩) n n, Value.slice (some ⟨w.heap.size + 1, 0, none⟩) (m + 1) (m + 1), Value.int IntKind.i64 (m : Int)] 41)).drew) (w.heap.size + 1) l2 tSl ∧ Below w.heap.size w ((((w.alloc (Obj.cells l1 tN)).alloc (Obj.cells l2 tSl)).alloc (Obj.cells #[Value.slice (some ⟨w.heap.size, 0, none⟩) n n, Value.slice (some ⟨w.heap.size + 1, 0, none⟩) (m + 1) (m + 1), Value.int IntKind.i64 (m : Int)] 41)).drew)) := by
      refine ⟨?_, (At.allocH (At.allocH (At.new _ _ _) _) _), (by have := At.allocH (At.new (w.alloc (Obj.cells l1 tN)) l2 tSl) (Obj.cells #[Value.slice (some ⟨w.heap.size, 0, none⟩) n n, Value.slice (some ⟨w.heap.size + 1, 0, none⟩) (m + 1) (m + 1), Value.int IntKind.i64 (m : Int)] 41); rw [show (w.alloc (Obj.cells l1 tN)).heap.size = w.heap.size + 1 by simp] at this; exact this), ((((Below.refl _ _).alloc (Nat.le_refl _) _).alloc (by simp) _).alloc (by simp; omega) _).drew⟩
      exact at_third _ _ _ _ _
    rw [show w.heap.size + 1 + 1 = w.heap.size + 2 by omega]
    generalize ((((w.alloc (Obj.cells l1 tN)).alloc (Obj.cells l2 tSl)).alloc (Obj.cells #[Value.slice (some ⟨w.heap.size, 0, none⟩) n n, Value.slice (some ⟨w.heap.size + 1, 0, none⟩) (m + 1) (m + 1), Value.int IntKind.i64 (m : Int)] 41)).drew) = w1 at *
    have hOA1 : w.heap.size ≠ (w.heap.size + 1) := by omega
    have hO0 : w.heap.size ≤ w.heap.size := by omega
    have hA0 : w.heap.size ≤ (w.heap.size + 1) := by omega
    obtain ⟨w2, hcp, H2⟩ : ∃ w2, (Builtin.copy_ #[29, 29] tN #[.slice (some ⟨w.heap.size, 0, none⟩) n n, .slice ao n cac]).run Try.prog w1 = .ok (.int .i64 n) w2 ∧ Hid (At w2 w.heap.size (ic c) tN ∧ Onl w.heap.size w1 w2) := by
      obtain ⟨e1, e2⟩ := HN.out
      by_cases hz : n = 0
      · have ec : c = [] := List.eq_nil_of_length_eq_zero (by omega)
        refine ⟨w1, by rw [hz]; exact run_copy_none (P := Try.prog) _ 29 29 tN tN _ _ _ _ _ _ Try.underlying29 (by kernel_rfl) (by simp), ?_, Onl.refl _ _⟩
        have := H1.out.2.1
        rw [HL1.out, hz] at this
        rw [ec]
        exact this
      · obtain ⟨ao', cap', hv, _, h0⟩ := HVc.out
        injection hv with v1 v2 v3
        subst v1
        obtain ⟨b, off, rfl, hlt, hcc⟩ := h0 (by omega)
        have hml : (c.map (Value.int .i64)).length = n := by rw [List.length_map]; exact e1
        have hs1 : l1.size = n := by rw [HL1.out]; simp
        have := run_copy_row (P := Try.prog) w1 29 29 tN tN w.heap.size 0 n n ⟨b, off, none⟩ n cac l1 tN (c.map (Value.int .i64)) Try.underlying29 (by kernel_rfl) H1.out.2.1 (by rw [hml]; simp) (by
          intro j v hj
          have hjl : j < n := by
            rcases Nat.lt_or_ge j n with h' | h'
            · exact h'
            · rw [List.getElem?_eq_none (by omega)] at hj; cases hj
          have e3 : (⟨b, off, none⟩ : Addr).add j = ⟨b, off + j, none⟩ := by unfold Addr.add; split <;> simp_all
          rw [e3, H1.out.2.2.2.cell (by exact hlt)]
          have := hcc j (by omega)
          simp [List.getElem?_map, List.getElem?_eq_getElem (show j < c.length by omega)] at hj
          rw [← hj]
          simpa [List.getD, show j < c.length by omega] using this) (by omega) (by
          intro u hu
          obtain ⟨x, _, rfl⟩ := List.mem_map.1 hu
          rfl)
        have e4 : goInt (c.map (Value.int .i64)).length = .int .i64 n := by rw [hml]; rfl
        rw [e4] at this
        refine ⟨_, this, ?_, ⟨rfl, rfl, rfl, by simp [World.setRow], fun k _ hk => setRow_other w1 w.heap.size k _ (fun e => hk e)⟩⟩
        have h2 := setRow_heap w1 w.heap.size l1 (l1.toList.take 0 ++ c.map (Value.int .i64) ++ l1.toList.drop (0 + (c.map (Value.int .i64)).length)).toArray tN (0, 0) H1.out.2.1
        have e5 : (l1.toList.take 0 ++ c.map (Value.int .i64) ++ l1.toList.drop (0 + (c.map (Value.int .i64)).length)).toArray = ic c := by
          rw [hml]
          unfold ic
          rw [List.drop_of_length_le (by simp; omega)]
          simp
        rw [e5] at h2 ⊢
        exact h2
    have H3 : Hid (At w2 (w.heap.size + 2) (tabC w.heap.size (w.heap.size + 1) n m) tTab ∧ At w2 w.heap.size (ic c) tN ∧ At w2 (w.heap.size + 1) (allP w.heap.size n k m 0).toArray tSl ∧ Below w.heap.size w w2) := by
      refine ⟨H2.out.2.at_ H1.out.1 (by omega), H2.out.1, ?_, H1.out.2.2.2.trans (H2.out.2.below hO0 H1.out.2.2.2.size)⟩
      have := H2.out.2.at_ H1.out.2.2.1 (fun e => hOA1 e.symm)
      rw [HL2.out] at this
      exact this
    have c0 : w1.cell? ⟨(w.heap.size + 2), 0, none⟩ = some (.slice (some ⟨w.heap.size, 0, none⟩) n n) := H1.out.1.cell 0
    have hTl : (w.heap.size + 2) < w1.heap.size := H1.out.1.lt
    clear H2 H1
    go_wp2_with fail
    clear hcp c0 hTl
    go_loopw [6, 7] (fun av iv wr => ∃ (i : Nat), i ≤ m ∧ iv = .int .i64 i ∧ av = .int .i64 ((cutN n k i : Nat) : Int) ∧ Hid (At wr (w.heap.size + 2) (tabC w.heap.size (w.heap.size + 1) n m) tTab ∧ At wr w.heap.size (ic c) tN ∧ At wr (w.heap.size + 1) (allP w.heap.size n k m i).toArray tSl ∧ Below w.heap.size w wr)) (fun _ iv _ => m - (intOf iv).toNat)
    case atStart => exact ⟨0, by omega, rfl, rfl, H3.out⟩
    case round =>
      obtain ⟨i, hi, rfl, rfl, HR⟩ := hrel
      have hTl := HR.out.1.lt
      have t0 : wr.cell? ⟨(w.heap.size + 2), 0, none⟩ = some (.slice (some ⟨w.heap.size, 0, none⟩) n n) := HR.out.1.cell 0
      have t1 : wr.cell? ⟨(w.heap.size + 2), 1, none⟩ = some (.slice (some ⟨(w.heap.size + 1), 0, none⟩) (m + 1) (m + 1)) := HR.out.1.cell 1
      have t2 : wr.cell? ⟨(w.heap.size + 2), 2, none⟩ = some (.int .i64 (m : Int)) := HR.out.1.cell 2
      have cf := HR.out.2.2.1.free
      have hAl := HR.out.2.2.1.lt
      by_cases hlt : i < m
      · have hii : (i : Int) < (m : Int) := by omega
        obtain ⟨x0, hx0⟩ : ∃ x, wr.cell? ⟨(w.heap.size + 1), i, none⟩ = some x := ⟨_, by rw [HR.out.2.2.1.cell]; simpa using allP_get w.heap.size n k m i i (by omega)⟩
        obtain ⟨b, off, hbo, hbl, ck0⟩ := HK.out i hlt
        subst hbo
        have ck : wr.cell? ⟨b, off + i, none⟩ = some (.int .i64 (k.getD i 0)) := (HR.out.2.2.2.cell (p := ⟨b, off + i, none⟩) hbl).trans ck0
        have hblr : b < wr.heap.size := Nat.lt_of_lt_of_le hbl HR.out.2.2.2.size
        have hkr := HKr.out i
        have hcn := cutN_le n k i
        have hcs := (show Hid (_ = _) from cutN_succ n k i)
        have HSk := (show Hid (k.getD i 0 < 0 → _) from allP_skip w.heap.size n k m (i := i))
        have HAp : Hid (allP w.heap.size n k m (i + 1) = (allP w.heap.size n k m i).set i (cutV w.heap.size n k i)) := rfl
        have HCv : Hid (cutV w.heap.size n k i = if k.getD i 0 < 0 then .slice none 0 0 else .slice (if n = cutN n k i then some ⟨w.heap.size, 0, none⟩ else some ⟨w.heap.size, cutN n k i, none⟩) (cutK n k i) (n - cutN n k i)) := rfl
        have HCk : Hid (cutK n k i = if ((n : Int) - (cutN n k i : Int)) < k.getD i 0 then n - cutN n k i else (k.getD i 0).toNat) := rfl
        clear ck0
        generalize cutN n k i = a at *
        generalize k.getD i 0 = y at *
        by_cases y0 : y < 0
        · have HX : Hid (cutN n k (i + 1) = a) := by show _ = _; rw [hcs.out, if_pos y0]
          have HY : Hid (allP w.heap.size n k m (i + 1) = allP w.heap.size n k m i) := HSk.out y0
          go_wp2_with fail
          go_roundw
          case rel => exact ⟨i + 1, by omega, by go_num, by rw [HX.out], HR.out.1, HR.out.2.1, by rw [HY.out]; exact HR.out.2.2.1, HR.out.2.2.2⟩
          case measure => simp [intOf]; omega
        · by_cases yk : (n : Int) - (a : Int) < y
          · have HX : Hid (cutN n k (i + 1) = a + (n - a) ∧ cutV w.heap.size n k i = .slice (if n = a then some ⟨w.heap.size, 0, none⟩ else some ⟨w.heap.size, a, none⟩) (n - a) (n - a)) := by
              refine ⟨?_, ?_⟩
              · rw [hcs.out, if_neg y0, HCk.out, if_pos yk]
              · rw [HCv.out, if_neg y0, HCk.out, if_pos yk]
            obtain ⟨kk, hkk⟩ : ∃ kk : Nat, kk = n - a := ⟨_, rfl⟩
            have e1 : (n : Int) - (a : Int) = (kk : Int) := by omega
            have e2 : (a : Int) + (kk : Int) = (n : Int) := by omega
            have HNk : Hid (kk = n - a) := hkk
            clear hkk
            go_wp2_with fail
            go_region
            all_goals
              go_wp2_with fail
              go_roundw
              case rel =>
                refine ⟨i + 1, by omega, by go_num, by rw [HX.out.1]; congr 1; omega, At.drewN (HR.out.1.other _ _ (by omega)) 1, At.drewN (HR.out.2.1.other _ _ (by omega)) 1, ?_, below_drewN (HR.out.2.2.2.setCell hA0 _) 1⟩
                rw [HAp.out, HX.out.2]
                have := HR.out.2.2.1.put i (.slice (if n = a then some ⟨w.heap.size, 0, none⟩ else some ⟨w.heap.size, a, none⟩) (n - a) (n - a))
                rw [List.setIfInBounds_toArray] at this
                exact At.drewN this 1
              case measure => simp [intOf]; omega
          · obtain ⟨kk, hkk⟩ : ∃ kk : Nat, y = (kk : Int) := ⟨y.toNat, by omega⟩
            subst hkk
            have hka : a + kk ≤ n := by omega
            have HX : Hid (cutN n k (i + 1) = a + kk ∧ cutV w.heap.size n k i = .slice (if n = a then some ⟨w.heap.size, 0, none⟩ else some ⟨w.heap.size, a, none⟩) kk (n - a)) := by
              refine ⟨?_, ?_⟩
              · rw [hcs.out, if_neg y0, HCk.out, if_neg yk, Int.toNat_natCast]
              · rw [HCv.out, if_neg y0, HCk.out, if_neg yk, Int.toNat_natCast]
            have hak : a + kk - a = kk := by omega
            go_wp2_with fail
            go_region
            all_goals
              go_wp2_with fail
              go_roundw
              case rel =>
                refine ⟨i + 1, by omega, by go_num, by rw [HX.out.1]; go_num, At.drewN (HR.out.1.other _ _ (by omega)) 1, At.drewN (HR.out.2.1.other _ _ (by omega)) 1, ?_, below_drewN (HR.out.2.2.2.setCell hA0 _) 1⟩
                rw [HAp.out, HX.out.2]
                have := HR.out.2.2.1.put i (.slice (if n = a then some ⟨w.heap.size, 0, none⟩ else some ⟨w.heap.size, a, none⟩) kk (n - a))
                rw [List.setIfInBounds_toArray] at this
                exact At.drewN this 1
              case measure => simp [intOf]; omega
      · have him : i = m := by omega
        subst him
        obtain ⟨x0, hx0⟩ : ∃ x, wr.cell? ⟨(w.heap.size + 1), i, none⟩ = some x := ⟨_, by rw [HR.out.2.2.1.cell]; simpa using allP_get w.heap.size n k i i i (by omega)⟩
        go_wp2_with fail
        go_region
        all_goals
          go_wp2_with fail
          go_ret
          obtain ⟨en, em⟩ := HN.out
          have hsz : (wr.setCell ⟨(w.heap.size + 1), i, none⟩ (.slice (some ⟨wr.heap.size, 0, none⟩) 1 1)).heap.size = wr.heap.size := by simp [World.setCell]
          refine ⟨w.heap.size + 2, w.heap.size, (w.heap.size + 1), wr.heap.size, rfl, ((HR.out.2.2.2.setCell (by show w.heap.size ≤ (w.heap.size + 1); exact hA0) _).alloc (by rw [hsz]; exact HR.out.2.2.2.size) _).drew, ⟨?_, ?_, ?_, ?_, ⟨by omega, hO0, hA0, HR.out.2.2.2.size⟩⟩⟩
          · rw [en, em]; exact At.drewN (At.allocH (HR.out.1.other _ _ (by omega)) _) 1
          · exact At.drewN (At.allocH (HR.out.2.1.other _ _ (by omega)) _) 1
          · rw [en, em]
            have := HR.out.2.2.1.put i (.slice (some ⟨wr.heap.size, 0, none⟩) 1 1)
            rw [List.setIfInBounds_toArray] at this
            exact At.drewN (At.allocH this _) 1
          · have := At.new (wr.setCell ⟨(w.heap.size + 1), i, none⟩ (.slice (some ⟨wr.heap.size, 0, none⟩) 1 1)) (ic [77]) tN
            rw [hsz] at this
            exact At.drewN this 1
  · have H1 : Hid (At ((((w.alloc (Obj.cells l2 tSl)).alloc (Obj.cells l1 tN)).alloc (Obj.cells #[Value.slice (some ⟨w.heap.size + 1, 0, none⟩) n n, Value.slice (some ⟨w.heap.size, 0, none⟩) (m + 1) (m + 1), Value.int IntKind.i64 (m : Int)] 41)).drew) (w.heap.size + 2) (tabC (w.heap.size + 1) w.heap.size n m) tTab ∧ At ((((w.alloc (Obj.cells l2 tSl)).alloc (Obj.cells l1 tN)).alloc (Obj.cells #[Value.slice (some ⟨w.heap.size + 1, 0, none⟩) n n, Value.slice (some ⟨w.heap.size, 0, none⟩) (m + 1) (m + 1), Value.int IntKind.i64 (m : Int)] 41)).drew) (w.heap.size + 1) l1 tN ∧ At ((((w.alloc (Obj.cells l2 tSl)).alloc (Obj.cells l1 tN)).alloc (Obj.cells #[Value.slice (some ⟨w.heap.size + 1, 0, none⟩) n n, Value.slice (some ⟨w.heap.size, 0, none⟩) (m + 1) (m + 1), Value.int IntKind.i64 (m : Int)] 41)).drew) w.heap.size l2 tSl ∧ Below w.heap.size w ((((w.alloc (Obj.cells l2 tSl)).alloc (Obj.cells l1 tN)).alloc (Obj.cells #[Value.slice (some ⟨w.heap.size + 1, 0, none⟩) n n, Value.slice (some ⟨w.heap.size, 0, none⟩) (m + 1) (m + 1), Value.int IntKind.i64 (m : Int)] 41)).drew)) := by
      refine ⟨?_, (by have := At.allocH (At.new (w.alloc (Obj.cells l2 tSl)) l1 tN) (Obj.cells #[Value.slice (some ⟨w.heap.size + 1, 0, none⟩) n n, Value.slice (some ⟨w.heap.size, 0, none⟩) (m + 1) (m + 1), Value.int IntKind.i64 (m : Int)] 41); rw [show (w.alloc (Obj.cells l2 tSl)).heap.size = w.heap.size + 1 by simp] at this; exact this), (At.allocH (At.allocH (At.new _ _ _) _) _), ((((Below.refl _ _).alloc (Nat.le_refl _) _).alloc (by simp) _).alloc (by simp; omega) _).drew⟩
      exact at_third _ _ _ _ _
    rw [show w.heap.size + 1 + 1 = w.heap.size + 2 by omega]
    generalize ((((w.alloc (Obj.cells l2 tSl)).alloc (Obj.cells l1 tN)).alloc (Obj.cells #[Value.slice (some ⟨w.heap.size + 1, 0, none⟩) n n, Value.slice (some ⟨w.heap.size, 0, none⟩) (m + 1) (m + 1), Value.int IntKind.i64 (m : Int)] 41)).drew) = w1 at *
    have hOA1 : (w.heap.size + 1) ≠ w.heap.size := by omega
    have hO0 : w.heap.size ≤ (w.heap.size + 1) := by omega
    have hA0 : w.heap.size ≤ w.heap.size := by omega
    obtain ⟨w2, hcp, H2⟩ : ∃ w2, (Builtin.copy_ #[29, 29] tN #[.slice (some ⟨(w.heap.size + 1), 0, none⟩) n n, .slice ao n cac]).run Try.prog w1 = .ok (.int .i64 n) w2 ∧ Hid (At w2 (w.heap.size + 1) (ic c) tN ∧ Onl (w.heap.size + 1) w1 w2) := by
      obtain ⟨e1, e2⟩ := HN.out
      by_cases hz : n = 0
      · have ec : c = [] := List.eq_nil_of_length_eq_zero (by omega)
        refine ⟨w1, by rw [hz]; exact run_copy_none (P := Try.prog) _ 29 29 tN tN _ _ _ _ _ _ Try.underlying29 (by kernel_rfl) (by simp), ?_, Onl.refl _ _⟩
        have := H1.out.2.1
        rw [HL1.out, hz] at this
        rw [ec]
        exact this
      · obtain ⟨ao', cap', hv, _, h0⟩ := HVc.out
        injection hv with v1 v2 v3
        subst v1
        obtain ⟨b, off, rfl, hlt, hcc⟩ := h0 (by omega)
        have hml : (c.map (Value.int .i64)).length = n := by rw [List.length_map]; exact e1
        have hs1 : l1.size = n := by rw [HL1.out]; simp
        have := run_copy_row (P := Try.prog) w1 29 29 tN tN (w.heap.size + 1) 0 n n ⟨b, off, none⟩ n cac l1 tN (c.map (Value.int .i64)) Try.underlying29 (by kernel_rfl) H1.out.2.1 (by rw [hml]; simp) (by
          intro j v hj
          have hjl : j < n := by
            rcases Nat.lt_or_ge j n with h' | h'
            · exact h'
            · rw [List.getElem?_eq_none (by omega)] at hj; cases hj
          have e3 : (⟨b, off, none⟩ : Addr).add j = ⟨b, off + j, none⟩ := by unfold Addr.add; split <;> simp_all
          rw [e3, H1.out.2.2.2.cell (by exact hlt)]
          have := hcc j (by omega)
          simp [List.getElem?_map, List.getElem?_eq_getElem (show j < c.length by omega)] at hj
          rw [← hj]
          simpa [List.getD, show j < c.length by omega] using this) (by omega) (by
          intro u hu
          obtain ⟨x, _, rfl⟩ := List.mem_map.1 hu
          rfl)
        have e4 : goInt (c.map (Value.int .i64)).length = .int .i64 n := by rw [hml]; rfl
        rw [e4] at this
        refine ⟨_, this, ?_, ⟨rfl, rfl, rfl, by simp [World.setRow], fun k _ hk => setRow_other w1 (w.heap.size + 1) k _ (fun e => hk e)⟩⟩
        have h2 := setRow_heap w1 (w.heap.size + 1) l1 (l1.toList.take 0 ++ c.map (Value.int .i64) ++ l1.toList.drop (0 + (c.map (Value.int .i64)).length)).toArray tN (0, 0) H1.out.2.1
        have e5 : (l1.toList.take 0 ++ c.map (Value.int .i64) ++ l1.toList.drop (0 + (c.map (Value.int .i64)).length)).toArray = ic c := by
          rw [hml]
          unfold ic
          rw [List.drop_of_length_le (by simp; omega)]
          simp
        rw [e5] at h2 ⊢
        exact h2
    have H3 : Hid (At w2 (w.heap.size + 2) (tabC (w.heap.size + 1) w.heap.size n m) tTab ∧ At w2 (w.heap.size + 1) (ic c) tN ∧ At w2 w.heap.size (allP (w.heap.size + 1) n k m 0).toArray tSl ∧ Below w.heap.size w w2) := by
      refine ⟨H2.out.2.at_ H1.out.1 (by omega), H2.out.1, ?_, H1.out.2.2.2.trans (H2.out.2.below hO0 H1.out.2.2.2.size)⟩
      have := H2.out.2.at_ H1.out.2.2.1 (fun e => hOA1 e.symm)
      rw [HL2.out] at this
      exact this
    have c0 : w1.cell? ⟨(w.heap.size + 2), 0, none⟩ = some (.slice (some ⟨(w.heap.size + 1), 0, none⟩) n n) := H1.out.1.cell 0
    have hTl : (w.heap.size + 2) < w1.heap.size := H1.out.1.lt
    clear H2 H1
    go_wp2_with fail
    clear hcp c0 hTl
    go_loopw [6, 7] (fun av iv wr => ∃ (i : Nat), i ≤ m ∧ iv = .int .i64 i ∧ av = .int .i64 ((cutN n k i : Nat) : Int) ∧ Hid (At wr (w.heap.size + 2) (tabC (w.heap.size + 1) w.heap.size n m) tTab ∧ At wr (w.heap.size + 1) (ic c) tN ∧ At wr w.heap.size (allP (w.heap.size + 1) n k m i).toArray tSl ∧ Below w.heap.size w wr)) (fun _ iv _ => m - (intOf iv).toNat)
    case atStart => exact ⟨0, by omega, rfl, rfl, H3.out⟩
    case round =>
      obtain ⟨i, hi, rfl, rfl, HR⟩ := hrel
      have hTl := HR.out.1.lt
      have t0 : wr.cell? ⟨(w.heap.size + 2), 0, none⟩ = some (.slice (some ⟨(w.heap.size + 1), 0, none⟩) n n) := HR.out.1.cell 0
      have t1 : wr.cell? ⟨(w.heap.size + 2), 1, none⟩ = some (.slice (some ⟨w.heap.size, 0, none⟩) (m + 1) (m + 1)) := HR.out.1.cell 1
      have t2 : wr.cell? ⟨(w.heap.size + 2), 2, none⟩ = some (.int .i64 (m : Int)) := HR.out.1.cell 2
      have cf := HR.out.2.2.1.free
      have hAl := HR.out.2.2.1.lt
      by_cases hlt : i < m
      · have hii : (i : Int) < (m : Int) := by omega
        obtain ⟨x0, hx0⟩ : ∃ x, wr.cell? ⟨w.heap.size, i, none⟩ = some x := ⟨_, by rw [HR.out.2.2.1.cell]; simpa using allP_get (w.heap.size + 1) n k m i i (by omega)⟩
        obtain ⟨b, off, hbo, hbl, ck0⟩ := HK.out i hlt
        subst hbo
        have ck : wr.cell? ⟨b, off + i, none⟩ = some (.int .i64 (k.getD i 0)) := (HR.out.2.2.2.cell (p := ⟨b, off + i, none⟩) hbl).trans ck0
        have hblr : b < wr.heap.size := Nat.lt_of_lt_of_le hbl HR.out.2.2.2.size
        have hkr := HKr.out i
        have hcn := cutN_le n k i
        have hcs := (show Hid (_ = _) from cutN_succ n k i)
        have HSk := (show Hid (k.getD i 0 < 0 → _) from allP_skip (w.heap.size + 1) n k m (i := i))
        have HAp : Hid (allP (w.heap.size + 1) n k m (i + 1) = (allP (w.heap.size + 1) n k m i).set i (cutV (w.heap.size + 1) n k i)) := rfl
        have HCv : Hid (cutV (w.heap.size + 1) n k i = if k.getD i 0 < 0 then .slice none 0 0 else .slice (if n = cutN n k i then some ⟨(w.heap.size + 1), 0, none⟩ else some ⟨(w.heap.size + 1), cutN n k i, none⟩) (cutK n k i) (n - cutN n k i)) := rfl
        have HCk : Hid (cutK n k i = if ((n : Int) - (cutN n k i : Int)) < k.getD i 0 then n - cutN n k i else (k.getD i 0).toNat) := rfl
        clear ck0
        generalize cutN n k i = a at *
        generalize k.getD i 0 = y at *
        by_cases y0 : y < 0
        · have HX : Hid (cutN n k (i + 1) = a) := by show _ = _; rw [hcs.out, if_pos y0]
          have HY : Hid (allP (w.heap.size + 1) n k m (i + 1) = allP (w.heap.size + 1) n k m i) := HSk.out y0
          go_wp2_with fail
          go_roundw
          case rel => exact ⟨i + 1, by omega, by go_num, by rw [HX.out], HR.out.1, HR.out.2.1, by rw [HY.out]; exact HR.out.2.2.1, HR.out.2.2.2⟩
          case measure => simp [intOf]; omega
        · by_cases yk : (n : Int) - (a : Int) < y
          · have HX : Hid (cutN n k (i + 1) = a + (n - a) ∧ cutV (w.heap.size + 1) n k i = .slice (if n = a then some ⟨(w.heap.size + 1), 0, none⟩ else some ⟨(w.heap.size + 1), a, none⟩) (n - a) (n - a)) := by
              refine ⟨?_, ?_⟩
              · rw [hcs.out, if_neg y0, HCk.out, if_pos yk]
              · rw [HCv.out, if_neg y0, HCk.out, if_pos yk]
            obtain ⟨kk, hkk⟩ : ∃ kk : Nat, kk = n - a := ⟨_, rfl⟩
            have e1 : (n : Int) - (a : Int) = (kk : Int) := by omega
            have e2 : (a : Int) + (kk : Int) = (n : Int) := by omega
            have HNk : Hid (kk = n - a) := hkk
            clear hkk
            go_wp2_with fail
            go_region
            all_goals
              go_wp2_with fail
              go_roundw
              case rel =>
                refine ⟨i + 1, by omega, by go_num, by rw [HX.out.1]; congr 1; omega, At.drewN (HR.out.1.other _ _ (by omega)) 1, At.drewN (HR.out.2.1.other _ _ (by omega)) 1, ?_, below_drewN (HR.out.2.2.2.setCell hA0 _) 1⟩
                rw [HAp.out, HX.out.2]
                have := HR.out.2.2.1.put i (.slice (if n = a then some ⟨(w.heap.size + 1), 0, none⟩ else some ⟨(w.heap.size + 1), a, none⟩) (n - a) (n - a))
                rw [List.setIfInBounds_toArray] at this
                exact At.drewN this 1
              case measure => simp [intOf]; omega
          · obtain ⟨kk, hkk⟩ : ∃ kk : Nat, y = (kk : Int) := ⟨y.toNat, by omega⟩
            subst hkk
            have hka : a + kk ≤ n := by omega
            have HX : Hid (cutN n k (i + 1) = a + kk ∧ cutV (w.heap.size + 1) n k i = .slice (if n = a then some ⟨(w.heap.size + 1), 0, none⟩ else some ⟨(w.heap.size + 1), a, none⟩) kk (n - a)) := by
              refine ⟨?_, ?_⟩
              · rw [hcs.out, if_neg y0, HCk.out, if_neg yk, Int.toNat_natCast]
              · rw [HCv.out, if_neg y0, HCk.out, if_neg yk, Int.toNat_natCast]
            have hak : a + kk - a = kk := by omega
            go_wp2_with fail
            go_region
            all_goals
              go_wp2_with fail
              go_roundw
              case rel =>
                refine ⟨i + 1, by omega, by go_num, by rw [HX.out.1]; go_num, At.drewN (HR.out.1.other _ _ (by omega)) 1, At.drewN (HR.out.2.1.other _ _ (by omega)) 1, ?_, below_drewN (HR.out.2.2.2.setCell hA0 _) 1⟩
                rw [HAp.out, HX.out.2]
                have := HR.out.2.2.1.put i (.slice (if n = a then some ⟨(w.heap.size + 1), 0, none⟩ else some ⟨(w.heap.size + 1), a, none⟩) kk (n - a))
                rw [List.setIfInBounds_toArray] at this
                exact At.drewN this 1
              case measure => simp [intOf]; omega
      · have him : i = m := by omega
        subst him
        obtain ⟨x0, hx0⟩ : ∃ x, wr.cell? ⟨w.heap.size, i, none⟩ = some x := ⟨_, by rw [HR.out.2.2.1.cell]; simpa using allP_get (w.heap.size + 1) n k i i i (by omega)⟩
        go_wp2_with fail
        go_region
        all_goals
          go_wp2_with fail
          go_ret
          obtain ⟨en, em⟩ := HN.out
          have hsz : (wr.setCell ⟨w.heap.size, i, none⟩ (.slice (some ⟨wr.heap.size, 0, none⟩) 1 1)).heap.size = wr.heap.size := by simp [World.setCell]
          refine ⟨w.heap.size + 2, (w.heap.size + 1), w.heap.size, wr.heap.size, rfl, ((HR.out.2.2.2.setCell (by show w.heap.size ≤ w.heap.size; exact hA0) _).alloc (by rw [hsz]; exact HR.out.2.2.2.size) _).drew, ⟨?_, ?_, ?_, ?_, ⟨by omega, hO0, hA0, HR.out.2.2.2.size⟩⟩⟩
          · rw [en, em]; exact At.drewN (At.allocH (HR.out.1.other _ _ (by omega)) _) 1
          · exact At.drewN (At.allocH (HR.out.2.1.other _ _ (by omega)) _) 1
          · rw [en, em]
            have := HR.out.2.2.1.put i (.slice (some ⟨wr.heap.size, 0, none⟩) 1 1)
            rw [List.setIfInBounds_toArray] at this
            exact At.drewN (At.allocH this _) 1
          · have := At.new (wr.setCell ⟨w.heap.size, i, none⟩ (.slice (some ⟨wr.heap.size, 0, none⟩) 1 1)) (ic [77]) tN
            rw [hsz] at this
            exact At.drewN this 1

end Go.Proofs.Ytffajooegiempaa

namespace Go.Proofs.Ytffajooegiempaa
open Go.RowKit

theorem run_sliceAt (ao : Option Addr) (n cac a kk : Nat) (hn : n ≤ cac) (hak : a + kk ≤ n) (hao : n ≠ 0 → ∃ b off, ao = some ⟨b, off, none⟩) :
    ∃ p, (kk = 0 ∨ ∃ b off, ao = some ⟨b, off, none⟩ ∧ p = some ⟨b, off + a, none⟩) ∧ ∀ w, (Instr.sliceAt 29 (.slice ao n cac) (some (.int .i64 (a : Int))) (some (.int .i64 ((a : Int) + (kk : Int)))) none).run Try.prog w = .ok (.slice p kk (cac - a)) w := by
  have e3 : a + kk - a = kk := by omega
  have h1 : ((a : Int) + (kk : Int)).toNat = a + kk := by omega
  by_cases n0 : n = 0
  · have a0 : a = 0 := by omega
    have c0 : kk = 0 := by omega
    subst n0 a0 c0
    by_cases hca : cac = 0
    · subst hca
      cases ao with
      | none => exact ⟨none, .inl rfl, fun w => by go_simp⟩
      | some ad => exact ⟨some ad, .inl rfl, fun w => by go_simp⟩
    · cases ao with
      | none => exact ⟨none, .inl rfl, fun w => by go_simp⟩
      | some ad =>
        obtain ⟨b9, off9, sp9⟩ := ad
        cases sp9 with
        | none => exact ⟨some ⟨b9, off9, none⟩, .inl rfl, fun w => by go_simp⟩
        | some z9 => exact ⟨some ⟨b9, off9, some z9⟩, .inl rfl, fun w => by go_simp⟩
  · obtain ⟨b, off, rfl⟩ := hao n0
    by_cases hca : cac = a
    · exact ⟨some ⟨b, off, none⟩, .inl (by omega), fun w => by go_simp; intro hh; have := hh (by omega); omega⟩
    · exact ⟨some ⟨b, off + a, none⟩, .inr ⟨b, off, rfl, rfl⟩, fun w => by go_simp; intro hh; have := hh (by omega); omega⟩
/-- A slice is cut, as one step of a region that draws. -/
theorem yields_slice {ops : Array Oper} {o : Oper} {a : Act} {t : TypeId} {v vx vl vh : Value} (x lo hi : Operand) (hg : o.guard = none) (hop : o.op = Op.slice t x (some lo) (some hi) none) (hx : a.eval x = vx) (hlo : a.eval lo = vl) (hhi : a.eval hi = vh)
    (h : ∀ w, (Instr.sliceAt t vx (some vl) (some vh) none).run Try.prog w = .ok v w) : Yields Try.prog ops o v a := by
  refine Or.inl ⟨by simp [Region.wanted, hg], fun w => ?_⟩
  simp [execOp, hop, hx, hlo, hhi, h, Result.andThen]

end Go.Proofs.Ytffajooegiempaa

