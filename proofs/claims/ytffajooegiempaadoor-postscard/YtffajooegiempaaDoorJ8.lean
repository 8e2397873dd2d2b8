import Derived.Test.YtffajooegiempaaDoorJ7
namespace Go.Proofs.YtffajooegiempaaDoor
open Go.RowKit


set_option maxRecDepth 100000 in
set_option maxHeartbeats 800000 in
/-- A list that came out: the numbers that it is to have, and the caller's. -/
theorem l_result (w : World) (g cap : Nat) (b : Value) (l : List Int) (c : Array Value) (h : At w g c tN) (hs : c.size = cap) (hn : l.length ≤ cap) (hm : cap ≤ 1073741824)
    (hc : ∀ i, i < l.length → c[i]? = some (.int .i64 (l.getD i 0))) (hb : Reads w b l) (hb0 : ∀ n k, b ≠ .slice none n k) :
    Calls Tryd.prog 11 #[.slice (some ⟨g, 0, none⟩) l.length cap, b] w fun e w' => e = .returned (.bool true) ∧ Below g w w' := by
  have h1 := l_same w _ b l (by omega) (Reads.at_ h rfl hn hc) hb
  have h2 := fun k => l_mine (w.drewN k) g l.length cap c (h.drewN k) hs hn hm
  obtain ⟨bo, cb, rfl, -, -⟩ := hb
  obtain ⟨ba, rfl⟩ : ∃ a, bo = some a := by
    cases bo with
    | none => exact absurd rfl (hb0 _ _)
    | some a => exact ⟨a, rfl⟩
  have H2 : Hid (∀ k, Calls Tryd.prog 28 #[.slice (some ⟨g, 0, none⟩) l.length cap] (w.drewN k) fun e w' => e = .returned (.bool true) ∧ Below g (w.drewN k) w') := h2
  have hq1 : ∀ (w : World) (a : Option Addr) (n c : Nat), (binOp .eql 22 (.slice a n c) (.slice none 0 0)).run Tryd.prog w = .ok (.bool a.isNone) w := fun w a n c => Lib.run_eql_slice_nil w 22 tN a n c 0 0 Tryd.underlying22
  clear h hs hc hb0 h2
  go_enter Tryd.func11, Tryd.ntmps11
  go_wp2_with fail
  refine h1.mono ?_
  rintro e w1 ⟨rfl, k, hk⟩
  have h3 := H2.out k
  rw [← hk] at h3
  have HB : Hid (Below g w w1) := by rw [hk]; exact below_drewN (Below.refl _ _) k
  clear hk h1 H2
  go_wp2_with fail
  refine h3.mono ?_
  rintro e w2 ⟨rfl, hb2⟩
  go_wp2_with fail
  go_ret
  exact ⟨rfl, HB.out.trans hb2⟩

set_option maxRecDepth 100000 in
set_option maxHeartbeats 800000 in
theorem l_result_nil (w : World) : Calls Tryd.prog 11 #[.slice none 0 0, .slice none 0 0] w fun e w' => e = .returned (.bool true) ∧ ∃ k, w' = w.drewN k := by
  have h1 := l_same w (.slice none 0 0) (.slice none 0 0) [] (by simp) ⟨none, 0, rfl, Nat.le_refl _, fun h => absurd rfl h⟩ ⟨none, 0, rfl, Nat.le_refl _, fun h => absurd rfl h⟩
  have hq1 : ∀ (w : World) (a : Option Addr) (n c : Nat), (binOp .eql 22 (.slice a n c) (.slice none 0 0)).run Tryd.prog w = .ok (.bool a.isNone) w := fun w a n c => Lib.run_eql_slice_nil w 22 tN a n c 0 0 Tryd.underlying22
  have h2 := l_mine_nil
  go_enter Tryd.func11, Tryd.ntmps11
  go_wp2_with fail
  refine h1.mono ?_
  rintro e w1 ⟨rfl, k, hk⟩
  have HK : Hid (∃ k, w1 = w.drewN k) := ⟨k, hk⟩
  clear hk h1
  go_wp2_with fail
  refine (h2 _).mono ?_
  rintro e w2 ⟨rfl, rfl⟩
  go_wp2_with fail
  go_ret
  exact ⟨rfl, HK.out⟩

/-- What stands in a list that was handed over. -/
def lentCells (l : List Int) : Array Value := ic (l ++ [77, 77])

theorem splice_lent (l : List Int) : ((splice (List.replicate (l.length + 2) (Value.int .i64 0)) 0 (l.map (Value.int .i64))).toArray.setIfInBounds l.length (.int .i64 77)).setIfInBounds (l.length + 1) (.int .i64 77) = lentCells l := by
  unfold lentCells ic splice
  have e : (List.replicate (l.length + 2) (Value.int .i64 0)).drop (0 + (l.map (Value.int .i64)).length) = [.int .i64 0, .int .i64 0] := by
    rw [List.length_map, Nat.zero_add, List.drop_replicate, Nat.add_sub_cancel_left]; rfl
  rw [e]
  simp

set_option maxRecDepth 100000 in
set_option maxHeartbeats 1600000 in
theorem l_lent (w : World) (v : Value) (l : List Int) (hm : l.length ≤ 1073741824) (h : Reads w v l) :
    Calls Tryd.prog 8 #[v] w fun e w' => e = .returned (.slice (some ⟨w.heap.size, 0, none⟩) l.length (l.length + 2)) ∧ Below w.heap.size w w' ∧ At w' w.heap.size (lentCells l) tN ∧ w.heap.size < w'.heap.size := by
  have hmk : ∀ w, (Instr.makeSlice 22 (.int .i64 ((l.length : Int) + 2)) (.int .i64 ((l.length : Int) + 2))).run Tryd.prog w = .ok (.slice (some ⟨w.heap.size, 0, none⟩) (l.length + 2) (l.length + 2)) (w.alloc (.cells (List.replicate (l.length + 2) (Value.int .i64 0)).toArray tN)) := by
    intro w
    obtain ⟨i0, hi, hz0, hz1, hz2⟩ := info_parts (P := Tryd.prog) (e := tN) (z := .int .i64 0) (size := 1) (bytes := 8) (by kernel_rfl)
    have := run_make (P := Tryd.prog) w 22 tN i0 (.int .i64 0) Tryd.underlying22 hi hz0 .i64 .i64 ((l.length : Int) + 2) ((l.length : Int) + 2) (by omega) (Int.le_refl _) (by rw [hz2]; omega) (by omega)
    rw [this]
    have e1 : ((l.length : Int) + 2).toNat = l.length + 2 := by omega
    rw [e1, hz1]
    congr 2
    congr 1
    apply Array.ext
    · simp [size_madeCells]
    · intro i h1 h2
      simp [madeCells, Value.cells, Nat.mod_one]
  obtain ⟨ao, cap, rfl, hcap, h0⟩ := h
  have HMk : Hid (∀ w, (Instr.makeSlice 22 (.int .i64 ((l.length : Int) + 2)) (.int .i64 ((l.length : Int) + 2))).run Tryd.prog w = .ok (.slice (some ⟨w.heap.size, 0, none⟩) (l.length + 2) (l.length + 2)) (w.alloc (.cells (List.replicate (l.length + 2) (Value.int .i64 0)).toArray tN))) := hmk
  have H0 : Hid (l.length ≠ 0 → ∃ b off, ao = some ⟨b, off, none⟩ ∧ b < w.heap.size ∧ ∀ i, i < l.length → w.cell? ⟨b, off + i, none⟩ = some (.int .i64 (l.getD i 0))) := h0
  have HSp := (show Hid (_ = _) from splice_lent l)
  have HAl : Hid (At (w.alloc (.cells (List.replicate (l.length + 2) (Value.int .i64 0)).toArray tN)) w.heap.size (List.replicate (l.length + 2) (Value.int .i64 0)).toArray tN) := by
    show (w.heap.push _)[w.heap.size]? = _
    simp
  have HBe : Hid (Below w.heap.size w (w.alloc (.cells (List.replicate (l.length + 2) (Value.int .i64 0)).toArray tN))) := (Below.refl _ _).alloc (Nat.le_refl _) _
  obtain ⟨cs, hcs⟩ : ∃ cs, cs = l.map (Value.int .i64) := ⟨_, rfl⟩
  obtain ⟨cur, hcur⟩ : ∃ cur, cur = List.replicate (l.length + 2) (Value.int .i64 0) := ⟨_, rfl⟩
  rw [← hcur] at HAl HBe HMk
  rw [← hcs, ← hcur] at HSp
  have hmk' := HMk.out
  have HL1 : Hid (cs.length = l.length) := by show cs.length = _; rw [hcs]; simp
  have HL2 : Hid (cur.length = l.length + 2) := by show cur.length = _; rw [hcur]; simp
  have HCS : Hid (cs = l.map (Value.int .i64)) := hcs
  clear hmk h0 hcs hcur HMk
  generalize hn : l.length = n at *
  obtain ⟨w1, hcp, hat, hb1⟩ : ∃ w1, (Builtin.copy_ #[22, 22] tN #[.slice (some ⟨w.heap.size, 0, none⟩) (n + 2) (n + 2), .slice ao n cap]).run Tryd.prog (w.alloc (.cells cur.toArray tN)) = .ok (.int .i64 n) w1 ∧ At w1 w.heap.size (splice cur 0 cs).toArray tN ∧ Below w.heap.size w w1 := by
    by_cases hz : n = 0
    · have e0 : cs = [] := List.eq_nil_of_length_eq_zero (by rw [HL1.out]; exact hz)
      refine ⟨_, by rw [hz]; exact run_copy_none (P := Tryd.prog) _ 22 22 tN tN _ _ _ _ _ _ Tryd.underlying22 (by kernel_rfl) (by simp), ?_, HBe.out⟩
      have := HAl.out
      simpa [splice, e0] using this
    · obtain ⟨b, off, rfl, hlt, hc⟩ := H0.out hz
      have := run_copy_row (P := Tryd.prog) (w.alloc (.cells cur.toArray tN)) 22 22 tN tN w.heap.size 0 (n + 2) (n + 2) ⟨b, off, none⟩ n cap cur.toArray tN cs Tryd.underlying22 (by kernel_rfl) HAl.out (by rw [HL1.out]; simp) (by
        intro j v hj
        rw [HCS.out] at hj
        have hjl : j < n := by
          rcases Nat.lt_or_ge j n with h' | h'
          · exact h'
          · rw [List.getElem?_eq_none (by simp; omega)] at hj; cases hj
        have e1 : (⟨b, off, none⟩ : Addr).add j = ⟨b, off + j, none⟩ := by unfold Addr.add; split <;> simp_all
        rw [e1, HBe.out.cell (by exact hlt)]
        have := hc j hjl
        simp [List.getElem?_map, List.getElem?_eq_getElem (show j < l.length by omega)] at hj
        rw [← hj]
        simpa [List.getD, show j < l.length by omega] using this) (by
        have h1 := HL1.out
        have h2 := HL2.out
        simp only [List.size_toArray]; omega) (by
        intro u hu
        rw [HCS.out] at hu
        obtain ⟨x, _, rfl⟩ := List.mem_map.1 hu
        rfl)
      have e2 : goInt cs.length = .int .i64 n := by rw [HL1.out]; rfl
      rw [e2] at this
      refine ⟨_, this, ?_, below_setRow HBe.out (Nat.le_refl _) _⟩
      have h2 := setRow_heap (w.alloc (.cells cur.toArray tN)) w.heap.size cur.toArray (cur.toArray.toList.take 0 ++ cs ++ cur.toArray.toList.drop (0 + cs.length)).toArray tN (0, 0) HAl.out
      rw [show splice cur 0 cs = cur.toArray.toList.take 0 ++ cs ++ cur.toArray.toList.drop (0 + cs.length) by simp [splice]]
      exact h2
  have hsz : (splice cur 0 cs).toArray.size = n + 2 := by
    have := length_splice cur 0 cs (by rw [HL1.out, HL2.out]; omega)
    simp only [List.size_toArray]; rw [this]; exact HL2.out
  have hlt1 := hat.lt
  obtain ⟨x1, c1⟩ : ∃ x, w1.cell? ⟨w.heap.size, n, none⟩ = some x := ⟨(splice cur 0 cs).toArray[n]'(by omega), by rw [hat.cell]; exact Array.getElem?_eq_getElem _⟩
  obtain ⟨x2, c2⟩ : ∃ x, w1.cell? ⟨w.heap.size, n + 1, none⟩ = some x := ⟨(splice cur 0 cs).toArray[n + 1]'(by omega), by rw [hat.cell]; exact Array.getElem?_eq_getElem _⟩
  have f1 := hat.free n
  have f2 := hat.free (n + 1)
  have HAt : Hid (At w1 w.heap.size (splice cur 0 cs).toArray tN) := hat
  have HB1 : Hid (Below w.heap.size w w1) := hb1
  clear hat hsz hb1
  go_enter Tryd.func8, Tryd.ntmps8
  go_wp2_with fail
  go_ret
  refine ⟨rfl, (HB1.out.setCell (Nat.le_refl _) _).setCell (Nat.le_refl _) _, ?_, by simpa using hlt1⟩
  rw [← HSp.out]
  exact (HAt.out.put n _).put (n + 1) _

set_option maxRecDepth 100000 in
set_option maxHeartbeats 800000 in
theorem l_whole (w : World) (g : Nat) (v : Value) (l : List Int) (hm : l.length ≤ 1073741824) (h : At w g (lentCells l) tN) (hv : Reads w v l) :
    Calls Tryd.prog 12 #[.slice (some ⟨g, 0, none⟩) l.length (l.length + 2), v] w fun e w' => e = .returned (.bool true) ∧ ∃ k, w' = w.drewN k := by
  have hc : ∀ i, i < l.length → (lentCells l)[i]? = some (.int .i64 (l.getD i 0)) := by
    intro i hi
    unfold lentCells
    rw [ic_get _ _ (by simp; omega)]
    simp [List.getD, List.getElem?_append_left hi]
  have h1 := l_same w (.slice (some ⟨g, 0, none⟩) l.length (l.length + 2)) v l hm (Reads.at_ h rfl (by omega) hc) hv
  have c1 : w.cell? ⟨g, l.length, none⟩ = some (.int .i64 77) := by rw [h.cell]; unfold lentCells; rw [ic_get _ _ (by simp)]; simp [List.getD]
  have c2 : w.cell? ⟨g, l.length + 1, none⟩ = some (.int .i64 77) := by rw [h.cell]; unfold lentCells; rw [ic_get _ _ (by simp)]; simp [List.getD]
  obtain ⟨ao, cap, rfl, -, -⟩ := hv
  have hg := h.lt
  clear h hc
  generalize l.length = n at *
  go_enter Tryd.func12, Tryd.ntmps12
  go_wp2_with fail
  refine h1.mono ?_
  rintro e w1 ⟨rfl, k, hk⟩
  have c1' : w1.cell? ⟨g, n, none⟩ = some (.int .i64 77) := by rw [hk]; exact c1
  have c2' : w1.cell? ⟨g, n + 1, none⟩ = some (.int .i64 77) := by rw [hk]; exact c2
  have HK : Hid (∃ k, w1 = w.drewN k) := ⟨k, hk⟩
  clear hk h1 c1 c2
  go_wp2_with fail
  go_ret
  exact ⟨rfl, HK.out⟩

end Go.Proofs.YtffajooegiempaaDoor

namespace Go.Proofs.YtffajooegiempaaDoor
open Go.RowKit
variable {w : World} {b : Nat} {e1 e2 : Bool} {M N : Nat → Int}

def leF (M N : Nat → Int) : Nat → Bool
  | 0 => true
  | k + 1 => leF M N k && decide (M k ≤ N k)
def wiB (e1 e2 : Bool) (M N : Nat → Int) : Bool := if (e1 || e2) = true then e1 else leF M N 64
theorem leF_false {k : Nat} (h : k < 64) (hn : ¬ M k ≤ N k) : leF M N 64 = false := by
  have : ∀ d, leF M N (k + 1 + d) = false := by
    intro d
    induction d with
    | zero => show (leF M N k && decide (M k ≤ N k)) = false; rw [decide_eq_false hn]; simp
    | succ d ih => show (leF M N (k + 1 + d) && _) = false; rw [ih]; rfl
  rw [show 64 = k + 1 + (63 - k) by omega]
  exact this _

set_option maxRecDepth 100000 in
set_option maxHeartbeats 1600000 in
theorem o_within : Calls Tryd.prog 30 #[.agg (oc e1 M), .agg (oc e2 N)] w fun e w' => e = .returned (.bool (wiB e1 e2 M N)) ∧ Below w.heap.size w w' := by
  obtain ⟨w0, hw0⟩ : ∃ w0, w0 = (w.alloc (.cells (oc e1 M) tO)).alloc (.cells (oc e2 N) tO) := ⟨_, rfl⟩
  have ha1 : OAt w0 w.heap.size e1 M := by rw [hw0]; exact At.allocH (At.new _ _ _) _
  have ha2 : OAt w0 (w.heap.size + 1) e2 N := by
    have := At.new (w.alloc (.cells (oc e1 M) tO)) (oc e2 N) tO
    rw [show (w.alloc (.cells (oc e1 M) tO)).heap.size = w.heap.size + 1 by simp] at this
    rw [hw0]; exact this
  have hb0 : Below w.heap.size w w0 := by rw [hw0]; exact ((Below.refl _ _).alloc (Nat.le_refl _) _).alloc (by simp) _
  have hs0 : w0.heap.size = w.heap.size + 2 := by rw [hw0]; simp
  have z1 : w0.cell? ⟨w.heap.size, 0, none⟩ = some (.bool e1) := by rw [At.cell ha1]; exact oc_0 _ _
  have z2 : w0.cell? ⟨w.heap.size + 1, 0, none⟩ = some (.bool e2) := by rw [At.cell ha2]; exact oc_0 _ _
  have HW0 : Hid (w0 = _) := hw0
  have H1 : Hid (OAt w0 w.heap.size e1 M) := ha1
  have H2 : Hid (OAt w0 (w.heap.size + 1) e2 N) := ha2
  have HB0 : Hid (Below w.heap.size w w0) := hb0
  clear ha1 ha2 hb0
  cases e1 with
  | true =>
    have HE : Hid (wiB true e2 M N = true) := rfl
    rw [hw0] at z1 z2
    clear hw0
    go_enter Tryd.func30, Tryd.ntmps30
    go_wp2_with fail
    go_ret
    exact ⟨by rw [HE.out]; rfl, by have := HB0.out; rw [HW0.out] at this; exact this⟩
  | false =>
  cases e2 with
  | true =>
    have HE : Hid (wiB false true M N = false) := rfl
    rw [hw0] at z1 z2
    clear hw0
    go_enter Tryd.func30, Tryd.ntmps30
    go_wp2_with fail
    go_ret
    exact ⟨by rw [HE.out]; rfl, by have := HB0.out; rw [HW0.out] at this; exact this⟩
  | false =>
    have HE : Hid (wiB false false M N = leF M N 64) := rfl
    rw [hw0] at z1 z2
    clear hw0
    go_enter Tryd.func30, Tryd.ntmps30
    go_wp2_with fail
    go_loopw [5] (fun i wr => ∃ (p d : Nat), p ≤ 8 ∧ i = .int .i64 p ∧ Hid (leF M N (p * 8) = true ∧ wr = w0.drewN d)) (fun i _ => 8 - (intOf i).toNat)
    case atStart => exact ⟨0, 0, by omega, rfl, rfl, HW0.out.symm⟩
    case round =>
      obtain ⟨p, d, hp, rfl, HR⟩ := hrel
      by_cases hlt : p < 8
      · have hpi : (p : Int) < 8 := by omega
        obtain ⟨w4, rfl⟩ : ∃ w4, w4 = wr := ⟨_, rfl⟩
        go_wp2_with fail
        go_loopw [6] (fun j wr => ∃ (q d : Nat), q ≤ 8 ∧ j = .int .i64 q ∧ Hid (leF M N (p * 8 + q) = true ∧ wr = w0.drewN d)) (fun j _ => 8 - (intOf j).toNat)
        case atStart => exact ⟨0, d, by omega, rfl, HR.out⟩
        case round =>
          obtain ⟨q, d, hq, rfl, HQ⟩ := hrel
          by_cases hlt2 : q < 8
          · have hqi : (q : Int) < 8 := by omega
            have c1 : wr.cell? ⟨w.heap.size, 1 + p * 8 + q, none⟩ = some (.int .i64 (M (p * 8 + q))) := by rw [Nat.add_assoc, HQ.out.2]; exact OAt.cell (w := w0.drewN d) (At.drewN H1.out d) (p * 8 + q) (by omega)
            have c2 : wr.cell? ⟨w.heap.size + 1, 1 + p * 8 + q, none⟩ = some (.int .i64 (N (p * 8 + q))) := by rw [Nat.add_assoc, HQ.out.2]; exact OAt.cell (w := w0.drewN d) (At.drewN H2.out d) (p * 8 + q) (by omega)
            have HEq : Hid (leF M N (p * 8 + (q + 1)) = (leF M N (p * 8 + q) && decide (M (p * 8 + q) ≤ N (p * 8 + q)))) := rfl
            have HNo : Hid (¬ M (p * 8 + q) ≤ N (p * 8 + q) → leF M N 64 = false) := fun h => leF_false (by omega) h
            generalize M (p * 8 + q) = m at *
            generalize N (p * 8 + q) = n at *
            by_cases hn : n < m
            · have HF : Hid (leF M N 64 = false) := HNo.out (by omega)
              go_wp2_with fail
              go_quiet (fail)
              go_wp2_with fail
              go_ret
              refine ⟨by rw [HE.out, HF.out]; rfl, ?_⟩
              rw [HQ.out.2]
              exact below_drewN (below_drewN HB0.out _) _
            · have hle : m ≤ n := by omega
              go_wp2_with fail
              go_quiet (fail)
              go_wp2_with fail
              go_roundw
              case rel => exact ⟨q + 1, d + nq, by omega, by go_num, by rw [HEq.out, HQ.out.1]; simpa using hle, by rw [HQ.out.2]; exact World.drewN_drewN _ _ _⟩
              case measure => simp [intOf]; omega
          · have hq8 : q = 8 := by omega
            subst hq8
            go_wp2_with fail
            go_roundw
            case rel => exact ⟨p + 1, d, by omega, by go_num, by rw [show (p + 1) * 8 = p * 8 + 8 by omega]; exact HQ.out.1, HQ.out.2⟩
            case measure => simp [intOf]; omega
      · have hp8 : p = 8 := by omega
        subst hp8
        go_wp2_with fail
        go_ret
        refine ⟨by rw [HE.out, HR.out.1]; rfl, ?_⟩
        rw [HR.out.2]
        exact below_drewN HB0.out _

/-- The greater of two, entry by entry. -/
def jF (M N : Nat → Int) : Nat → Nat → Int
  | 0 => M
  | k + 1 => if jF M N k k < N k then upd (jF M N k) k (N k) else jF M N k
def joE (e1 e2 : Bool) : Bool := if e1 = true then e2 else e1
def joM (e1 e2 : Bool) (M N : Nat → Int) : Nat → Int := if e1 = true then N else if e2 = true then M else jF M N 64

set_option maxRecDepth 100000 in
set_option maxHeartbeats 1600000 in
theorem o_join : Calls Tryd.prog 32 #[.agg (oc e1 M), .agg (oc e2 N)] w fun e w' => e = .returned (.agg (oc (joE e1 e2) (joM e1 e2 M N))) ∧ Below w.heap.size w w' := by
  have hz := o_zero
  obtain ⟨w0, hw0⟩ : ∃ w0, w0 = ((w.alloc (.cells (oc e1 M) tO)).alloc (.cells (oc e2 N) tO)).alloc (.cells (oc false fun _ => 0) tO) := ⟨_, rfl⟩
  have ha1 : OAt w0 w.heap.size e1 M := by rw [hw0]; exact At.allocH (At.allocH (At.new _ _ _) _) _
  have ha2 : OAt w0 (w.heap.size + 1) e2 N := by
    have := At.new (w.alloc (.cells (oc e1 M) tO)) (oc e2 N) tO
    rw [show (w.alloc (.cells (oc e1 M) tO)).heap.size = w.heap.size + 1 by simp] at this
    rw [hw0]; exact At.allocH this _
  have ha3 : OAt w0 (w.heap.size + 2) false (fun _ => 0) := by
    have := At.new ((w.alloc (.cells (oc e1 M) tO)).alloc (.cells (oc e2 N) tO)) (oc false fun _ => 0) tO
    rw [show ((w.alloc (.cells (oc e1 M) tO)).alloc (.cells (oc e2 N) tO)).heap.size = w.heap.size + 2 by simp] at this
    rw [hw0]; exact this
  have hb0 : Below w.heap.size w w0 := by rw [hw0]; exact (((Below.refl _ _).alloc (Nat.le_refl _) _).alloc (by simp) _).alloc (by simp; omega) _
  have hs0 : w0.heap.size = w.heap.size + 3 := by rw [hw0]; simp
  have z1 : w0.cell? ⟨w.heap.size, 0, none⟩ = some (.bool e1) := by rw [At.cell ha1]; exact oc_0 _ _
  have z2 : w0.cell? ⟨w.heap.size + 1, 0, none⟩ = some (.bool e2) := by rw [At.cell ha2]; exact oc_0 _ _
  have HW0 : Hid (w0 = _) := hw0
  have H1 : Hid (OAt w0 w.heap.size e1 M) := ha1
  have H2 : Hid (OAt w0 (w.heap.size + 1) e2 N) := ha2
  have H3 : Hid (OAt w0 (w.heap.size + 2) false fun _ => 0) := ha3
  have HB0 : Hid (Below w.heap.size w w0) := hb0
  clear ha1 ha2 ha3 hb0
  cases e1 with
  | true =>
    obtain ⟨w5, hst5, hat5, ho5⟩ := o_store (H3.out) (e2) (N)
    have H5 : Hid (OAt w5 (w.heap.size + 2) (e2) (N) ∧ Below w.heap.size w w5) := ⟨hat5, (HB0.out).trans (ho5.below (by omega) (by omega))⟩
    clear hat5 ho5
    have hl2 := H2.out
    rw [hw0] at z1 z2 hst5 hl2
    have HL2 : Hid (OAt _ _ _ _) := hl2
    clear hw0 hl2
    go_enter Tryd.func32, Tryd.ntmps32
    go_wp2_with (refine wpList_load_o rfl (.tmp 3) rfl rfl HL2.out ?_)
    try simp only [Exit.inBlock, Exit.then]
    refine bodyPost_ret (results_o rfl _ rfl H5.out.1) rfl ?_
    exact ⟨rfl, H5.out.2⟩
  | false =>
  cases e2 with
  | true =>
    obtain ⟨w5, hst5, hat5, ho5⟩ := o_store (H3.out) (false) (M)
    have H5 : Hid (OAt w5 (w.heap.size + 2) (false) (M) ∧ Below w.heap.size w w5) := ⟨hat5, (HB0.out).trans (ho5.below (by omega) (by omega))⟩
    clear hat5 ho5
    have hl1 := H1.out
    rw [hw0] at z1 z2 hst5 hl1
    have HL1 : Hid (OAt _ _ _ _) := hl1
    clear hw0 hl1
    go_enter Tryd.func32, Tryd.ntmps32
    go_wp2_with (refine wpList_load_o rfl (.tmp 2) rfl rfl HL1.out ?_)
    try simp only [Exit.inBlock, Exit.then]
    refine bodyPost_ret (results_o rfl _ rfl H5.out.1) rfl ?_
    exact ⟨rfl, H5.out.2⟩
  | false =>
    rw [hw0] at z1 z2
    clear hw0
    go_enter Tryd.func32, Tryd.ntmps32
    go_wp2_with fail
    go_loopw [5] (fun i wr => ∃ (p : Nat), p ≤ 8 ∧ i = .int .i64 p ∧ Hid (OAt wr w.heap.size false (jF M N (p * 8)) ∧ Onl w.heap.size w0 wr)) (fun i _ => 8 - (intOf i).toNat)
    case atStart => exact ⟨0, by omega, rfl, by have := H1.out; rw [HW0.out] at this; exact this, by rw [← HW0.out]; exact Onl.refl _ _⟩
    case round =>
      obtain ⟨p, hp, rfl, HR⟩ := hrel
      by_cases hlt : p < 8
      · have hpi : (p : Int) < 8 := by omega
        obtain ⟨w4, rfl⟩ : ∃ w4, w4 = wr := ⟨_, rfl⟩
        go_wp2_with fail
        go_loopw [6] (fun j wr => ∃ (q : Nat), q ≤ 8 ∧ j = .int .i64 q ∧ Hid (OAt wr w.heap.size false (jF M N (p * 8 + q)) ∧ Onl w.heap.size w0 wr)) (fun j _ => 8 - (intOf j).toNat)
        case atStart => exact ⟨0, by omega, rfl, HR.out⟩
        case round =>
          obtain ⟨q, hq, rfl, HQ⟩ := hrel
          by_cases hlt2 : q < 8
          · have hqi : (q : Int) < 8 := by omega
            have hk : p * 8 + q < 64 := by omega
            have HE0 : Hid (jF M N (p * 8 + (q + 1)) = if jF M N (p * 8 + q) (p * 8 + q) < N (p * 8 + q) then upd (jF M N (p * 8 + q)) (p * 8 + q) (N (p * 8 + q)) else jF M N (p * 8 + q)) := rfl
            generalize jF M N (p * 8 + q) = J at *
            have c1 : wr.cell? ⟨w.heap.size, 1 + p * 8 + q, none⟩ = some (.int .i64 (J (p * 8 + q))) := by rw [Nat.add_assoc]; exact HQ.out.1.cell (p * 8 + q) hk
            have h2' : OAt wr (w.heap.size + 1) false N := HQ.out.2.at_ H2.out (by omega)
            have c2 : wr.cell? ⟨w.heap.size + 1, 1 + p * 8 + q, none⟩ = some (.int .i64 (N (p * 8 + q))) := by rw [Nat.add_assoc]; exact h2'.cell (p * 8 + q) hk
            have cf : wr.frozen? ⟨w.heap.size, 1 + p * 8 + q, none⟩ = false := At.free HQ.out.1 _
            have hl1 : w.heap.size < wr.heap.size := At.lt HQ.out.1
            clear h2'
            generalize hJ : J (p * 8 + q) = m at *
            generalize hNn : N (p * 8 + q) = n at *
            have HNn : Hid (N (p * 8 + q) = n) := hNn
            clear hJ hNn
            by_cases hn : m < n
            · have HE : Hid (_ = _) := HE0.out.trans (if_pos hn)
              clear HE0
              go_wp2_with fail
              go_quiet (fail)
              obtain ⟨w5, hW5⟩ : ∃ w5, w5 = wr.drewN nq := ⟨_, rfl⟩
              rw [← hW5]
              have k1 : ∀ a, w5.cell? a = wr.cell? a := fun a => by rw [hW5]; rfl
              rw [← k1] at c1 c2
              have cf5 : w5.frozen? ⟨w.heap.size, 1 + p * 8 + q, none⟩ = false := by rw [hW5]; exact cf
              have HQ5 : Hid (OAt w5 w.heap.size false J ∧ Onl w.heap.size w0 w5) := by rw [hW5]; exact ⟨At.drewN HQ.out.1 nq, HQ.out.2.drewN nq⟩
              have hl5 : w.heap.size < w5.heap.size := by rw [hW5]; exact hl1
              clear k1 hW5 cf hl1
              go_wp2_with fail
              go_region
              all_goals
                go_wp2_with fail
                go_roundw
                case rel =>
                  refine ⟨q + 1, by omega, by go_num, ?_, (HQ5.out.2.setCell _ _).drewN 1⟩
                  rw [HE.out, Nat.add_assoc]
                  exact At.drewN (OAt.put HQ5.out.1 (p * 8 + q) hk _) 1
                case measure => simp [intOf]; omega
            · have HE : Hid (_ = _) := HE0.out.trans (if_neg hn)
              clear HE0
              go_wp2_with fail
              go_quiet (fail)
              go_wp2_with fail
              go_roundw
              case rel => exact ⟨q + 1, by omega, by go_num, by rw [HE.out]; exact At.drewN HQ.out.1 nq, HQ.out.2.drewN nq⟩
              case measure => simp [intOf]; omega
          · have hq8 : q = 8 := by omega
            subst hq8
            go_wp2_with fail
            go_roundw
            case rel => exact ⟨p + 1, by omega, by go_num, by rw [show (p + 1) * 8 = p * 8 + 8 by omega]; exact HQ.out.1, HQ.out.2⟩
            case measure => simp [intOf]; omega
      · have hp8 : p = 8 := by omega
        subst hp8
        have h3 : OAt wr (w.heap.size + 2) false (fun _ => 0) := HR.out.2.at_ H3.out (by omega)
        have hsz := HR.out.2.size
        have hbw : Below w.heap.size w wr := HB0.out.trans (HR.out.2.below (Nat.le_refl _) (by omega))
        obtain ⟨w5, hst5, hat5, ho5⟩ := o_store (h3) (false) (jF M N 64)
        have H5 : Hid (OAt w5 (w.heap.size + 2) (false) (jF M N 64) ∧ Below w.heap.size w w5) := ⟨hat5, (hbw).trans (ho5.below (by omega) (by omega))⟩
        clear hat5 ho5
        have HLr : Hid (OAt wr w.heap.size false (jF M N 64)) := HR.out.1
        clear h3 hbw
        go_wp2_with (refine wpList_load_o rfl (.tmp 2) rfl rfl HLr.out ?_)
        try simp only [Exit.inBlock, Exit.then]
        refine bodyPost_ret (results_o rfl _ rfl H5.out.1) rfl ?_
        exact ⟨rfl, H5.out.2⟩

end Go.Proofs.YtffajooegiempaaDoor

namespace Go.Proofs.YtffajooegiempaaDoor
open Go.RowKit
variable {w : World} {b : Nat} {e0 e1 e2 : Bool} {M N : Nat → Int}

theorem o_read (hG : Glob w) (v : Value) (l : List Int) (hv : Reads w v l) :
    Calls Tryd.prog 23 #[v] w fun e w' => Below w.heap.size w w' ∧ ((okL l ∧ e = .returned (.tuple #[.agg (oc (ovE l) (ovM l)), .int .i64 0])) ∨ (¬ okL l ∧ e = .returned (.tuple #[.agg (oc false fun _ => 0), .int .i64 3]))) := by
  cases hg : gdB l with
  | true => exact (o_read_ok hG v l (gdB_ok.1 hg) hv).mono fun e w' h' => ⟨h'.2, .inl ⟨gdB_ok.1 hg, h'.1⟩⟩
  | false => exact (o_read_bad v l hv hg).mono fun e w' h' => ⟨h'.2, .inr ⟨(fun q => by rw [gdB_ok.2 q] at hg; cases hg), h'.1⟩⟩

theorem onl_new {q : Nat} {w w1 w2 : World} (hb : Below w.heap.size w w1) (ho : Onl q w1 w2) (hq : w.heap.size ≤ q) : Below w.heap.size w w2 := hb.trans (ho.below hq hb.size)
/-- A fresh octagon is laid: the block that comes next. -/
theorem o_fresh (w1 : World) (e : Bool) (M : Nat → Int) : ∃ w2, (storeCells ⟨w1.heap.size, 0, none⟩ (oc e M).toList).run Tryd.prog (w1.alloc (.cells (oc false fun _ => 0) tO)) = .ok () w2 ∧ OAt w2 w1.heap.size e M ∧ Below w1.heap.size w1 w2 ∧ w1.heap.size < w2.heap.size := by
  have h0 : OAt (w1.alloc (.cells (oc false fun _ => 0) tO)) w1.heap.size false (fun _ => 0) := At.new _ _ _
  obtain ⟨w2, h1, h2, h3⟩ := o_store h0 e M
  exact ⟨w2, h1, h2, ((Below.refl _ _).alloc (Nat.le_refl _) _).trans (h3.below (Nat.le_refl _) (by simp)), At.lt h2⟩

theorem o_storeAt (h : OAt w b e0 M) (e' : Bool) (M' : Nat → Int) : ∃ w1, (Instr.storeAt tO (.pointer (some ⟨b, 0, none⟩)) (.agg (oc e' M'))).run Tryd.prog w = .ok () w1 ∧ OAt w1 b e' M' ∧ Onl b w w1 := by
  refine ⟨w.setRow b (oc e' M'), ?_, setRow_heap w b (oc e0 M) (oc e' M') tO (0, 0) h, ⟨rfl, rfl, rfl, by simp [World.setRow], fun k _ hk => setRow_other w b k _ (fun e => hk e)⟩⟩
  simp only [Instr.storeAt, Instr.sureAddr, Sem.run_bind, Sem.run_pure, Result.andThen]
  exact run_storeVar_row w b tO tO (oc e0 M) (oc e' M') h (by rw [oc_size]; kernel_rfl) (by rw [oc_size, oc_size]) (Array.all_eq_true_iff_forall_mem.2 fun v hv => oc_one e' M' v (by simpa using hv))
theorem step_store_o {ops : Array Oper} {o : Oper} {a : Act} {K : Act → World → Prop} {Q : Exit → Act → World → Prop} {E : Prop} (hg : o.guard = none) (p x : Operand) (hop : o.op = Op.store tO p x) (hp : a.eval p = .pointer (some ⟨b, 0, none⟩)) (e' : Bool) (M' : Nat → Int) (hx : a.eval x = .agg (oc e' M')) (hat : OAt w b e0 M)
    (hK : ∀ w', OAt w' b e' M' → Onl b w w' → K (a.put o.dst undef) w') : if Region.wanted o (yielded ops a.tmps) = true then Oper.wp Tryd.prog o a w K Q else E := by
  have hw : Region.wanted o (yielded ops a.tmps) = true := by simp [Region.wanted, hg]
  rw [if_pos hw]
  obtain ⟨w1, h1, h2, h3⟩ := o_storeAt hat e' M'
  unfold Oper.wp
  simp [execOp, hop, hp, hx, h1, Result.andThen, Oper.upon]
  exact hK w1 h2 h3
theorem results_occ {fn : Func} {t u x : Tmp} {b2 : Nat} (h : fn.results = #[.cell t tO, .cell u tO, .tmp x]) (tmps : Array Value) (hp : tmps.getD t undef = .pointer (some ⟨b, 0, none⟩)) (hp2 : tmps.getD u undef = .pointer (some ⟨b2, 0, none⟩)) (hat : OAt w b e1 M) (hat2 : OAt w b2 e2 N) :
    (results fn tmps).run Tryd.prog w = .ok (.tuple #[.agg (oc e1 M), .agg (oc e2 N), tmps.getD x undef]) w := by
  have hp' : tmps[t]?.getD undef = .pointer (some ⟨b, 0, none⟩) := by simpa using hp
  have hp2' : tmps[u]?.getD undef = .pointer (some ⟨b2, 0, none⟩) := by simpa using hp2
  simp [results, h, hp', hp2', asAddr, o_loadVar hat, o_loadVar hat2]

/-- What Read answers, wherever it is called. -/
def RdS (w : World) (u : Value) (e : Bool) (M : Nat → Int) (c : Int) : Prop := ∀ w1, Below w.heap.size w w1 → Calls Tryd.prog 23 #[u] w1 fun x w' => x = .returned (.tuple #[.agg (oc e M), .int .i64 c]) ∧ Below w1.heap.size w1 w'

set_option maxRecDepth 100000 in
set_option maxHeartbeats 3200000 in
theorem w_readBoth (u v : Value) (hr1 : RdS w u e1 M 0) (c : Int) (hr2 : RdS w v e2 N c) (hu : ∃ a n k, u = .slice a n k) (hv : ∃ a n k, v = .slice a n k) :
    Calls Tryd.prog 29 #[u, v] w fun e w' => e = .returned (.tuple #[.agg (oc e1 M), .agg (oc e2 N), .int .i64 c]) ∧ Below w.heap.size w w' := by
  have hz := o_zero
  obtain ⟨w0, hw0⟩ : ∃ w0, w0 = (w.alloc (.cells (oc false fun _ => 0) tO)).alloc (.cells (oc false fun _ => 0) tO) := ⟨_, rfl⟩
  have hb0 : Below w.heap.size w w0 := by rw [hw0]; exact ((Below.refl _ _).alloc (Nat.le_refl _) _).alloc (by simp) _
  have hs0 : w0.heap.size = w.heap.size + 2 := by rw [hw0]; simp
  have ha0 : OAt w0 w.heap.size false (fun _ => 0) := by rw [hw0]; exact At.allocH (At.new _ _ _) _
  have ha1 : OAt w0 (w.heap.size + 1) false (fun _ => 0) := by
    have := At.new (w.alloc (.cells (oc false fun _ => 0) tO)) (oc false fun _ => 0) tO
    rw [show (w.alloc (.cells (oc false fun _ => 0) tO)).heap.size = w.heap.size + 1 by simp] at this
    rw [hw0]; exact this
  have hr1' := hr1 w0 hb0
  have HB0 : Hid (Below w.heap.size w w0) := hb0
  have HA0 : Hid (OAt w0 w.heap.size false (fun _ => 0) ∧ OAt w0 (w.heap.size + 1) false (fun _ => 0)) := ⟨ha0, ha1⟩
  rw [hw0] at hr1'
  clear ha0 ha1 hb0
  have HR2 : Hid (RdS w v e2 N c) := hr2
  obtain ⟨au, nu, cu, rfl⟩ := hu
  obtain ⟨av, nv, cv, rfl⟩ := hv
  clear hr1 hr2
  go_enter Tryd.func29, Tryd.ntmps29
  go_wp2_with fail
  refine hr1'.mono ?_
  rintro e w1 ⟨rfl, hb1⟩
  rw [← hw0] at hb1
  have hb1w : Below w.heap.size w w1 := HB0.out.trans (hb1.mono (by omega))
  obtain ⟨w2, hst2, hat2, hb2, hs2⟩ := o_fresh w1 (e1) (M)
  have hsz1 : w.heap.size + 2 ≤ w1.heap.size := by have := hb1.size; omega
  have H1 : Hid (OAt w1 w.heap.size false (fun _ => 0) ∧ OAt w1 (w.heap.size + 1) false (fun _ => 0)) := ⟨At.keep HA0.out.1 hb1 (by omega), At.keep HA0.out.2 hb1 (by omega)⟩
  have H2 : Hid (OAt w2 w1.heap.size (e1) (M) ∧ OAt w2 w.heap.size false (fun _ => 0) ∧ OAt w2 (w.heap.size + 1) false (fun _ => 0) ∧ Below w.heap.size w w2) := ⟨hat2, At.keep H1.out.1 hb2 (by omega), At.keep H1.out.2 hb2 (by omega), hb1w.trans (hb2.mono (by omega))⟩
  clear hb1 hat2 hb2 hr1' hb1w
  have hr2 := HR2.out w2 H2.out.2.2.2
  go_wp2_with fail
  refine hr2.mono ?_
  rintro e w3 ⟨rfl, hb3⟩
  obtain ⟨w4, hst4, hat4, hb4, hs4⟩ := o_fresh w3 e2 N
  have hsz3 := hb3.size
  have H4 : Hid (OAt w4 w3.heap.size e2 N ∧ OAt w4 w1.heap.size e1 M ∧ OAt w4 w.heap.size false (fun _ => 0) ∧ OAt w4 (w.heap.size + 1) false (fun _ => 0) ∧ Below w.heap.size w w4) :=
    ⟨hat4, At.keep (At.keep H2.out.1 hb3 hs2) hb4 (by omega), At.keep (At.keep H2.out.2.1 hb3 (by omega)) hb4 (by omega), At.keep (At.keep H2.out.2.2.1 hb3 (by omega)) hb4 (by omega), (H2.out.2.2.2.trans (hb3.mono (by omega))).trans (hb4.mono (by omega))⟩
  clear hb3 hat4 hb4 hr2
  go_wp2_with fail
  refine wp_region_any (by kernel_rfl) ?_
  change wpAny _ _ _ _ _ _ _ (World.drew _)
  have hne1 : w1.heap.size ≠ w.heap.size := by omega
  have h5 : Hid (OAt w4.drew w3.heap.size e2 N ∧ OAt w4.drew w1.heap.size e1 M ∧ OAt w4.drew w.heap.size false (fun _ => 0) ∧ OAt w4.drew (w.heap.size + 1) false (fun _ => 0) ∧ Below w.heap.size w w4.drew) := ⟨H4.out.1, H4.out.2.1, H4.out.2.2.1, H4.out.2.2.2.1, H4.out.2.2.2.2.drew⟩
  generalize w4.drew = w5 at *
  refine wpAny_take (i := 2) (v := .int .i64 c) rfl (by kernel_rfl) (by kernel_rfl) (by kernel_rfl) (fun _ _ _ h => h) (Or.inl ⟨by rfl, by intro w; go_simp⟩) ?_
  refine wpAny_ready (rs := [0, 1]) (by kernel_rfl) (by simp) ?_
  refine AllReady.cons (o := ⟨some 25, .load tO (.tmp 7), _, _, _, none⟩) rfl (fun K hK => ?_) (AllReady.cons (o := ⟨some 26, .load tO (.tmp 9), _, _, _, none⟩) rfl (fun K hK => ?_) AllReady.nil)
  · refine step_load_o rfl (.tmp 7) rfl rfl h5.out.2.1 ?_
    refine hK _ _ ?_
    clear hK K
    refine wpAny_ready (rs := [1, 3]) (by kernel_rfl) (by simp) ?_
    refine AllReady.cons (o := ⟨some 26, .load tO (.tmp 9), _, _, _, none⟩) rfl (fun K hK => ?_) (AllReady.cons (o := ⟨none, .store tO (.tmp 4) (.tmp 25), _, _, _, none⟩) rfl (fun K hK => ?_) AllReady.nil)
    · refine step_load_o rfl (.tmp 9) rfl rfl h5.out.1 ?_
      refine hK _ _ ?_
      clear hK K
      refine wpAny_ready (rs := [3]) (by kernel_rfl) (by simp) ?_
      refine AllReady.cons (o := ⟨none, .store tO (.tmp 4) (.tmp 25), _, _, _, none⟩) rfl (fun K hK => ?_) AllReady.nil
      refine step_store_o rfl (.tmp 4) (.tmp 25) rfl rfl e1 M rfl h5.out.2.2.1 (fun w6 ha6 ho6 => ?_)
      refine hK _ _ ?_
      clear hK K
      have h6 : Hid (OAt w6 w3.heap.size e2 N ∧ OAt w6 w.heap.size e1 M ∧ OAt w6 (w.heap.size + 1) false (fun _ => 0) ∧ Below w.heap.size w w6) := ⟨ho6.at_ h5.out.1 (by omega), ha6, ho6.at_ h5.out.2.2.2.1 (by omega), h5.out.2.2.2.2.trans (ho6.below (Nat.le_refl _) h5.out.2.2.2.2.size)⟩
      clear ha6 ho6
      refine wpAny_ready (rs := [4]) (by kernel_rfl) (by simp) ?_
      refine AllReady.cons (o := ⟨none, .store tO (.tmp 5) (.tmp 26), _, _, _, none⟩) rfl (fun K hK => ?_) AllReady.nil
      refine step_store_o rfl (.tmp 5) (.tmp 26) rfl rfl e2 N rfl h6.out.2.2.1 (fun w7 ha7 ho7 => ?_)
      refine hK _ _ ?_
      clear hK K
      have h7 : Hid (OAt w7 w.heap.size e1 M ∧ OAt w7 (w.heap.size + 1) e2 N ∧ Below w.heap.size w w7) := ⟨ho7.at_ h6.out.2.1 (by omega), ha7, h6.out.2.2.2.trans (ho7.below (by omega) h6.out.2.2.2.size)⟩
      clear ha7 ho7
      refine wpAny_take (i := 5) (v := .int .i64 c) rfl (by kernel_rfl) (by kernel_rfl) (by kernel_rfl) (fun _ _ _ h => h) (Or.inl ⟨by rfl, by intro w; go_simp⟩) ?_
      refine wpAny_done (by kernel_rfl) ?_ _
      go_wp2_with fail
      try simp only [Exit.inBlock, Exit.then]
      refine bodyPost_ret (results_occ rfl _ rfl rfl h7.out.1 h7.out.2.1) rfl ?_
      exact ⟨rfl, h7.out.2.2⟩
    · refine step_store_o rfl (.tmp 4) (.tmp 25) rfl rfl e1 M rfl h5.out.2.2.1 (fun w6 ha6 ho6 => ?_)
      refine hK _ _ ?_
      clear hK K
      have h6 : Hid (OAt w6 w3.heap.size e2 N ∧ OAt w6 w.heap.size e1 M ∧ OAt w6 (w.heap.size + 1) false (fun _ => 0) ∧ Below w.heap.size w w6) := ⟨ho6.at_ h5.out.1 (by omega), ha6, ho6.at_ h5.out.2.2.2.1 (by omega), h5.out.2.2.2.2.trans (ho6.below (Nat.le_refl _) h5.out.2.2.2.2.size)⟩
      clear ha6 ho6
      refine wpAny_ready (rs := [1]) (by kernel_rfl) (by simp) ?_
      refine AllReady.cons (o := ⟨some 26, .load tO (.tmp 9), _, _, _, none⟩) rfl (fun K hK => ?_) AllReady.nil
      refine step_load_o rfl (.tmp 9) rfl rfl h6.out.1 ?_
      refine hK _ _ ?_
      clear hK K
      refine wpAny_ready (rs := [4]) (by kernel_rfl) (by simp) ?_
      refine AllReady.cons (o := ⟨none, .store tO (.tmp 5) (.tmp 26), _, _, _, none⟩) rfl (fun K hK => ?_) AllReady.nil
      refine step_store_o rfl (.tmp 5) (.tmp 26) rfl rfl e2 N rfl h6.out.2.2.1 (fun w7 ha7 ho7 => ?_)
      refine hK _ _ ?_
      clear hK K
      have h7 : Hid (OAt w7 w.heap.size e1 M ∧ OAt w7 (w.heap.size + 1) e2 N ∧ Below w.heap.size w w7) := ⟨ho7.at_ h6.out.2.1 (by omega), ha7, h6.out.2.2.2.trans (ho7.below (by omega) h6.out.2.2.2.size)⟩
      clear ha7 ho7
      refine wpAny_take (i := 5) (v := .int .i64 c) rfl (by kernel_rfl) (by kernel_rfl) (by kernel_rfl) (fun _ _ _ h => h) (Or.inl ⟨by rfl, by intro w; go_simp⟩) ?_
      refine wpAny_done (by kernel_rfl) ?_ _
      go_wp2_with fail
      try simp only [Exit.inBlock, Exit.then]
      refine bodyPost_ret (results_occ rfl _ rfl rfl h7.out.1 h7.out.2.1) rfl ?_
      exact ⟨rfl, h7.out.2.2⟩
  · refine step_load_o rfl (.tmp 9) rfl rfl h5.out.1 ?_
    refine hK _ _ ?_
    clear hK K
    refine wpAny_ready (rs := [0]) (by kernel_rfl) (by simp) ?_
    refine AllReady.cons (o := ⟨some 25, .load tO (.tmp 7), _, _, _, none⟩) rfl (fun K hK => ?_) AllReady.nil
    refine step_load_o rfl (.tmp 7) rfl rfl h5.out.2.1 ?_
    refine hK _ _ ?_
    clear hK K
    refine wpAny_ready (rs := [3]) (by kernel_rfl) (by simp) ?_
    refine AllReady.cons (o := ⟨none, .store tO (.tmp 4) (.tmp 25), _, _, _, none⟩) rfl (fun K hK => ?_) AllReady.nil
    refine step_store_o rfl (.tmp 4) (.tmp 25) rfl rfl e1 M rfl h5.out.2.2.1 (fun w6 ha6 ho6 => ?_)
    refine hK _ _ ?_
    clear hK K
    have h6 : Hid (OAt w6 w3.heap.size e2 N ∧ OAt w6 w.heap.size e1 M ∧ OAt w6 (w.heap.size + 1) false (fun _ => 0) ∧ Below w.heap.size w w6) := ⟨ho6.at_ h5.out.1 (by omega), ha6, ho6.at_ h5.out.2.2.2.1 (by omega), h5.out.2.2.2.2.trans (ho6.below (Nat.le_refl _) h5.out.2.2.2.2.size)⟩
    clear ha6 ho6
    refine wpAny_ready (rs := [4]) (by kernel_rfl) (by simp) ?_
    refine AllReady.cons (o := ⟨none, .store tO (.tmp 5) (.tmp 26), _, _, _, none⟩) rfl (fun K hK => ?_) AllReady.nil
    refine step_store_o rfl (.tmp 5) (.tmp 26) rfl rfl e2 N rfl h6.out.2.2.1 (fun w7 ha7 ho7 => ?_)
    refine hK _ _ ?_
    clear hK K
    have h7 : Hid (OAt w7 w.heap.size e1 M ∧ OAt w7 (w.heap.size + 1) e2 N ∧ Below w.heap.size w w7) := ⟨ho7.at_ h6.out.2.1 (by omega), ha7, h6.out.2.2.2.trans (ho7.below (by omega) h6.out.2.2.2.size)⟩
    clear ha7 ho7
    refine wpAny_take (i := 5) (v := .int .i64 c) rfl (by kernel_rfl) (by kernel_rfl) (by kernel_rfl) (fun _ _ _ h => h) (Or.inl ⟨by rfl, by intro w; go_simp⟩) ?_
    refine wpAny_done (by kernel_rfl) ?_ _
    go_wp2_with fail
    try simp only [Exit.inBlock, Exit.then]
    refine bodyPost_ret (results_occ rfl _ rfl rfl h7.out.1 h7.out.2.1) rfl ?_
    exact ⟨rfl, h7.out.2.2⟩

end Go.Proofs.YtffajooegiempaaDoor

