import Derived.Test.YtffajooegiempaaGreatDoorJ1
namespace Go.Proofs.YtffajooegiempaaGreatDoor
open Go.RowKit
variable {w : World}

theorem son_app (xs ys : List Int) : strOfNums (xs ++ ys) = strOfNums xs ++ strOfNums ys := by
  apply ByteArray.ext
  simp [strOfNums, ByteArray.data_append]
/-- Bytes that were just laid, as a string. -/
theorem run_str_new (w : World) (xs : List Int) : (convert 130 9 (.slice (some ⟨w.heap.size, 0, none⟩) xs.length xs.length)).run Tryz.prog (w.alloc (.cells (byv xs).toArray tBy)) = .ok (.string (strOfNums xs)) (w.alloc (.cells (byv xs).toArray tBy)) := by
  refine run_convert_bytes_arg (P := Tryz.prog) _ 130 tBy Tryz.underlying130 (by kernel_rfl) w.heap.size 0 xs.length xs.length xs rfl ?_ 9 (by kernel_rfl)
  intro i hi
  rw [Nat.zero_add]
  exact (World.cell?_alloc_at _ _ _ _ rfl).trans (show (byv xs).toArray[i]? = some (.int .u8 (xs.getD i 0)) by simp [byv, List.getD, hi])

set_option maxRecDepth 100000 in
set_option maxHeartbeats 1600000 in
theorem r_told (p off cu : Nat) (l : List Int) (hp : p < w.heap.size) (hc : ∀ i, i < 32 → w.cell? ⟨p, off + i, none⟩ = some (.int .i64 (l.getD i 0))) (hb : ∀ f, f < 32 → cBd (l.getD f 0)) :
    Calls Tryz.prog 100 #[.slice (some ⟨p, off, none⟩) 32 cu] w fun e w' => e = .returned (.string (strOfNums (enc1 (some l)))) ∧ Below w.heap.size w w' := by
  have HC : Hid (∀ i, i < 32 → w.cell? ⟨p, off + i, none⟩ = some (.int .i64 (l.getD i 0))) := hc
  have HB : Hid (∀ f, f < 32 → cBd (l.getD f 0)) := hb
  obtain ⟨T, hT⟩ : ∃ T, T = tl l := ⟨_, rfl⟩
  obtain ⟨C, hC⟩ : ∃ C, C = ct l := ⟨_, rfl⟩
  have HT : Hid (∀ f, T (f + 1) = T f ++ (if l.getD f 0 = 1000000 then [] else b3 (f, l.getD f 0))) := by rw [hT]; exact tl_succ l
  have HS : Hid (∀ f, C (f + 1) = C f + (if l.getD f 0 = 1000000 then 0 else 1)) := by rw [hC]; exact ct_succ l
  have HL : Hid (∀ f, C f ≤ f) := by rw [hC]; exact ct_le l
  have HTL : Hid (∀ f, (T f).length = 3 * C f) := by rw [hT, hC]; exact tl_len l
  have HZ : Hid (T 0 = [] ∧ C 0 = 0) := by rw [hT, hC]; exact ⟨rfl, rfl⟩
  have HE : Hid (enc1 (some l) = [1, ((C 32 : Nat) : Int)] ++ T 32) := by show _ = _; rw [hT, hC, enc1_some]; simp only [List.cons_append, List.nil_append]
  have hs3 : ∀ (w : World) (x y z : Int), (convert 130 9 (.slice (some ⟨w.heap.size, 0, none⟩) 3 3)).run Tryz.prog (w.alloc (.cells #[.int .u8 x, .int .u8 y, .int .u8 z] tBy)) = .ok (.string (strOfNums [x, y, z])) (w.alloc (.cells #[.int .u8 x, .int .u8 y, .int .u8 z] tBy)) := fun w x y z => run_str_new w [x, y, z]
  have hs2 : ∀ (w : World) (x y : Int), (convert 130 9 (.slice (some ⟨w.heap.size, 0, none⟩) 2 2)).run Tryz.prog (w.alloc (.cells #[.int .u8 x, .int .u8 y] tBy)) = .ok (.string (strOfNums [x, y])) (w.alloc (.cells #[.int .u8 x, .int .u8 y] tBy)) := fun w x y => run_str_new w [x, y]
  have hz3 : ∀ x y z : Int, (strOfNums [x, y, z]).size = 3 := fun _ _ _ => rfl
  have hz2 : ∀ x y : Int, (strOfNums [x, y]).size = 2 := fun _ _ => rfl
  rw [HE.out]
  clear hc hb hT hC HE
  go_enter Tryz.func100, Tryz.ntmps100
  go_wp2_with fail
  go_loopw [3, 4, 5] (fun t s i wr => ∃ (f cf : Nat) (S : ByteArray), f ≤ 32 ∧ i = .int .i64 f ∧ t = .int .i64 (cf : Int) ∧ cf ≤ 32 ∧ s = .string S ∧ S.size ≤ 96 ∧ Hid (S = strOfNums (T f) ∧ cf = C f ∧ Below w.heap.size w wr)) (fun _ _ i _ => 32 - (intOf i).toNat)
  case atStart => exact ⟨0, 0, _, by omega, rfl, rfl, by omega, rfl, by decide, by rw [HZ.out.1]; rfl, HZ.out.2.symm, Below.refl _ _⟩
  case round =>
    obtain ⟨f, cf, S, hf, rfl, rfl, hcf, rfl, hS, HR⟩ := hrel
    by_cases hlt : f < 32
    · have hfi : (f : Int) < 32 := by omega
      have cx : wr.cell? ⟨p, off + f, none⟩ = some (.int .i64 (l.getD f 0)) := (HR.out.2.2.cell (p := ⟨p, off + f, none⟩) hp).trans (HC.out f hlt)
      have hpr : p < wr.heap.size := Nat.lt_of_lt_of_le hp HR.out.2.2.size
      have HEq := (show Hid (_ = _) from HT.out f)
      have HEc := (show Hid (_ = _) from HS.out f)
      have HBf := (show Hid (cBd _) from HB.out f hlt)
      generalize l.getD f 0 = x at *
      by_cases e1 : x = 1000000
      · have e1' : (x != 1000000) = false := by rw [e1]; rfl
        have HX : Hid (T (f + 1) = T f ∧ C (f + 1) = C f) := ⟨by rw [HEq.out, if_pos e1, List.append_nil], by rw [HEc.out, if_pos e1]; rfl⟩
        go_wp2_with fail
        go_roundw
        case rel => exact ⟨f + 1, cf, S, by omega, by go_num, rfl, hcf, rfl, hS, by rw [HX.out.1]; exact HR.out.1, by rw [HX.out.2]; exact HR.out.2.1, HR.out.2.2⟩
        case measure => simp [intOf]; omega
      · have e1' : (x != 1000000) = true := by rw [bne_iff_ne]; exact e1
        obtain ⟨x1, x2⟩ : -4000 ≤ x ∧ x ≤ 4000 := HBf.out.resolve_left e1
        have HX : Hid (T (f + 1) = T f ++ [(f : Int), (x + 4000) / 256, (x + 4000) % 256] ∧ C (f + 1) = C f + 1) := ⟨by rw [HEq.out, if_neg e1]; rfl, by rw [HEc.out, if_neg e1]⟩
        have r1 := c_quo (x + 4000) (by omega)
        have r2 := c_rem (x + 4000) (by omega)
        have y1 : 0 ≤ (x + 4000) / 256 := by omega
        have y2 : (x + 4000) / 256 ≤ 255 := by omega
        have y3 : 0 ≤ (x + 4000) % 256 := by omega
        have y4 : (x + 4000) % 256 ≤ 255 := by omega
        generalize (x + 4000) / 256 = ya at *
        generalize (x + 4000) % 256 = yb at *
        have hc1 : cf + 1 ≤ 32 := by have := HL.out f; have := HR.out.2.1; omega
        have HS3 : Hid ((S ++ strOfNums [(f : Int), ya, yb]).size ≤ 96) := by
          show _ ≤ _
          rw [ByteArray.size_append', hz3, HR.out.1, strOfNums_size, HTL.out, ← HR.out.2.1]; omega
        go_wp2_with fail
        go_roundw
        case rel => exact ⟨f + 1, cf + 1, S ++ strOfNums [(f : Int), ya, yb], by omega, by go_num, by go_num, hc1, rfl, HS3.out, by rw [HX.out.1, son_app, ← HR.out.1], by rw [HX.out.2, HR.out.2.1], HR.out.2.2.alloc HR.out.2.2.size _⟩
        case measure => simp [intOf]; omega
    · have hf32 : f = 32 := by omega
      subst hf32
      go_wp2_with fail
      go_ret
      exact ⟨by rw [show (1 :: ((C 32 : Nat) : Int) :: T 32) = [1, ((C 32 : Nat) : Int)] ++ T 32 from rfl, son_app, ← HR.out.1, ← HR.out.2.1]; rfl, HR.out.2.2.alloc HR.out.2.2.size _⟩
set_option maxRecDepth 100000 in
set_option maxHeartbeats 1600000 in
theorem r_encode (v : Value) (L : List (Option (List Int))) (_hm : L.length ≤ maxLen) (hlm : ∀ i l, L.getD i none = some l → l.length ≤ 1073741824) (hv : ReadsL w v L) : Calls Tryz.prog 66 #[v] w (EOut w L) := by
  obtain ⟨ao, cap, rfl, hcap, h0⟩ := hv
  by_cases hbad : L.length < 1 ∨ 21 < L.length
  · have HE : Hid (encR L = ([], 4)) := by show encR L = _; unfold encR; rw [if_pos hbad]
    clear h0 hlm
    rcases hbad with hb | hb
    · have hz : L.length = 0 := by omega
      rw [hz]
      clear hz hb hcap
      go_enter Tryz.func66, Tryz.ntmps66
      go_wp2_with fail
      go_ret2
      exact ⟨by rw [HE.out]; rfl, Below.refl _ _⟩
    · have hb1 : ¬ (L.length : Int) < 1 := by omega
      have hb2 : (21 : Int) < (L.length : Int) := by omega
      clear hb
      go_enter Tryz.func66, Tryz.ntmps66
      go_wp2_with fail
      go_ret2
      exact ⟨by rw [HE.out]; rfl, Below.refl _ _⟩
  obtain ⟨n, hn⟩ : ∃ n, n = L.length := ⟨_, rfl⟩
  have n1 : 1 ≤ n := by omega
  have n2 : n ≤ 21 := by omega
  have HE : Hid (encR L = if gdA L n then ((n : Int) :: encs L n, 0) else ([], 3)) := by show encR L = _; unfold encR; rw [if_neg hbad, hn]; rfl
  obtain ⟨p, off, rfl, hp, hcell⟩ := h0 (by omega)
  rw [← hn] at hcell hcap ⊢
  have HC : Hid (∀ i, i < n → ∃ x, w.cell? ⟨p, off + i, none⟩ = some x ∧ RdL w x (L.getD i none)) := hcell
  have HLm : Hid (∀ i l, L.getD i none = some l → l.length ≤ 1073741824) := hlm
  have hb1 : ¬ (n : Int) < 1 := by omega
  have hb2 : ¬ (21 : Int) < (n : Int) := by omega
  have HB1 : Hid (Below w.heap.size w (w.alloc (.cells #[.int .u8 (n : Int)] tBy))) := (Below.refl _ _).alloc (Nat.le_refl _) _
  have hq1 : ∀ (w : World) (a : Option Addr) (n c : Nat), (binOp .eql 32 (.slice a n c) (.slice none 0 0)).run Tryz.prog w = .ok (.bool a.isNone) w := fun w a n c => Lib.run_eql_slice_nil w 32 3 a n c 0 0 Tryz.underlying32
  have hs1 : ∀ (w : World) (x : Int), (convert 130 9 (.slice (some ⟨w.heap.size, 0, none⟩) 1 1)).run Tryz.prog (w.alloc (.cells #[.int .u8 x] tBy)) = .ok (.string (strOfNums [x])) (w.alloc (.cells #[.int .u8 x] tBy)) := fun w x => run_str_new w [x]
  clear hcell hcap h0 hbad hlm _hm hn
  go_enter Tryz.func66, Tryz.ntmps66
  go_wp2_with fail
  go_loopw [4, 5] (fun s i wr => ∃ (f : Nat) (S : ByteArray), f ≤ n ∧ i = .int .i64 f ∧ s = .string S ∧ S.size ≤ 3000 ∧ Hid (S = strOfNums ((n : Int) :: encs L f) ∧ Below w.heap.size w wr ∧ gdA L f = true)) (fun _ i _ => n - (intOf i).toNat)
  case atStart => exact ⟨0, _, by omega, rfl, rfl, by rw [strOfNums_size]; simp, rfl, HB1.out, rfl⟩
  case round =>
    obtain ⟨f, S, hf, rfl, rfl, hS, HR⟩ := hrel
    by_cases hlt : f < n
    · have hfi : (f : Int) < (n : Int) := by omega
      obtain ⟨x, hx, hrx⟩ := HC.out f hlt
      have cx : wr.cell? ⟨p, off + f, none⟩ = some x := (HR.out.2.1.cell (p := ⟨p, off + f, none⟩) hp).trans hx
      have HRx : Hid (RdL wr x (L.getD f none)) := hrx.keep HR.out.2.1
      have hpr : p < wr.heap.size := Nat.lt_of_lt_of_le hp HR.out.2.1.size
      have HEq : Hid (encs L (f + 1) = encs L f ++ enc1 (L.getD f none)) := rfl
      have HGd : Hid (gdA L (f + 1) = (gdA L f && gdO (L.getD f none))) := rfl
      have HNo : Hid (gdO (L.getD f none) = false → gdA L n = false) := fun h => gdA_no hlt h
      have HLf : Hid (∀ l, L.getD f none = some l → l.length ≤ 1073741824) := HLm.out f
      have HEl := (show Hid (_ ≤ _) from encs_len L (f + 1))
      have HSn : Hid (∀ y : List Int, enc1 (L.getD f none) = y → (S ++ strOfNums y).size ≤ 3000 ∧ S ++ strOfNums y = strOfNums ((n : Int) :: encs L (f + 1))) := by
        intro y hy
        have e : S ++ strOfNums y = strOfNums ((n : Int) :: encs L (f + 1)) := by rw [HEq.out, hy, HR.out.1, ← son_app]; rfl
        refine ⟨?_, e⟩
        have h1 := HEl.out
        rw [e, strOfNums_size]
        simp only [List.length_cons]
        omega
      clear hx hrx
      generalize L.getD f none = r at *
      cases r with
      | none =>
        have hxe : x = .slice none 0 0 := HRx.out
        subst hxe
        have HSn1 := (show Hid (_ ∧ _) from HSn.out [0] rfl)
        go_wp2_with fail
        go_roundw
        case rel => exact ⟨f + 1, _, by omega, by go_num, rfl, HSn1.out.1, HSn1.out.2, HR.out.2.1, by rw [HGd.out, HR.out.2.2]; rfl⟩
        case measure => simp [intOf]; omega
      | some l =>
        have hgd := r_good (w := wr) x l (HLf.out l rfl) HRx.out.1
        have HSn1 := (show Hid (_ ∧ _) from HSn.out _ rfl)
        obtain ⟨a, xn, xc, rfl⟩ := HRx.out.2
        cases hg : gdB l with
        | false =>
          rw [hg] at hgd
          have HF : Hid (encR L = ([], 3)) := by show encR L = _; rw [HE.out, HNo.out hg]; rfl
          clear hg
          go_wp2_with fail
          refine hgd.mono ?_
          rintro e w2 ⟨rfl, rfl⟩
          go_wp2_with fail
          go_ret2
          exact ⟨by rw [HF.out]; rfl, HR.out.2.1⟩
        | true =>
          rw [hg] at hgd
          obtain ⟨p2, off2, cu2, e2, hp2, hc2, hb2'⟩ := HRx.out.1.good hg
          injection e2 with e2 e3 e4
          injection e2 with e2
          subst e2 e3 e4
          have htb := r_told p2 off2 xc l hp2 hc2 hb2'
          have HG1 : Hid (gdO (some l) = true) := hg
          have hel := enc1_len (some l)
          have hes : (strOfNums (enc1 (some l))).size ≤ 98 := by rw [strOfNums_size]; exact hel
          generalize strOfNums (enc1 (some l)) = part at *
          clear hg hc2 hb2' hel
          go_wp2_with fail
          refine hgd.mono ?_
          rintro e w2 ⟨rfl, rfl⟩
          go_wp2_with fail
          refine htb.mono ?_
          rintro e w3 ⟨rfl, hb3⟩
          have H3 : Hid (Below w.heap.size w w3) := HR.out.2.1.trans (hb3.mono HR.out.2.1.size)
          clear hb3 htb hgd
          go_wp2_with fail
          go_roundw
          case rel => exact ⟨f + 1, _, by omega, by go_num, rfl, HSn1.out.1, HSn1.out.2, H3.out, by rw [HGd.out, HR.out.2.2, HG1.out]; rfl⟩
          case measure => simp [intOf]; omega
    · have hfn : f = n := by omega
      subst hfn
      have HF : Hid (encR L = ((f : Int) :: encs L f, 0)) := by show encR L = _; rw [HE.out, HR.out.2.2]; rfl
      go_wp2_with fail
      go_ret2
      exact ⟨by rw [HF.out, ← HR.out.1]; rfl, HR.out.2.1⟩

end Go.Proofs.YtffajooegiempaaGreatDoor

/- The bytes of a text as numbers. -/
namespace Go.Proofs.YtffajooegiempaaGreatDoor

def bytesOf (s : ByteArray) : List Int := s.data.toList.map fun b => (b.toNat : Int)
theorem bytesOf_len (s : ByteArray) : (bytesOf s).length = s.size := by simp [bytesOf]
theorem bytesOf_take (s : ByteArray) (k : Nat) (h : k < s.size) : (bytesOf s).take (k + 1) = (bytesOf s).take k ++ [((s[k]).toNat : Int)] := by
  rw [List.take_succ_eq_append_getElem (by rw [bytesOf_len]; exact h)]
  simp [bytesOf]; rfl
theorem bytesOf_get (s : ByteArray) (k : Nat) (h : k < s.size) : (bytesOf s)[k]? = some ((s[k]).toNat : Int) := by
  rw [List.getElem?_eq_getElem (by rw [bytesOf_len]; exact h)]
  simp [bytesOf]; rfl

end Go.Proofs.YtffajooegiempaaGreatDoor

namespace Go.Proofs.YtffajooegiempaaGreatDoor
open Go.RowKit
variable {w : World} {r : Nat} {s : ByteArray} {d : CSt}

abbrev tCr : TypeId := 155
/-- The reader of a certificate: its bytes, the place, is something wrong. -/
def Cat (w : World) (r : Nat) (s : ByteArray) (d : CSt) : Prop := At w r #[.string s, .int .i64 d.1, .bool d.2] tCr
theorem Cat.cells (h : Cat w r s d) : w.cell? ⟨r, 0, none⟩ = some (.string s) ∧ w.cell? ⟨r, 1, none⟩ = some (.int .i64 d.1) ∧ w.cell? ⟨r, 2, none⟩ = some (.bool d.2) ∧ ∀ i, w.frozen? ⟨r, i, none⟩ = false :=
  ⟨h.cell 0, h.cell 1, h.cell 2, h.free⟩
theorem Cat.drewN (h : Cat w r s d) (k : Nat) : Cat (w.drewN k) r s d := h
theorem Cat.step (h : Cat w r s d) : Cat (w.setCell ⟨r, 1, none⟩ (.int .i64 ((d.1 : Int) + 1))) r s (d.1 + 1, d.2) := by
  have := At.put h 1 (.int .i64 ((d.1 : Int) + 1))
  exact this
theorem Cat.stick (h : Cat w r s d) : Cat (w.setCell ⟨r, 2, none⟩ (.bool true)) r s (d.1, true) := by
  have := At.put h 2 (.bool true)
  exact this
theorem bys (s : ByteArray) : Bys (bytesOf s) := by
  intro i hi
  rw [bytesOf_len] at hi
  rw [List.getD_eq_getElem?_getD, bytesOf_get s i hi]
  have := (s[i]).toNat_lt
  simp only [Option.getD_some]
  omega
/-- What a small step leaves. -/
def COut (w : World) (r : Nat) (s : ByteArray) (d' : CSt) (v : Value) : Ending → World → Prop := fun e w' => e = .returned v ∧ Cat w' r s d' ∧ Onl r w w'

set_option maxRecDepth 100000 in
set_option maxHeartbeats 800000 in
theorem c_peek (h : Cat w r s d) (_hs : s.size ≤ 9223372036854775807) (hd : d.1 ≤ s.size) :
    Calls Tryz.prog 143 #[.pointer (some ⟨r, 0, none⟩)] w fun e w' => e = .returned (.int .i64 (pkc (bytesOf s) d)) ∧ ∃ k, w' = w.drewN k := by
  obtain ⟨c0, c1, c2, cf⟩ := h.cells
  obtain ⟨a, b⟩ := d
  simp only at c0 c1 c2 hd
  have a0 : decide (((a : Nat) : Int) < 0) = false := decide_eq_false (by omega)
  by_cases hl : a < s.size
  · have HP : Hid (pkc (bytesOf s) (a, b) = ((s[a]).toNat : Int)) := by show pkc _ _ = _; unfold pkc; rw [if_pos (by rw [bytesOf_len]; exact hl), List.getD_eq_getElem?_getD, bytesOf_get s a hl]; rfl
    have a1 : decide (((s.size : Nat) : Int) ≤ (a : Int)) = false := decide_eq_false (by omega)
    have i1 : ((a : Nat) : Int) < ((s.size : Nat) : Int) := by omega
    have hw : wrap64 ((s[a]).toNat : Int) = ((s[a]).toNat : Int) := by have := (s[a]).toNat_lt; unfold wrap64; omega
    clear h
    go_enter Tryz.func143, Tryz.ntmps143
    go_wp2
    go_quiet (fail)
    go_wp2
    go_quiet (fail)
    go_wp2
    go_ret
    exact ⟨by rw [HP.out]; show Ending.returned (.int .i64 (wrap64 _)) = _; rw [hw], _, World.drewN_drewN _ _ _⟩
  · have HP : Hid (pkc (bytesOf s) (a, b) = -1) := by show pkc _ _ = _; unfold pkc; rw [if_neg (by rw [bytesOf_len]; exact hl)]
    have a1 : decide (((s.size : Nat) : Int) ≤ (a : Int)) = true := decide_eq_true (by omega)
    clear h
    go_enter Tryz.func143, Tryz.ntmps143
    go_wp2
    go_quiet (fail)
    go_wp2
    go_ret
    exact ⟨by rw [HP.out]; rfl, _, rfl⟩

set_option maxRecDepth 100000 in
set_option maxHeartbeats 800000 in
theorem c_number (h : Cat w r s d) (hs : s.size ≤ 9223372036854775807) (hd : d.1 ≤ s.size) (lo hi : Int) (hlo : 0 ≤ lo) :
    Calls Tryz.prog 117 #[.pointer (some ⟨r, 0, none⟩), .int .i64 lo, .int .i64 hi] w (COut w r s (numF (bytesOf s) lo hi d).2 (.int .i64 (numF (bytesOf s) lo hi d).1)) := by
  have hp := c_peek h hs hd
  obtain ⟨c0, c1, c2, cf⟩ := h.cells
  have HC : Hid (Cat w r s d) := h
  have hr := h.lt
  have HD : Hid (lo ≤ pkc (bytesOf s) d → d.1 < s.size) := by
    intro hh
    unfold pkc at hh
    rw [bytesOf_len] at hh
    by_cases q : d.1 < s.size
    · exact q
    · rw [if_neg q] at hh; omega
  have HN : Hid (numF (bytesOf s) lo hi d = if pkc (bytesOf s) d < lo ∨ hi < pkc (bytesOf s) d then (0, (d.1, true)) else (pkc (bytesOf s) d, (d.1 + 1, d.2))) := rfl
  generalize pkc (bytesOf s) d = x at *
  by_cases hq : x < lo ∨ hi < x
  · have HX : Hid (numF (bytesOf s) lo hi d = (0, (d.1, true))) := HN.out.trans (if_pos hq)
    clear h hlo HN
    rcases Int.lt_or_le x lo with q | q
    · have q' : decide (x < lo) = true := decide_eq_true q
      clear hq
      go_enter Tryz.func117, Tryz.ntmps117
      go_wp2_with (go_at_call 143; refine hp.mono ?_; rintro e w' ⟨rfl, k, rfl⟩)
      go_ret
      rw [HX.out]
      exact ⟨rfl, (HC.out.drewN k).stick, ((Onl.refl _ _).drewN _).setCell _ _⟩
    · have q' : decide (x < lo) = false := decide_eq_false (by omega)
      have q2 : hi < x := by omega
      clear hq
      go_enter Tryz.func117, Tryz.ntmps117
      go_wp2_with (go_at_call 143; refine hp.mono ?_; rintro e w' ⟨rfl, k, rfl⟩)
      go_ret
      rw [HX.out]
      exact ⟨rfl, (HC.out.drewN k).stick, ((Onl.refl _ _).drewN _).setCell _ _⟩
  · have HX : Hid (numF (bytesOf s) lo hi d = (x, (d.1 + 1, d.2))) := HN.out.trans (if_neg hq)
    have q' : ¬ x < lo := by omega
    have q2 : ¬ hi < x := by omega
    have hd1 := HD.out (by omega)
    clear h hlo HN hq HD
    go_enter Tryz.func117, Tryz.ntmps117
    go_wp2_with (go_at_call 143; refine hp.mono ?_; rintro e w' ⟨rfl, k, rfl⟩)
    go_ret
    rw [HX.out]
    exact ⟨rfl, (HC.out.drewN k).step, ((Onl.refl _ _).drewN _).setCell _ _⟩

theorem num_at {lo hi : Int} (h0 : 0 ≤ lo) (hd : d.1 ≤ s.size) : (numF (bytesOf s) lo hi d).2.1 ≤ s.size := by
  have := (num_range (bys s) lo hi h0 d).2.2
  rw [bytesOf_len] at this
  omega

set_option maxRecDepth 100000 in
set_option maxHeartbeats 800000 in
theorem c_bound (h : Cat w r s d) (hs : s.size ≤ 9223372036854775807) (hd : d.1 ≤ s.size) :
    Calls Tryz.prog 155 #[.pointer (some ⟨r, 0, none⟩)] w (COut w r s (bdF (bytesOf s) d).2 (.int .i64 (bdF (bytesOf s) d).1)) := by
  have h1 := c_number h hs hd 0 255 (by omega)
  have HE : Hid (bdF (bytesOf s) d = ((numF (bytesOf s) 0 255 d).1 * 256 + (numF (bytesOf s) 0 255 (numF (bytesOf s) 0 255 d).2).1 - 4000, ((numF (bytesOf s) 0 255 (numF (bytesOf s) 0 255 d).2).2.1, if 8000 < (numF (bytesOf s) 0 255 d).1 * 256 + (numF (bytesOf s) 0 255 (numF (bytesOf s) 0 255 d).2).1 then true else (numF (bytesOf s) 0 255 (numF (bytesOf s) 0 255 d).2).2.2))) := rfl
  have r1 := num_range (bys s) 0 255 (by omega) d
  have r2 := num_range (bys s) 0 255 (by omega) (numF (bytesOf s) 0 255 d).2
  have hd1 := num_at (s := s) (lo := 0) (hi := 255) (by omega) hd
  have H2 : Hid (∀ w1, Cat w1 r s (numF (bytesOf s) 0 255 d).2 → Calls Tryz.prog 117 #[.pointer (some ⟨r, 0, none⟩), .int .i64 0, .int .i64 255] w1 (COut w1 r s (numF (bytesOf s) 0 255 (numF (bytesOf s) 0 255 d).2).2 (.int .i64 (numF (bytesOf s) 0 255 (numF (bytesOf s) 0 255 d).2).1))) := fun w1 hc => c_number hc hs hd1 0 255 (by omega)
  rw [HE.out]
  clear h HE hd1
  generalize numF (bytesOf s) 0 255 d = x at *
  generalize numF (bytesOf s) 0 255 x.2 = y at *
  obtain ⟨x1, x2⟩ := x
  obtain ⟨y1, y2⟩ := y
  simp only at r1 r2 ⊢
  obtain ⟨r1a, r1b, -⟩ := r1
  obtain ⟨r2a, r2b, -⟩ := r2
  by_cases hq : 8000 < x1 * 256 + y1
  · rw [if_pos hq]
    go_enter Tryz.func155, Tryz.ntmps155
    go_wp2_with fail
    refine h1.mono ?_
    rintro e w1 ⟨rfl, hc1, ho1⟩
    have h2 := H2.out w1 hc1
    have HO1 : Hid (Onl r w w1) := ho1
    clear hc1 ho1 h1 H2
    go_wp2_with fail
    refine h2.mono ?_
    rintro e w2 ⟨rfl, hc2, ho2⟩
    obtain ⟨c0, c1, c2, cf⟩ := hc2.cells
    have hr2 := hc2.lt
    have HC2 : Hid (Cat w2 r s y2) := hc2
    have HO2 : Hid (Onl r w w2) := HO1.out.trans ho2
    clear hc2 ho2 h2
    go_wp2_with fail
    go_ret
    exact ⟨rfl, HC2.out.stick, HO2.out.setCell _ _⟩
  · rw [if_neg hq]
    go_enter Tryz.func155, Tryz.ntmps155
    go_wp2_with fail
    refine h1.mono ?_
    rintro e w1 ⟨rfl, hc1, ho1⟩
    have h2 := H2.out w1 hc1
    have HO1 : Hid (Onl r w w1) := ho1
    clear hc1 ho1 h1 H2
    go_wp2_with fail
    refine h2.mono ?_
    rintro e w2 ⟨rfl, hc2, ho2⟩
    obtain ⟨c0, c1, c2, cf⟩ := hc2.cells
    have hr2 := hc2.lt
    have HC2 : Hid (Cat w2 r s y2) := hc2
    have HO2 : Hid (Onl r w w2) := HO1.out.trans ho2
    clear hc2 ho2 h2
    go_wp2_with fail
    go_ret
    exact ⟨rfl, HC2.out, HO2.out⟩

end Go.Proofs.YtffajooegiempaaGreatDoor

namespace Go.Proofs.YtffajooegiempaaGreatDoor
open Go.RowKit
variable {w : World} {r : Nat} {s : ByteArray} {d : CSt}

theorem bd_at (hd : d.1 ≤ s.size) : (bdF (bytesOf s) d).2.1 ≤ s.size := num_at (by omega) (num_at (by omega) hd)
theorem bd_range (s : ByteArray) (d : CSt) : -4000 ≤ (bdF (bytesOf s) d).1 ∧ (bdF (bytesOf s) d).1 ≤ 70000 := by
  have r1 := num_range (bys s) 0 255 (by omega) d
  have r2 := num_range (bys s) 0 255 (by omega) (numF (bytesOf s) 0 255 d).2
  show -4000 ≤ (numF (bytesOf s) 0 255 d).1 * 256 + (numF (bytesOf s) 0 255 (numF (bytesOf s) 0 255 d).2).1 - 4000 ∧ _
  constructor
  · omega
  · show (numF (bytesOf s) 0 255 d).1 * 256 + (numF (bytesOf s) 0 255 (numF (bytesOf s) 0 255 d).2).1 - 4000 ≤ 70000
    omega
/-- Numbers in a fresh list with room for 32. -/
def iv (xs : List Int) : List Value := xs.map (Value.int .i64)
/-- A list of the call's own comes out. -/
def LRow (w : World) (base : Nat) (v : Value) (xs : List Int) : Prop := ∃ g, base ≤ g ∧ v = .slice (some ⟨g, 0, none⟩) xs.length 32 ∧ w.ownsRow base 3 1 (.slice (some ⟨g, 0, none⟩) xs.length 32) xs.length (iv xs)
theorem fms_le {t : Nat} {i : CSt} : ∀ n, (fmsF (bytesOf s) (t, i, []) n).1 ≤ t
  | 0 => Nat.le_refl _
  | n + 1 => by
    have := fms_le (t := t) (i := i) n
    show (fmF _ _ (fmsF (bytesOf s) (t, i, []) n)).1 ≤ t
    unfold fmF; split
    · show _ - 1 ≤ t; omega
    · exact this
theorem fms_at {t : Nat} {i : CSt} (hi : i.1 ≤ s.size) : ∀ n, (fmsF (bytesOf s) (t, i, []) n).2.1.1 ≤ s.size
  | 0 => hi
  | n + 1 => by
    have := fms_at (t := t) hi n
    show (fmF _ _ (fmsF (bytesOf s) (t, i, []) n)).2.1.1 ≤ _
    generalize fmsF (bytesOf s) (t, i, []) n = x at *
    unfold fmF
    split
    · rename_i q
      refine bd_at ?_
      have q2 := q.2
      unfold pkc at q2
      rw [bytesOf_len] at q2
      show x.2.1.1 + 1 ≤ s.size
      by_cases e : x.2.1.1 < s.size
      · omega
      · rw [if_neg e] at q2; omega
    · exact this

theorem ownsRow_base' {w : World} {base base' e size n : Nat} {v : Value} {xs : List Value} (h : w.ownsRow base e size v n xs) (hb : base' ≤ base) : w.ownsRow base' e size v n xs := by
  obtain ⟨h1, h2⟩ := h
  refine ⟨h1, ?_⟩
  rcases h2 with h2 | ⟨g, cap, c, hv, hg, rest⟩
  · exact .inl h2
  · exact .inr ⟨g, cap, c, hv, by omega, rest⟩

set_option maxRecDepth 100000 in
set_option maxHeartbeats 3200000 in
theorem c_bounds (h : Cat w r s d) (hs : s.size ≤ 9223372036854775807) (hd : d.1 ≤ s.size) :
    Calls Tryz.prog 144 #[.pointer (some ⟨r, 0, none⟩)] w fun e w' => ∃ v, e = .returned v ∧ LRow w' w.heap.size v (bsF (bytesOf s) d).1 ∧ Cat w' r s (bsF (bytesOf s) d).2 ∧ Onl r w w' := by
  have h1 := c_number h hs hd 0 32 (by omega)
  have r1 := num_range (bys s) 0 32 (by omega) d
  have hd1 := num_at (s := s) (lo := 0) (hi := 32) (by omega) hd
  have hr0 := h.lt
  obtain ⟨F, hF⟩ : ∃ F, F = fmsF (bytesOf s) ((numF (bytesOf s) 0 32 d).1.toNat, (numF (bytesOf s) 0 32 d).2, []) := ⟨_, rfl⟩
  have HE : Hid (bsF (bytesOf s) d = ((F 32).2.2, ((F 32).2.1.1, if 0 < (F 32).1 then true else (F 32).2.1.2))) := by rw [hF]; rfl
  have HF : Hid (∀ n, F (n + 1) = fmF (bytesOf s) n (F n)) := by rw [hF]; intro n; rfl
  have HFl : Hid (∀ n, (F n).2.2.length = n) := by rw [hF]; exact fms_len rfl
  have HFa : Hid (∀ n, (F n).2.1.1 ≤ s.size) := by rw [hF]; exact fms_at hd1
  have HFt : Hid (∀ n, (F n).1 ≤ (numF (bytesOf s) 0 32 d).1.toNat) := by rw [hF]; exact fms_le
  have HF0 : Hid (F 0 = ((numF (bytesOf s) 0 32 d).1.toNat, (numF (bytesOf s) 0 32 d).2, [])) := by rw [hF]; rfl
  have hmk : ∀ w, (Instr.makeSlice 32 (.int .i64 0) (.int .i64 32)).run Tryz.prog w = .ok (.slice (some ⟨w.heap.size, 0, none⟩) 0 32) (w.alloc (.cells (ic (List.replicate 32 0)) 3)) := fun _ => by kernel_rfl
  obtain ⟨i0, hi0, hz0, hz1, hz2⟩ := info_parts (P := Tryz.prog) (e := 3) (z := .int .i64 0) (size := 1) (bytes := 8) (by kernel_rfl)
  have HOw : Hid (∀ (w1 : World), (w1.alloc (.cells (ic (List.replicate 32 0)) 3)).ownsRow w1.heap.size 3 1 (.slice (some ⟨w1.heap.size, 0, none⟩) 0 32) 0 []) := fun w1 => World.ownsRow_made w1 (ic (List.replicate 32 0)) 32 (Nat.le_refl _) (by decide) rfl
  obtain ⟨I, hI⟩ : ∃ I, I = (if 0 < (F 32).1 then true else (F 32).2.1.2) := ⟨_, rfl⟩
  rw [HE.out, ← hI]
  have HI0 : Hid (I = (if 0 < (F 32).1 then true else (F 32).2.1.2)) := hI
  clear hI
  generalize numF (bytesOf s) 0 32 d = x at *
  obtain ⟨x1, x2⟩ := x
  simp only at r1 hd1 h1
  have hx0 : 0 ≤ x1 := r1.1
  have hx1 : x1 ≤ 255 := r1.2.1
  obtain ⟨k, rfl⟩ : ∃ k : Nat, x1 = (k : Int) := ⟨x1.toNat, by omega⟩
  rw [Int.toNat_natCast] at HFt HF0
  have HP : Hid (∀ (w1 : World) (d : CSt), Cat w1 r s d → d.1 ≤ s.size → Calls Tryz.prog 143 #[.pointer (some ⟨r, 0, none⟩)] w1 fun e w' => e = .returned (.int .i64 (pkc (bytesOf s) d)) ∧ ∃ k, w' = w1.drewN k) := fun w1 d hc hd => c_peek hc hs hd
  have HBd : Hid (∀ (w1 : World) (d : CSt), Cat w1 r s d → d.1 ≤ s.size → Calls Tryz.prog 155 #[.pointer (some ⟨r, 0, none⟩)] w1 (COut w1 r s (bdF (bytesOf s) d).2 (.int .i64 (bdF (bytesOf s) d).1))) := fun w1 d hc hd => c_bound hc hs hd
  have HPk : Hid (∀ d : CSt, 0 ≤ pkc (bytesOf s) d → d.1 < s.size) := by
    intro d hh
    unfold pkc at hh
    rw [bytesOf_len] at hh
    by_cases q : d.1 < s.size
    · exact q
    · rw [if_neg q] at hh; omega
  clear h hF r1 HE hd
  generalize ic (List.replicate 32 0) = zs at *
  go_enter Tryz.func144, Tryz.ntmps144
  go_wp2_with fail
  refine h1.mono ?_
  rintro e w1 ⟨rfl, hc1, ho1⟩
  have hs1 := ho1.size
  have H1 : Hid (Cat (w1.alloc (.cells zs 3)) r s x2 ∧ Onl r w (w1.alloc (.cells zs 3)) ∧ (w1.alloc (.cells zs 3)).ownsRow w1.heap.size 3 1 (.slice (some ⟨w1.heap.size, 0, none⟩) 0 32) 0 []) := ⟨At.allocH hc1 _, ho1.alloc _, HOw.out w1⟩
  have hr1 := hc1.lt
  clear hc1 ho1 h1
  go_wp2_with fail
  go_loopw [3, 4, 5] (fun t sl i wr => ∃ (q : Nat) (m : Nat), q ≤ 32 ∧ i = .int .i64 q ∧ t = .int .i64 (m : Int) ∧ m ≤ 255 ∧ sl = .slice (some ⟨w1.heap.size, 0, none⟩) q 32 ∧ Hid (m = (F q).1 ∧ wr.ownsRow w1.heap.size 3 1 (.slice (some ⟨w1.heap.size, 0, none⟩) q 32) q (iv (F q).2.2) ∧ Cat wr r s (F q).2.1 ∧ Onl r w wr ∧ w1.heap.size < wr.heap.size)) (fun _ _ i _ => 32 - (intOf i).toNat)
  case atStart => exact ⟨0, k, by omega, rfl, rfl, by omega, rfl, by rw [HF0.out], by rw [HF0.out]; exact H1.out.2.2, by rw [HF0.out]; exact H1.out.1, H1.out.2.1, by simp⟩
  case round =>
    obtain ⟨q, m, hq, rfl, rfl, hm, rfl, HR⟩ := hrel
    by_cases hlt : q < 32
    · have hqi : (q : Int) < 32 := by omega
      have HFq := (show Hid (_ = _) from HF.out q)
      have hat := HFa.out q
      have HApp : Hid (∀ (w5 w6 : World) (y : Int) (dd : CSt) (mm : Nat), F (q + 1) = (mm, dd, (F q).2.2 ++ [y]) → w5.ownsRow w1.heap.size 3 1 (.slice (some ⟨w1.heap.size, 0, none⟩) (q + 1) 32) (q + 1) (iv (F q).2.2 ++ [.int .i64 y]) → w6.grownBy w5 (some w1.heap.size) → Cat w6 r s dd → Onl r w w6 → w1.heap.size < w6.heap.size →
          mm = (F (q + 1)).1 ∧ w5.ownsRow w1.heap.size 3 1 (.slice (some ⟨w1.heap.size, 0, none⟩) (q + 1) 32) (q + 1) (iv (F (q + 1)).2.2) ∧ Cat w5 r s (F (q + 1)).2.1 ∧ Onl r w w5 ∧ w1.heap.size < w5.heap.size) := by
        intro w5 w6 y dd mm e ho hg hc hn hz
        rw [e]
        refine ⟨rfl, by simpa [iv] using ho, At.same hc (hg.block r hc.lt (by intro e; have := Option.some.inj e; omega)), ?_, Nat.lt_of_lt_of_le hz hg.size⟩
        refine ⟨hg.os.trans hn.os, hg.tape.trans hn.tape, hg.output.trans hn.output, Nat.le_trans hn.size hg.size, fun k hk hne => (hg.block k (Nat.lt_of_lt_of_le hk hn.size) (by intro e; have := Option.some.inj e; omega)).trans (hn.block k hk hne)⟩
      have hkeep : ∀ {w5 w6 : World}, wr.ownsRow w1.heap.size 3 1 (.slice (some ⟨w1.heap.size, 0, none⟩) q 32) q (iv (F q).2.2) → Onl r wr w5 → w5.ownsRow w1.heap.size 3 1 (.slice (some ⟨w1.heap.size, 0, none⟩) q 32) q (iv (F q).2.2) := fun {w5 w6} h ho => ownsRow_below h (fun k hk => ho.block k (h.lt k hk).2 (by cases hk; show w1.heap.size ≠ r; omega))
      have HKeep : Hid (∀ {w5 : World}, Onl r wr w5 → w5.ownsRow w1.heap.size 3 1 (.slice (some ⟨w1.heap.size, 0, none⟩) q 32) q (iv (F q).2.2)) := fun {w5} ho => hkeep (w6 := w5) HR.out.2.1 ho
      clear hkeep
      have HL : Hid ((F q).2.2.length = q) := HFl.out q
      have hpk := HP.out wr (F q).2.1 HR.out.2.2.1 hat
      have HBq := (show Hid (_ → _) from fun (h : (F q).2.1.1 < s.size) (w2 : World) (hc : Cat w2 r s ((F q).2.1.1 + 1, (F q).2.1.2)) => HBd.out w2 ((F q).2.1.1 + 1, (F q).2.1.2) hc h)
      have HPq := (show Hid (_ → _) from HPk.out (F q).2.1)
      have hbr := bd_range s ((F q).2.1.1 + 1, (F q).2.1.2)
      have HM : Hid (m = (F q).1) := HR.out.1
      have HFm : Hid (0 < m ∧ pkc (bytesOf s) (F q).2.1 = q → F (q + 1) = (m - 1, (bdF (bytesOf s) ((F q).2.1.1 + 1, (F q).2.1.2)).2, (F q).2.2 ++ [(bdF (bytesOf s) ((F q).2.1.1 + 1, (F q).2.1.2)).1])) := by
        intro hh; rw [HFq.out]; unfold fmF; rw [← HM.out, if_pos hh]
      have HFn : Hid (¬ (0 < m ∧ pkc (bytesOf s) (F q).2.1 = q) → F (q + 1) = (m, (F q).2.1, (F q).2.2 ++ [1000000])) := by
        intro hh; rw [HFq.out]; unfold fmF; rw [← HM.out, if_neg hh]
      have HCq : Hid (Cat wr r s (F q).2.1) := HR.out.2.2.1
      obtain ⟨c0, c1, c2, cf⟩ := HCq.out.cells
      have hrr := HCq.out.lt
      generalize bdF (bytesOf s) ((F q).2.1.1 + 1, (F q).2.1.2) = bd at *
      generalize pkc (bytesOf s) (F q).2.1 = x at *
      generalize (F q).2.1 = dq at *
      obtain ⟨b1, b2⟩ := bd
      obtain ⟨da, db⟩ := dq
      simp only at c1 c2 hat hbr
      by_cases hm0 : 0 < m
      · have hmi : (0 : Int) < (m : Int) := by omega
        by_cases hx : x = q
        · subst hx
          have hda : da < s.size := HPq.out (by omega)
          have HX := (show Hid (_ = _) from HFm.out ⟨hm0, rfl⟩)
          have hdi : (da : Int) + 1 ≤ 9223372036854775807 := by omega
          have HC2 : Hid (∀ k2, Cat ((wr.drewN k2).setCell ⟨r, 1, none⟩ (.int .i64 ((da : Int) + 1))) r s (da + 1, db)) := fun k2 => (HCq.out.drewN k2).step
          have HO2 : Hid (∀ k2, Onl r wr ((wr.drewN k2).setCell ⟨r, 1, none⟩ (.int .i64 ((da : Int) + 1)))) := fun k2 => ((Onl.refl _ _).drewN k2).setCell _ _
          go_wp2_with (go_at_call 143; refine hpk.mono ?_; rintro e w2 ⟨rfl, k2, rfl⟩)
          refine (HBq.out hda _ (HC2.out k2)).mono ?_
          rintro e w3 ⟨rfl, hc3, ho3⟩
          have H3 : Hid (Cat w3 r s b2 ∧ Onl r wr w3) := ⟨hc3, (HO2.out k2).trans ho3⟩
          clear hc3 ho3
          have H4 : Hid (w3.ownsRow w1.heap.size 3 1 (.slice (some ⟨w1.heap.size, 0, none⟩) q 32) q (iv (F q).2.2)) := HKeep.out H3.out.2
          have hz3 : w1.heap.size < w3.heap.size := Nat.lt_of_lt_of_le HR.out.2.2.2.2 H3.out.2.size
          go_wp2_with (at_builtin; refine wpList_append_fits _ rfl (.tmp 33) (.tmp 35) 32 rfl w1.heap.size 3 i0 1 Tryz.underlying32 hi0 hz1 w1.heap.size q 32 _ rfl (H4.out.alloc _) ⟨w3.heap.size, 0, none⟩ 1 1 [.int .i64 (b1)] rfl rfl (by intro t u ht; match t, ht with | 0, ht => simp at ht; subst ht; exact World.cell?_alloc_at _ _ _ _ rfl) (by intro u hu; simp at hu; subst hu; rfl) (by omega) ?_; intro w5 hown5 hgrow5)
          go_roundw
          case rel =>
            exact ⟨q + 1, (m - 1), by omega, by go_num, by first | rfl | go_num, by omega, rfl, HApp.out w5 (w3.alloc (.cells #[.int .i64 (b1)] 3)) (b1) b2 ((m - 1)) HX.out hown5 hgrow5 (At.allocH H3.out.1 _) ((HR.out.2.2.2.1.trans H3.out.2).alloc _) (by simp; omega)⟩
          case measure => simp [intOf]; omega
        · have hx' : (x == (q : Int)) = false := by simpa using hx
          have HX := (show Hid (_ = _) from HFn.out (by omega))
          have H3' : Hid (∀ k, Cat (wr.drewN k) r s (da, db) ∧ Onl r wr (wr.drewN k)) := fun k => ⟨HCq.out.drewN k, (Onl.refl _ _).drewN k⟩
          go_wp2_with fail
          refine hpk.mono ?_
          rintro e w3 ⟨rfl, k2, hw3⟩
          have H3 : Hid (Cat w3 r s (da, db) ∧ Onl r wr w3) := by show _ ∧ _; rw [hw3]; exact H3'.out k2
          clear hw3
          have H4 : Hid (w3.ownsRow w1.heap.size 3 1 (.slice (some ⟨w1.heap.size, 0, none⟩) q 32) q (iv (F q).2.2)) := HKeep.out H3.out.2
          have hz3 : w1.heap.size < w3.heap.size := Nat.lt_of_lt_of_le HR.out.2.2.2.2 H3.out.2.size
          go_wp2_with (at_builtin; refine wpList_append_fits _ rfl (.tmp 33) (.tmp 35) 32 rfl w1.heap.size 3 i0 1 Tryz.underlying32 hi0 hz1 w1.heap.size q 32 _ rfl (H4.out.alloc _) ⟨w3.heap.size, 0, none⟩ 1 1 [.int .i64 (1000000)] rfl rfl (by intro t u ht; match t, ht with | 0, ht => simp at ht; subst ht; exact World.cell?_alloc_at _ _ _ _ rfl) (by intro u hu; simp at hu; subst hu; rfl) (by omega) ?_; intro w5 hown5 hgrow5)
          go_roundw
          case rel =>
            exact ⟨q + 1, m, by omega, by go_num, by first | rfl | go_num, by omega, rfl, HApp.out w5 (w3.alloc (.cells #[.int .i64 (1000000)] 3)) (1000000) (da, db) (m) HX.out hown5 hgrow5 (At.allocH H3.out.1 _) ((HR.out.2.2.2.1.trans H3.out.2).alloc _) (by simp; omega)⟩
          case measure => simp [intOf]; omega
      · have hm1 : m = 0 := by omega
        subst hm1
        have HX := (show Hid (_ = _) from HFn.out (by omega))
        obtain ⟨w3, hw3⟩ : ∃ w3, w3 = wr := ⟨_, rfl⟩
        have H3 : Hid (Cat w3 r s (da, db) ∧ Onl r wr w3) := by show _ ∧ _; rw [hw3]; exact ⟨HCq.out, Onl.refl _ _⟩
        rw [← hw3]
        clear hw3
        have H4 : Hid (w3.ownsRow w1.heap.size 3 1 (.slice (some ⟨w1.heap.size, 0, none⟩) q 32) q (iv (F q).2.2)) := HKeep.out H3.out.2
        have hz3 : w1.heap.size < w3.heap.size := Nat.lt_of_lt_of_le HR.out.2.2.2.2 H3.out.2.size
        go_wp2_with (at_builtin; refine wpList_append_fits _ rfl (.tmp 33) (.tmp 35) 32 rfl w1.heap.size 3 i0 1 Tryz.underlying32 hi0 hz1 w1.heap.size q 32 _ rfl (H4.out.alloc _) ⟨w3.heap.size, 0, none⟩ 1 1 [.int .i64 (1000000)] rfl rfl (by intro t u ht; match t, ht with | 0, ht => simp at ht; subst ht; exact World.cell?_alloc_at _ _ _ _ rfl) (by intro u hu; simp at hu; subst hu; rfl) (by omega) ?_; intro w5 hown5 hgrow5)
        go_roundw
        case rel =>
          exact ⟨q + 1, 0, by omega, by go_num, by first | rfl | go_num, by omega, rfl, HApp.out w5 (w3.alloc (.cells #[.int .i64 (1000000)] 3)) (1000000) (da, db) (0) HX.out hown5 hgrow5 (At.allocH H3.out.1 _) ((HR.out.2.2.2.1.trans H3.out.2).alloc _) (by simp; omega)⟩
        case measure => simp [intOf]; omega
    · have hq32 : q = 32 := by omega
      subst hq32
      have HL : Hid ((F 32).2.2.length = 32) := HFl.out 32
      have HOut : Hid (∀ {w5 : World}, Onl r wr w5 → w5.ownsRow w1.heap.size 3 1 (.slice (some ⟨w1.heap.size, 0, none⟩) 32 32) 32 (iv (F 32).2.2)) := fun {w5} ho => ownsRow_below HR.out.2.1 (fun k hk => ho.block k (HR.out.2.1.lt k hk).2 (by cases hk; show w1.heap.size ≠ r; omega))
      have HRow : Hid (∀ {w5 : World}, Onl r wr w5 → LRow w5 w.heap.size (.slice (some ⟨w1.heap.size, 0, none⟩) 32 32) (F 32).2.2) := fun {w5} ho => ⟨w1.heap.size, hs1, by rw [HL.out], by rw [HL.out]; exact ownsRow_base' (HOut.out ho) hs1⟩
      have HCq : Hid (Cat wr r s (F 32).2.1) := HR.out.2.2.1
      have HOq : Hid (Onl r w wr) := HR.out.2.2.2.1
      obtain ⟨c0, c1, c2, cf⟩ := HCq.out.cells
      have hrr := HCq.out.lt
      have HM : Hid (m = (F 32).1) := HR.out.1
      by_cases hm0 : 0 < m
      · have hmi : (0 : Int) < (m : Int) := by omega
        have HI : Hid (I = true) := HI0.out.trans (if_pos (by rw [← HM.out]; exact hm0))
        go_wp2_with fail
        go_ret
        refine ⟨_, rfl, HRow.out ((Onl.refl _ _).setCell _ _), ?_, HOq.out.setCell _ _⟩
        rw [HI.out]
        exact HCq.out.stick
      · have hmi : ¬ (0 : Int) < (m : Int) := by omega
        have HI : Hid (I = (F 32).2.1.2) := HI0.out.trans (if_neg (by rw [← HM.out]; exact hm0))
        go_wp2_with fail
        go_ret
        refine ⟨_, rfl, HRow.out (Onl.refl _ _), ?_, HOq.out⟩
        rw [HI.out]
        exact HCq.out

end Go.Proofs.YtffajooegiempaaGreatDoor

