import Derived.Test.YtffajooegiempabDoorJ21
import Derived.Deep.RegionHeld3
import Derived.Deep.MidRow
namespace Go.Proofs.YtffajooegiempabDoor
open Go.RowKit
variable {w : World} {s : ByteArray}

def allN (f : Nat → Bool) : Nat → Bool
  | 0 => true
  | n + 1 => allN f n && f n
theorem allN_no {f : Nat → Bool} {n i : Nat} (hi : i < n) (h : f i = false) : allN f n = false := by
  induction n with
  | zero => cases hi
  | succ n ih =>
    show (allN f n && f n) = false
    rcases Nat.lt_or_ge i n with q | q
    · rw [ih q]; rfl
    · rw [show n = i by omega, h, Bool.and_false]
/-- What a point's check says: nothing goes wrong there, and every way leads into what is claimed. -/
def wayP (F : List Ds) (L : List (Option (List Int))) (k way : Nat) : Bool :=
  wiB (poE (cE (atL L k)) (cM (atL L k)) (F.getD k (newDs 0 0)) way) (cE (atL L (nextP F k way).1)) (poM (cE (atL L k)) (cM (atL L k)) (F.getD k (newDs 0 0)) way) (cM (atL L (nextP F k way).1))
def chkP (F : List Ds) (L : List (Option (List Int))) (k : Nat) : Int :=
  if sfP (cE (atL L k)) (cM (atL L k)) (F.getD k (newDs 0 0)) = false then 6 else if allN (wayP F L k) (waysP (F.getD k (newDs 0 0)).kind).toNat then 0 else 7
theorem next_z (F : List Ds) (k : Nat) (hk : k < F.length) (way : Nat) (h : (way : Int) < waysP (F.getD k (newDs 0 0)).kind) : (nextP F k way).2 = 0 := by
  unfold nextP
  rw [if_neg (by omega), if_neg (by rw [Int.toNat_natCast]; omega)]
  split
  · rfl
  · split
    · rfl
    · split <;> rfl
theorem ways_rng (x : Int) : 1 ≤ waysP x ∧ waysP x ≤ 2 := by
  unfold waysP
  split <;> omega

abbrev tPr : TypeId := 66
/-- The boxes of a point's check. -/
def CB (w wr : World) (B7 B9 : Nat) (e1 : Bool) (M1 : Nat → Int) (x : Ds) (pv : Value) : Prop := OAt wr B9 e1 M1 ∧ At wr B7 (dsCells x) tDs ∧ At wr w.heap.size #[pv] tPr ∧ Below w.heap.size w wr
theorem CB.keep {wr w' : World} {B7 B9 : Nat} {e1 : Bool} {M1 : Nat → Int} {x : Ds} {pv : Value} (h : CB w wr B7 B9 e1 M1 x pv) (hb : Below wr.heap.size wr w') : CB w w' B7 B9 e1 M1 x pv :=
  ⟨At.keep h.1 hb (At.lt h.1), h.2.1.keep hb h.2.1.lt, h.2.2.1.keep hb h.2.2.1.lt, h.2.2.2.trans (hb.mono h.2.2.2.size)⟩

set_option maxRecDepth 100000 in
set_option maxHeartbeats 6400000 in
theorem c_checkPoint {g0 cap g k : Nat} {F : List Ds} {L : List (Option (List Int))} (hP : PRow w g0 F) (hl : F.length ≤ 20) (hpar : ∀ (k : Nat) (x : Ds), F[k]? = some x → -1 ≤ x.parent ∧ x.parent < (k : Int)) (hk : k < F.length) (hO : ORow w g L)
    (hx : DsG (F.getD k (newDs 0 0))) (ht : 0 ≤ (F.getD k (newDs 0 0)).target ∧ (F.getD k (newDs 0 0)).target < 4) (hM : ∀ j, j < 64 → -20000000000 ≤ cM (atL L k) j ∧ cM (atL L k) j ≤ 1000000) (hS : cE (atL L k) = false → Sh (cM (atL L k))) :
    Calls Tryd.prog 59 #[.agg #[.slice (some ⟨g0, 0, none⟩) F.length cap], .slice (some ⟨g, 0, none⟩) L.length 21, .int .i64 (k : Int)] w fun e w' => e = .returned (.int .i64 (chkP F L k)) ∧ Below w.heap.size w w' := by
  have HAt : Hid (∀ w1, Below w.heap.size w w1 → Calls Tryd.prog 32 #[.agg #[.slice (some ⟨g0, 0, none⟩) F.length cap], .int .i64 (k : Int)] w1 fun e w' => e = .returned (.tuple #[dsv (F.getD k (newDs 0 0)), .int .i64 0]) ∧ Below w1.heap.size w1 w') := fun w1 hb => d_at_in (hP.keep hb) k hk
  have HNx : Hid (∀ w1 (way : Nat), (way : Int) < waysP (F.getD k (newDs 0 0)).kind → Below w.heap.size w w1 → Calls Tryd.prog 34 #[.agg #[.slice (some ⟨g0, 0, none⟩) F.length cap], .int .i64 (k : Int), .int .i64 (way : Int)] w1 fun e w' => e = .returned (.tuple #[.int .i64 (nextP F k way).1, .int .i64 0]) ∧ Below w1.heap.size w1 w') := fun w1 way hw hb => by
    have := d_next_in (cap := cap) (hP.keep hb) hl hpar k hk (way : Int)
    unfold twoD at this
    rw [next_z F k hk way hw] at this
    exact this
  have HCl : Hid (∀ w1 pt, Below w.heap.size w w1 → Calls Tryd.prog 57 #[.slice (some ⟨g, 0, none⟩) L.length 21, .int .i64 pt] w1 fun e w' => e = .returned (.agg (oc (cE (atL L pt)) (cM (atL L pt)))) ∧ Below w1.heap.size w1 w') := fun w1 pt hb => c_claimAt (hO.keep hb) pt
  have HSf : Hid (∀ w1, Calls Tryd.prog 33 #[dsv (F.getD k (newDs 0 0)), .agg (oc (cE (atL L k)) (cM (atL L k)))] w1 fun e w' => e = .returned (.bool (sfP (cE (atL L k)) (cM (atL L k)) (F.getD k (newDs 0 0)))) ∧ Below w1.heap.size w1 w') := fun w1 => e_safe _ hx (fun j hj => by have := hM j hj; omega)
  have HPo : Hid (∀ w1 (way : Nat), Calls Tryd.prog 36 #[dsv (F.getD k (newDs 0 0)), .int .i64 (way : Int), .agg (oc (cE (atL L k)) (cM (atL L k)))] w1 fun e w' => e = .returned (.agg (oc (poE (cE (atL L k)) (cM (atL L k)) (F.getD k (newDs 0 0)) way) (poM (cE (atL L k)) (cM (atL L k)) (F.getD k (newDs 0 0)) way))) ∧ Below w1.heap.size w1 w') := fun w1 way => e_post _ hx ht (way : Int) hM hS
  have HC : Hid (chkP F L k = if sfP (cE (atL L k)) (cM (atL L k)) (F.getD k (newDs 0 0)) = false then 6 else if allN (wayP F L k) (waysP (F.getD k (newDs 0 0)).kind).toNat then 0 else 7) := rfl
  have HWi : Hid (∀ way : Nat, wayP F L k way = wiB (poE (cE (atL L k)) (cM (atL L k)) (F.getD k (newDs 0 0)) way) (cE (atL L (nextP F k way).1)) (poM (cE (atL L k)) (cM (atL L k)) (F.getD k (newDs 0 0)) way) (cM (atL L (nextP F k way).1))) := fun way => rfl
  clear hP hl hpar hO hx ht hM hS hk
  generalize wayP F L k = wp at *
  generalize F.getD k (newDs 0 0) = x at *
  have HCk := fun w1 hb => HCl.out w1 (k : Int) hb
  have HCk : Hid (∀ w1, Below w.heap.size w w1 → Calls Tryd.prog 57 #[.slice (some ⟨g, 0, none⟩) L.length 21, .int .i64 (k : Int)] w1 fun e w' => e = .returned (.agg (oc (cE (atL L k)) (cM (atL L k)))) ∧ Below w1.heap.size w1 w') := HCk
  generalize cE (atL L k) = e1 at *
  generalize cM (atL L k) = M1 at *
  have hwr := ways_rng x.kind
  obtain ⟨n, hn⟩ : ∃ n : Nat, waysP x.kind = (n : Int) := ⟨(waysP x.kind).toNat, by omega⟩
  have HW : Hid (∀ w1, Calls Tryd.prog 51 #[dsv x] w1 fun e w' => e = .returned (.int .i64 (n : Int)) ∧ Below w1.heap.size w1 w') := fun w1 => by
    rw [← hn]
    exact (d_ways _ _ _ _ _ _ _ _ _ _ w1).mono fun e w' ⟨h1, o, h2⟩ => ⟨h1, by rw [h2]; exact (Below.refl _ _).alloc (Nat.le_refl _) _⟩
  rw [hn] at HC HNx
  rw [Int.toNat_natCast] at HC
  unfold dsv at HAt HSf HPo HW
  have hn2 : n ≤ 2 := by omega
  clear hwr hn
  have hz := o_zero
  obtain ⟨pv, hpv⟩ : ∃ pv, pv = Value.slice (some ⟨g0, 0, none⟩) F.length cap := ⟨_, rfl⟩
  go_enter Tryd.func59, Tryd.ntmps59
  go_wp2_with fail
  refine (HAt.out _ ((Below.refl _ _).alloc (Nat.le_refl _) _)).mono ?_
  rintro e w1 ⟨rfl, hb1⟩
  have H1 : Hid (At w1 w.heap.size #[pv] tPr ∧ Below w.heap.size w w1) := by rw [hpv]; exact ⟨At.keep (At.new w _ _) hb1 (by simp), ((Below.refl _ _).alloc (Nat.le_refl _) _).trans (hb1.mono (by simp))⟩
  have HCk2 : Hid (∀ ob, Calls Tryd.prog 57 #[.slice (some ⟨g, 0, none⟩) L.length 21, .int .i64 (k : Int)] (w1.alloc ob) fun e w' => e = .returned (.agg (oc e1 M1)) ∧ Below (w1.alloc ob).heap.size (w1.alloc ob) w') := fun ob => HCk.out _ (H1.out.2.alloc H1.out.2.size _)
  clear hb1 HCk
  go_wp2_with fail
  refine (HCk2.out _).mono ?_
  rintro e w2 ⟨rfl, hb2⟩
  obtain ⟨w3, hst3, hat3, hb3, hs3⟩ := o_fresh w2 e1 M1
  have hs2 : w1.heap.size + 1 ≤ w2.heap.size := by have := hb2.size; simpa using this
  have H3 : Hid (CB w w3 w1.heap.size w2.heap.size e1 M1 x pv) := by
    have hA2 : At w2 w1.heap.size (dsCells x) tDs := At.keep (At.new w1 (dsCells x) tDs) hb2 (by simp)
    have hA1 : At w2 w.heap.size #[pv] tPr := At.keep (At.allocH H1.out.1 _) hb2 (by have := H1.out.1.lt; simp; omega)
    have hB2 : Below w.heap.size w w2 := (H1.out.2.alloc H1.out.2.size _).trans (hb2.mono (by have := H1.out.2.size; simp; omega))
    exact ⟨hat3, hA2.keep hb3 hA2.lt, hA1.keep hb3 hA1.lt, hB2.trans (hb3.mono hB2.size)⟩
  clear hb2 hat3 hb3 HCk2
  have y0 : w3.cell? ⟨w1.heap.size, 0, none⟩ = some (.int .i64 x.kind) := (H3.out.2.1).cell 0
  have y1 : w3.cell? ⟨w1.heap.size, 1, none⟩ = some (.int .i64 x.target) := (H3.out.2.1).cell 1
  have y2 : w3.cell? ⟨w1.heap.size, 2, none⟩ = some (.bool x.any) := (H3.out.2.1).cell 2
  have y3 : w3.cell? ⟨w1.heap.size, 3, none⟩ = some (.int .i64 (sgAt x.sg 0)) := (H3.out.2.1).cell 3
  have y4 : w3.cell? ⟨w1.heap.size, 4, none⟩ = some (.int .i64 (sgAt x.sg 1)) := (H3.out.2.1).cell 4
  have y5 : w3.cell? ⟨w1.heap.size, 5, none⟩ = some (.int .i64 (sgAt x.sg 2)) := (H3.out.2.1).cell 5
  have y6 : w3.cell? ⟨w1.heap.size, 6, none⟩ = some (.int .i64 (sgAt x.sg 3)) := (H3.out.2.1).cell 6
  have y7 : w3.cell? ⟨w1.heap.size, 7, none⟩ = some (.int .i64 x.num) := (H3.out.2.1).cell 7
  have y8 : w3.cell? ⟨w1.heap.size, 8, none⟩ = some (.int .i64 x.parent) := (H3.out.2.1).cell 8
  have y9 : w3.cell? ⟨w1.heap.size, 9, none⟩ = some (.int .i64 x.block) := (H3.out.2.1).cell 9
  go_wp2_with (refine wpList_load_o rfl (.tmp 9) rfl rfl H3.out.1 ?_)
  refine (HSf.out w3).mono ?_
  rintro e w4 ⟨rfl, hb4⟩
  have H4 : Hid (CB w w4 w1.heap.size w2.heap.size e1 M1 x pv) := H3.out.keep hb4
  clear hb4 HSf y0 y1 y2 y3 y4 y5 y6 y7 y8 y9 H3
  cases hsf : sfP e1 M1 x with
  | false =>
    have HE : Hid (chkP F L k = 6) := by show _ = _; rw [HC.out, if_pos hsf]
    clear hsf
    go_wp2_with fail
    go_ret
    exact ⟨by rw [HE.out]; rfl, H4.out.2.2.2⟩
  | true =>
    have HE : Hid (chkP F L k = if allN wp n = true then 0 else 7) := by show _ = _; rw [HC.out, if_neg (by rw [hsf]; decide)]
    clear hsf HC
    go_wp2_with fail
    go_loopw [10] (fun iv wr => ∃ i : Nat, i ≤ n ∧ iv = .int .i64 (i : Int) ∧ Hid (allN wp i = true ∧ CB w wr w1.heap.size w2.heap.size e1 M1 x pv)) (fun iv _ => n - (intOf iv).toNat)
    case atStart => exact ⟨0, by omega, rfl, rfl, H4.out⟩
    case round =>
      obtain ⟨i, hi, rfl, HR⟩ := hrel
      have y0 : wr.cell? ⟨w1.heap.size, 0, none⟩ = some (.int .i64 x.kind) := (HR.out.2.2.1).cell 0
      have y1 : wr.cell? ⟨w1.heap.size, 1, none⟩ = some (.int .i64 x.target) := (HR.out.2.2.1).cell 1
      have y2 : wr.cell? ⟨w1.heap.size, 2, none⟩ = some (.bool x.any) := (HR.out.2.2.1).cell 2
      have y3 : wr.cell? ⟨w1.heap.size, 3, none⟩ = some (.int .i64 (sgAt x.sg 0)) := (HR.out.2.2.1).cell 3
      have y4 : wr.cell? ⟨w1.heap.size, 4, none⟩ = some (.int .i64 (sgAt x.sg 1)) := (HR.out.2.2.1).cell 4
      have y5 : wr.cell? ⟨w1.heap.size, 5, none⟩ = some (.int .i64 (sgAt x.sg 2)) := (HR.out.2.2.1).cell 5
      have y6 : wr.cell? ⟨w1.heap.size, 6, none⟩ = some (.int .i64 (sgAt x.sg 3)) := (HR.out.2.2.1).cell 6
      have y7 : wr.cell? ⟨w1.heap.size, 7, none⟩ = some (.int .i64 x.num) := (HR.out.2.2.1).cell 7
      have y8 : wr.cell? ⟨w1.heap.size, 8, none⟩ = some (.int .i64 x.parent) := (HR.out.2.2.1).cell 8
      have y9 : wr.cell? ⟨w1.heap.size, 9, none⟩ = some (.int .i64 x.block) := (HR.out.2.2.1).cell 9
      have hl7 := HR.out.2.2.1.lt
      go_wp2_with fail
      refine (HW.out wr).mono ?_
      rintro e w5 ⟨rfl, hb5⟩
      have H5 : Hid (CB w w5 w1.heap.size w2.heap.size e1 M1 x pv) := HR.out.2.keep hb5
      clear hb5 y0 y1 y2 y3 y4 y5 y6 y7 y8 y9
      by_cases hin : i < n
      · have hii : (i : Int) < (n : Int) := by omega
        have c3 : w5.cell? ⟨w.heap.size, 0, none⟩ = some (.slice (some ⟨g0, 0, none⟩) F.length cap) := by rw [← hpv]; exact H5.out.2.2.1.cell 0
        have hnx := HNx.out w5 i hii H5.out.2.2.2
        have HWi2 : Hid (wp i = wiB (poE e1 M1 x i) (cE (atL L (nextP F k i).1)) (poM e1 M1 x i) (cM (atL L (nextP F k i).1))) := HWi.out i
        generalize (nextP F k i).1 = q at *
        have HCq : Hid (∀ w1, Below w.heap.size w w1 → Calls Tryd.prog 57 #[.slice (some ⟨g, 0, none⟩) L.length 21, .int .i64 q] w1 fun e w' => e = .returned (.agg (oc (cE (atL L q)) (cM (atL L q)))) ∧ Below w1.heap.size w1 w') := fun w1 hb => HCl.out w1 q hb
        have HPi : Hid _ := fun w1 => HPo.out w1 i
        generalize cE (atL L q) = e3 at *
        generalize cM (atL L q) = M3 at *
        generalize poE e1 M1 x i = e4 at *
        generalize poM e1 M1 x i = M4 at *
        go_wp2_with fail
        refine hnx.mono ?_
        rintro e w6 ⟨rfl, hb6⟩
        have H6 : Hid (CB w w6 w1.heap.size w2.heap.size e1 M1 x pv) := H5.out.keep hb6
        clear hb6 hnx c3
        go_wp2_with fail
        refine (HCq.out w6 H6.out.2.2.2).mono ?_
        rintro e w7 ⟨rfl, hb7⟩
        obtain ⟨w8, hst8, hat8, hb8, hs8⟩ := o_fresh w7 e3 M3
        have H8 : Hid (OAt w8 w7.heap.size e3 M3 ∧ CB w w8 w1.heap.size w2.heap.size e1 M1 x pv) := ⟨hat8, (H6.out.keep hb7).keep hb8⟩
        clear hb7 hat8 hb8
        have y0 : w8.cell? ⟨w1.heap.size, 0, none⟩ = some (.int .i64 x.kind) := (H8.out.2.2.1).cell 0
        have y1 : w8.cell? ⟨w1.heap.size, 1, none⟩ = some (.int .i64 x.target) := (H8.out.2.2.1).cell 1
        have y2 : w8.cell? ⟨w1.heap.size, 2, none⟩ = some (.bool x.any) := (H8.out.2.2.1).cell 2
        have y3 : w8.cell? ⟨w1.heap.size, 3, none⟩ = some (.int .i64 (sgAt x.sg 0)) := (H8.out.2.2.1).cell 3
        have y4 : w8.cell? ⟨w1.heap.size, 4, none⟩ = some (.int .i64 (sgAt x.sg 1)) := (H8.out.2.2.1).cell 4
        have y5 : w8.cell? ⟨w1.heap.size, 5, none⟩ = some (.int .i64 (sgAt x.sg 2)) := (H8.out.2.2.1).cell 5
        have y6 : w8.cell? ⟨w1.heap.size, 6, none⟩ = some (.int .i64 (sgAt x.sg 3)) := (H8.out.2.2.1).cell 6
        have y7 : w8.cell? ⟨w1.heap.size, 7, none⟩ = some (.int .i64 x.num) := (H8.out.2.2.1).cell 7
        have y8 : w8.cell? ⟨w1.heap.size, 8, none⟩ = some (.int .i64 x.parent) := (H8.out.2.2.1).cell 8
        have y9 : w8.cell? ⟨w1.heap.size, 9, none⟩ = some (.int .i64 x.block) := (H8.out.2.2.1).cell 9
        go_wp2_with (refine wpList_load_o rfl (.tmp 9) rfl rfl H8.out.2.1 ?_)
        refine (HPi.out w8).mono ?_
        rintro e w9 ⟨rfl, hb9⟩
        obtain ⟨w10, hst10, hat10, hb10, hs10⟩ := o_fresh w9 e4 M4
        have H10 : Hid (OAt w10 w9.heap.size e4 M4 ∧ OAt w10 w7.heap.size e3 M3 ∧ CB w w10 w1.heap.size w2.heap.size e1 M1 x pv) := by
          have h9 : OAt w9 w7.heap.size e3 M3 := At.keep H8.out.1 hb9 (At.lt H8.out.1)
          exact ⟨hat10, At.keep h9 hb10 (At.lt h9), (H8.out.2.keep hb9).keep hb10⟩
        clear hb9 hat10 hb10 y0 y1 y2 y3 y4 y5 y6 y7 y8 y9
        go_wp2_with (first | refine wpList_load_o rfl (.tmp 14) rfl rfl H10.out.1 ?_ | refine wpList_load_o rfl (.tmp 13) rfl rfl H10.out.2.1 ?_)
        refine (o_within (w := w10) (e1 := e4) (e2 := e3) (M := M4) (N := M3)).mono ?_
        rintro e w11 ⟨rfl, hb11⟩
        have H11 : Hid (CB w w11 w1.heap.size w2.heap.size e1 M1 x pv) := H10.out.2.2.keep hb11
        clear hb11
        cases hwi : wiB e4 e3 M4 M3 with
        | false =>
          have HE7 : Hid (chkP F L k = 7) := by show _ = _; rw [HE.out, if_neg (by rw [allN_no hin (HWi2.out.trans hwi)]; decide)]
          clear hwi
          go_wp2_with fail
          go_ret
          exact ⟨by rw [HE7.out]; rfl, H11.out.2.2.2⟩
        | true =>
          have HE8 : Hid (allN wp (i + 1) = true) := by show (allN wp i && wp i) = true; rw [HR.out.1, HWi2.out, hwi]; rfl
          clear hwi
          go_wp2_with fail
          go_roundw
          case rel => exact ⟨i + 1, by omega, by go_num, HE8.out, H11.out⟩
          case measure => simp [intOf]; omega
      · have hie : i = n := by omega
        subst hie
        have HE0 : Hid (chkP F L k = 0) := by show _ = _; rw [HE.out, if_pos HR.out.1]
        go_wp2_with fail
        go_ret
        exact ⟨by rw [HE0.out]; rfl, H5.out.2.2.2⟩

end Go.Proofs.YtffajooegiempabDoor

/- The search: its places, and what its steps make of them. -/
namespace Go.Proofs.YtffajooegiempabDoor
open Go.RowKit

/-- A point: what is claimed there, and whether it waits. -/
structure Pl where
  e : Bool
  M : Nat → Int
  wt : Bool
def p0 : Pl := ⟨true, fun _ => 0, false⟩
abbrev SS := List Pl × Bool
def clmS (s : SS) (pt : Int) (e : Bool) (M : Nat → Int) : SS :=
  if pt < 0 ∨ (s.1.length : Int) ≤ pt then s
  else if wiB e (s.1.getD pt.toNat p0).e M (s.1.getD pt.toNat p0).M = true then s
  else (s.1.set pt.toNat ⟨joE (s.1.getD pt.toNat p0).e e, joM (s.1.getD pt.toNat p0).e e (s.1.getD pt.toNat p0).M M, true⟩, true)
def wysS (F : List Ds) (k : Nat) (e : Bool) (M : Nat → Int) (s : SS) : Nat → SS
  | 0 => s
  | n + 1 => clmS (wysS F k e M s n) (nextP F k n).1 (poE e M (F.getD k (newDs 0 0)) n) (poM e M (F.getD k (newDs 0 0)) n)
def flwS (F : List Ds) (k : Nat) (e : Bool) (M : Nat → Int) (s : SS) : SS :=
  if k < F.length then (if sfP e M (F.getD k (newDs 0 0)) = true then wysS F k e M s (waysP (F.getD k (newDs 0 0)).kind).toNat else s) else s
def pntS (F : List Ds) (k : Nat) (s : SS) : SS :=
  if (s.1.getD k p0).wt = true then flwS F k (s.1.getD k p0).e (s.1.getD k p0).M (s.1.set k ⟨(s.1.getD k p0).e, (s.1.getD k p0).M, false⟩, s.2) else s
def rndS (F : List Ds) (s : SS) : Nat → SS
  | 0 => (s.1, false)
  | n + 1 => pntS F n (rndS F s n)
def itS (F : List Ds) : Nat → SS → SS
  | 0, s => s
  | r + 1, s => if s.2 = true then itS F r (rndS F s s.1.length) else s
theorem clmS_len (s : SS) (pt : Int) (e : Bool) (M : Nat → Int) : (clmS s pt e M).1.length = s.1.length := by
  unfold clmS
  split
  · rfl
  · split
    · rfl
    · simp
theorem wysS_len (F : List Ds) (k : Nat) (e : Bool) (M : Nat → Int) (s : SS) : ∀ n, (wysS F k e M s n).1.length = s.1.length
  | 0 => rfl
  | n + 1 => by rw [wysS, clmS_len, wysS_len F k e M s n]
theorem flwS_len (F : List Ds) (k : Nat) (e : Bool) (M : Nat → Int) (s : SS) : (flwS F k e M s).1.length = s.1.length := by
  unfold flwS
  split
  · split
    · exact wysS_len F k e M s _
    · rfl
  · rfl
theorem pntS_len (F : List Ds) (k : Nat) (s : SS) : (pntS F k s).1.length = s.1.length := by
  unfold pntS
  split
  · rw [flwS_len]; simp
  · rfl
theorem rndS_len (F : List Ds) (s : SS) : ∀ n, (rndS F s n).1.length = s.1.length
  | 0 => rfl
  | n + 1 => by rw [rndS, pntS_len, rndS_len F s n]

/-- The cells of a point. -/
def plc (p : Pl) : List Value := (oc p.e p.M).toList ++ [.bool p.wt]
theorem plc_len (p : Pl) : (plc p).length = 66 := by simp [plc, oc_size]
theorem plc_oc (p : Pl) {k : Nat} (hk : k < 65) : (plc p)[k]? = (oc p.e p.M)[k]? := by
  unfold plc
  rw [List.getElem?_append_left (by simp [oc_size]; omega)]
  simp
theorem plc_wt (p : Pl) : (plc p)[65]? = some (.bool p.wt) := by
  unfold plc
  rw [List.getElem?_append_right (by simp [oc_size])]
  simp [oc_size]

abbrev tSe : TypeId := 105
abbrev tPl : TypeId := 123
/-- What a walk may write: two blocks. -/
structure On2 (s g : Nat) (w w' : World) : Prop where
  os : w'.os = w.os
  tape : w'.tape = w.tape
  output : w'.output = w.output
  size : w.heap.size ≤ w'.heap.size
  block : ∀ k, k < w.heap.size → k ≠ s → k ≠ g → w'.heap[k]? = w.heap[k]?
variable {s g : Nat} {w w' a b c : World}
theorem On2.refl (s g : Nat) (w : World) : On2 s g w w := ⟨rfl, rfl, rfl, Nat.le_refl _, fun _ _ _ _ => rfl⟩
theorem On2.trans (h : On2 s g a b) (k : On2 s g b c) : On2 s g a c :=
  ⟨k.os.trans h.os, k.tape.trans h.tape, k.output.trans h.output, Nat.le_trans h.size k.size, fun i hi h1 h2 => (k.block i (Nat.lt_of_lt_of_le hi h.size) h1 h2).trans (h.block i hi h1 h2)⟩
theorem On2.of {B : Nat} (h : Below B w w') (hB : w.heap.size ≤ B) (s g : Nat) : On2 s g w w' := ⟨h.os, h.tape, h.output, h.size, fun k hk _ _ => h.block k (by omega)⟩
theorem On2.setCell (h : On2 s g a b) {q : Nat} (hq : q = s ∨ q = g) (o : Nat) (u : Value) : On2 s g a (b.setCell ⟨q, o, none⟩ u) :=
  ⟨h.os, h.tape, h.output, by have := h.size; simpa [World.setCell] using this, fun k hk h1 h2 => (Below.heap_setCell _ _ _ _ (by show k ≠ q; omega)).trans (h.block k hk h1 h2)⟩
theorem On2.setCells : ∀ (vs : List Value) (o : Nat) (b : World), On2 s g a b → On2 s g a (b.setCells g o vs)
  | [], _, _, h => h
  | _ :: r, o, _, h => On2.setCells r (o + 1) _ (h.setCell (.inr rfl) o _)
theorem On2.below (h : On2 s g a b) {B : Nat} (h1 : B ≤ s) (h2 : B ≤ g) (h3 : B ≤ a.heap.size) : Below B a b := ⟨h.os, h.tape, h.output, h.size, fun k hk => h.block k (by omega) (by omega) (by omega)⟩
theorem On2.at_ {q : Nat} {c : Array Value} {t : TypeId} (h : On2 s g w w') (ha : At w q c t) (h1 : q ≠ s) (h2 : q ≠ g) : At w' q c t := ha.same (h.block q ha.lt h1 h2)
theorem On2.cell (h : On2 s g w w') {q : Nat} (hq : q < w.heap.size) (h1 : q ≠ s) (h2 : q ≠ g) (i : Nat) : w'.cell? ⟨q, i, none⟩ = w.cell? ⟨q, i, none⟩ := World.cell?_of_block (a := ⟨q, i, none⟩) (h.block q hq h1 h2)
theorem At.setCells {t : TypeId} : ∀ (vs : List Value) (o : Nat) (C : Array Value) (w : World), At w g C t → ∃ C', At (w.setCells g o vs) g C' t ∧ C'.size = C.size
  | [], _, C, _, h => ⟨C, h, rfl⟩
  | v :: r, o, C, w, h => by
    obtain ⟨C', h1, h2⟩ := At.setCells r (o + 1) _ _ (h.put o v)
    exact ⟨C', h1, by rw [h2]; simp⟩

/-- The search's memory. -/
structure SSt (w : World) (s g : Nat) (pv : Value) (P : SS) : Prop where
  sa : At w s #[pv, .slice (some ⟨g, 0, none⟩) P.1.length 21, .bool P.2] tSe
  ga : ∃ C, At w g C tPl ∧ P.1.length * 66 ≤ C.size
  pl : ∀ i k, i < P.1.length → k < 66 → w.cell? ⟨g, i * 66 + k, none⟩ = (plc (P.1.getD i p0))[k]?
theorem SSt.ne {pv : Value} {P : SS} (h : SSt w s g pv P) : s ≠ g := by
  obtain ⟨C, h1, _⟩ := h.ga
  exact At.ne h.sa h1 (by decide)
theorem SSt.glt {pv : Value} {P : SS} (h : SSt w s g pv P) : g < w.heap.size := by
  obtain ⟨C, h1, _⟩ := h.ga
  exact h1.lt
theorem SSt.keep {pv : Value} {P : SS} (h : SSt w s g pv P) (hb : Below w.heap.size w w') : SSt w' s g pv P := by
  obtain ⟨C, h1, h2⟩ := h.ga
  exact ⟨h.sa.keep hb h.sa.lt, ⟨C, h1.keep hb h1.lt, h2⟩, fun i k hi hk => (hb.cell (by exact h1.lt)).trans (h.pl i k hi hk)⟩
theorem SSt.there {pv : Value} {P : SS} (h : SSt w s g pv P) {i : Nat} (hi : i < P.1.length) : w.there g (i * 66) 65 := by
  obtain ⟨C, h1, h2⟩ := h.ga
  intro j hj
  refine ⟨?_, h1.free _⟩
  rw [h1.cell, Array.getElem?_eq_getElem (show i * 66 + j < C.size by omega)]
  rfl
theorem SSt.oct {pv : Value} {P : SS} (h : SSt w s g pv P) {i : Nat} (hi : i < P.1.length) : w.rangeAt g (i * 66) (oc (P.1.getD i p0).e (P.1.getD i p0).M).toList := by
  intro j v hv
  have hj : j < 65 := by
    rcases Nat.lt_or_ge j 65 with q | q
    · exact q
    · rw [List.getElem?_eq_none (by simp [oc_size]; omega)] at hv; cases hv
  rw [h.pl i j hi (by omega), plc_oc _ hj, ← Array.getElem?_toList]
  exact hv
theorem SSt.row {pv : Value} {P : SS} (h : SSt w s g pv P) {i : Nat} (hi : i < P.1.length) : w.rangeAt g (i * 66) (plc (P.1.getD i p0)) := by
  intro j v hv
  have hj : j < 66 := by
    rcases Nat.lt_or_ge j 66 with q | q
    · exact q
    · rw [List.getElem?_eq_none (by rw [plc_len]; omega)] at hv; cases hv
  rw [h.pl i j hi hj]
  exact hv
theorem plset_at {P : List Pl} {k : Nat} (hk : k < P.length) (i : Nat) (p : Pl) : (P.set k p).getD i p0 = if i = k then p else P.getD i p0 := by
  rw [List.getD_eq_getElem?_getD, List.getElem?_set]
  by_cases e : k = i
  · subst e; simp [hk]
  · rw [if_neg e, if_neg (Ne.symm e), List.getD_eq_getElem?_getD]
/-- A claim is written. -/
theorem SSt.setO {pv : Value} {P : SS} (h : SSt w s g pv P) {k : Nat} (hk : k < P.1.length) (e : Bool) (M : Nat → Int) : SSt (w.setCells g (k * 66) (oc e M).toList) s g pv (P.1.set k ⟨e, M, (P.1.getD k p0).wt⟩, P.2) := by
  obtain ⟨C, h1, h2⟩ := h.ga
  have hth := h.there hk
  have hl : (oc e M).toList.length = 65 := by simp [oc_size]
  refine ⟨?_, ?_, ?_⟩
  · have := (On2.setCells (s := g) (g := g) (oc e M).toList (k * 66) w (On2.refl g g w)).at_ h.sa h.ne h.ne
    simpa using this
  · obtain ⟨C', h3, h4⟩ := At.setCells (oc e M).toList (k * 66) C w h1
    exact ⟨C', h3, by simp; omega⟩
  · intro i j hi hj
    have hi' : i < P.1.length := by simpa using hi
    show _ = (plc ((P.1.set k ⟨e, M, (P.1.getD k p0).wt⟩).getD i p0))[j]?
    rw [plset_at hk]
    by_cases c : i = k
    · subst c
      rw [if_pos rfl]
      by_cases hj5 : j < 65
      · rw [World.cell?_setCells_in g _ (i * 66) w (fun q hq => (hth q (by omega)).1) j (by omega), plc_oc _ hj5, ← Array.getElem?_toList]
        exact (List.getElem?_eq_getElem (by rw [hl]; exact hj5)).symm
      · have : j = 65 := by omega
        subst this
        rw [World.cell?_setCells_out g _ (i * 66) w _ (fun _ _ => .inr (by show _ ≤ i * 66 + 65; omega)), h.pl i 65 hi' (by omega), plc_wt, plc_wt]
    · rw [if_neg c, World.cell?_setCells_out g _ (k * 66) w _ (fun _ _ => by show i * 66 + j < k * 66 ∨ _ ≤ i * 66 + j; omega)]
      exact h.pl i j hi' hj
/-- That a point waits is written. -/
theorem SSt.setW {pv : Value} {P : SS} (h : SSt w s g pv P) {k : Nat} (hk : k < P.1.length) (v : Bool) : SSt (w.setCell ⟨g, k * 66 + 65, none⟩ (.bool v)) s g pv (P.1.set k ⟨(P.1.getD k p0).e, (P.1.getD k p0).M, v⟩, P.2) := by
  obtain ⟨C, h1, h2⟩ := h.ga
  refine ⟨?_, ?_, ?_⟩
  · have := h.sa.other (a := g) (k * 66 + 65) (.bool v) h.ne
    simpa using this
  · exact ⟨_, h1.put _ _, by simpa using h2⟩
  · intro i j hi hj
    have hi' : i < P.1.length := by simpa using hi
    show _ = (plc ((P.1.set k ⟨(P.1.getD k p0).e, (P.1.getD k p0).M, v⟩).getD i p0))[j]?
    rw [plset_at hk]
    have hold := h.pl i j hi' hj
    by_cases c : i = k ∧ j = 65
    · obtain ⟨rfl, rfl⟩ := c
      rw [if_pos rfl, plc_wt]
      rw [plc_wt] at hold
      exact World.cell?_setCell_same _ _ _ hold
    · rw [World.cell?_setCell_other _ _ _ _ (fun z => by
        have := congrArg Addr.off z
        exact c (by have : k * 66 + 65 = i * 66 + j := this; omega)), hold]
      by_cases c2 : i = k
      · subst c2
        rw [if_pos rfl, plc_oc _ (show j < 65 by omega), plc_oc _ (show j < 65 by omega)]
      · rw [if_neg c2]
theorem SSt.setG {pv : Value} {P : SS} (h : SSt w s g pv P) (v : Bool) : SSt (w.setCell ⟨s, 2, none⟩ (.bool v)) s g pv (P.1, v) := by
  obtain ⟨C, h1, h2⟩ := h.ga
  refine ⟨?_, ?_, ?_⟩
  · have := h.sa.put 2 (.bool v)
    simpa using this
  · exact ⟨C, h1.other _ _ (Ne.symm h.ne), h2⟩
  · intro i j hi hj
    rw [World.cell?_setCell_other _ _ _ _ (fun z => h.ne (congrArg Addr.block z))]
    exact h.pl i j hi hj

end Go.Proofs.YtffajooegiempabDoor

namespace Go.Proofs.YtffajooegiempabDoor
open Go.RowKit
variable {s g : Nat} {w : World} {pv : Value} {P : SS}
theorem OAt.range {b : Nat} {e : Bool} {M : Nat → Int} (h : OAt w b e M) : w.rangeAt b 0 (oc e M).toList := by
  intro j v hv
  rw [Nat.zero_add, At.cell h, ← Array.getElem?_toList]
  exact hv
set_option maxRecDepth 100000 in
set_option maxHeartbeats 3200000 in
theorem s_claim (h : SSt w s g pv P) (pt : Int) (e : Bool) (M : Nat → Int) :
    Calls Tryd.prog 61 #[.pointer (some ⟨s, 0, none⟩), .int .i64 pt, .agg (oc e M)] w fun x w' => x = .returned (.tuple #[]) ∧ SSt w' s g pv (clmS P pt e M) ∧ On2 s g w w' := by
  obtain ⟨M0, hM0⟩ : ∃ M0 : Nat → Int, M0 = fun _ => 0 := ⟨_, rfl⟩
  have hz : ∀ w, (zeroValue tO).run Tryd.prog w = .ok (.agg (oc false M0)) w := by rw [hM0]; exact o_zero
  have ho3 : (oc false M0).size = 65 := oc_size _ _
  have ho4 : ¬ oc false M0 = #[] := fun h => by have := congrArg Array.size h; rw [oc_size] at this; simp at this
  have HFr : Hid (∀ (w : World) e M, ∃ w2, (storeCells ⟨w.heap.size, 0, none⟩ (oc e M).toList).run Tryd.prog (w.alloc (.cells (oc false M0) tO)) = .ok () w2 ∧ OAt w2 w.heap.size e M ∧ Below w.heap.size w w2 ∧ w.heap.size < w2.heap.size) := by rw [hM0]; exact fun w e M => o_fresh w e M
  clear hM0
  have hb1 : Below w.heap.size w (w.alloc (.cells (oc e M) tO)) := (Below.refl _ _).alloc (Nat.le_refl _) _
  have H1 : Hid (SSt (w.alloc (.cells (oc e M) tO)) s g pv P ∧ OAt (w.alloc (.cells (oc e M) tO)) w.heap.size e M ∧ Below w.heap.size w (w.alloc (.cells (oc e M) tO))) := ⟨h.keep hb1, At.new _ _ _, hb1⟩
  have c1 : (w.alloc (.cells (oc e M) tO)).cell? ⟨s, 1, none⟩ = some (.slice (some ⟨g, 0, none⟩) P.1.length 21) := H1.out.1.sa.cell 1
  have HC : Hid (clmS P pt e M = if pt < 0 ∨ (P.1.length : Int) ≤ pt then P else if wiB e (P.1.getD pt.toNat p0).e M (P.1.getD pt.toNat p0).M = true then P else (P.1.set pt.toNat ⟨joE (P.1.getD pt.toNat p0).e e, joM (P.1.getD pt.toNat p0).e e (P.1.getD pt.toNat p0).M M, true⟩, true)) := rfl
  have hsl := h.sa.lt
  have hgl := h.glt
  have hne := h.ne
  by_cases p0_ : pt < 0
  · have HE : Hid (clmS P pt e M = P) := HC.out.trans (if_pos (.inl p0_))
    clear h hb1
    go_enter Tryd.func61, Tryd.ntmps61
    go_wp2_with fail
    try simp only [Exit.inBlock, Exit.then]
    refine bodyPost_ret (results_none rfl _ _ _) rfl ?_
    exact ⟨rfl, by rw [HE.out]; exact H1.out.1, On2.of H1.out.2.2 (Nat.le_refl _) _ _⟩
  · by_cases p1 : (P.1.length : Int) ≤ pt
    · have HE : Hid (clmS P pt e M = P) := HC.out.trans (if_pos (.inr p1))
      clear h hb1
      go_enter Tryd.func61, Tryd.ntmps61
      go_wp2_with fail
      try simp only [Exit.inBlock, Exit.then]
      refine bodyPost_ret (results_none rfl _ _ _) rfl ?_
      exact ⟨rfl, by rw [HE.out]; exact H1.out.1, On2.of H1.out.2.2 (Nat.le_refl _) _ _⟩
    · obtain ⟨k, rfl⟩ : ∃ k : Nat, pt = (k : Int) := ⟨pt.toNat, by omega⟩
      have hk : k < P.1.length := by omega
      have hk0 : (0 : Int) ≤ (k : Int) := Int.natCast_nonneg _
      have hki : (k : Int) < (P.1.length : Int) := by omega
      have HE : Hid (clmS P (k : Int) e M = if wiB e (P.1.getD k p0).e M (P.1.getD k p0).M = true then P else (P.1.set k ⟨joE (P.1.getD k p0).e e, joM (P.1.getD k p0).e e (P.1.getD k p0).M M, true⟩, true)) := by
        show _ = _
        rw [HC.out, if_neg (by omega), Int.toNat_natCast]
      have HO : Hid ((w.alloc (.cells (oc e M) tO)).rangeAt g (k * 66) (oc (P.1.getD k p0).e (P.1.getD k p0).M).toList) := H1.out.1.oct hk
      have hl : ∀ e M, (Tryd.prog.info? 55).map (·.size) = some (oc e M).toList.length := fun e M => by
        obtain ⟨i0, hi, hz1⟩ := o_info
        have hi' : Tryd.prog.info? 55 = some i0 := hi
        simp [hi', hz1, oc_size]
      have HSO : Hid (∀ w1 e' M', SSt w1 s g pv P → SSt (((w1.setCells g (k * 66) (oc e' M').toList).setCell ⟨g, k * 66 + 65, none⟩ (.bool true)).setCell ⟨s, 2, none⟩ (.bool true)) s g pv (P.1.set k ⟨e', M', true⟩, true)) := fun w1 e' M' h1 => by
        have h2 := ((h1.setO hk e' M').setW (k := k) (by simpa using hk) true).setG true
        have h3 : (P.1.set k ⟨e', M', (P.1.getD k p0).wt⟩).getD k p0 = ⟨e', M', (P.1.getD k p0).wt⟩ := by rw [plset_at hk, if_pos rfl]
        simp only [h3, List.set_set] at h2
        exact h2
      have HTh : Hid (∀ w1, SSt w1 s g pv P → w1.there g (k * 66) 65 ∧ w1.cell? ⟨s, 1, none⟩ = some (.slice (some ⟨g, 0, none⟩) P.1.length 21) ∧ (∃ C, At w1 g C tPl ∧ P.1.length * 66 ≤ C.size)) := fun w1 h1 => ⟨h1.there hk, h1.sa.cell 1, h1.ga⟩
      clear HC h
      generalize (P.1.getD k p0).e = e1 at *
      generalize (P.1.getD k p0).M = M1 at *
      obtain ⟨w3, hst3, hat3, hb3, hs3⟩ := HFr.out (w.alloc (.cells (oc e M) tO)) e1 M1
      have hwz : (w.alloc (.cells (oc e M) tO)).heap.size = w.heap.size + 1 := by simp
      rw [hwz] at hst3 hat3 hb3 hs3
      have H3 : Hid (SSt w3 s g pv P ∧ OAt w3 w.heap.size e M ∧ OAt w3 (w.heap.size + 1) e1 M1 ∧ Below w.heap.size w w3) := ⟨H1.out.1.keep (by rw [hwz]; exact hb3), At.keep H1.out.2.1 hb3 (by omega), hat3, H1.out.2.2.trans (hb3.mono (by omega))⟩
      clear hat3 hb3 hb1
      go_enter Tryd.func61, Tryd.ntmps61
      go_wp2_with (first | refine wpList_load_mid rfl tO (.tmp 24) rfl g (k * 66) rfl (oc e1 M1).toList _ HO.out Tryd.underlying55 rfl (hl _ _) ?_ | refine wpList_load_o rfl (.tmp 5) rfl rfl H3.out.2.1 ?_ | refine wpList_load_o rfl (.tmp 6) rfl rfl H3.out.2.2.1 ?_)
      refine (o_within (w := w3) (e1 := e) (e2 := e1) (M := M) (N := M1)).mono ?_
      rintro x w4 ⟨rfl, hb4⟩
      have H4 : Hid (SSt w4 s g pv P ∧ OAt w4 w.heap.size e M ∧ OAt w4 (w.heap.size + 1) e1 M1 ∧ Below w.heap.size w w4) := ⟨H3.out.1.keep hb4, At.keep H3.out.2.1 hb4 (At.lt H3.out.2.1), At.keep H3.out.2.2.1 hb4 (At.lt H3.out.2.2.1), H3.out.2.2.2.trans (hb4.mono H3.out.2.2.2.size)⟩
      clear hb4
      cases hwi : wiB e e1 M M1 with
      | true =>
        have HF : Hid (clmS P (k : Int) e M = P) := HE.out.trans (if_pos hwi)
        clear hwi
        go_wp2_with fail
        try simp only [Exit.inBlock, Exit.then]
        refine bodyPost_ret (results_none rfl _ _ _) rfl ?_
        exact ⟨rfl, by rw [HF.out]; exact H4.out.1, On2.of H4.out.2.2.2 (Nat.le_refl _) _ _⟩
      | false =>
        have HF : Hid (clmS P (k : Int) e M = (P.1.set k ⟨joE e1 e, joM e1 e M1 M, true⟩, true)) := HE.out.trans (if_neg (by rw [hwi]; decide))
        clear hwi HE
        have HJ : Hid (∀ w1, Calls Tryd.prog 27 #[.agg (oc e1 M1), .agg (oc e M)] w1 fun x w' => x = .returned (.agg (oc (joE e1 e) (joM e1 e M1 M))) ∧ Below w1.heap.size w1 w') := fun w1 => o_join
        obtain ⟨S, hS⟩ : ∃ S : World → Prop, S = fun w' => w'.cell? ⟨s, 1, none⟩ = some (.slice (some ⟨g, 0, none⟩) P.1.length 21) ∧ OAt w' w.heap.size e M ∧ OAt w' (w.heap.size + 1) e1 M1 := ⟨_, rfl⟩
        have HS4 : Hid (S w4.drew ∧ SSt w4.drew s g pv P ∧ Below w.heap.size w w4.drew ∧ w.heap.size + 1 < w4.drew.heap.size) := by
          have k4 : SSt w4.drew s g pv P := H4.out.1.keep (Below.refl _ _).drew
          refine ⟨?_, k4, H4.out.2.2.2.drew, At.lt H4.out.2.2.1⟩
          rw [hS]
          exact ⟨k4.sa.cell 1, H4.out.2.1, H4.out.2.2.1⟩
        have HSb : Hid (∀ w1 w2, S w1 → w.heap.size + 1 < w1.heap.size → Below w1.heap.size w1 w2 → S w2) := by
          rw [hS]
          exact fun w1 w2 ⟨q1, q2, q3⟩ hz hb => ⟨(hb.cell (by show s < _; omega)).trans q1, At.keep q2 hb (At.lt q2), At.keep q3 hb (At.lt q3)⟩
        have HSc : Hid (∀ w1 o vs, S w1 → S (w1.setCells g o vs)) := by
          rw [hS]
          intro w1 o vs ⟨q1, q2, q3⟩
          have on := On2.setCells (s := g) (g := g) vs o w1 (On2.refl g g w1)
          have l2 := At.lt q2
          exact ⟨(on.cell (by show s < _; omega) hne hne 1).trans q1, on.at_ q2 (by omega) (by omega), on.at_ q3 (by omega) (by omega)⟩
        have HSv : Hid (∀ w1, S w1 → w1.cell? ⟨s, 1, none⟩ = some (.slice (some ⟨g, 0, none⟩) P.1.length 21) ∧ w1.rangeAt w.heap.size 0 (oc e M).toList ∧ w1.rangeAt (w.heap.size + 1) 0 (oc e1 M1).toList) := by
          rw [hS]
          exact fun w1 ⟨q1, q2, q3⟩ => ⟨q1, OAt.range q2, OAt.range q3⟩
        have HOn : Hid (∀ w1 w2 vs, Below w.heap.size w w1 → Below w1.heap.size w1 w2 → On2 s g w (((w2.setCells g (k * 66) vs).setCell ⟨g, k * 66 + 65, none⟩ (.bool true)).setCell ⟨s, 2, none⟩ (.bool true))) := fun w1 w2 vs h1 h2 =>
          ((On2.setCells vs (k * 66) w2 (On2.of (h1.trans (h2.mono h1.size)) (Nat.le_refl _) s g)).setCell (.inr rfl) _ _).setCell (.inl rfl) _ _
        have hu := Tryd.underlying55
        clear hS
        go_wp2_with fail
        refine wp_region_held (S := S) (by kernel_rfl) ?_
        change wpAnyH _ _ _ _ _ _ _ _ (World.drew _)
        generalize w4.drew = w5 at *
        refine wpAnyH_take (i := 0) (v := .pointer (some ⟨s, 0, none⟩)) rfl (by kernel_rfl) (by kernel_rfl) (by kernel_rfl) (fun _ _ _ h => h) (Or.inl ⟨by rfl, by intro w1 _; go_simp⟩) (HS4.out.1) ?_
        simp only [Act.put]
        refine wpAnyH_take (i := 1) (v := .pointer (some ⟨s, 0, none⟩)) rfl (by kernel_rfl) (by kernel_rfl) (by kernel_rfl) (fun _ _ _ h => h) (Or.inl ⟨by rfl, by intro w1 _; go_simp⟩) (HS4.out.1) ?_
        simp only [Act.put]
        refine wpAnyH_take (i := 2) (v := .pointer (some ⟨s, 1, none⟩)) rfl (by kernel_rfl) (by kernel_rfl) (by kernel_rfl) (fun _ _ _ h => h) (Or.inl ⟨by rfl, by intro w1 _; go_simp⟩) (HS4.out.1) ?_
        simp only [Act.put]
        refine wpAnyH_take (i := 3) (v := .slice (some ⟨g, 0, none⟩) P.1.length 21) rfl (by kernel_rfl) (by kernel_rfl) (by kernel_rfl) (fun _ _ _ h => h) (Or.inl ⟨by rfl, by intro w1 hw1; have cc := (HSv.out w1 hw1).1; go_simp⟩) HS4.out.1 ?_
        simp only [Act.put]
        refine wpAnyH_take (i := 4) (v := .int .i64 (k : Int)) rfl (by kernel_rfl) (by kernel_rfl) (by kernel_rfl) (fun _ _ _ h => h) (Or.inl ⟨by rfl, by intro w1 _; go_simp⟩) (HS4.out.1) ?_
        simp only [Act.put]
        refine wpAnyH_take (i := 5) (v := .agg (oc e1 M1)) rfl (by kernel_rfl) (by kernel_rfl) (by kernel_rfl) (fun _ _ _ h => h) (yieldsIf_load_mid (by rfl) 55 (.tmp 6) rfl (w.heap.size + 1) 0 rfl (oc e1 M1).toList _ (fun w1 hw1 => (HSv.out w1 hw1).2.2) hu rfl (hl e1 M1)) HS4.out.1 ?_
        simp only [Act.put]
        refine wpAnyH_take (i := 6) (v := .agg (oc e M)) rfl (by kernel_rfl) (by kernel_rfl) (by kernel_rfl) (fun _ _ _ h => h) (yieldsIf_load_mid (by rfl) 55 (.tmp 5) rfl w.heap.size 0 rfl (oc e M).toList _ (fun w1 hw1 => (HSv.out w1 hw1).2.1) hu rfl (hl e M)) HS4.out.1 ?_
        simp only [Act.put]
        refine wpAnyH_ready (rs := [7]) (by kernel_rfl) (by simp) ?_
        refine AllReadyH.cons (o := ⟨some 36, .call _, _, _, _, none⟩) rfl (fun K hK => ?_) AllReadyH.nil
        go_simp
        refine (HJ.out w5).mono ?_
        rintro x w6 ⟨rfl, hb6⟩
        have H6 : Hid (S w6 ∧ SSt w6 s g pv P ∧ Below w5.heap.size w5 w6) := ⟨HSb.out w5 w6 HS4.out.1 HS4.out.2.2.2 hb6, HS4.out.2.1.keep hb6, hb6⟩
        clear hb6
        refine hK.out _ _ H6.out.1 (fun _ => ?_)
        clear hK K
        refine wpAnyH_take (i := 8) (v := .pointer (some ⟨g, k * 66, none⟩)) rfl (by kernel_rfl) (by kernel_rfl) (by kernel_rfl) (fun _ _ _ h => h) (Or.inl ⟨by rfl, by intro w1 _; go_simp⟩) (H6.out.1) ?_
        simp only [Act.put]
        refine wpAnyH_take (i := 9) (v := .pointer (some ⟨g, k * 66, none⟩)) rfl (by kernel_rfl) (by kernel_rfl) (by kernel_rfl) (fun _ _ _ h => h) (Or.inl ⟨by rfl, by intro w1 _; go_simp⟩) (H6.out.1) ?_
        simp only [Act.put]
        refine wpAnyH_ready (rs := [10]) (by kernel_rfl) (by simp) ?_
        refine AllReadyH.cons (o := ⟨none, .store 55 (.tmp 38) (.tmp 36), _, _, _, none⟩) rfl (fun K hK => ?_) AllReadyH.nil
        rw [if_pos (by rfl)]
        have hth := (HTh.out w6 H6.out.2.1).1
        have h65 : (oc (joE e1 e) (joM e1 e M1 M)).size = 65 := oc_size _ _
        refine wp_store_mid 55 (.tmp 38) (.tmp 36) rfl g (k * 66) (oc (joE e1 e) (joM e1 e M1 M)) rfl rfl (by rw [h65]; exact hth) (by rw [hl (joE e1 e) (joM e1 e M1 M)]; simp) (Array.all_eq_true_iff_forall_mem.2 fun v hv => oc_one _ _ v (by simpa using hv)) ?_
        refine hK.out _ _ (HSc.out w6 _ _ H6.out.1) (fun _ => ?_)
        clear hK K
        refine wpAnyH_done (by kernel_rfl) ?_ _
        have HFin : Hid (SSt (((w6.setCells g (k * 66) (oc (joE e1 e) (joM e1 e M1 M)).toList).setCell ⟨g, k * 66 + 65, none⟩ (.bool true)).setCell ⟨s, 2, none⟩ (.bool true)) s g pv (P.1.set k ⟨joE e1 e, joM e1 e M1 M, true⟩, true) ∧ On2 s g w (((w6.setCells g (k * 66) (oc (joE e1 e) (joM e1 e M1 M)).toList).setCell ⟨g, k * 66 + 65, none⟩ (.bool true)).setCell ⟨s, 2, none⟩ (.bool true))) := ⟨HSO.out w6 _ _ H6.out.2.1, HOn.out w5 w6 _ HS4.out.2.2.1 H6.out.2.2⟩
        have h7 := H6.out.2.1.setO hk (joE e1 e) (joM e1 e M1 M)
        have hln : (P.1.set k ⟨joE e1 e, joM e1 e M1 M, (P.1.getD k p0).wt⟩).length = P.1.length := by simp
        obtain ⟨w7, hw7⟩ : ∃ w7, w7 = w6.setCells g (k * 66) (oc (joE e1 e) (joM e1 e M1 M)).toList := ⟨_, rfl⟩
        rw [← hw7] at HFin h7 ⊢
        clear hw7
        have c7 : w7.cell? ⟨s, 1, none⟩ = some (.slice (some ⟨g, 0, none⟩) P.1.length 21) := by
          have := h7.sa.cell 1
          rw [this]
          show some (Value.slice (some ⟨g, 0, none⟩) (P.1.set k _).length 21) = _
          rw [hln]
        have c9 : w7.cell? ⟨s, 2, none⟩ = some (.bool P.2) := h7.sa.cell 2
        have f9 := h7.sa.free
        obtain ⟨wt, c8⟩ : ∃ wt, w7.cell? ⟨g, k * 66 + 65, none⟩ = some (.bool wt) := ⟨_, (h7.pl k 65 (by rw [hln]; exact hk) (by omega)).trans (plc_wt _)⟩
        obtain ⟨C7, hC7, -⟩ := h7.ga
        have f8 := hC7.free
        have l7 := hC7.lt
        have l8 := h7.sa.lt
        clear h7 hC7 hth
        go_wp2_with fail
        go_end0
        exact ⟨rfl, by rw [HF.out]; exact HFin.out.1, HFin.out.2⟩

end Go.Proofs.YtffajooegiempabDoor

