import Derived.Test.YtffajooegiempabDoorJ22
import Derived.Great.BuildSlice
namespace Go.Proofs.YtffajooegiempabDoor
open Go.RowKit
variable {s g : Nat} {w w' : World} {pv : Value} {P : SS} {F : List Ds}

/-- The program's statements, out of the search's way. -/
def PK (w : World) (s g : Nat) (pv : Value) (F : List Ds) : Prop := ∃ ao cap, pv = .slice ao F.length cap ∧ (F.length ≠ 0 → ∃ g0, ao = some ⟨g0, 0, none⟩ ∧ g0 ≠ s ∧ g0 ≠ g ∧ PRow w g0 F)
theorem PK.on (h : PK w s g pv F) (ho : On2 s g w w') : PK w' s g pv F := by
  obtain ⟨ao, cap, hv, h0⟩ := h
  refine ⟨ao, cap, hv, fun hn => ?_⟩
  obtain ⟨g0, h1, h2, h3, h4⟩ := h0 hn
  refine ⟨g0, h1, h2, h3, Nat.lt_of_lt_of_le h4.1 ho.size, fun j x hx => ?_⟩
  have hc : ∀ o, w'.cell? ⟨g0, o, none⟩ = w.cell? ⟨g0, o, none⟩ := fun o => ho.cell h4.1 h2 h3 o
  have := h4.2 j x hx
  simp only [hc]
  exact this
theorem PK.keep (h : PK w s g pv F) (hb : Below w.heap.size w w') : PK w' s g pv F := h.on (On2.of hb (Nat.le_refl _) s g)
/-- What stands while the ways are followed. -/
structure FB (w wr : World) (s g B5 B6 : Nat) (pv : Value) (F : List Ds) (e : Bool) (M : Nat → Int) (x : Ds) (P : SS) : Prop where
  oa : OAt wr B5 e M
  da : At wr B6 (dsCells x) tDs
  st : SSt wr s g pv P
  pk : PK wr s g pv F
  on : On2 s g w wr
theorem FB.keep {wr w' : World} {B5 B6 : Nat} {e : Bool} {M : Nat → Int} {x : Ds} (h : FB w wr s g B5 B6 pv F e M x P) (hb : Below wr.heap.size wr w') : FB w w' s g B5 B6 pv F e M x P :=
  ⟨At.keep h.oa hb (At.lt h.oa), h.da.keep hb h.da.lt, h.st.keep hb, h.pk.keep hb, h.on.trans (On2.of hb (Nat.le_refl _) s g)⟩
theorem FB.step {wr w' : World} {B5 B6 : Nat} {e : Bool} {M : Nat → Int} {x : Ds} {P' : SS} (h : FB w wr s g B5 B6 pv F e M x P) (ho : On2 s g wr w') (hs : SSt w' s g pv P') (h5 : B5 ≠ s ∧ B5 ≠ g) (h6 : B6 ≠ s ∧ B6 ≠ g) : FB w w' s g B5 B6 pv F e M x P' :=
  ⟨ho.at_ h.oa h5.1 h5.2, ho.at_ h.da h6.1 h6.2, hs, h.pk.on ho, h.on.trans ho⟩

set_option maxRecDepth 100000 in
set_option maxHeartbeats 6400000 in
theorem s_follow (h : SSt w s g pv P) (hK : PK w s g pv F) (hl : F.length ≤ 20) (hpar : ∀ (k : Nat) (x : Ds), F[k]? = some x → -1 ≤ x.parent ∧ x.parent < (k : Int)) (k : Nat) (e : Bool) (M : Nat → Int)
    (hx : k < F.length → DsG (F.getD k (newDs 0 0)) ∧ 0 ≤ (F.getD k (newDs 0 0)).target ∧ (F.getD k (newDs 0 0)).target < 4) (hM : ∀ j, j < 64 → -20000000000 ≤ M j ∧ M j ≤ 1000000) (hS : e = false → Sh M) :
    Calls Tryd.prog 82 #[.pointer (some ⟨s, 0, none⟩), .int .i64 (k : Int), .agg (oc e M)] w fun x w' => x = .returned (.tuple #[]) ∧ SSt w' s g pv (flwS F k e M P) ∧ On2 s g w w' := by
  have hb1 : Below w.heap.size w (w.alloc (.cells (oc e M) tO)) := (Below.refl _ _).alloc (Nat.le_refl _) _
  have hsl := h.sa.lt
  have hgl := h.glt
  have H1 : Hid (SSt (w.alloc (.cells (oc e M) tO)) s g pv P ∧ OAt (w.alloc (.cells (oc e M) tO)) w.heap.size e M ∧ Below w.heap.size w (w.alloc (.cells (oc e M) tO)) ∧ PK (w.alloc (.cells (oc e M) tO)) s g pv F) := ⟨h.keep hb1, At.new _ _ _, hb1, hK.keep hb1⟩
  have cp : (w.alloc (.cells (oc e M) tO)).cell? ⟨s, 0, none⟩ = some pv := H1.out.1.sa.cell 0
  obtain ⟨ao, cap, hpv, hrow⟩ := id hK
  by_cases hk : k < F.length
  case neg =>
    have HE : Hid (flwS F k e M P = P) := if_neg hk
    have HAt : Hid (∀ w1, Calls Tryd.prog 32 #[.agg #[pv], .int .i64 (k : Int)] w1 fun x w' => x = .returned (.tuple #[dsv zDs, .int .i64 2]) ∧ Below w1.heap.size w1 w') := fun w1 => by rw [hpv]; exact d_at_out ao F.length hl (k : Int) (.inr (by omega))
    unfold dsv zDs newDs at HAt
    clear hrow hpv hK h hb1 hx hM hS
    go_enter Tryd.func82, Tryd.ntmps82
    go_wp2_with fail
    refine (HAt.out _).mono ?_
    rintro x w2 ⟨rfl, hb2⟩
    have H2 : Hid (SSt w2 s g pv P ∧ Below w.heap.size w w2) := ⟨H1.out.1.keep hb2, H1.out.2.2.1.trans (hb2.mono (by simp))⟩
    clear hb2
    go_wp2_with fail
    try simp only [Exit.inBlock, Exit.then]
    refine bodyPost_ret (results_none rfl _ _ _) rfl ?_
    exact ⟨rfl, by rw [HE.out]; exact H2.out.1.keep ((Below.refl _ _).alloc (Nat.le_refl _) _), On2.of (H2.out.2.alloc H2.out.2.size _) (Nat.le_refl _) _ _⟩
  obtain ⟨g0, hao, hg1, hg2, hP⟩ := hrow (by omega)
  have hx := hx hk
  have HAt : Hid (∀ w1, PK w1 s g pv F → Calls Tryd.prog 32 #[.agg #[pv], .int .i64 (k : Int)] w1 fun e w' => e = .returned (.tuple #[dsv (F.getD k (newDs 0 0)), .int .i64 0]) ∧ Below w1.heap.size w1 w') := fun w1 hp => by
    obtain ⟨ao, cap, e1, h2⟩ := hp
    obtain ⟨g1, e2, _, _, h3⟩ := h2 (by omega)
    rw [e1, e2]
    exact d_at_in h3 k hk
  have HNx : Hid (∀ w1 (way : Nat), (way : Int) < waysP (F.getD k (newDs 0 0)).kind → PK w1 s g pv F → Calls Tryd.prog 34 #[.agg #[pv], .int .i64 (k : Int), .int .i64 (way : Int)] w1 fun e w' => e = .returned (.tuple #[.int .i64 (nextP F k way).1, .int .i64 0]) ∧ Below w1.heap.size w1 w') := fun w1 way hw hp => by
    obtain ⟨ao, cap, e1, h2⟩ := hp
    obtain ⟨g1, e2, _, _, h3⟩ := h2 (by omega)
    rw [e1, e2]
    have := d_next_in (cap := cap) h3 hl hpar k hk (way : Int)
    unfold twoD at this
    rw [next_z F k hk way hw] at this
    exact this
  have HSf : Hid (∀ w1, Calls Tryd.prog 33 #[dsv (F.getD k (newDs 0 0)), .agg (oc e M)] w1 fun x w' => x = .returned (.bool (sfP e M (F.getD k (newDs 0 0)))) ∧ Below w1.heap.size w1 w') := fun w1 => e_safe _ hx.1 (fun j hj => by have := hM j hj; omega)
  have HPo : Hid (∀ w1 (way : Nat), Calls Tryd.prog 36 #[dsv (F.getD k (newDs 0 0)), .int .i64 (way : Int), .agg (oc e M)] w1 fun x w' => x = .returned (.agg (oc (poE e M (F.getD k (newDs 0 0)) way) (poM e M (F.getD k (newDs 0 0)) way))) ∧ Below w1.heap.size w1 w') := fun w1 way => e_post _ hx.1 hx.2 (way : Int) hM hS
  have HCl : Hid (∀ w1 P pt e M, SSt w1 s g pv P → Calls Tryd.prog 61 #[.pointer (some ⟨s, 0, none⟩), .int .i64 pt, .agg (oc e M)] w1 fun x w' => x = .returned (.tuple #[]) ∧ SSt w' s g pv (clmS P pt e M) ∧ On2 s g w1 w') := fun w1 P pt e M h => s_claim h pt e M
  have HC : Hid (flwS F k e M P = if sfP e M (F.getD k (newDs 0 0)) = true then wysS F k e M P (waysP (F.getD k (newDs 0 0)).kind).toNat else P) := if_pos hk
  have HWs : Hid (∀ i : Nat, wysS F k e M P (i + 1) = clmS (wysS F k e M P i) (nextP F k i).1 (poE e M (F.getD k (newDs 0 0)) i) (poM e M (F.getD k (newDs 0 0)) i)) := fun i => rfl
  have HW0 : Hid (wysS F k e M P 0 = P) := rfl
  clear hP hl hpar hx hM hS hK h hrow hb1 hao hpv
  generalize wysS F k e M P = ws at *
  generalize F.getD k (newDs 0 0) = x at *
  have hwr := ways_rng x.kind
  obtain ⟨n, hn⟩ : ∃ n : Nat, waysP x.kind = (n : Int) := ⟨(waysP x.kind).toNat, by omega⟩
  have HW : Hid (∀ w1, Calls Tryd.prog 51 #[dsv x] w1 fun e w' => e = .returned (.int .i64 (n : Int)) ∧ Below w1.heap.size w1 w') := fun w1 => by
    rw [← hn]
    exact (d_ways _ _ _ _ _ _ _ _ _ _ w1).mono fun e w' ⟨h1, o, h2⟩ => ⟨h1, by rw [h2]; exact (Below.refl _ _).alloc (Nat.le_refl _) _⟩
  rw [hn] at HC HNx
  rw [Int.toNat_natCast] at HC
  unfold dsv at HAt HSf HPo HW
  have hn2 : n ≤ 2 := by omega
  clear hwr hn
  have hz := o_zero
  go_enter Tryd.func82, Tryd.ntmps82
  go_wp2_with fail
  refine (HAt.out _ H1.out.2.2.2).mono ?_
  rintro y w1 ⟨rfl, hb1⟩
  have hs1 : w.heap.size + 1 ≤ w1.heap.size := by have := hb1.size; simpa using this
  have H2 : Hid (FB w (w1.alloc (.cells (dsCells x) tDs)) s g w.heap.size w1.heap.size pv F e M x P) := by
    have hB : Below w.heap.size w w1 := H1.out.2.2.1.trans (hb1.mono (by simp))
    have hb2 : Below w1.heap.size w1 (w1.alloc (.cells (dsCells x) tDs)) := (Below.refl _ _).alloc (Nat.le_refl _) _
    have ho : OAt w1 w.heap.size e M := At.keep H1.out.2.1 hb1 (by simp)
    exact ⟨At.keep ho hb2 (At.lt ho), At.new _ _ _, (H1.out.1.keep hb1).keep hb2, (H1.out.2.2.2.keep hb1).keep hb2, On2.of (hB.trans (hb2.mono hB.size)) (Nat.le_refl _) s g⟩
  clear hb1 H1 cp
  obtain ⟨w2, hw2⟩ : ∃ w2, w2 = w1.alloc (.cells (dsCells x) tDs) := ⟨_, rfl⟩
  have y0 : (w1.alloc (.cells (dsCells x) tDs)).cell? ⟨w1.heap.size, 0, none⟩ = some (.int .i64 x.kind) := (H2.out.da).cell 0
  have y1 : (w1.alloc (.cells (dsCells x) tDs)).cell? ⟨w1.heap.size, 1, none⟩ = some (.int .i64 x.target) := (H2.out.da).cell 1
  have y2 : (w1.alloc (.cells (dsCells x) tDs)).cell? ⟨w1.heap.size, 2, none⟩ = some (.bool x.any) := (H2.out.da).cell 2
  have y3 : (w1.alloc (.cells (dsCells x) tDs)).cell? ⟨w1.heap.size, 3, none⟩ = some (.int .i64 (sgAt x.sg 0)) := (H2.out.da).cell 3
  have y4 : (w1.alloc (.cells (dsCells x) tDs)).cell? ⟨w1.heap.size, 4, none⟩ = some (.int .i64 (sgAt x.sg 1)) := (H2.out.da).cell 4
  have y5 : (w1.alloc (.cells (dsCells x) tDs)).cell? ⟨w1.heap.size, 5, none⟩ = some (.int .i64 (sgAt x.sg 2)) := (H2.out.da).cell 5
  have y6 : (w1.alloc (.cells (dsCells x) tDs)).cell? ⟨w1.heap.size, 6, none⟩ = some (.int .i64 (sgAt x.sg 3)) := (H2.out.da).cell 6
  have y7 : (w1.alloc (.cells (dsCells x) tDs)).cell? ⟨w1.heap.size, 7, none⟩ = some (.int .i64 x.num) := (H2.out.da).cell 7
  have y8 : (w1.alloc (.cells (dsCells x) tDs)).cell? ⟨w1.heap.size, 8, none⟩ = some (.int .i64 x.parent) := (H2.out.da).cell 8
  have y9 : (w1.alloc (.cells (dsCells x) tDs)).cell? ⟨w1.heap.size, 9, none⟩ = some (.int .i64 x.block) := (H2.out.da).cell 9
  go_wp2_with (refine wpList_load_o rfl (.tmp 5) rfl rfl H2.out.oa ?_)
  refine (HSf.out _).mono ?_
  rintro y w3 ⟨rfl, hb3⟩
  have h56 : (w.heap.size ≠ s ∧ w.heap.size ≠ g) ∧ (w1.heap.size ≠ s ∧ w1.heap.size ≠ g) := ⟨⟨by omega, by omega⟩, ⟨by omega, by omega⟩⟩
  have H3 : Hid (FB w w3 s g w.heap.size w1.heap.size pv F e M x P) := H2.out.keep hb3
  have H56 : Hid ((w.heap.size ≠ s ∧ w.heap.size ≠ g) ∧ (w1.heap.size ≠ s ∧ w1.heap.size ≠ g)) := h56
  clear hb3 HSf y0 y1 y2 y3 y4 y5 y6 y7 y8 y9 H2 hw2 w2 h56
  cases hsf : sfP e M x with
  | false =>
    have HE : Hid (flwS F k e M P = P) := by show _ = _; rw [HC.out, if_neg (by rw [hsf]; decide)]
    clear hsf
    go_wp2_with fail
    try simp only [Exit.inBlock, Exit.then]
    refine bodyPost_ret (results_none rfl _ _ _) rfl ?_
    exact ⟨rfl, by rw [HE.out]; exact H3.out.st, H3.out.on⟩
  | true =>
    have HE : Hid (flwS F k e M P = ws n) := by show _ = _; rw [HC.out, if_pos hsf]
    clear hsf HC
    go_wp2_with fail
    go_loopw [8] (fun iv wr => ∃ i : Nat, i ≤ n ∧ iv = .int .i64 (i : Int) ∧ Hid (FB w wr s g w.heap.size w1.heap.size pv F e M x (ws i))) (fun iv _ => n - (intOf iv).toNat)
    case atStart => exact ⟨0, by omega, rfl, by rw [HW0.out]; exact H3.out⟩
    case round =>
      obtain ⟨i, hi, rfl, HR⟩ := hrel
      have y0 : wr.cell? ⟨w1.heap.size, 0, none⟩ = some (.int .i64 x.kind) := (HR.out.da).cell 0
      have y1 : wr.cell? ⟨w1.heap.size, 1, none⟩ = some (.int .i64 x.target) := (HR.out.da).cell 1
      have y2 : wr.cell? ⟨w1.heap.size, 2, none⟩ = some (.bool x.any) := (HR.out.da).cell 2
      have y3 : wr.cell? ⟨w1.heap.size, 3, none⟩ = some (.int .i64 (sgAt x.sg 0)) := (HR.out.da).cell 3
      have y4 : wr.cell? ⟨w1.heap.size, 4, none⟩ = some (.int .i64 (sgAt x.sg 1)) := (HR.out.da).cell 4
      have y5 : wr.cell? ⟨w1.heap.size, 5, none⟩ = some (.int .i64 (sgAt x.sg 2)) := (HR.out.da).cell 5
      have y6 : wr.cell? ⟨w1.heap.size, 6, none⟩ = some (.int .i64 (sgAt x.sg 3)) := (HR.out.da).cell 6
      have y7 : wr.cell? ⟨w1.heap.size, 7, none⟩ = some (.int .i64 x.num) := (HR.out.da).cell 7
      have y8 : wr.cell? ⟨w1.heap.size, 8, none⟩ = some (.int .i64 x.parent) := (HR.out.da).cell 8
      have y9 : wr.cell? ⟨w1.heap.size, 9, none⟩ = some (.int .i64 x.block) := (HR.out.da).cell 9
      have hl7 := HR.out.da.lt
      go_wp2_with fail
      refine (HW.out wr).mono ?_
      rintro y w5 ⟨rfl, hb5⟩
      have H5 : Hid (FB w w5 s g w.heap.size w1.heap.size pv F e M x (ws i)) := HR.out.keep hb5
      clear hb5 y0 y1 y2 y3 y4 y5 y6 y7 y8 y9 hl7
      by_cases hin : i < n
      · have hii : (i : Int) < (n : Int) := by omega
        have c3 : w5.cell? ⟨s, 0, none⟩ = some pv := H5.out.st.sa.cell 0
        have l3 := H5.out.st.sa.lt
        have hnx := HNx.out w5 i hii H5.out.pk
        have HWi : Hid (ws (i + 1) = clmS (ws i) (nextP F k i).1 (poE e M x i) (poM e M x i)) := HWs.out i
        generalize (nextP F k i).1 = q at *
        have HPi : Hid _ := fun w1 => HPo.out w1 i
        generalize poE e M x i = e4 at *
        generalize poM e M x i = M4 at *
        go_wp2_with fail
        refine hnx.mono ?_
        rintro y w6 ⟨rfl, hb6⟩
        have H6 : Hid (FB w w6 s g w.heap.size w1.heap.size pv F e M x (ws i)) := H5.out.keep hb6
        clear hb6 hnx c3 l3
        have y0 : w6.cell? ⟨w1.heap.size, 0, none⟩ = some (.int .i64 x.kind) := (H6.out.da).cell 0
        have y1 : w6.cell? ⟨w1.heap.size, 1, none⟩ = some (.int .i64 x.target) := (H6.out.da).cell 1
        have y2 : w6.cell? ⟨w1.heap.size, 2, none⟩ = some (.bool x.any) := (H6.out.da).cell 2
        have y3 : w6.cell? ⟨w1.heap.size, 3, none⟩ = some (.int .i64 (sgAt x.sg 0)) := (H6.out.da).cell 3
        have y4 : w6.cell? ⟨w1.heap.size, 4, none⟩ = some (.int .i64 (sgAt x.sg 1)) := (H6.out.da).cell 4
        have y5 : w6.cell? ⟨w1.heap.size, 5, none⟩ = some (.int .i64 (sgAt x.sg 2)) := (H6.out.da).cell 5
        have y6 : w6.cell? ⟨w1.heap.size, 6, none⟩ = some (.int .i64 (sgAt x.sg 3)) := (H6.out.da).cell 6
        have y7 : w6.cell? ⟨w1.heap.size, 7, none⟩ = some (.int .i64 x.num) := (H6.out.da).cell 7
        have y8 : w6.cell? ⟨w1.heap.size, 8, none⟩ = some (.int .i64 x.parent) := (H6.out.da).cell 8
        have y9 : w6.cell? ⟨w1.heap.size, 9, none⟩ = some (.int .i64 x.block) := (H6.out.da).cell 9
        go_wp2_with (refine wpList_load_o rfl (.tmp 5) rfl rfl H6.out.oa ?_)
        refine (HPi.out w6).mono ?_
        rintro y w7 ⟨rfl, hb7⟩
        obtain ⟨w8, hst8, hat8, hb8, hs8⟩ := o_fresh w7 e4 M4
        have H8 : Hid (OAt w8 w7.heap.size e4 M4 ∧ FB w w8 s g w.heap.size w1.heap.size pv F e M x (ws i)) := ⟨hat8, (H6.out.keep hb7).keep hb8⟩
        clear hb7 hat8 hb8 y0 y1 y2 y3 y4 y5 y6 y7 y8 y9
        go_wp2_with (refine wpList_load_o rfl (.tmp 11) rfl rfl H8.out.1 ?_)
        refine (HCl.out w8 (ws i) q e4 M4 H8.out.2.st).mono ?_
        rintro y w9 ⟨rfl, hst9, hon9⟩
        have H9 : Hid (FB w w9 s g w.heap.size w1.heap.size pv F e M x (ws (i + 1))) := H8.out.2.step hon9 (by rw [HWi.out]; exact hst9) H56.out.1 H56.out.2
        clear hst9 hon9
        go_wp2_with fail
        go_roundw
        case rel => exact ⟨i + 1, by omega, by go_num, H9.out⟩
        case measure => simp [intOf]; omega
      · have hie : i = n := by omega
        subst hie
        go_wp2_with fail
        go_end0
        exact ⟨rfl, by rw [HE.out]; exact H5.out.st, H5.out.on⟩

end Go.Proofs.YtffajooegiempabDoor

namespace Go.Proofs.YtffajooegiempabDoor
open Go.RowKit
variable {s g : Nat} {w w' : World} {pv : Value} {P : SS} {F : List Ds}

def plA (p : Pl) : Array Value := (plc p).toArray
theorem plA_size (p : Pl) : (plA p).size = 66 := by simp [plA, plc_len]
theorem plc_one (p : Pl) : ∀ v, v ∈ plc p → v.oneCell' = true := by
  intro v hv
  unfold plc at hv
  rcases List.mem_append.1 hv with q | q
  · exact oc_one p.e p.M v q
  · rw [List.mem_singleton.1 q]; rfl
theorem pl_zero (w : World) : (zeroValue 123).run Tryd.prog w = .ok (.agg (plA ⟨false, fun _ => 0, false⟩)) w := by kernel_rfl
theorem pl_info : ∃ i0, Tryd.prog.info? 123 = some i0 ∧ i0.size = 66 := by
  obtain ⟨i0, hi, hz0, hz1, hz2⟩ := info_parts (P := Tryd.prog) (e := 123) (z := .agg (plA ⟨false, fun _ => 0, false⟩)) (size := 66) (bytes := 528) (by kernel_rfl)
  exact ⟨i0, hi, hz1⟩
theorem pl_size (p : Pl) : (Tryd.prog.info? 123).map (·.size) = some (plc p).length := by
  obtain ⟨i0, hi, hz1⟩ := pl_info
  simp [hi, hz1, plc_len]
theorem pl_fresh (w1 : World) (p : Pl) : ∃ w2, (storeCells ⟨w1.heap.size, 0, none⟩ (plc p)).run Tryd.prog (w1.alloc (.cells (plA ⟨false, fun _ => 0, false⟩) tPl)) = .ok () w2 ∧ At w2 w1.heap.size (plA p) tPl ∧ Below w1.heap.size w1 w2 ∧ w1.heap.size < w2.heap.size := by
  have h0 : At (w1.alloc (.cells (plA ⟨false, fun _ => 0, false⟩) tPl)) w1.heap.size (plA ⟨false, fun _ => 0, false⟩) tPl := At.new _ _ _
  have hr := run_storeCells_at Tryd.prog w1.heap.size 0 tPl (plc p) 0 (plA ⟨false, fun _ => 0, false⟩) _ h0 (by rw [plc_len, plA_size]; omega) (plc_one p)
  have h1 := setRow_heap _ w1.heap.size (plA ⟨false, fun _ => 0, false⟩) ((plA ⟨false, fun _ => 0, false⟩).toList.take (0 + 0) ++ plc p ++ (plA ⟨false, fun _ => 0, false⟩).toList.drop (0 + 0 + (plc p).length)).toArray tPl (0, 0) h0
  have e1 : ((plA ⟨false, fun _ => 0, false⟩).toList.take (0 + 0) ++ plc p ++ (plA ⟨false, fun _ => 0, false⟩).toList.drop (0 + 0 + (plc p).length)).toArray = plA p := by
    rw [List.drop_of_length_le (by rw [plc_len]; simp [plA_size])]
    simp [plA]
  rw [e1] at h1
  refine ⟨_, hr, by rw [e1]; exact h1, ?_, ?_⟩
  · have hon : Onl w1.heap.size (w1.alloc (.cells (plA ⟨false, fun _ => 0, false⟩) tPl)) ((w1.alloc (.cells (plA ⟨false, fun _ => 0, false⟩) tPl)).setRow w1.heap.size ((plA ⟨false, fun _ => 0, false⟩).toList.take (0 + 0) ++ plc p ++ (plA ⟨false, fun _ => 0, false⟩).toList.drop (0 + 0 + (plc p).length)).toArray) := ⟨rfl, rfl, rfl, by simp [World.setRow], fun k _ hk => setRow_other _ _ k _ (fun e => hk e)⟩
    exact ((Below.refl _ _).alloc (Nat.le_refl _) _).trans (hon.below (Nat.le_refl _) (by simp))
  · simp [World.setRow]
/-- Ranges of what is claimed. -/
def RgP (p : Pl) : Prop := (∀ j, j < 64 → -20000000000 ≤ p.M j ∧ p.M j ≤ 1000000) ∧ (p.e = false → Sh p.M)

set_option maxRecDepth 100000 in
set_option maxHeartbeats 3200000 in
theorem s_goRound (h : SSt w s g pv P) (hP21 : P.1.length ≤ 21) (hK : PK w s g pv F) (hl : F.length ≤ 20) (hpar : ∀ (k : Nat) (x : Ds), F[k]? = some x → -1 ≤ x.parent ∧ x.parent < (k : Int))
    (hx : ∀ k, k < F.length → DsG (F.getD k (newDs 0 0)) ∧ 0 ≤ (F.getD k (newDs 0 0)).target ∧ (F.getD k (newDs 0 0)).target < 4) (hR : ∀ k, k < P.1.length → RgP ((rndS F P k).1.getD k p0)) :
    Calls Tryd.prog 62 #[.pointer (some ⟨s, 0, none⟩)] w fun x w' => x = .returned (.tuple #[]) ∧ SSt w' s g pv (rndS F P P.1.length) ∧ On2 s g w w' := by
  obtain ⟨z0, hz0⟩ : ∃ z0 : Pl, z0 = ⟨false, fun _ => 0, false⟩ := ⟨_, rfl⟩
  have hz : ∀ w, (zeroValue 123).run Tryd.prog w = .ok (.agg (plA z0)) w := by rw [hz0]; exact pl_zero
  have HFr : Hid (∀ (w1 : World) (p : Pl), ∃ w2, (storeCells ⟨w1.heap.size, 0, none⟩ (plc p)).run Tryd.prog (w1.alloc (.cells (plA z0) 123)) = .ok () w2 ∧ At w2 w1.heap.size (plA p) tPl ∧ Below w1.heap.size w1 w2 ∧ w1.heap.size < w2.heap.size) := by rw [hz0]; exact pl_fresh
  have hz3 : (plA z0).size = 66 := plA_size z0
  have hz4 : ¬ plA z0 = #[] := fun h => by have := congrArg Array.size h; rw [plA_size] at this; simp at this
  clear hz0
  have HFo : Hid (∀ w1 P' k e M, SSt w1 s g pv P' → PK w1 s g pv F → RgP ⟨e, M, false⟩ → Calls Tryd.prog 82 #[.pointer (some ⟨s, 0, none⟩), .int .i64 ((k : Nat) : Int), .agg (oc e M)] w1 fun x w' => x = .returned (.tuple #[]) ∧ SSt w' s g pv (flwS F k e M P') ∧ On2 s g w1 w') := fun w1 P' k e M h1 h2 h3 => s_follow h1 h2 hl hpar k e M (hx k) h3.1 h3.2
  have HR : Hid (∀ k, k < P.1.length → RgP ⟨((rndS F P k).1.getD k p0).e, ((rndS F P k).1.getD k p0).M, false⟩) := fun k hk => hR k hk
  have HLn : Hid (∀ i, (rndS F P i).1.length = P.1.length) := fun i => rndS_len F P i
  have HPn : Hid (∀ i : Nat, rndS F P (i + 1) = if ((rndS F P i).1.getD i p0).wt = true then flwS F i ((rndS F P i).1.getD i p0).e ((rndS F P i).1.getD i p0).M ((rndS F P i).1.set i ⟨((rndS F P i).1.getD i p0).e, ((rndS F P i).1.getD i p0).M, false⟩, (rndS F P i).2) else rndS F P i) := fun i => rfl
  have H0 : Hid (SSt (w.setCell ⟨s, 2, none⟩ (.bool false)) s g pv (rndS F P 0) ∧ PK (w.setCell ⟨s, 2, none⟩ (.bool false)) s g pv F ∧ On2 s g w (w.setCell ⟨s, 2, none⟩ (.bool false))) := by
    have hon := (On2.refl s g w).setCell (q := s) (.inl rfl) 2 (.bool false)
    exact ⟨h.setG false, hK.on hon, hon⟩
  have hsl := h.sa.lt
  have hgl := h.glt
  have hne := h.ne
  have cg : w.cell? ⟨s, 2, none⟩ = some (.bool P.2) := h.sa.cell 2
  have cf := h.sa.free
  have HSz : Hid (∀ w1, On2 s g w w1 → w.heap.size ≤ w1.heap.size) := fun w1 h1 => h1.size
  clear h hK hR hx hpar
  generalize P.1.length = n at *
  generalize rndS F P = rs at *
  go_enter Tryd.func62, Tryd.ntmps62
  go_wp2_with fail
  go_loopw [2] (fun iv wr => ∃ i : Nat, i ≤ n ∧ iv = .int .i64 (i : Int) ∧ Hid (SSt wr s g pv (rs i) ∧ PK wr s g pv F ∧ On2 s g w wr)) (fun iv _ => n - (intOf iv).toNat)
  case atStart => exact ⟨0, by omega, rfl, H0.out⟩
  case round =>
    obtain ⟨i, hi, rfl, HQ⟩ := hrel
    have c1 : wr.cell? ⟨s, 1, none⟩ = some (.slice (some ⟨g, 0, none⟩) n 21) := by
      have := HQ.out.1.sa.cell 1
      rw [this]
      show some (Value.slice (some ⟨g, 0, none⟩) (rs i).1.length 21) = _
      rw [HLn.out i]
    have hsz := HSz.out wr HQ.out.2.2
    by_cases hin : i < n
    · have hii : (i : Int) < (n : Int) := by omega
      have hi0 : (0 : Int) ≤ (i : Int) := Int.natCast_nonneg _
      have hil : i < (rs i).1.length := by rw [HLn.out i]; exact hin
      have HRow : Hid (wr.rangeAt g (i * 66) (plc ((rs i).1.getD i p0))) := HQ.out.1.row hil
      have HPi := HPn.out i
      have HPi : Hid (rs (i + 1) = if ((rs i).1.getD i p0).wt = true then flwS F i ((rs i).1.getD i p0).e ((rs i).1.getD i p0).M ((rs i).1.set i ⟨((rs i).1.getD i p0).e, ((rs i).1.getD i p0).M, false⟩, (rs i).2) else rs i) := HPi
      have HRi : Hid (RgP ⟨((rs i).1.getD i p0).e, ((rs i).1.getD i p0).M, false⟩) := HR.out i hin
      have HSW : Hid (∀ w1, SSt w1 s g pv (rs i) → SSt (w1.setCell ⟨g, i * 66 + 65, none⟩ (.bool false)) s g pv ((rs i).1.set i ⟨((rs i).1.getD i p0).e, ((rs i).1.getD i p0).M, false⟩, (rs i).2)) := fun w1 h1 => h1.setW hil false
      have HCw : Hid (∀ w1, SSt w1 s g pv (rs i) → w1.cell? ⟨s, 1, none⟩ = some (.slice (some ⟨g, 0, none⟩) n 21) ∧ w1.cell? ⟨g, i * 66 + 65, none⟩ = some (.bool ((rs i).1.getD i p0).wt) ∧ w1.frozen? ⟨g, i * 66 + 65, none⟩ = false) := fun w1 h1 => by
        obtain ⟨C, hC, _⟩ := h1.ga
        refine ⟨?_, (h1.pl i 65 hil (by omega)).trans (plc_wt _), hC.free _⟩
        rw [h1.sa.cell 1]
        show some (Value.slice (some ⟨g, 0, none⟩) (rs i).1.length 21) = _
        rw [HLn.out i]
      have hps := pl_size ((rs i).1.getD i p0)
      obtain ⟨w2, hst2, hat2, hb2, hs2⟩ := HFr.out wr ((rs i).1.getD i p0)
      have H2 : Hid (SSt w2 s g pv (rs i) ∧ PK w2 s g pv F ∧ On2 s g w w2 ∧ At w2 wr.heap.size (plA ((rs i).1.getD i p0)) tPl) := ⟨HQ.out.1.keep hb2, HQ.out.2.1.keep hb2, HQ.out.2.2.trans (On2.of hb2 (Nat.le_refl _) s g), hat2⟩
      clear hat2 hb2 hil
      generalize (rs i).1.getD i p0 = p at *
      have cw : w2.cell? ⟨wr.heap.size, 65, none⟩ = some (.bool p.wt) := by
        rw [H2.out.2.2.2.cell]
        show (plc p).toArray[65]? = _
        rw [List.getElem?_toArray]
        exact plc_wt p
      have HOc : Hid (∀ w1, At w1 wr.heap.size (plA p) tPl → w1.rangeAt wr.heap.size 0 (oc p.e p.M).toList) := fun w1 h1 j v hv => by
        have hj : j < 65 := by
          rcases Nat.lt_or_ge j 65 with q | q
          · exact q
          · rw [List.getElem?_eq_none (by simp [oc_size]; omega)] at hv; cases hv
        rw [Nat.zero_add, h1.cell]
        show (plc p).toArray[j]? = _
        rw [List.getElem?_toArray, plc_oc p hj, ← Array.getElem?_toList]
        exact hv
      have hlo : (Tryd.prog.info? 55).map (·.size) = some (oc p.e p.M).toList.length := by
        obtain ⟨i0, hi, hz1⟩ := o_info
        have hi' : Tryd.prog.info? 55 = some i0 := hi
        simp [hi', hz1, oc_size]
      obtain ⟨d1, d2, d3⟩ := HCw.out w2 H2.out.1
      have hg2 : g < w2.heap.size := H2.out.1.glt
      cases hwt : p.wt with
      | false =>
        have HE : Hid (rs (i + 1) = rs i) := HPi.out.trans (if_neg (by rw [hwt]; decide))
        rw [hwt] at cw
        clear hwt
        go_wp2_with (refine wpList_load_mid rfl 123 (.tmp 21) rfl g (i * 66) rfl (plc p) _ HRow.out Tryd.underlying123 rfl hps ?_)
        go_roundw
        case rel => exact ⟨i + 1, by omega, by go_num, by rw [HE.out]; exact H2.out.1, H2.out.2.1, H2.out.2.2.1⟩
        case measure => simp [intOf]; omega
      | true =>
        have HE : Hid (rs (i + 1) = flwS F i p.e p.M ((rs i).1.set i ⟨p.e, p.M, false⟩, (rs i).2)) := HPi.out.trans (if_pos hwt)
        have H3 : Hid (SSt (w2.setCell ⟨g, i * 66 + 65, none⟩ (.bool false)) s g pv ((rs i).1.set i ⟨p.e, p.M, false⟩, (rs i).2) ∧ PK (w2.setCell ⟨g, i * 66 + 65, none⟩ (.bool false)) s g pv F ∧ On2 s g w (w2.setCell ⟨g, i * 66 + 65, none⟩ (.bool false)) ∧ At (w2.setCell ⟨g, i * 66 + 65, none⟩ (.bool false)) wr.heap.size (plA p) tPl) := by
          have hon := (On2.refl s g w2).setCell (q := g) (.inr rfl) (i * 66 + 65) (.bool false)
          exact ⟨HSW.out w2 H2.out.1, H2.out.2.1.on hon, H2.out.2.2.1.trans hon, H2.out.2.2.2.other _ _ (by omega)⟩
        have HO3 : Hid ((w2.setCell ⟨g, i * 66 + 65, none⟩ (.bool false)).rangeAt wr.heap.size 0 (oc p.e p.M).toList) := HOc.out _ H3.out.2.2.2
        rw [hwt] at cw d2
        clear hwt
        go_wp2_with (first | refine wpList_load_mid rfl 123 (.tmp 21) rfl g (i * 66) rfl (plc p) _ HRow.out Tryd.underlying123 rfl hps ?_ | refine wpList_load_mid rfl 55 (.tmp 34) rfl wr.heap.size 0 rfl (oc p.e p.M).toList _ HO3.out Tryd.underlying55 rfl hlo ?_)
        refine (HFo.out _ _ i p.e p.M H3.out.1 H3.out.2.1 HRi.out).mono ?_
        rintro x w4 ⟨rfl, hst4, hon4⟩
        have H4 : Hid (SSt w4 s g pv (rs (i + 1)) ∧ PK w4 s g pv F ∧ On2 s g w w4) := ⟨by rw [HE.out]; exact hst4, H3.out.2.1.on hon4, H3.out.2.2.1.trans hon4⟩
        clear hst4 hon4
        go_wp2_with fail
        go_roundw
        case rel => exact ⟨i + 1, by omega, by go_num, H4.out⟩
        case measure => simp [intOf]; omega
    · have hie : i = n := by omega
      subst hie
      go_wp2_with fail
      go_end0
      exact ⟨rfl, HQ.out.1, HQ.out.2.2⟩

end Go.Proofs.YtffajooegiempabDoor

namespace Go.Proofs.YtffajooegiempabDoor
open Go.RowKit
variable {w : World}

theorem wpList_built {P : Program} {ops : Array Oper} {rest : List Oper} {o : Oper} {a : Act} {Q : Exit → Act → World → Prop} (hg : o.guard = none) (t : TypeId) (parts : Array (Nat × Operand)) (ho : o.op = .build t parts) (cells : Array Value)
    (hc : P.built t (parts.map fun (i, x) => (i, a.eval x)).toList = some cells) (h : wpList P ops Q rest (a.put o.dst (.agg cells)) w) : wpList P ops Q (o :: rest) a w :=
  wpList_build hg t parts ho (by rw [hc]; rfl) (by rw [hc]; exact h)
theorem nc_oct : Tryd.prog.built 55 [(0, .bool true)] = some (oc true fun _ => 0) := by kernel_rfl
theorem nc_pl : Tryd.prog.built 123 [(0, .agg (oc true fun _ => 0))] = some (plA p0) := by kernel_rfl
theorem nc_fill : Instr.fill (fun i => some (i * 66, 66)) ((Array.range (1 * 66)).map ((Value.agg (plA ⟨false, fun _ => 0, false⟩)).cells[· % (Value.agg (plA ⟨false, fun _ => 0, false⟩)).cells.size]!)) [(0, .agg (plA p0))] = some (plA p0) := by kernel_rfl
theorem pl_parts : ∃ i0, Tryd.prog.info? 123 = some i0 ∧ i0.zero = some (.agg (plA ⟨false, fun _ => 0, false⟩)) ∧ i0.size = 66 ∧ i0.bytes = 528 := info_parts (P := Tryd.prog) (e := 123) (z := .agg (plA ⟨false, fun _ => 0, false⟩)) (size := 66) (bytes := 528) (by kernel_rfl)
/-- A slice of one point. -/
theorem wpList_onep {ops : Array Oper} {rest : List Oper} {o : Oper} {a : Act} {Q : Exit → Act → World → Prop} (hg : o.guard = none) (x : Operand) (ho : o.op = .buildSlice 102 1 #[(0, x)]) (hx : a.eval x = .agg (plA p0))
    (h : wpList Tryd.prog ops Q rest (a.put o.dst (.slice (some ⟨w.heap.size, 0, none⟩) 1 1)) (w.alloc (.cells (plA p0) 123))) : wpList Tryd.prog ops Q (o :: rest) a w := by
  obtain ⟨i0, hi, hz0, hz1, hz2⟩ := pl_parts
  refine wpList_buildSlice hg 102 123 1 _ ho (plA p0) i0 _ Tryd.underlying102 hi hz0 (by rw [hz1]; decide) (by rw [hz1]; decide) ?_ h
  rw [hz1]
  have := nc_fill
  simpa [hx] using this
theorem mk_places : ∃ zs : Array Value, zs.size = 21 * 66 ∧ ∀ w, (Instr.makeSlice 102 (.int .i64 0) (.int .i64 21)).run Tryd.prog w = .ok (.slice (some ⟨w.heap.size, 0, none⟩) 0 21) (w.alloc (.cells zs 123)) := by
  obtain ⟨i0, hi, hz0, hz1, hz2⟩ := pl_parts
  refine ⟨madeCells (Value.agg (plA ⟨false, fun _ => 0, false⟩)).cells (21 * 66), by rw [size_madeCells], fun w => ?_⟩
  have := run_make (P := Tryd.prog) w 102 123 i0 _ Tryd.underlying102 hi hz0 .i64 .i64 0 21 (by omega) (by omega) (by rw [hz2]; omega) (by omega)
  rw [this, hz1]
  rfl
def flatZ (n : Nat) : List Value := (List.replicate n (plc p0)).flatten
theorem flatZ_len (n : Nat) : (flatZ n).length = n * 66 := by
  induction n with
  | zero => rfl
  | succ n ih => simp only [flatZ, List.replicate_succ, List.flatten_cons, List.length_append] at ih ⊢; rw [ih, plc_len]; omega
theorem flatZ_succ (n : Nat) : flatZ (n + 1) = flatZ n ++ plc p0 := by
  simp [flatZ, List.replicate_succ']
theorem flatZ_get (n i k : Nat) (hi : i < n) (hk : k < 66) : (flatZ n)[i * 66 + k]? = (plc p0)[k]? := by
  induction n with
  | zero => cases hi
  | succ n ih =>
    rw [flatZ_succ]
    rcases Nat.lt_or_ge i n with q | q
    · rw [List.getElem?_append_left (by rw [flatZ_len]; omega)]
      exact ih q
    · rw [List.getElem?_append_right (by rw [flatZ_len]; omega), flatZ_len]
      congr 1
      omega
/-- The points before the search. -/
def Pls (w : World) (g n : Nat) : Prop := (∃ C, At w g C tPl ∧ n * 66 ≤ C.size) ∧ ∀ i k, i < n → k < 66 → w.cell? ⟨g, i * 66 + k, none⟩ = (plc p0)[k]?
theorem pls_of {base g n : Nat} (hn : 1 ≤ n) (h : w.ownsRow base 123 66 (.slice (some ⟨g, 0, none⟩) n 21) n (flatZ n)) : Pls w g n := by
  refine ⟨?_, fun i k hi hk => ?_⟩
  · rcases h.2 with ⟨e, _⟩ | ⟨g', cap, cur, e, _, hh, hn4, hc4, hsz, htk⟩
    · cases e
    · cases e
      refine ⟨cur, hh, ?_⟩
      have h2 := congrArg List.length htk
      rw [flatZ_len] at h2
      simp at h2
      omega
  · have e := flatZ_get n i k hi hk
    have hs : k < (plc p0).length := by rw [plc_len]; exact hk
    rw [List.getElem?_eq_getElem hs] at e ⊢
    have := h.cells (g := g) rfl (i * 66 + k) _ e
    rw [addr_add] at this
    exact this

set_option maxRecDepth 100000 in
set_option maxHeartbeats 3200000 in
theorem s_noClaims (ao : Option Addr) (n cap : Nat) (hn : n ≤ 20) : Calls Tryd.prog 60 #[.agg #[.slice ao n cap]] w fun x w' => ∃ g, x = .returned (.slice (some ⟨g, 0, none⟩) (n + 1) 21) ∧ w.heap.size ≤ g ∧ Pls w' g (n + 1) ∧ Below w.heap.size w w' := by
  obtain ⟨A1, hA1⟩ : ∃ A1, A1 = oc true fun _ => 0 := ⟨_, rfl⟩
  obtain ⟨A2, hA2⟩ : ∃ A2, A2 = plA p0 := ⟨_, rfl⟩
  obtain ⟨c2, hc2⟩ : ∃ c2, c2 = plc p0 := ⟨_, rfl⟩
  have HB1 : Hid (Tryd.prog.built 55 [(0, .bool true)] = some A1) := by rw [hA1]; exact nc_oct
  have HB2 : Hid (Tryd.prog.built 123 [(0, .agg A1)] = some A2) := by rw [hA1, hA2]; exact nc_pl
  have z1 : Tryd.zeroCells55.setIfInBounds 0 (.bool true) = A1 := by rw [hA1]; kernel_rfl
  have z2 : Array.foldl (fun cs (x : Value × Nat) => cs.setIfInBounds x.snd x.fst) Tryd.zeroCells123 A1.zipIdx 0 65 = A2 := by rw [hA1, hA2]; kernel_rfl
  have z3 : A1.size = 65 := by rw [hA1]; exact oc_size _ _
  have z4 : A2.size = 66 := by rw [hA2]; exact plA_size _
  have HOne : Hid (∀ {w : World} {ops : Array Oper} {rest : List Oper} {o : Oper} {a : Act} {Q : Exit → Act → World → Prop} (_ : o.guard = none) (x : Operand) (_ : o.op = .buildSlice 102 1 #[(0, x)]) (_ : a.eval x = .agg A2)
    (_ : wpList Tryd.prog ops Q rest (a.put o.dst (.slice (some ⟨w.heap.size, 0, none⟩) 1 1)) (w.alloc (.cells A2 123))), wpList Tryd.prog ops Q (o :: rest) a w) := by rw [hA2]; exact fun hg x ho hx h => wpList_onep hg x ho hx h
  have HA2 : Hid (A2.toList = c2 ∧ c2.length = 66 ∧ ∀ u ∈ c2, u.oneCell' = true) := ⟨by rw [hA2, hc2]; simp [plA], by rw [hc2]; exact plc_len _, by rw [hc2]; exact plc_one p0⟩
  have HZ : Hid (∀ i, flatZ (i + 1) = flatZ i ++ c2) := by rw [hc2]; exact flatZ_succ
  clear hA1 hA2 hc2
  obtain ⟨i0, hi, hz0, hz1, hz2⟩ := pl_parts
  clear hz0 hz2
  obtain ⟨zs, hzs, hmk⟩ := mk_places
  have HEnd : Hid (∀ w1, Calls Tryd.prog 56 #[.agg #[.slice ao n cap]] w1 fun e w' => e = .returned (.int .i64 (n : Int)) ∧ Below w1.heap.size w1 w') := fun w1 => (d_end ao n cap w1 hn).mono fun e w' ⟨h1, o, h2⟩ => ⟨h1, by rw [h2]; exact (Below.refl _ _).alloc (Nat.le_refl _) _⟩
  obtain ⟨pv, hpv⟩ : ∃ pv, pv = Value.slice ao n cap := ⟨_, rfl⟩
  rw [← hpv] at HEnd ⊢
  clear hpv
  have H0 : Hid (At (w.alloc (.cells #[pv] tPr)) w.heap.size #[pv] tPr ∧ Below w.heap.size w (w.alloc (.cells #[pv] tPr))) := ⟨At.new _ _ _, (Below.refl _ _).alloc (Nat.le_refl _) _⟩
  have HR0 : Hid (((w.alloc (.cells #[pv] tPr)).alloc (.cells zs 123)).ownsRow (w.heap.size + 1) 123 66 (.slice (some ⟨w.heap.size + 1, 0, none⟩) 0 21) 0 []) := by
    have := World.ownsRow_made (e := 123) (w.alloc (.cells #[pv] tPr)) zs 21 (Nat.le_refl _) (by decide) hzs
    show World.ownsRow _ _ _ _ _ _ _
    simpa using this
  have H1 : Hid (At ((w.alloc (.cells #[pv] tPr)).alloc (.cells zs 123)) w.heap.size #[pv] tPr ∧ Below w.heap.size w ((w.alloc (.cells #[pv] tPr)).alloc (.cells zs 123))) := ⟨At.allocH H0.out.1 _, H0.out.2.alloc (by simp) _⟩
  clear hzs
  go_enter Tryd.func60, Tryd.ntmps60
  go_wp2_with fail
  go_loopw [3, 4] (fun cv iv wr => ∃ i : Nat, i ≤ n + 1 ∧ iv = .int .i64 (i : Int) ∧ cv = .slice (some ⟨w.heap.size + 1, 0, none⟩) i 21 ∧ Hid (wr.ownsRow (w.heap.size + 1) 123 66 (.slice (some ⟨w.heap.size + 1, 0, none⟩) i 21) i (flatZ i) ∧ At wr w.heap.size #[pv] tPr ∧ Below w.heap.size w wr)) (fun _ iv _ => n + 1 - (intOf iv).toNat)
  case atStart => exact ⟨0, by omega, rfl, rfl, HR0.out, H1.out⟩
  case round =>
    obtain ⟨i, hile, rfl, rfl, HR⟩ := hrel
    have c0 : wr.cell? ⟨w.heap.size, 0, none⟩ = some pv := HR.out.2.1.cell 0
    go_wp2_with fail
    refine (HEnd.out wr).mono ?_
    rintro x w2 ⟨rfl, hb2⟩
    have H2 : Hid (w2.ownsRow (w.heap.size + 1) 123 66 (.slice (some ⟨w.heap.size + 1, 0, none⟩) i 21) i (flatZ i) ∧ At w2 w.heap.size #[pv] tPr ∧ Below w.heap.size w w2) := ⟨ownsRow_below HR.out.1 (fun k hk => hb2.block k (HR.out.1.lt k hk).2), HR.out.2.1.keep hb2 HR.out.2.1.lt, HR.out.2.2.trans (hb2.mono HR.out.2.2.size)⟩
    clear hb2 c0
    have hs2 : w.heap.size + 1 < w2.heap.size := (H2.out.1.lt (w.heap.size + 1) rfl).2
    by_cases hin : i ≤ n
    · have hii : (i : Int) ≤ (n : Int) := by omega
      go_wp2_with (first | refine wpList_built rfl 55 _ rfl A1 HB1.out ?_ | refine wpList_built rfl 123 _ rfl A2 HB2.out ?_ | refine HOne.out rfl (.tmp 14) rfl rfl ?_ | (at_builtin; refine wpList_append_fits _ rfl (.tmp 12) (.tmp 15) 102 rfl (w.heap.size + 1) 123 i0 66 Tryd.underlying102 hi hz1 (w.heap.size + 1) i 21 _ rfl (H2.out.1.alloc _) ⟨w2.heap.size, 0, none⟩ 1 1 c2 rfl (by rw [HA2.out.2.1]) (by intro t u ht; rw [addr_add]; exact (World.cell?_alloc_at _ _ _ _ rfl).trans (by rw [← Array.getElem?_toList, HA2.out.1]; exact ht)) HA2.out.2.2 (by omega) ?_; intro w5 hown5 hgrow5))
      go_roundw
      case rel =>
        refine ⟨i + 1, by omega, by go_num, rfl, by rw [HZ.out]; exact hown5, ?_, (H2.out.2.2.alloc H2.out.2.2.size _).grown hgrow5 (by simp; omega) (fun k hk => by cases hk; omega)⟩
        have hb5 := ((Below.refl (w.heap.size + 1) w2).alloc (by omega) (.cells A2 123)).grown hgrow5 (by simp; omega) (fun k hk => by cases hk; exact Nat.le_refl _)
        exact H2.out.2.1.keep hb5 (by omega)
      case measure => simp [intOf]; omega
    · have hie : i = n + 1 := by omega
      subst hie
      have hii : ¬ ((n + 1 : Nat) : Int) ≤ (n : Int) := by omega
      go_wp2_with fail
      go_ret
      exact ⟨_, rfl, by omega, pls_of (by omega) H2.out.1, H2.out.2.2⟩

end Go.Proofs.YtffajooegiempabDoor

