import Derived.Test.YtffajooegiempaaGreatDoorJ35
import Derived.Great.BuildSlice
namespace Go.Proofs.YtffajooegiempaaGreatDoor
open Go.RowKit
variable {s g : Nat} {w w' : World} {pv : Value} {P : SS} {F : List Ds}

def plA (p : Pl) : Array Value := (plc p).toArray
theorem plA_size (p : Pl) : (plA p).size = 66 := by simp [plA, plc_len]
theorem plc_one (p : Pl) : ∀ v, v ∈ plc p → v.oneCell' = true := by
  intro v hv
  unfold plc at hv
  rcases List.mem_append.1 hv with q | q
  · exact oc_one p.e p.M v q
  · rw [List.mem_singleton.1 q]; rfl
theorem pl_zero (w : World) : (zeroValue 128).run Tryz.prog w = .ok (.agg (plA ⟨false, fun _ => 0, false⟩)) w := by kernel_rfl
theorem pl_info : ∃ i0, Tryz.prog.info? 128 = some i0 ∧ i0.size = 66 := by
  obtain ⟨i0, hi, hz0, hz1, hz2⟩ := info_parts (P := Tryz.prog) (e := 128) (z := .agg (plA ⟨false, fun _ => 0, false⟩)) (size := 66) (bytes := 528) (by kernel_rfl)
  exact ⟨i0, hi, hz1⟩
theorem pl_size (p : Pl) : (Tryz.prog.info? 128).map (·.size) = some (plc p).length := by
  obtain ⟨i0, hi, hz1⟩ := pl_info
  simp [hi, hz1, plc_len]
theorem pl_fresh (w1 : World) (p : Pl) : ∃ w2, (storeCells ⟨w1.heap.size, 0, none⟩ (plc p)).run Tryz.prog (w1.alloc (.cells (plA ⟨false, fun _ => 0, false⟩) tPl)) = .ok () w2 ∧ At w2 w1.heap.size (plA p) tPl ∧ Below w1.heap.size w1 w2 ∧ w1.heap.size < w2.heap.size := by
  have h0 : At (w1.alloc (.cells (plA ⟨false, fun _ => 0, false⟩) tPl)) w1.heap.size (plA ⟨false, fun _ => 0, false⟩) tPl := At.new _ _ _
  have hr := run_storeCells_at Tryz.prog w1.heap.size 0 tPl (plc p) 0 (plA ⟨false, fun _ => 0, false⟩) _ h0 (by rw [plc_len, plA_size]; omega) (plc_one p)
  have h1 := setRow_heap _ w1.heap.size (plA ⟨false, fun _ => 0, false⟩) ((plA ⟨false, fun _ => 0, false⟩).toList.take (0 + 0) ++ plc p ++ (plA ⟨false, fun _ => 0, false⟩).toList.drop (0 + 0 + (plc p).length)).toArray tPl (0, 0) h0
  have e1 : ((plA ⟨false, fun _ => 0, false⟩).toList.take (0 + 0) ++ plc p ++ (plA ⟨false, fun _ => 0, false⟩).toList.drop (0 + 0 + (plc p).length)).toArray = plA p := by
    rw [List.drop_of_length_le (by rw [plc_len]; simp [plA_size])]
    simp [plA]
  rw [e1] at h1
  refine ⟨_, hr, by rw [e1]; exact h1, ?_, ?_⟩
  · have hon : Onl w1.heap.size (w1.alloc (.cells (plA ⟨false, fun _ => 0, false⟩) tPl)) ((w1.alloc (.cells (plA ⟨false, fun _ => 0, false⟩) tPl)).setRow w1.heap.size ((plA ⟨false, fun _ => 0, false⟩).toList.take (0 + 0) ++ plc p ++ (plA ⟨false, fun _ => 0, false⟩).toList.drop (0 + 0 + (plc p).length)).toArray) := ⟨rfl, rfl, rfl, by simp [World.setRow], fun k _ hk => setRow_other _ _ k _ (fun e => hk e)⟩
    exact ((Below.refl _ _).alloc (Nat.le_refl _) _).trans (hon.below (Nat.le_refl _) (by simp))
  · simp [World.setRow]
/-- Ranges of what is claimed. -/
def RgP (p : Pl) : Prop := (∀ j, j < 64 → -20000000000 ≤ p.M j ∧ p.M j ≤ 1000000) ∧ (p.e = false → Sh p.M)

set_option maxRecDepth 100000 in
set_option maxHeartbeats 3200000 in
theorem s_goRound (h : SSt w s g pv P) (hP21 : P.1.length ≤ 21) (hK : PK w s g pv F) (hl : F.length ≤ 20) (hpar : ∀ (k : Nat) (x : Ds), F[k]? = some x → -1 ≤ x.parent ∧ x.parent < (k : Int))
    (hx : ∀ k, k < F.length → DsG (F.getD k (newDs 0 0)) ∧ 0 ≤ (F.getD k (newDs 0 0)).target ∧ (F.getD k (newDs 0 0)).target < 4) (hR : ∀ k, k < P.1.length → RgP ((rndS F P k).1.getD k p0)) :
    Calls Tryz.prog 54 #[.pointer (some ⟨s, 0, none⟩)] w fun x w' => x = .returned (.tuple #[]) ∧ SSt w' s g pv (rndS F P P.1.length) ∧ On2 s g w w' := by
  obtain ⟨z0, hz0⟩ : ∃ z0 : Pl, z0 = ⟨false, fun _ => 0, false⟩ := ⟨_, rfl⟩
  have hz : ∀ w, (zeroValue 128).run Tryz.prog w = .ok (.agg (plA z0)) w := by rw [hz0]; exact pl_zero
  have HFr : Hid (∀ (w1 : World) (p : Pl), ∃ w2, (storeCells ⟨w1.heap.size, 0, none⟩ (plc p)).run Tryz.prog (w1.alloc (.cells (plA z0) 128)) = .ok () w2 ∧ At w2 w1.heap.size (plA p) tPl ∧ Below w1.heap.size w1 w2 ∧ w1.heap.size < w2.heap.size) := by rw [hz0]; exact pl_fresh
  have hz3 : (plA z0).size = 66 := plA_size z0
  have hz4 : ¬ plA z0 = #[] := fun h => by have := congrArg Array.size h; rw [plA_size] at this; simp at this
  clear hz0
  have HFo : Hid (∀ w1 P' k e M, SSt w1 s g pv P' → PK w1 s g pv F → RgP ⟨e, M, false⟩ → Calls Tryz.prog 86 #[.pointer (some ⟨s, 0, none⟩), .int .i64 ((k : Nat) : Int), .agg (oc e M)] w1 fun x w' => x = .returned (.tuple #[]) ∧ SSt w' s g pv (flwS F k e M P') ∧ On2 s g w1 w') := fun w1 P' k e M h1 h2 h3 => s_follow h1 h2 hl hpar k e M (hx k) h3.1 h3.2
  have HR : Hid (∀ k, k < P.1.length → RgP ⟨((rndS F P k).1.getD k p0).e, ((rndS F P k).1.getD k p0).M, false⟩) := fun k hk => hR k hk
  have HLn : Hid (∀ i, (rndS F P i).1.length = P.1.length) := fun i => rndS_len F P i
  have HPn : Hid (∀ i : Nat, rndS F P (i + 1) = if ((rndS F P i).1.getD i p0).wt = true then flwS F i ((rndS F P i).1.getD i p0).e ((rndS F P i).1.getD i p0).M ((rndS F P i).1.set i ⟨((rndS F P i).1.getD i p0).e, ((rndS F P i).1.getD i p0).M, false⟩, (rndS F P i).2) else rndS F P i) := fun i => rfl
  have H0 : Hid (SSt (w.setCell ⟨s, 2, none⟩ (.bool false)) s g pv (rndS F P 0) ∧ PK (w.setCell ⟨s, 2, none⟩ (.bool false)) s g pv F ∧ On2 s g w (w.setCell ⟨s, 2, none⟩ (.bool false))) := by
    have hon := (On2.refl s g w).setCell (q := s) (.inl rfl) 2 (.bool false)
    exact ⟨h.setG false, hK.on hon, hon⟩
  have hsl := h.sa.lt
  have hgl := h.glt
  have hne := h.ne
  have cg : w.cell? ⟨s, 2, none⟩ = some (.bool P.2) := h.sa.cell 2
  have cf := h.sa.free
  have HSz : Hid (∀ w1, On2 s g w w1 → w.heap.size ≤ w1.heap.size) := fun w1 h1 => h1.size
  clear h hK hR hx hpar
  generalize P.1.length = n at *
  generalize rndS F P = rs at *
  go_enter Tryz.func54, Tryz.ntmps54
  go_wp2_with fail
  go_loopw [2] (fun iv wr => ∃ i : Nat, i ≤ n ∧ iv = .int .i64 (i : Int) ∧ Hid (SSt wr s g pv (rs i) ∧ PK wr s g pv F ∧ On2 s g w wr)) (fun iv _ => n - (intOf iv).toNat)
  case atStart => exact ⟨0, by omega, rfl, H0.out⟩
  case round =>
    obtain ⟨i, hi, rfl, HQ⟩ := hrel
    have c1 : wr.cell? ⟨s, 1, none⟩ = some (.slice (some ⟨g, 0, none⟩) n 21) := by
      have := HQ.out.1.sa.cell 1
      rw [this]
      show some (Value.slice (some ⟨g, 0, none⟩) (rs i).1.length 21) = _
      rw [HLn.out i]
    have hsz := HSz.out wr HQ.out.2.2
    by_cases hin : i < n
    · have hii : (i : Int) < (n : Int) := by omega
      have hi0 : (0 : Int) ≤ (i : Int) := Int.natCast_nonneg _
      have hil : i < (rs i).1.length := by rw [HLn.out i]; exact hin
      have HRow : Hid (wr.rangeAt g (i * 66) (plc ((rs i).1.getD i p0))) := HQ.out.1.row hil
      have HPi := HPn.out i
      have HPi : Hid (rs (i + 1) = if ((rs i).1.getD i p0).wt = true then flwS F i ((rs i).1.getD i p0).e ((rs i).1.getD i p0).M ((rs i).1.set i ⟨((rs i).1.getD i p0).e, ((rs i).1.getD i p0).M, false⟩, (rs i).2) else rs i) := HPi
      have HRi : Hid (RgP ⟨((rs i).1.getD i p0).e, ((rs i).1.getD i p0).M, false⟩) := HR.out i hin
      have HSW : Hid (∀ w1, SSt w1 s g pv (rs i) → SSt (w1.setCell ⟨g, i * 66 + 65, none⟩ (.bool false)) s g pv ((rs i).1.set i ⟨((rs i).1.getD i p0).e, ((rs i).1.getD i p0).M, false⟩, (rs i).2)) := fun w1 h1 => h1.setW hil false
      have HCw : Hid (∀ w1, SSt w1 s g pv (rs i) → w1.cell? ⟨s, 1, none⟩ = some (.slice (some ⟨g, 0, none⟩) n 21) ∧ w1.cell? ⟨g, i * 66 + 65, none⟩ = some (.bool ((rs i).1.getD i p0).wt) ∧ w1.frozen? ⟨g, i * 66 + 65, none⟩ = false) := fun w1 h1 => by
        obtain ⟨C, hC, _⟩ := h1.ga
        refine ⟨?_, (h1.pl i 65 hil (by omega)).trans (plc_wt _), hC.free _⟩
        rw [h1.sa.cell 1]
        show some (Value.slice (some ⟨g, 0, none⟩) (rs i).1.length 21) = _
        rw [HLn.out i]
      have hps := pl_size ((rs i).1.getD i p0)
      obtain ⟨w2, hst2, hat2, hb2, hs2⟩ := HFr.out wr ((rs i).1.getD i p0)
      have H2 : Hid (SSt w2 s g pv (rs i) ∧ PK w2 s g pv F ∧ On2 s g w w2 ∧ At w2 wr.heap.size (plA ((rs i).1.getD i p0)) tPl) := ⟨HQ.out.1.keep hb2, HQ.out.2.1.keep hb2, HQ.out.2.2.trans (On2.of hb2 (Nat.le_refl _) s g), hat2⟩
      clear hat2 hb2 hil
      generalize (rs i).1.getD i p0 = p at *
      have cw : w2.cell? ⟨wr.heap.size, 65, none⟩ = some (.bool p.wt) := by
        rw [H2.out.2.2.2.cell]
        show (plc p).toArray[65]? = _
        rw [List.getElem?_toArray]
        exact plc_wt p
      have HOc : Hid (∀ w1, At w1 wr.heap.size (plA p) tPl → w1.rangeAt wr.heap.size 0 (oc p.e p.M).toList) := fun w1 h1 j v hv => by
        have hj : j < 65 := by
          rcases Nat.lt_or_ge j 65 with q | q
          · exact q
          · rw [List.getElem?_eq_none (by simp [oc_size]; omega)] at hv; cases hv
        rw [Nat.zero_add, h1.cell]
        show (plc p).toArray[j]? = _
        rw [List.getElem?_toArray, plc_oc p hj, ← Array.getElem?_toList]
        exact hv
      have hlo : (Tryz.prog.info? 90).map (·.size) = some (oc p.e p.M).toList.length := by
        obtain ⟨i0, hi, hz1⟩ := o_info
        have hi' : Tryz.prog.info? 90 = some i0 := hi
        simp [hi', hz1, oc_size]
      obtain ⟨d1, d2, d3⟩ := HCw.out w2 H2.out.1
      have hg2 : g < w2.heap.size := H2.out.1.glt
      cases hwt : p.wt with
      | false =>
        have HE : Hid (rs (i + 1) = rs i) := HPi.out.trans (if_neg (by rw [hwt]; decide))
        rw [hwt] at cw
        clear hwt
        go_wp2_with (refine wpList_load_mid rfl 128 (.tmp 21) rfl g (i * 66) rfl (plc p) _ HRow.out Tryz.underlying128 rfl hps ?_)
        go_roundw
        case rel => exact ⟨i + 1, by omega, by go_num, by rw [HE.out]; exact H2.out.1, H2.out.2.1, H2.out.2.2.1⟩
        case measure => simp [intOf]; omega
      | true =>
        have HE : Hid (rs (i + 1) = flwS F i p.e p.M ((rs i).1.set i ⟨p.e, p.M, false⟩, (rs i).2)) := HPi.out.trans (if_pos hwt)
        have H3 : Hid (SSt (w2.setCell ⟨g, i * 66 + 65, none⟩ (.bool false)) s g pv ((rs i).1.set i ⟨p.e, p.M, false⟩, (rs i).2) ∧ PK (w2.setCell ⟨g, i * 66 + 65, none⟩ (.bool false)) s g pv F ∧ On2 s g w (w2.setCell ⟨g, i * 66 + 65, none⟩ (.bool false)) ∧ At (w2.setCell ⟨g, i * 66 + 65, none⟩ (.bool false)) wr.heap.size (plA p) tPl) := by
          have hon := (On2.refl s g w2).setCell (q := g) (.inr rfl) (i * 66 + 65) (.bool false)
          exact ⟨HSW.out w2 H2.out.1, H2.out.2.1.on hon, H2.out.2.2.1.trans hon, H2.out.2.2.2.other _ _ (by omega)⟩
        have HO3 : Hid ((w2.setCell ⟨g, i * 66 + 65, none⟩ (.bool false)).rangeAt wr.heap.size 0 (oc p.e p.M).toList) := HOc.out _ H3.out.2.2.2
        rw [hwt] at cw d2
        clear hwt
        go_wp2_with (first | refine wpList_load_mid rfl 128 (.tmp 21) rfl g (i * 66) rfl (plc p) _ HRow.out Tryz.underlying128 rfl hps ?_ | refine wpList_load_mid rfl 90 (.tmp 34) rfl wr.heap.size 0 rfl (oc p.e p.M).toList _ HO3.out Tryz.underlying90 rfl hlo ?_)
        refine (HFo.out _ _ i p.e p.M H3.out.1 H3.out.2.1 HRi.out).mono ?_
        rintro x w4 ⟨rfl, hst4, hon4⟩
        have H4 : Hid (SSt w4 s g pv (rs (i + 1)) ∧ PK w4 s g pv F ∧ On2 s g w w4) := ⟨by rw [HE.out]; exact hst4, H3.out.2.1.on hon4, H3.out.2.2.1.trans hon4⟩
        clear hst4 hon4
        go_wp2_with fail
        go_roundw
        case rel => exact ⟨i + 1, by omega, by go_num, H4.out⟩
        case measure => simp [intOf]; omega
    · have hie : i = n := by omega
      subst hie
      go_wp2_with fail
      go_end0
      exact ⟨rfl, HQ.out.1, HQ.out.2.2⟩

end Go.Proofs.YtffajooegiempaaGreatDoor

namespace Go.Proofs.YtffajooegiempaaGreatDoor
open Go.RowKit
variable {w : World}

theorem wpList_built {P : Program} {ops : Array Oper} {rest : List Oper} {o : Oper} {a : Act} {Q : Exit → Act → World → Prop} (hg : o.guard = none) (t : TypeId) (parts : Array (Nat × Operand)) (ho : o.op = .build t parts) (cells : Array Value)
    (hc : P.built t (parts.map fun (i, x) => (i, a.eval x)).toList = some cells) (h : wpList P ops Q rest (a.put o.dst (.agg cells)) w) : wpList P ops Q (o :: rest) a w :=
  wpList_build hg t parts ho (by rw [hc]; rfl) (by rw [hc]; exact h)
theorem nc_oct : Tryz.prog.built 90 [(0, .bool true)] = some (oc true fun _ => 0) := by kernel_rfl
theorem nc_pl : Tryz.prog.built 128 [(0, .agg (oc true fun _ => 0))] = some (plA p0) := by kernel_rfl
theorem nc_fill : Instr.fill (fun i => some (i * 66, 66)) ((Array.range (1 * 66)).map ((Value.agg (plA ⟨false, fun _ => 0, false⟩)).cells[· % (Value.agg (plA ⟨false, fun _ => 0, false⟩)).cells.size]!)) [(0, .agg (plA p0))] = some (plA p0) := by kernel_rfl
theorem pl_parts : ∃ i0, Tryz.prog.info? 128 = some i0 ∧ i0.zero = some (.agg (plA ⟨false, fun _ => 0, false⟩)) ∧ i0.size = 66 ∧ i0.bytes = 528 := info_parts (P := Tryz.prog) (e := 128) (z := .agg (plA ⟨false, fun _ => 0, false⟩)) (size := 66) (bytes := 528) (by kernel_rfl)
/-- A slice of one point. -/
theorem wpList_onep {ops : Array Oper} {rest : List Oper} {o : Oper} {a : Act} {Q : Exit → Act → World → Prop} (hg : o.guard = none) (x : Operand) (ho : o.op = .buildSlice 83 1 #[(0, x)]) (hx : a.eval x = .agg (plA p0))
    (h : wpList Tryz.prog ops Q rest (a.put o.dst (.slice (some ⟨w.heap.size, 0, none⟩) 1 1)) (w.alloc (.cells (plA p0) 128))) : wpList Tryz.prog ops Q (o :: rest) a w := by
  obtain ⟨i0, hi, hz0, hz1, hz2⟩ := pl_parts
  refine wpList_buildSlice hg 83 128 1 _ ho (plA p0) i0 _ Tryz.underlying83 hi hz0 (by rw [hz1]; decide) (by rw [hz1]; decide) ?_ h
  rw [hz1]
  have := nc_fill
  simpa [hx] using this
theorem mk_places : ∃ zs : Array Value, zs.size = 21 * 66 ∧ ∀ w, (Instr.makeSlice 83 (.int .i64 0) (.int .i64 21)).run Tryz.prog w = .ok (.slice (some ⟨w.heap.size, 0, none⟩) 0 21) (w.alloc (.cells zs 128)) := by
  obtain ⟨i0, hi, hz0, hz1, hz2⟩ := pl_parts
  refine ⟨madeCells (Value.agg (plA ⟨false, fun _ => 0, false⟩)).cells (21 * 66), by rw [size_madeCells], fun w => ?_⟩
  have := run_make (P := Tryz.prog) w 83 128 i0 _ Tryz.underlying83 hi hz0 .i64 .i64 0 21 (by omega) (by omega) (by rw [hz2]; omega) (by omega)
  rw [this, hz1]
  rfl
def flatZ (n : Nat) : List Value := (List.replicate n (plc p0)).flatten
theorem flatZ_len (n : Nat) : (flatZ n).length = n * 66 := by
  induction n with
  | zero => rfl
  | succ n ih => simp only [flatZ, List.replicate_succ, List.flatten_cons, List.length_append] at ih ⊢; rw [ih, plc_len]; omega
theorem flatZ_succ (n : Nat) : flatZ (n + 1) = flatZ n ++ plc p0 := by
  simp [flatZ, List.replicate_succ']
theorem flatZ_get (n i k : Nat) (hi : i < n) (hk : k < 66) : (flatZ n)[i * 66 + k]? = (plc p0)[k]? := by
  induction n with
  | zero => cases hi
  | succ n ih =>
    rw [flatZ_succ]
    rcases Nat.lt_or_ge i n with q | q
    · rw [List.getElem?_append_left (by rw [flatZ_len]; omega)]
      exact ih q
    · rw [List.getElem?_append_right (by rw [flatZ_len]; omega), flatZ_len]
      congr 1
      omega
/-- The points before the search. -/
def Pls (w : World) (g n : Nat) : Prop := (∃ C, At w g C tPl ∧ n * 66 ≤ C.size) ∧ ∀ i k, i < n → k < 66 → w.cell? ⟨g, i * 66 + k, none⟩ = (plc p0)[k]?
theorem pls_of {base g n : Nat} (hn : 1 ≤ n) (h : w.ownsRow base 128 66 (.slice (some ⟨g, 0, none⟩) n 21) n (flatZ n)) : Pls w g n := by
  refine ⟨?_, fun i k hi hk => ?_⟩
  · rcases h.2 with ⟨e, _⟩ | ⟨g', cap, cur, e, _, hh, hn4, hc4, hsz, htk⟩
    · cases e
    · cases e
      refine ⟨cur, hh, ?_⟩
      have h2 := congrArg List.length htk
      rw [flatZ_len] at h2
      simp at h2
      omega
  · have e := flatZ_get n i k hi hk
    have hs : k < (plc p0).length := by rw [plc_len]; exact hk
    rw [List.getElem?_eq_getElem hs] at e ⊢
    have := h.cells (g := g) rfl (i * 66 + k) _ e
    rw [addr_add] at this
    exact this

set_option maxRecDepth 100000 in
set_option maxHeartbeats 3200000 in
theorem s_noClaims (ao : Option Addr) (n cap : Nat) (hn : n ≤ 20) : Calls Tryz.prog 51 #[.agg #[.slice ao n cap]] w fun x w' => ∃ g, x = .returned (.slice (some ⟨g, 0, none⟩) (n + 1) 21) ∧ w.heap.size ≤ g ∧ Pls w' g (n + 1) ∧ Below w.heap.size w w' := by
  obtain ⟨A1, hA1⟩ : ∃ A1, A1 = oc true fun _ => 0 := ⟨_, rfl⟩
  obtain ⟨A2, hA2⟩ : ∃ A2, A2 = plA p0 := ⟨_, rfl⟩
  obtain ⟨c2, hc2⟩ : ∃ c2, c2 = plc p0 := ⟨_, rfl⟩
  have HB1 : Hid (Tryz.prog.built 90 [(0, .bool true)] = some A1) := by rw [hA1]; exact nc_oct
  have HB2 : Hid (Tryz.prog.built 128 [(0, .agg A1)] = some A2) := by rw [hA1, hA2]; exact nc_pl
  have z1 : Tryz.zeroCells90.setIfInBounds 0 (.bool true) = A1 := by rw [hA1]; kernel_rfl
  have z2 : Array.foldl (fun cs (x : Value × Nat) => cs.setIfInBounds x.snd x.fst) Tryz.zeroCells128 A1.zipIdx 0 65 = A2 := by rw [hA1, hA2]; kernel_rfl
  have z3 : A1.size = 65 := by rw [hA1]; exact oc_size _ _
  have z4 : A2.size = 66 := by rw [hA2]; exact plA_size _
  have HOne : Hid (∀ {w : World} {ops : Array Oper} {rest : List Oper} {o : Oper} {a : Act} {Q : Exit → Act → World → Prop} (_ : o.guard = none) (x : Operand) (_ : o.op = .buildSlice 83 1 #[(0, x)]) (_ : a.eval x = .agg A2)
    (_ : wpList Tryz.prog ops Q rest (a.put o.dst (.slice (some ⟨w.heap.size, 0, none⟩) 1 1)) (w.alloc (.cells A2 128))), wpList Tryz.prog ops Q (o :: rest) a w) := by rw [hA2]; exact fun hg x ho hx h => wpList_onep hg x ho hx h
  have HA2 : Hid (A2.toList = c2 ∧ c2.length = 66 ∧ ∀ u ∈ c2, u.oneCell' = true) := ⟨by rw [hA2, hc2]; simp [plA], by rw [hc2]; exact plc_len _, by rw [hc2]; exact plc_one p0⟩
  have HZ : Hid (∀ i, flatZ (i + 1) = flatZ i ++ c2) := by rw [hc2]; exact flatZ_succ
  clear hA1 hA2 hc2
  obtain ⟨i0, hi, hz0, hz1, hz2⟩ := pl_parts
  clear hz0 hz2
  obtain ⟨zs, hzs, hmk⟩ := mk_places
  have HEnd : Hid (∀ w1, Calls Tryz.prog 67 #[.agg #[.slice ao n cap]] w1 fun e w' => e = .returned (.int .i64 (n : Int)) ∧ Below w1.heap.size w1 w') := fun w1 => (d_end ao n cap w1 hn).mono fun e w' ⟨h1, o, h2⟩ => ⟨h1, by rw [h2]; exact (Below.refl _ _).alloc (Nat.le_refl _) _⟩
  obtain ⟨pv, hpv⟩ : ∃ pv, pv = Value.slice ao n cap := ⟨_, rfl⟩
  rw [← hpv] at HEnd ⊢
  clear hpv
  have H0 : Hid (At (w.alloc (.cells #[pv] tPr)) w.heap.size #[pv] tPr ∧ Below w.heap.size w (w.alloc (.cells #[pv] tPr))) := ⟨At.new _ _ _, (Below.refl _ _).alloc (Nat.le_refl _) _⟩
  have HR0 : Hid (((w.alloc (.cells #[pv] tPr)).alloc (.cells zs 128)).ownsRow (w.heap.size + 1) 128 66 (.slice (some ⟨w.heap.size + 1, 0, none⟩) 0 21) 0 []) := by
    have := World.ownsRow_made (e := 128) (w.alloc (.cells #[pv] tPr)) zs 21 (Nat.le_refl _) (by decide) hzs
    show World.ownsRow _ _ _ _ _ _ _
    simpa using this
  have H1 : Hid (At ((w.alloc (.cells #[pv] tPr)).alloc (.cells zs 128)) w.heap.size #[pv] tPr ∧ Below w.heap.size w ((w.alloc (.cells #[pv] tPr)).alloc (.cells zs 128))) := ⟨At.allocH H0.out.1 _, H0.out.2.alloc (by simp) _⟩
  clear hzs
  go_enter Tryz.func51, Tryz.ntmps51
  go_wp2_with fail
  go_loopw [3, 4] (fun cv iv wr => ∃ i : Nat, i ≤ n + 1 ∧ iv = .int .i64 (i : Int) ∧ cv = .slice (some ⟨w.heap.size + 1, 0, none⟩) i 21 ∧ Hid (wr.ownsRow (w.heap.size + 1) 128 66 (.slice (some ⟨w.heap.size + 1, 0, none⟩) i 21) i (flatZ i) ∧ At wr w.heap.size #[pv] tPr ∧ Below w.heap.size w wr)) (fun _ iv _ => n + 1 - (intOf iv).toNat)
  case atStart => exact ⟨0, by omega, rfl, rfl, HR0.out, H1.out⟩
  case round =>
    obtain ⟨i, hile, rfl, rfl, HR⟩ := hrel
    have c0 : wr.cell? ⟨w.heap.size, 0, none⟩ = some pv := HR.out.2.1.cell 0
    go_wp2_with fail
    refine (HEnd.out wr).mono ?_
    rintro x w2 ⟨rfl, hb2⟩
    have H2 : Hid (w2.ownsRow (w.heap.size + 1) 128 66 (.slice (some ⟨w.heap.size + 1, 0, none⟩) i 21) i (flatZ i) ∧ At w2 w.heap.size #[pv] tPr ∧ Below w.heap.size w w2) := ⟨ownsRow_below HR.out.1 (fun k hk => hb2.block k (HR.out.1.lt k hk).2), HR.out.2.1.keep hb2 HR.out.2.1.lt, HR.out.2.2.trans (hb2.mono HR.out.2.2.size)⟩
    clear hb2 c0
    have hs2 : w.heap.size + 1 < w2.heap.size := (H2.out.1.lt (w.heap.size + 1) rfl).2
    by_cases hin : i ≤ n
    · have hii : (i : Int) ≤ (n : Int) := by omega
      go_wp2_with (first | refine wpList_built rfl 90 _ rfl A1 HB1.out ?_ | refine wpList_built rfl 128 _ rfl A2 HB2.out ?_ | refine HOne.out rfl (.tmp 14) rfl rfl ?_ | (at_builtin; refine wpList_append_fits _ rfl (.tmp 12) (.tmp 15) 83 rfl (w.heap.size + 1) 128 i0 66 Tryz.underlying83 hi hz1 (w.heap.size + 1) i 21 _ rfl (H2.out.1.alloc _) ⟨w2.heap.size, 0, none⟩ 1 1 c2 rfl (by rw [HA2.out.2.1]) (by intro t u ht; rw [addr_add]; exact (World.cell?_alloc_at _ _ _ _ rfl).trans (by rw [← Array.getElem?_toList, HA2.out.1]; exact ht)) HA2.out.2.2 (by omega) ?_; intro w5 hown5 hgrow5))
      go_roundw
      case rel =>
        refine ⟨i + 1, by omega, by go_num, rfl, by rw [HZ.out]; exact hown5, ?_, (H2.out.2.2.alloc H2.out.2.2.size _).grown hgrow5 (by simp; omega) (fun k hk => by cases hk; omega)⟩
        have hb5 := ((Below.refl (w.heap.size + 1) w2).alloc (by omega) (.cells A2 128)).grown hgrow5 (by simp; omega) (fun k hk => by cases hk; exact Nat.le_refl _)
        exact H2.out.2.1.keep hb5 (by omega)
      case measure => simp [intOf]; omega
    · have hie : i = n + 1 := by omega
      subst hie
      have hii : ¬ ((n + 1 : Nat) : Int) ≤ (n : Int) := by omega
      go_wp2_with fail
      go_ret
      exact ⟨_, rfl, by omega, pls_of (by omega) H2.out.1, H2.out.2.2⟩

end Go.Proofs.YtffajooegiempaaGreatDoor

namespace Go.Proofs.YtffajooegiempaaGreatDoor
open Go.RowKit
variable {s g : Nat} {w w' : World} {pv : Value} {P : SS} {F : List Ds}

/-- The list of a claim. -/
def lsP (p : Pl) : Option (List Int) := if p.e = true then none else some (bdL p.M)
theorem lls_readsL {base gl n : Nat} {X : List Value} {L : List (Option (List Int))} (hn : L.length = n) (hr : w.ownsRow base 32 1 (.slice (some ⟨gl, 0, none⟩) n 21) n X) (h : LLs w (gl + 1) gl X L) (h21 : n ≤ 21) : ReadsL w (.slice (some ⟨gl, 0, none⟩) n 21) L := by
  subst hn
  refine ⟨_, 21, rfl, h21, fun _ => ⟨gl, 0, rfl, (hr.lt gl rfl).2, fun i hi => ?_⟩⟩
  have hXi : X[i]? = some (X.getD i (.bool false)) := by simp [List.getD, show i < X.length by rw [h.len]; exact hi]
  have hc := hr.cells (g := gl) rfl i _ hXi
  rw [addr_add] at hc
  refine ⟨_, by rw [Nat.zero_add]; exact hc, ?_⟩
  have hp := h.each i hi
  cases e : L.getD i none with
  | none => rw [e] at hp; exact hp
  | some l =>
    rw [e] at hp
    obtain ⟨q, hq, hv, ha, hl⟩ := hp
    rw [hv]
    exact ⟨Reads.at_ ha hl (Nat.le_refl _) (fun j hj => ic_get _ _ (by omega)), _, _, _, rfl⟩

set_option maxRecDepth 100000 in
set_option maxHeartbeats 3200000 in
theorem s_lists (hG : Glob w) (h : SSt w s g pv P) (h21 : P.1.length ≤ 21) (hR : ∀ k, k < P.1.length → Sm (P.1.getD k p0).M) :
    Calls Tryz.prog 55 #[.pointer (some ⟨s, 0, none⟩)] w fun x w' => ∃ ao cap, x = .returned (.slice ao P.1.length cap) ∧ ReadsL w' (.slice ao P.1.length cap) (P.1.map lsP) ∧ Below w.heap.size w w' := by
  obtain ⟨z0, hz0⟩ : ∃ z0 : Pl, z0 = ⟨false, fun _ => 0, false⟩ := ⟨_, rfl⟩
  have hz : ∀ w, (zeroValue 128).run Tryz.prog w = .ok (.agg (plA z0)) w := by rw [hz0]; exact pl_zero
  have HFr : Hid (∀ (w1 : World) (p : Pl), ∃ w2, (storeCells ⟨w1.heap.size, 0, none⟩ (plc p)).run Tryz.prog (w1.alloc (.cells (plA z0) 128)) = .ok () w2 ∧ At w2 w1.heap.size (plA p) tPl ∧ Below w1.heap.size w1 w2 ∧ w1.heap.size < w2.heap.size) := by rw [hz0]; exact pl_fresh
  have hz3 : (plA z0).size = 66 := plA_size z0
  have hz4 : ¬ plA z0 = #[] := fun h => by have := congrArg Array.size h; rw [plA_size] at this; simp at this
  clear hz0
  have hmk : ∀ w, (Instr.makeSlice 54 (.int .i64 0) (.int .i64 21)).run Tryz.prog w = .ok (.slice (some ⟨w.heap.size, 0, none⟩) 0 21) (w.alloc (.cells (List.replicate 21 (Value.slice none 0 0)).toArray 32)) := fun _ => by kernel_rfl
  obtain ⟨i0, hi0, -, hz1, -⟩ := info_parts (P := Tryz.prog) (e := 32) (z := .slice none 0 0) (size := 1) (bytes := 24) (by kernel_rfl)
  have HOw : Hid ((w.alloc (.cells (List.replicate 21 (Value.slice none 0 0)).toArray 32)).ownsRow w.heap.size 32 1 (.slice (some ⟨w.heap.size, 0, none⟩) 0 21) 0 []) := World.ownsRow_made w _ 21 (Nat.le_refl _) (by decide) rfl
  generalize (List.replicate 21 (Value.slice none 0 0)).toArray = zs at *
  have HB1 : Hid (Below w.heap.size w (w.alloc (.cells zs 32))) := (Below.refl _ _).alloc (Nat.le_refl _) _
  have HLi : Hid (∀ w1 k, Below w.heap.size w w1 → k < P.1.length → Calls Tryz.prog 74 #[.agg (oc (P.1.getD k p0).e (P.1.getD k p0).M)] w1 (LSays w1 (P.1.getD k p0).e (P.1.getD k p0).M)) := fun w1 k hb hk => o_list (hG.keep hb hG.size) (hR k hk)
  have HSt : Hid (SSt w s g pv P) := h
  have HTk : Hid (∀ i, i < P.1.length → (P.1.map lsP).take (i + 1) = (P.1.map lsP).take i ++ [lsP (P.1.getD i p0)]) := fun i hi => by
    rw [List.take_add_one]
    congr 1
    simp [List.getD, hi]
  have HLt : Hid (∀ i, i ≤ P.1.length → ((P.1.map lsP).take i).length = i) := fun i hi => by simp; omega
  have HAll : Hid ((P.1.map lsP).take P.1.length = P.1.map lsP) := List.take_of_length_le (by simp)
  have hsl := h.sa.lt
  have hgl := h.glt
  have c1 : (w.alloc (.cells zs 32)).cell? ⟨s, 1, none⟩ = some (.slice (some ⟨g, 0, none⟩) P.1.length 21) := (HSt.out.keep HB1.out).sa.cell 1
  have HRw : Hid (∀ w1 k, Below w.heap.size w w1 → k < P.1.length → w1.rangeAt g (k * 66) (plc (P.1.getD k p0))) := fun w1 k hb hk => (HSt.out.keep hb).row hk
  clear h hG hR
  generalize P.1.map lsP = LL at *
  go_enter Tryz.func55, Tryz.ntmps55
  go_wp2_with fail
  go_loopw [3, 13] (fun cv iv wr => ∃ (i : Nat) (X : List Value), i ≤ P.1.length ∧ iv = .int .i64 (i : Int) ∧ cv = .slice (some ⟨w.heap.size, 0, none⟩) i 21 ∧ Hid (wr.ownsRow w.heap.size 32 1 (.slice (some ⟨w.heap.size, 0, none⟩) i 21) i X ∧ Below w.heap.size w wr ∧ w.heap.size < wr.heap.size ∧ LLs wr (w.heap.size + 1) w.heap.size X (LL.take i))) (fun _ iv _ => P.1.length - (intOf iv).toNat)
  case atStart => exact ⟨0, [], by omega, rfl, rfl, HOw.out, HB1.out, by simp, ⟨rfl, fun i hi => absurd hi (by simp), fun i hi => absurd hi (by simp), fun i j a hi => absurd hi (by simp)⟩⟩
  case round =>
    obtain ⟨i, X, hile, rfl, rfl, HR⟩ := hrel
    have hzr := HR.out.2.2.1
    by_cases hlt : i < P.1.length
    · have hii : (i : Int) < (P.1.length : Int) := by omega
      have hi00 : (0 : Int) ≤ (i : Int) := Int.natCast_nonneg _
      have HRow : Hid (wr.rangeAt g (i * 66) (plc (P.1.getD i p0))) := HRw.out wr i HR.out.2.1 hlt
      have HTi : Hid (LL.take (i + 1) = LL.take i ++ [lsP (P.1.getD i p0)]) := HTk.out i hlt
      have HLi2 : Hid (∀ w1, Below w.heap.size w w1 → Calls Tryz.prog 74 #[.agg (oc (P.1.getD i p0).e (P.1.getD i p0).M)] w1 (LSays w1 (P.1.getD i p0).e (P.1.getD i p0).M)) := fun w1 hb => HLi.out w1 i hb hlt
      have hll := HLt.out i hile
      generalize P.1.getD i p0 = p at *
      have hps := pl_size p
      obtain ⟨w2, hst2, hat2, hb2, hs2⟩ := HFr.out wr p
      have H2 : Hid (At w2 wr.heap.size (plA p) tPl ∧ Below wr.heap.size wr w2) := ⟨hat2, hb2⟩
      have HOc : Hid (w2.rangeAt wr.heap.size 0 (oc p.e p.M).toList) := fun j v hv => by
        have hj : j < 65 := by
          rcases Nat.lt_or_ge j 65 with q | q
          · exact q
          · rw [List.getElem?_eq_none (by simp [oc_size]; omega)] at hv; cases hv
        rw [Nat.zero_add, hat2.cell]
        show (plc p).toArray[j]? = _
        rw [List.getElem?_toArray, plc_oc p hj, ← Array.getElem?_toList]
        exact hv
      have hlo : (Tryz.prog.info? 90).map (·.size) = some (oc p.e p.M).toList.length := by
        obtain ⟨i0, hi, hz1⟩ := o_info
        have hi' : Tryz.prog.info? 90 = some i0 := hi
        simp [hi', hz1, oc_size]
      have hli := HLi2.out w2 (HR.out.2.1.trans (hb2.mono (by omega)))
      clear hat2 hb2
      go_wp2_with (first | refine wpList_load_mid rfl 128 (.tmp 15) rfl g (i * 66) rfl (plc p) _ HRow.out Tryz.underlying128 rfl hps ?_ | refine wpList_load_mid rfl 90 (.tmp 17) rfl wr.heap.size 0 rfl (oc p.e p.M).toList _ HOc.out Tryz.underlying90 rfl hlo ?_)
      refine hli.mono ?_
      intro y w4 hy
      have HPV : ∃ v4, y = .returned v4 ∧ PV w4 w2.heap.size v4 (lsP p) := by
        rcases hy.2 with ⟨he, hv⟩ | ⟨he, gq, hv, hgq, ha⟩
        · exact ⟨_, hv, by unfold lsP; rw [if_pos he]; exact (rfl : _ = _)⟩
        · exact ⟨_, hv, by unfold lsP; rw [if_neg (by rw [he]; decide)]; exact ⟨gq, hgq, rfl, ha, bdL_len _⟩⟩
      obtain ⟨v4, rfl, hv4⟩ := HPV
      have hb24 : Below wr.heap.size wr w4 := H2.out.2.trans (hy.1.mono (by omega))
      have hz4' : w2.heap.size ≤ w4.heap.size := hy.1.size
      have H4 : Hid (w4.ownsRow w.heap.size 32 1 (.slice (some ⟨w.heap.size, 0, none⟩) i 21) i X ∧ Below w.heap.size w w4 ∧ LLs w4 (w.heap.size + 1) w.heap.size (X ++ [v4]) (LL.take i ++ [lsP p])) := by
        have hL := HR.out.2.2.2
        refine ⟨ownsRow_below HR.out.1 (fun k hk => hb24.block k (HR.out.1.lt k hk).2), HR.out.2.1.trans (hb24.mono (by omega)), ?_⟩
        exact (hL.same (w' := w4) (fun k hk _ _ => hb24.block k hk)).snoc hv4 (by omega) (by omega) (fun j hj k hk => by have := ((hL.each j hj).lt k hk).2; omega)
      have HF1 : Hid (∀ w5, (w4.alloc (.cells #[v4] 32)).grownBy w5 (some w.heap.size) → w5.ownsRow w.heap.size 32 1 (.slice (some ⟨w.heap.size, 0, none⟩) (i + 1) 21) (i + 1) (X ++ [v4]) →
          w5.ownsRow w.heap.size 32 1 (.slice (some ⟨w.heap.size, 0, none⟩) (i + 1) 21) (i + 1) (X ++ [v4]) ∧ Below w.heap.size w w5 ∧ w.heap.size < w5.heap.size ∧ LLs w5 (w.heap.size + 1) w.heap.size (X ++ [v4]) (LL.take (i + 1))) := by
        intro w5 hg ho
        have hbk : ∀ k, k < w4.heap.size → k ≠ w.heap.size → w5.heap[k]? = w4.heap[k]? := fun k hk hne => (hg.block k (by simp; omega) (by intro e; have := Option.some.inj e; omega)).trans (heap_alloc_old _ _ hk)
        have hs5 := hg.size
        rw [HTi.out]
        refine ⟨ho, (H4.out.2.1.alloc H4.out.2.1.size _).grown hg (by simp; omega) (fun k hk => by cases hk; exact Nat.le_refl _), by simp at hs5; omega, H4.out.2.2.same (fun k hk _ hne => hbk k hk hne)⟩
      have HV : Hid (PV w4 w2.heap.size v4 (lsP p)) := hv4
      clear hv4 hy hli hb24
      generalize lsP p = oo at *
      cases oo with
      | none =>
        have hv : v4 = .slice none 0 0 := HV.out
        subst hv
        go_wp2_with (at_builtin; refine wpList_append_fits _ rfl (.tmp 20) (.tmp 22) 54 rfl w.heap.size 32 i0 1 Tryz.underlying54 hi0 hz1 w.heap.size i 21 _ rfl (H4.out.1.alloc _) ⟨w4.heap.size, 0, none⟩ 1 1 [Value.slice none 0 0] rfl rfl (by intro t u ht; match t, ht with | 0, ht => simp at ht; subst ht; exact World.cell?_alloc_at _ _ _ _ rfl) (by intro u hu; simp at hu; subst hu; rfl) (by omega) ?_; intro w5 hown5 hgrow5)
        go_roundw
        case rel => exact ⟨i + 1, X ++ [Value.slice none 0 0], by omega, by go_num, rfl, HF1.out w5 hgrow5 hown5⟩
        case measure => simp [intOf]; omega
      | some l =>
        obtain ⟨g3, hg3, hv, -, -⟩ := HV.out
        subst hv
        go_wp2_with (at_builtin; refine wpList_append_fits _ rfl (.tmp 20) (.tmp 22) 54 rfl w.heap.size 32 i0 1 Tryz.underlying54 hi0 hz1 w.heap.size i 21 _ rfl (H4.out.1.alloc _) ⟨w4.heap.size, 0, none⟩ 1 1 [Value.slice (some ⟨g3, 0, none⟩) 32 32] rfl rfl (by intro t u ht; match t, ht with | 0, ht => simp at ht; subst ht; exact World.cell?_alloc_at _ _ _ _ rfl) (by intro u hu; simp at hu; subst hu; rfl) (by omega) ?_; intro w5 hown5 hgrow5)
        go_roundw
        case rel => exact ⟨i + 1, X ++ [Value.slice (some ⟨g3, 0, none⟩) 32 32], by omega, by go_num, rfl, HF1.out w5 hgrow5 hown5⟩
        case measure => simp [intOf]; omega
    · have hie : i = P.1.length := by omega
      subst hie
      have HFin : Hid (ReadsL wr (.slice (some ⟨w.heap.size, 0, none⟩) P.1.length 21) LL) := by
        have hL := HR.out.2.2.2
        have hl2 := HLt.out P.1.length (Nat.le_refl _)
        rw [HAll.out] at hL hl2
        exact lls_readsL hl2 HR.out.1 hL h21
      go_wp2_with fail
      go_ret
      exact ⟨_, _, rfl, HFin.out, HR.out.2.1⟩

end Go.Proofs.YtffajooegiempaaGreatDoor

/- A run, plain: the program's machine. -/
namespace Go.Proofs.YtffajooegiempaaGreatDoor

structure Ms where
  used : Nat
  st : Int
  pt : Int
  v : List Int

variable {F : List Ds} {L : List Int} {s : Ms} {x : Ds}
end Go.Proofs.YtffajooegiempaaGreatDoor

/- A run stays within its program. -/
namespace Go.Proofs.YtffajooegiempaaGreatDoor
variable {F : List Ds} {L : List Int} {s : Ms} {x : Ds}

theorem firstGo_in (p b fr : Int) : ∀ (l : List Ds) (i : Nat), firstGo p b fr l i = -1 ∨ ((i : Int) ≤ firstGo p b fr l i ∧ firstGo p b fr l i < ((i + l.length : Nat) : Int)) := by
  intro l
  induction l with
  | nil => intro i; exact .inl rfl
  | cons y l ih =>
    intro i
    rw [firstGo]
    split
    · right; simp only [List.length_cons]; omega
    · rcases ih (i + 1) with h | h
      · exact .inl h
      · right; simp only [List.length_cons]; omega
theorem firstP_in (p b fr : Int) (h : firstP F p b fr ≠ -1) : 0 ≤ firstP F p b fr ∧ firstP F p b fr < F.length := by
  rcases firstGo_in p b fr F 0 with e | e
  · exact absurd e h
  · unfold firstP; omega
theorem followP_in : ∀ (n : Nat) (pt : Int), 0 ≤ followP F n pt ∧ followP F n pt ≤ F.length := by
  intro n
  induction n with
  | zero => intro pt; unfold followP; omega
  | succ n ih =>
    intro pt
    rw [followP]
    split
    · omega
    split
    · rename_i h
      have := firstP_in _ _ _ h
      omega
    split
    · rename_i h
      unfold isRepP at h
      simp only [Bool.and_eq_true, decide_eq_true_eq] at h
      omega
    · exact ih _
theorem nextP_in (pt way : Int) (h : (nextP F pt way).2 = 0) : 0 ≤ (nextP F pt way).1 ∧ (nextP F pt way).1 ≤ F.length := by
  unfold nextP at h ⊢
  by_cases h1 : pt < 0 ∨ (F.length : Int) ≤ pt
  · rw [if_pos h1] at h; simp at h
  rw [if_neg h1] at h ⊢
  by_cases h2 : way < 0 ∨ waysP (F.getD pt.toNat (newDs 0 0)).kind ≤ way
  · rw [if_pos h2] at h; simp at h
  rw [if_neg h2] at h ⊢
  split
  · exact followP_in _ _
  split
  · rename_i h3
    have := firstP_in _ _ _ h3
    simp only; omega
  split
  · simp only; omega
  · exact followP_in _ _

end Go.Proofs.YtffajooegiempaaGreatDoor

/- States along a statement: what Safe and Post say of them. No Go in here. -/
namespace Go.Proofs.YtffajooegiempaaGreatDoor

/-- What a statement of a program keeps to. -/
structure DQ (x : Ds) : Prop where
  g : DsG x
  len : x.sg.length = 4
  tg : 0 ≤ x.target ∧ x.target < 4
  kd : x.kind = 0 ∨ x.kind = 1 ∨ x.kind = 2 ∨ x.kind = 3
  nz2 : nz x.sg ≤ 2
  fa : x.kind = 0 → nz x.sg ≤ 1
  fc : x.kind ≠ 0 → x.any = true ∨ 1 ≤ nz x.sg
theorem dq_of {l : List Int} {m : Rd} {F : List Ds} (hp : progOf l = some m) (hW : Whole F m.st) {k : Nat} (hk : k < F.length) : DQ (F.getD k (newDs 0 0)) := by
  have hD := dsg_of hp hW hk
  have hq := stq_of hp (show k < m.st.length by have := hW.1.len; omega)
  have hk0 := kind_0 hD.2
  obtain ⟨-, c1, c2, c3, c4⟩ := id hD.2
  refine ⟨hD.1, by rw [← c3]; exact hq.g.len, by rw [← c1]; exact ⟨hq.var.1, by have := hq.var.2; omega⟩, ?_, by rw [← c3]; exact hq.g.nz, fun h => by rw [← c3]; exact hq.fq.1 (hk0.1 h), fun h => by rw [← c3, ← c2]; exact hq.fq.2 (fun z => h (hk0.2 z))⟩
  obtain ⟨x, u, a0, c0, g, hx, hu, hcor, ha, hif, hfc, hC, hs, hr, hkk⟩ := hW.at_ k hk
  rw [getD_some hx]
  obtain ⟨x', u', hx', hu', _, _, _, _, hkd⟩ := hs
  rw [hx] at hx'
  cases hx'
  rcases hkd with ⟨hk01, _⟩ | ⟨hk3, _⟩ | ⟨hk2, _⟩
  · rcases hk01 with e | e
    · exact .inl e
    · exact .inr (.inl e)
  · exact .inr (.inr (.inr hk3))
  · exact .inr (.inr (.inl hk2))

/-- Which sides of which variables a sum has: a table of all sign lists. -/
def coS (s i : Nat) : Int := if s / 2 = i then (if s % 2 = 0 then 1 else -1) else 0
def tabC (l : List Int) : Bool := decide (2 < nz l) || ((List.range 4).all fun i => decide (gAt l i = if sd1 l = sd2 l then coS (sd1 l) i else coS (sd1 l) i + coS (sd2 l) i)) && (decide (1 < nz l) || decide (sd1 l = sd2 l) || decide (sd1 l = opp (sd2 l)))
theorem tabC_all : (sg3.all fun a => sg3.all fun b => sg3.all fun c => sg3.all fun d => tabC [a, b, c, d]) = true := by decide +kernel
theorem tabC_of {l : List Int} (hl : l.length = 4) (h : ∀ i, -1 ≤ gAt l i ∧ gAt l i ≤ 1) : tabC l = true := by
  obtain ⟨a, b, c, d, rfl⟩ := four_of hl
  have t := tabC_all
  simp only [List.all_eq_true] at t
  exact t a (mem_sg3 (h 0)) b (mem_sg3 (h 1)) c (mem_sg3 (h 2)) d (mem_sg3 (h 3))
theorem one_sd {l : List Int} (hl : l.length = 4) (h : ∀ i, -1 ≤ gAt l i ∧ gAt l i ≤ 1) (h1 : nz l ≤ 1) : sd1 l = sd2 l ∨ sd1 l = opp (sd2 l) := by
  have t := tabC_of hl h
  unfold tabC at t
  rw [decide_eq_false (by omega : ¬ 2 < nz l), Bool.false_or, Bool.and_eq_true, decide_eq_false (by omega : ¬ 1 < nz l), Bool.false_or, Bool.or_eq_true] at t
  exact t.2.imp of_decide_eq_true of_decide_eq_true

variable {M : Nat → Int} {v : List Int}
end Go.Proofs.YtffajooegiempaaGreatDoor

