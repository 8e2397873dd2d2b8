import Derived.Test.YtffajooegiempaaJ6
import Derived.ProofKit
import Derived.OpenShut
import Derived.ChangeMaps5
import Derived.ChangeSlices
import Derived.Carry
namespace Go.Proofs.Ytffajooegiempaa
open Go.RowKit
variable {w : World}

theorem run_neq_nil {P : Program} (w : World) (t e : TypeId) (a : Option Addr) (n c n' c' : Nat) (h : P.underlying t = some (.slice e)) :
    (binOp .neq t (.slice a n c) (.slice none n' c')).run P w = .ok (.bool (!a.isNone)) w := by
  simp only [binOp]
  simp [Op.equal, Op.maxDepth, Lib.run_equalIn_slice_nil w 9999 t e a n c n' c' h]
theorem Laid.sw {w w' : World} {base T O A Z : Nat} {c k : List Int} (h : Laid w base T O A Z c k) (hw : SW w w') : Laid w' base T O A Z c k :=
  ⟨h.tab.same (by rw [hw.2]), h.own.same (by rw [hw.2]), h.all.same (by rw [hw.2]), h.last.same (by rw [hw.2]), h.new⟩
theorem Laid.keep {w w' : World} {base T O A Z : Nat} {c k : List Int} (h : Laid w base T O A Z c k) (hb : Below w.heap.size w w') : Laid w' base T O A Z c k :=
  ⟨h.tab.keep hb h.tab.lt, h.own.keep hb h.own.lt, h.all.keep hb h.all.lt, h.last.keep hb h.last.lt, h.new⟩
/-- What stands at a place of the lists. -/
theorem Laid.cell {base T O A Z : Nat} {c k : List Int} (h : Laid w base T O A Z c k) {i : Nat} (hi : i < k.length) : w.cell? ⟨A, i, none⟩ = some (cutV O c.length k i) := by
  rw [h.all.cell]
  have := allP_get O c.length k k.length k.length i (by omega)
  rw [if_pos hi] at this
  simp [show ¬ k.length = i by omega, this]
theorem Laid.cellZ {base T O A Z : Nat} {c k : List Int} (h : Laid w base T O A Z c k) : w.cell? ⟨A, k.length, none⟩ = some (.slice (some ⟨Z, 0, none⟩) 1 1) := by
  rw [h.all.cell]
  have hl := allP_len O c.length k k.length k.length
  simp [hl]
/-- The list that is cut there reads so. -/
theorem cut_reads {base T O A Z : Nat} {c k : List Int} (h : Laid w base T O A Z c k) {i : Nat} (h0 : ¬ k.getD i 0 < 0) : Reads w (cutV O c.length k i) ((c.drop (cutN c.length k i)).take (cutK c.length k i)) := by
  have h1 := cutK_le c.length k i
  have hl : ((c.drop (cutN c.length k i)).take (cutK c.length k i)).length = cutK c.length k i := by simp; omega
  unfold cutV
  rw [if_neg h0]
  refine ⟨_, _, by rw [hl], by rw [hl]; omega, fun hn => ?_⟩
  rw [hl] at hn ⊢
  rw [if_neg (by omega)]
  refine ⟨O, cutN c.length k i, rfl, h.own.lt, fun j hj => ?_⟩
  rw [h.own.cell, ic_get _ _ (by omega)]
  simp [List.getD, hj]
theorem Laid.reads {base T O A Z : Nat} {c k : List Int} (h : Laid w base T O A Z c k) : ReadsL w (.slice (some ⟨A, 0, none⟩) k.length (k.length + 1)) ((List.range k.length).map (cutL c k)) := by
  have hl : ((List.range k.length).map (cutL c k)).length = k.length := by simp
  refine ⟨some ⟨A, 0, none⟩, k.length + 1, by rw [hl], by rw [hl]; omega, fun _ => ⟨A, 0, rfl, h.all.lt, fun i hi => ?_⟩⟩
  rw [hl] at hi
  refine ⟨_, by rw [Nat.zero_add]; exact h.cell hi, ?_⟩
  have e : ((List.range k.length).map (cutL c k)).getD i none = cutL c k i := by simp [List.getD, hi]
  rw [e]
  unfold cutL
  by_cases q : k.getD i 0 < 0
  · rw [if_pos q]
    unfold cutV
    rw [if_pos q]
    exact rfl
  · rw [if_neg q]
    refine ⟨cut_reads h q, ?_⟩
    unfold cutV
    rw [if_neg q]
    by_cases z : c.length = cutN c.length k i
    · rw [if_pos z]; exact ⟨_, _, _, rfl⟩
    · rw [if_neg z]; exact ⟨_, _, _, rfl⟩

set_option maxRecDepth 100000 in
set_option maxHeartbeats 6400000 in
theorem l_stays (vc vk : Value) (c k : List Int) (hc : c.length ≤ 1073741824) (hk : k.length ≤ 1073741824) (hvc : Reads w vc c) (hvk : Reads w vk k) {base T O A Z : Nat} (h : Laid w base T O A Z c k) :
    Calls Try.prog 20 #[.pointer (some ⟨T, 0, none⟩), vc, vk] w fun e w' => e = .returned (.bool true) ∧ SW w w' := by
  have hq1 : ∀ (w : World) (a : Option Addr) (n c : Nat), (binOp .neq 29 (.slice a n c) (.slice none 0 0)).run Try.prog w = .ok (.bool (!a.isNone)) w := fun w a n c => run_neq_nil w 29 3 a n c 0 0 Try.underlying29
  have hsm := l_same w (.slice (some ⟨O, 0, none⟩) c.length c.length) vc c hc (Reads.at_ h.own rfl (Nat.le_refl _) (fun i hi => ic_get _ _ hi)) hvc
  have HL : Hid (Laid w base T O A Z c k) := h
  have HVc : Hid (Reads w vc c) := hvc
  obtain ⟨ao, cac, rfl, hcac, h0⟩ := id hvc
  obtain ⟨bo, cak, rfl, hcak, h0k⟩ := id hvk
  have HK : Hid (∀ i, i < k.length → ∃ b off, bo = some ⟨b, off, none⟩ ∧ b < w.heap.size ∧ w.cell? ⟨b, off + i, none⟩ = some (.int .i64 (k.getD i 0))) := by
    intro i hi
    obtain ⟨b, off, e1, e2, e3⟩ := h0k (by omega)
    exact ⟨b, off, e1, e2, e3 i (by omega)⟩
  have t0 : w.cell? ⟨T, 0, none⟩ = some (.slice (some ⟨O, 0, none⟩) c.length c.length) := h.tab.cell 0
  have hTl := h.tab.lt
  have HSub : Hid (∀ a kk, a + kk ≤ c.length → ∀ w3 p, SW w w3 → (kk = 0 ∨ (∃ b off, ao = some ⟨b, off, none⟩ ∧ p = some ⟨b, off + a, none⟩)) → Reads w3 (.slice p kk (cac - a)) ((c.drop a).take kk)) := by
    intro a kk hak w3 p hw hp
    have hl : ((c.drop a).take kk).length = kk := by simp; omega
    refine ⟨p, cac - a, by rw [hl], by rw [hl]; omega, fun hn => ?_⟩
    rw [hl] at hn ⊢
    obtain ⟨b, off, e1, e2⟩ := hp.resolve_left hn
    obtain ⟨b', off', e3, e4, e5⟩ := h0 (by omega)
    rw [e1] at e3
    cases e3
    refine ⟨b, off + a, e2, by rw [hw.2]; exact e4, fun j hj => ?_⟩
    rw [hw.cell, Nat.add_assoc, e5 (a + j) (by omega)]
    simp [List.getD, hj]
  generalize hn : c.length = n at *
  generalize hm : k.length = m at *
  have HN : Hid (c.length = n ∧ k.length = m) := ⟨hn, hm⟩
  clear hvc hvk h0 h0k h hcak hn hm
  go_enter Try.func20, Try.ntmps20
  go_wp2_with fail
  refine hsm.mono ?_
  rintro e w1 ⟨rfl, k1, rfl⟩
  obtain ⟨w1, hw1⟩ : ∃ w1, w1 = w.drewN k1 := ⟨_, rfl⟩
  have H1 : Hid (SW w w1) := by rw [hw1]; exact (SW.refl w).drewN k1
  rw [← hw1]
  clear hw1 hsm t0
  go_wp2_with fail
  go_loopw [7, 9] (fun av iv wr => ∃ (i : Nat), i ≤ m ∧ iv = .int .i64 i ∧ av = .int .i64 ((cutN n k i : Nat) : Int) ∧ Hid (SW w wr)) (fun _ iv _ => m - (intOf iv).toNat)
  case atStart => exact ⟨0, by omega, rfl, rfl, H1.out⟩
  case round =>
    obtain ⟨i, hi, rfl, rfl, HR⟩ := hrel
    have HLr := (show Hid (Laid _ _ _ _ _ _ _ _) from HL.out.sw HR.out)
    have hTr : T < wr.heap.size := by rw [HR.out.2]; exact hTl
    have hAr := HLr.out.all.lt
    have t1 : wr.cell? ⟨T, 1, none⟩ = some (.slice (some ⟨A, 0, none⟩) (m + 1) (m + 1)) := by have := HLr.out.tab.cell 1; rw [HN.out.1, HN.out.2] at this; exact this
    have t2 : wr.cell? ⟨T, 2, none⟩ = some (.int .i64 (m : Int)) := by have := HLr.out.tab.cell 2; rw [HN.out.1, HN.out.2] at this; exact this
    by_cases hlt : i < m
    · have hii : (i : Int) < (m : Int) := by omega
      obtain ⟨b, off, hbo, hbl, ck0⟩ := HK.out i hlt
      subst hbo
      have ck : wr.cell? ⟨b, off + i, none⟩ = some (.int .i64 (k.getD i 0)) := (HR.out.cell _ _).trans ck0
      have hblr : b < wr.heap.size := by rw [HR.out.2]; exact hbl
      have cA : wr.cell? ⟨A, i, none⟩ = some (cutV O n k i) := by have := HLr.out.cell (i := i) (by rw [HN.out.2]; exact hlt); rw [HN.out.1] at this; exact this
      have hcn := cutN_le n k i
      have hcl := cutK_le n k i
      have HRd : Hid (¬ k.getD i 0 < 0 → Reads w (cutV O n k i) ((c.drop (cutN n k i)).take (cutK n k i))) := fun z => by have := cut_reads HL.out (i := i) z; rw [HN.out.1] at this; exact this
      have hcs := (show Hid (_ = _) from cutN_succ n k i)
      have HCv : Hid (cutV O n k i = if k.getD i 0 < 0 then .slice none 0 0 else .slice (if n = cutN n k i then some ⟨O, 0, none⟩ else some ⟨O, cutN n k i, none⟩) (cutK n k i) (n - cutN n k i)) := rfl
      have HCk : Hid (cutK n k i = if ((n : Int) - (cutN n k i : Int)) < k.getD i 0 then n - cutN n k i else (k.getD i 0).toNat) := rfl
      clear ck0
      generalize cutV O n k i = cv at *
      generalize cutK n k i = ck2 at *
      generalize cutN n k i = a at *
      generalize k.getD i 0 = y at *
      by_cases y0 : y < 0
      · have HX : Hid (cutN n k (i + 1) = a) := by show _ = _; rw [hcs.out, if_pos y0]
        have e1 : cv = .slice none 0 0 := by rw [HCv.out, if_pos y0]
        subst e1
        go_wp2_with fail
        go_roundw
        case rel => exact ⟨i + 1, by omega, by go_num, by rw [HX.out], HR.out⟩
        case measure => simp [intOf]; omega
      · have HX : Hid (cutN n k (i + 1) = a + ck2) := by show _ = _; rw [hcs.out, if_neg y0]
        have e1 : ∃ a4, cv = .slice (some a4) ck2 (n - a) := by
          rw [HCv.out, if_neg y0]
          by_cases z : n = a
          · rw [if_pos z]; exact ⟨_, rfl⟩
          · rw [if_neg z]; exact ⟨_, rfl⟩
        obtain ⟨a4, rfl⟩ := e1
        have hrd := HRd.out y0
        have HRd2 : Hid (Reads w (.slice (some a4) ck2 (n - a)) ((c.drop a).take ck2)) := hrd
        have HSm : Hid (∀ w3 p, SW wr w3 → (ck2 = 0 ∨ (∃ b off, ao = some ⟨b, off, none⟩ ∧ p = some ⟨b, off + a, none⟩)) → Calls Try.prog 23 #[.slice (some a4) ck2 (n - a), .slice p ck2 (cac - a)] w3 fun e w' => e = .returned (.bool true) ∧ Hid (SW wr w')) := by
          intro w3 p hw hp
          refine (l_same w3 _ _ ((c.drop a).take ck2) (by simp; omega) ((HR.out.trans hw).reads HRd2.out) (HSub.out a ck2 hcl w3 p (HR.out.trans hw) hp)).mono ?_
          rintro e w4 ⟨rfl, kq, rfl⟩
          exact ⟨rfl, hw.drewN kq⟩
        have HSm0 : Hid (∀ w3 p q cp cq, SW wr w3 → Calls Try.prog 23 #[.slice p 0 cp, .slice q 0 cq] w3 fun e w' => e = .returned (.bool true) ∧ Hid (SW wr w')) := by
          intro w3 p q cp cq hw
          refine (l_same w3 _ _ [] (by simp) ⟨p, cp, rfl, Nat.zero_le _, fun z => absurd rfl z⟩ ⟨q, cq, rfl, Nat.zero_le _, fun z => absurd rfl z⟩).mono ?_
          rintro e w4 ⟨rfl, kq, rfl⟩
          exact ⟨rfl, hw.drewN kq⟩
        have HAo : Hid (n ≠ 0 → ∃ b off, ao = some ⟨b, off, none⟩) := by
          intro z
          obtain ⟨ao', cap', hv, _, h0⟩ := HVc.out
          injection hv with v1 v2 v3
          obtain ⟨b, off, e, _⟩ := h0 (by rw [HN.out.1]; omega)
          exact ⟨b, off, by rw [v1]; exact e⟩
        clear HRd hrd HCv hcs
        have e3 : a + ck2 - a = ck2 := by omega
        have hkn : (a + ck2 : Nat) ≤ n := by omega
        obtain ⟨p9, hp9, hsl9⟩ := run_sliceAt ao n cac a ck2 hcac hkn HAo.out
        have HSl : Hid (∀ w, (Instr.sliceAt 29 (.slice ao n cac) (some (.int .i64 (a : Int))) (some (.int .i64 ((a : Int) + (ck2 : Int)))) none).run Try.prog w = .ok (.slice p9 ck2 (cac - a)) w) := hsl9
        have hw11 : IntKind.i64.wrap ((a : Int) + (ck2 : Int)) = (a : Int) + (ck2 : Int) := by rw [IntKind.wrap_i64]; omega
        clear hsl9
        by_cases yk : (n : Int) - (a : Int) < y
        · have e4 : (n : Int) - (a : Int) = (ck2 : Int) := by rw [HCk.out, if_pos yk]; omega
          go_wp2_with fail
          refine wp_region_any (by kernel_rfl) ?_
          change wpAny _ _ _ _ _ _ _ (World.drew _)
          have H2 : Hid (SW wr wr.drew) := (SW.refl wr).drewN 1
          generalize wr.drew = w2 at *
          have u1 : w2.cell? ⟨T, 1, none⟩ = some (.slice (some ⟨A, 0, none⟩) (m + 1) (m + 1)) := (H2.out.cell _ _).trans t1
          have uA : w2.cell? ⟨A, i, none⟩ = some (.slice (some a4) ck2 (n - a)) := (H2.out.cell _ _).trans cA
          have hT2 : T < w2.heap.size := by rw [H2.out.2]; exact hTr
          have hA2 : A < w2.heap.size := by rw [H2.out.2]; exact hAr
          refine wpAny_take (i := 0) (v := .pointer (some ⟨T, 0, none⟩)) rfl (by kernel_rfl) (by kernel_rfl) (by kernel_rfl) (fun _ _ _ h => h) (Or.inl ⟨by kernel_rfl, by intro w; go_simp⟩) ?_
          refine wpAny_take (i := 1) (v := .pointer (some ⟨T, 0, none⟩)) rfl (by kernel_rfl) (by kernel_rfl) (by kernel_rfl) (fun _ _ _ h => h) (Or.inl ⟨by kernel_rfl, by intro w; go_simp⟩) ?_
          refine wpAny_take (i := 2) (v := .pointer (some ⟨T, 1, none⟩)) rfl (by kernel_rfl) (by kernel_rfl) (by kernel_rfl) (fun _ _ _ h => h) (Or.inl ⟨by kernel_rfl, by intro w; go_simp⟩) ?_
          refine wpAny_take (i := 4) (v := .int .i64 (i : Int)) rfl (by kernel_rfl) (by kernel_rfl) (by kernel_rfl) (fun _ _ _ h => h) (Or.inl ⟨by kernel_rfl, by intro w; go_simp⟩) ?_
          refine wpAny_take (i := 7) (v := .slice ao n cac) rfl (by kernel_rfl) (by kernel_rfl) (by kernel_rfl) (fun _ _ _ h => h) (Or.inl ⟨by kernel_rfl, by intro w; go_simp⟩) ?_
          refine wpAny_take (i := 8) (v := .int .i64 (a : Int)) rfl (by kernel_rfl) (by kernel_rfl) (by kernel_rfl) (fun _ _ _ h => h) (Or.inl ⟨by kernel_rfl, by intro w; go_simp⟩) ?_
          refine wpAny_take (i := 9) (v := .int .i64 (a : Int)) rfl (by kernel_rfl) (by kernel_rfl) (by kernel_rfl) (fun _ _ _ h => h) (Or.inl ⟨by kernel_rfl, by intro w; go_simp⟩) ?_
          refine wpAny_take (i := 10) (v := .int .i64 (ck2 : Int)) rfl (by kernel_rfl) (by kernel_rfl) (by kernel_rfl) (fun _ _ _ h => h) (Or.inl ⟨by kernel_rfl, by intro w; go_simp⟩) ?_
          refine wpAny_take (i := 11) (v := .int .i64 ((a : Int) + (ck2 : Int))) rfl (by kernel_rfl) (by kernel_rfl) (by kernel_rfl) (fun _ _ _ h => h) (Or.inl ⟨by kernel_rfl, by intro w; go_simp⟩) ?_
          refine wpAny_take (i := 12) (v := .slice p9 ck2 (cac - a)) rfl (by kernel_rfl) (by kernel_rfl) (by kernel_rfl) (fun _ _ _ h => h) (yields_slice (.tmp 56) (.tmp 57) (.tmp 60) (by kernel_rfl) (by kernel_rfl) (by kernel_rfl) (by kernel_rfl) (by kernel_rfl) HSl.out) ?_
          refine wpAny_ready (rs := [3]) (by kernel_rfl) (by simp) ?_
          refine AllReady.cons rfl (fun K hK => ?_) AllReady.nil
          go_simp
          refine hK _ _ ?_
          clear hK K
          refine wpAny_take (i := 5) (v := .pointer (some ⟨A, i, none⟩)) rfl (by kernel_rfl) (by kernel_rfl) (by kernel_rfl) (fun _ _ _ h => h) (Or.inl ⟨by kernel_rfl, by intro w; go_simp; intro hh; exfalso; omega⟩) ?_
          refine wpAny_ready (rs := [6]) (by kernel_rfl) (by simp) ?_
          refine AllReady.cons rfl (fun K hK => ?_) AllReady.nil
          go_simp
          refine hK _ _ ?_
          clear hK K
          refine wpAny_ready (rs := [13]) (by kernel_rfl) (by simp) ?_
          refine AllReady.cons rfl (fun K hK => ?_) AllReady.nil
          go_simp
          go_wp2_with (go_at_call 23; refine (HSm.out w2 p9 H2.out hp9).mono ?_; rintro e w4 ⟨rfl, H4⟩)
          refine wpAny_take (i := 14) (v := .bool true) rfl (by kernel_rfl) (by kernel_rfl) (by kernel_rfl) (fun _ _ _ h => h) (Or.inl ⟨by kernel_rfl, by intro w; go_simp⟩) ?_
          refine wpAny_done (by kernel_rfl) ?_ _
          go_wp2_with fail
          go_roundw
          case rel => exact ⟨i + 1, by omega, by go_num, by rw [HX.out]; go_num, HR.out.trans H4.out⟩
          case measure => simp [intOf]; omega
        · have e4 : y = (ck2 : Int) := by rw [HCk.out, if_neg yk]; omega
          subst e4
          go_wp2_with fail
          refine wp_region_any (by kernel_rfl) ?_
          change wpAny _ _ _ _ _ _ _ (World.drew _)
          have H2 : Hid (SW wr wr.drew) := (SW.refl wr).drewN 1
          generalize wr.drew = w2 at *
          have u1 : w2.cell? ⟨T, 1, none⟩ = some (.slice (some ⟨A, 0, none⟩) (m + 1) (m + 1)) := (H2.out.cell _ _).trans t1
          have uA : w2.cell? ⟨A, i, none⟩ = some (.slice (some a4) ck2 (n - a)) := (H2.out.cell _ _).trans cA
          have hT2 : T < w2.heap.size := by rw [H2.out.2]; exact hTr
          have hA2 : A < w2.heap.size := by rw [H2.out.2]; exact hAr
          refine wpAny_take (i := 0) (v := .pointer (some ⟨T, 0, none⟩)) rfl (by kernel_rfl) (by kernel_rfl) (by kernel_rfl) (fun _ _ _ h => h) (Or.inl ⟨by kernel_rfl, by intro w; go_simp⟩) ?_
          refine wpAny_take (i := 1) (v := .pointer (some ⟨T, 0, none⟩)) rfl (by kernel_rfl) (by kernel_rfl) (by kernel_rfl) (fun _ _ _ h => h) (Or.inl ⟨by kernel_rfl, by intro w; go_simp⟩) ?_
          refine wpAny_take (i := 2) (v := .pointer (some ⟨T, 1, none⟩)) rfl (by kernel_rfl) (by kernel_rfl) (by kernel_rfl) (fun _ _ _ h => h) (Or.inl ⟨by kernel_rfl, by intro w; go_simp⟩) ?_
          refine wpAny_take (i := 4) (v := .int .i64 (i : Int)) rfl (by kernel_rfl) (by kernel_rfl) (by kernel_rfl) (fun _ _ _ h => h) (Or.inl ⟨by kernel_rfl, by intro w; go_simp⟩) ?_
          refine wpAny_take (i := 7) (v := .slice ao n cac) rfl (by kernel_rfl) (by kernel_rfl) (by kernel_rfl) (fun _ _ _ h => h) (Or.inl ⟨by kernel_rfl, by intro w; go_simp⟩) ?_
          refine wpAny_take (i := 8) (v := .int .i64 (a : Int)) rfl (by kernel_rfl) (by kernel_rfl) (by kernel_rfl) (fun _ _ _ h => h) (Or.inl ⟨by kernel_rfl, by intro w; go_simp⟩) ?_
          refine wpAny_take (i := 9) (v := .int .i64 (a : Int)) rfl (by kernel_rfl) (by kernel_rfl) (by kernel_rfl) (fun _ _ _ h => h) (Or.inl ⟨by kernel_rfl, by intro w; go_simp⟩) ?_
          refine wpAny_take (i := 10) (v := .int .i64 (ck2 : Int)) rfl (by kernel_rfl) (by kernel_rfl) (by kernel_rfl) (fun _ _ _ h => h) (Or.inl ⟨by kernel_rfl, by intro w; go_simp⟩) ?_
          refine wpAny_take (i := 11) (v := .int .i64 ((a : Int) + (ck2 : Int))) rfl (by kernel_rfl) (by kernel_rfl) (by kernel_rfl) (fun _ _ _ h => h) (Or.inl ⟨by kernel_rfl, by intro w; go_simp⟩) ?_
          refine wpAny_take (i := 12) (v := .slice p9 ck2 (cac - a)) rfl (by kernel_rfl) (by kernel_rfl) (by kernel_rfl) (fun _ _ _ h => h) (yields_slice (.tmp 56) (.tmp 57) (.tmp 60) (by kernel_rfl) (by kernel_rfl) (by kernel_rfl) (by kernel_rfl) (by kernel_rfl) HSl.out) ?_
          refine wpAny_ready (rs := [3]) (by kernel_rfl) (by simp) ?_
          refine AllReady.cons rfl (fun K hK => ?_) AllReady.nil
          go_simp
          refine hK _ _ ?_
          clear hK K
          refine wpAny_take (i := 5) (v := .pointer (some ⟨A, i, none⟩)) rfl (by kernel_rfl) (by kernel_rfl) (by kernel_rfl) (fun _ _ _ h => h) (Or.inl ⟨by kernel_rfl, by intro w; go_simp; intro hh; exfalso; omega⟩) ?_
          refine wpAny_ready (rs := [6]) (by kernel_rfl) (by simp) ?_
          refine AllReady.cons rfl (fun K hK => ?_) AllReady.nil
          go_simp
          refine hK _ _ ?_
          clear hK K
          refine wpAny_ready (rs := [13]) (by kernel_rfl) (by simp) ?_
          refine AllReady.cons rfl (fun K hK => ?_) AllReady.nil
          go_simp
          go_wp2_with (go_at_call 23; refine (HSm.out w2 p9 H2.out hp9).mono ?_; rintro e w4 ⟨rfl, H4⟩)
          refine wpAny_take (i := 14) (v := .bool true) rfl (by kernel_rfl) (by kernel_rfl) (by kernel_rfl) (fun _ _ _ h => h) (Or.inl ⟨by kernel_rfl, by intro w; go_simp⟩) ?_
          refine wpAny_done (by kernel_rfl) ?_ _
          go_wp2_with fail
          go_roundw
          case rel => exact ⟨i + 1, by omega, by go_num, by rw [HX.out]; go_num, HR.out.trans H4.out⟩
          case measure => simp [intOf]; omega
    · have him : i = m := by omega
      subst him
      have cZ : wr.cell? ⟨A, i, none⟩ = some (.slice (some ⟨Z, 0, none⟩) 1 1) := by have := HLr.out.cellZ; rw [HN.out.2] at this; exact this
      have cz : wr.cell? ⟨Z, 0, none⟩ = some (.int .i64 77) := HLr.out.last.cell 0
      have hZr := HLr.out.last.lt
      go_wp2_with fail
      go_quiet (fail)
      go_wp2_with fail
      go_ret
      exact ⟨rfl, HR.out.drewN _⟩

end Go.Proofs.Ytffajooegiempaa

namespace Go.Proofs.Ytffajooegiempaa
open Go.RowKit
variable {w : World}

theorem cutL_len (c k : List Int) (hc : c.length ≤ 1073741824) (i : Nat) (l : List Int) (h : ((List.range k.length).map (cutL c k)).getD i none = some l) : l.length ≤ 1073741824 := by
  by_cases hi : i < k.length
  · have e : ((List.range k.length).map (cutL c k)).getD i none = cutL c k i := by simp [List.getD, hi]
    rw [e] at h
    unfold cutL at h
    split at h
    · cases h
    · injection h with h
      rw [← h]
      simp
      omega
  · have e : ((List.range k.length).map (cutL c k)).getD i none = none := by simp [List.getD, hi]
    rw [e] at h
    cases h

set_option maxRecDepth 100000 in
set_option maxHeartbeats 3200000 in
theorem codes_walk (vc vk : Value) (c k : List Int) (hvc : Reads w vc c) (hvk : Reads w vk k) :
    Calls Try.prog 6 #[vc, vk] w fun e w' => e = .returned (.bool true) ∧ Below w.heap.size w w' := by
  by_cases hbig : 1073741824 < c.length
  · obtain ⟨ao, cap, rfl, -, -⟩ := hvc
    obtain ⟨bo, capk, rfl, -, -⟩ := hvk
    have hb' : (1073741824 : Int) < (c.length : Int) := by omega
    go_enter Try.func6, Try.ntmps6
    go_wp2_with fail
    go_ret
    exact ⟨rfl, Below.refl _ _⟩
  by_cases hbig2 : 1073741824 < k.length
  · obtain ⟨ao, cap, rfl, -, -⟩ := hvc
    obtain ⟨bo, capk, rfl, -, -⟩ := hvk
    have hb0 : ¬ (1073741824 : Int) < (c.length : Int) := by omega
    have hb' : (1073741824 : Int) < (k.length : Int) := by omega
    go_enter Try.func6, Try.ntmps6
    go_wp2_with fail
    go_ret
    exact ⟨rfl, Below.refl _ _⟩
  have hc : c.length ≤ 1073741824 := by omega
  have hk : k.length ≤ 1073741824 := by omega
  have hb0 : ¬ (1073741824 : Int) < (c.length : Int) := by omega
  have hb1 : ¬ (1073741824 : Int) < (k.length : Int) := by omega
  have hlaid := l_laid vc vk c k hc hk hvc hvk
  have HV : Hid (Reads w vc c ∧ Reads w vk k) := ⟨hvc, hvk⟩
  have HLn : Hid (((List.range k.length).map (cutL c k)).length = k.length) := by show _ = _; simp
  have HCl : Hid (∀ i l, ((List.range k.length).map (cutL c k)).getD i none = some l → l.length ≤ 1073741824) := cutL_len c k hc
  have HSt : Hid (∀ w1 base T O A Z, Laid w1 base T O A Z c k → Reads w1 vc c → Reads w1 vk k → Calls Try.prog 20 #[.pointer (some ⟨T, 0, none⟩), vc, vk] w1 fun e w' => e = .returned (.bool true) ∧ SW w1 w') := fun w1 base T O A Z h1 h2 h3 => l_stays vc vk c k hc hk h2 h3 h1
  obtain ⟨ao, cap, rfl, -, -⟩ := hvc
  obtain ⟨bo, capk, rfl, -, -⟩ := hvk
  go_enter Try.func6, Try.ntmps6
  go_wp2_with fail
  refine hlaid.mono ?_
  rintro e w1 ⟨T, O, A, Z, rfl, hb, hl⟩
  have HB1 : Hid (Below w.heap.size w w1) := hb
  have HL1 : Hid (Laid w1 w.heap.size T O A Z c k) := hl
  have HR1 : Hid (ReadsL w1 (.slice (some ⟨A, 0, none⟩) k.length (k.length + 1)) ((List.range k.length).map (cutL c k))) := hl.reads
  have t1 : w1.cell? ⟨T, 1, none⟩ = some (.slice (some ⟨A, 0, none⟩) (k.length + 1) (k.length + 1)) := hl.tab.cell 1
  have t2 : w1.cell? ⟨T, 2, none⟩ = some (.int .i64 (k.length : Int)) := hl.tab.cell 2
  have hT1 := hl.tab.lt
  have HE : Hid (∀ w2, ReadsL w2 (.slice (some ⟨A, 0, none⟩) k.length (k.length + 1)) ((List.range k.length).map (cutL c k)) → Calls Try.prog 18 #[.slice (some ⟨A, 0, none⟩) k.length (k.length + 1)] w2 (EOut w2 ((List.range k.length).map (cutL c k)))) := fun w2 h => w_encode _ _ (by rw [HLn.out]; exact Nat.le_trans hk (by decide)) h
  have HF : Hid (∀ w2, ReadsL w2 (.slice (some ⟨A, 0, none⟩) k.length (k.length + 1)) ((List.range k.length).map (cutL c k)) → Calls Try.prog 19 #[.slice (some ⟨A, 0, none⟩) k.length (k.length + 1)] w2 (EOut w2 ((List.range k.length).map (cutL c k)))) := fun w2 h => r_encode _ _ (by rw [HLn.out]; exact Nat.le_trans hk (by decide)) HCl.out h
  clear hb hl hlaid HCl HLn
  generalize (List.range k.length).map (cutL c k) = LL at *
  generalize hn : c.length = n at *
  generalize hm : k.length = m at *
  have HKe : Hid (∀ w2, Below w1.heap.size w1 w2 → ReadsL w2 (.slice (some ⟨A, 0, none⟩) m (m + 1)) LL) := fun w2 h => HR1.out.keep h
  have HE2 : Hid (∀ w2, Below w1.heap.size w1 w2 → Calls Try.prog 18 #[.slice (some ⟨A, 0, none⟩) m (m + 1)] w2 fun e w' => e = .returned (.tuple #[.string (strOfNums (encR LL).1), .int .i64 (encR LL).2]) ∧ Hid (Below w1.heap.size w1 w')) := fun w2 h => (HE.out w2 (HKe.out w2 h)).mono fun e w3 h3 => ⟨h3.1, h.trans (h3.2.mono h.size)⟩
  have HF2 : Hid (∀ w2, Below w1.heap.size w1 w2 → Calls Try.prog 19 #[.slice (some ⟨A, 0, none⟩) m (m + 1)] w2 fun e w' => e = .returned (.tuple #[.string (strOfNums (encR LL).1), .int .i64 (encR LL).2]) ∧ Hid (Below w1.heap.size w1 w')) := fun w2 h => (HF.out w2 (HKe.out w2 h)).mono fun e w3 h3 => ⟨h3.1, h.trans (h3.2.mono h.size)⟩
  have HS2 : Hid (∀ w2, Below w1.heap.size w1 w2 → Calls Try.prog 20 #[.pointer (some ⟨T, 0, none⟩), .slice ao n cap, .slice bo m capk] w2 fun e w' => e = .returned (.bool true) ∧ Hid (Below w.heap.size w w')) := fun w2 h => (HSt.out w2 _ _ _ _ _ (HL1.out.keep h) (HV.out.1.keep (HB1.out.trans (h.mono HB1.out.size))) (HV.out.2.keep (HB1.out.trans (h.mono HB1.out.size)))).mono fun e w3 h3 => ⟨h3.1, (HB1.out.trans (h.mono HB1.out.size)).trans (h3.2.below _)⟩
  have hes : ((strOfNums (encR LL).1).toList == (strOfNums (encR LL).1).toList) = true := (str_eq _ _).2 rfl
  clear HE HF HSt HKe HR1
  generalize strOfNums (encR LL).1 = es at *
  generalize (encR LL).2 = en at *
  go_wp2_with fail
  go_region_with (go_at_call 18; refine (HE2.out _ (by first | exact Below.refl _ _ | exact (Below.refl _ _).drew)).mono ?_; rintro e w2 ⟨rfl, H2⟩)
  · have u1 : w2.cell? ⟨T, 1, none⟩ = some (.slice (some ⟨A, 0, none⟩) (m + 1) (m + 1)) := (H2.out.cell hT1).trans t1
    have u2 : w2.cell? ⟨T, 2, none⟩ = some (.int .i64 (m : Int)) := (H2.out.cell hT1).trans t2
    have hT2 : T < w2.heap.size := Nat.lt_of_lt_of_le hT1 H2.out.size
    have HF3 : Hid (∀ w3, Below w2.heap.size w2 w3 → Calls Try.prog 19 #[.slice (some ⟨A, 0, none⟩) m (m + 1)] w3 fun e w' => e = .returned (.tuple #[.string es, .int .i64 en]) ∧ Hid (Below w1.heap.size w1 w')) := fun w3 h => HF2.out w3 (H2.out.trans (h.mono H2.out.size))
    clear t1 t2 hT1 HF2
    go_wp2_with fail
    go_region_with (go_at_call 19; refine (HF3.out _ (by first | exact Below.refl _ _ | exact (Below.refl _ _).drew)).mono ?_; rintro e w3 ⟨rfl, H3⟩)
    all_goals (go_wp2_with fail; refine (HS2.out _ H3.out).mono ?_; rintro e w4 ⟨rfl, H4⟩; go_wp2_with fail; go_ret; exact ⟨rfl, H4.out⟩)
  · have u1 : w2.cell? ⟨T, 1, none⟩ = some (.slice (some ⟨A, 0, none⟩) (m + 1) (m + 1)) := (H2.out.cell hT1).trans t1
    have u2 : w2.cell? ⟨T, 2, none⟩ = some (.int .i64 (m : Int)) := (H2.out.cell hT1).trans t2
    have hT2 : T < w2.heap.size := Nat.lt_of_lt_of_le hT1 H2.out.size
    have HF3 : Hid (∀ w3, Below w2.heap.size w2 w3 → Calls Try.prog 19 #[.slice (some ⟨A, 0, none⟩) m (m + 1)] w3 fun e w' => e = .returned (.tuple #[.string es, .int .i64 en]) ∧ Hid (Below w1.heap.size w1 w')) := fun w3 h => HF2.out w3 (H2.out.trans (h.mono H2.out.size))
    clear t1 t2 hT1 HF2
    go_wp2_with fail
    go_region_with (go_at_call 19; refine (HF3.out _ (by first | exact Below.refl _ _ | exact (Below.refl _ _).drew)).mono ?_; rintro e w3 ⟨rfl, H3⟩)
    all_goals (go_wp2_with fail; refine (HS2.out _ H3.out).mono ?_; rintro e w4 ⟨rfl, H4⟩; go_wp2_with fail; go_ret; exact ⟨rfl, H4.out⟩)

end Go.Proofs.Ytffajooegiempaa

namespace Go.Proofs.Ytffajooegiempaa
open Go.ChangeShapes Go.WideShapes Go.ChangeAt Go.RowKit Go.ChangeMaps

theorem Try.ownC : ownKnob Try.prog.godebug = none := by kernel_rfl
theorem Try.laidOutC : laidOutB Try.prog = true := by kernel_rfl
theorem Try.cellsC : Try.prog.cellsOf tN = 1 := by kernel_rfl

set_option maxRecDepth 100000 in
theorem codes_lifted (os : Os) (started : os.Started) (H : Type) (enc : TypeId × Value → H) :
    ReturnsInHanded {} Try.checked os 6 .any (Rows.codesSpec.pre6 enc Try.prog Try.f6 Rows.codesRow.domain false) (Rows.codesSpec.post enc Try.prog Try.f6 false true false false) := by
  refine returnsInHanded_of_change (C := Try.checked) Try.ownC started (by kernel_rfl) Try.func6
    (ChangeSpec.witness6 (enc := enc) (C := Try.checked) false ⟨#[], #[.slice none 0 0, .slice none 0 0], []⟩ 8 (by kernel_rfl) (by kernel_rfl) (by kernel_rfl) (by kernel_rfl)) ?_
  intro W base args ds gs before hval0 hW _ _
  have hval : ∀ (j : Nat) t v, Try.f6.params[j]? = some t → args[j]? = some v → Value.okWide Try.prog W .any base t v := hval0
  have hW' := hW
  obtain ⟨p, q, hA0, hV, rfl, hfz, hnd⟩ := hW
  have hA : DataW.TrodAll enc Try.prog W 0 (fun _ => true) true Try.f6.params.toList args.toList ds p := hA0
  rw [Try.params6] at hA hval
  obtain ⟨v0, vs0, d0, ds0, p0, q0, hargs0, rfl, rfl, h0, r0⟩ := trodAll_cons hA
  obtain ⟨v1, vs1, d1, ds1, p1, q1, hargs1, rfl, rfl, h1, r1⟩ := trodAll_cons r0
  obtain ⟨rfl, rfl, rfl⟩ := trodAll_nil r1
  obtain rfl : args = #[v0, v1] := by cases args; simp_all
  obtain ⟨rfl, rfl⟩ := trodVars_none hV
  obtain ⟨a0, l0, c0, rfl⟩ := okWide_slice Try.underlying29 (hval 0 29 v0 rfl rfl)
  obtain ⟨a1, l1, c1, rfl⟩ := okWide_slice Try.underlying29 (hval 1 29 v1 rfl rfl)
  clear hA0 hval0
  simp only [List.append_nil] at hW'
  have lt0 : ∀ x ∈ p0, x.block < W.heap.size := fun x hx => hW'.lt x (by simp [hx])
  have lt1 : ∀ x ∈ p1, x.block < W.heap.size := fun x hx => hW'.lt x (by simp [hx])
  have hr0 : ∃ L, Reads W (.slice a0 l0 c0) L := by
    obtain ⟨fuel, hf⟩ := h0
    rcases open_ints Try.underlying29 Try.underlying3 Try.cellsC hf with ⟨hcs, hx⟩ | ⟨a, len', cap', zs, hcs, _, hl, hm, hz, hx, hcell, hwz⟩
    · simp [Value.cells] at hcs
      obtain ⟨rfl, rfl, rfl⟩ := hcs
      exact ⟨[], none, 0, rfl, Nat.le_refl _, fun h => absurd rfl h⟩
    · simp [Value.cells] at hcs
      obtain ⟨rfl, rfl, rfl⟩ := hcs
      simp only [Prod.mk.injEq] at hx
      obtain ⟨rfl, rfl⟩ := hx
      simp only [if_true] at hz
      have htl : (zs.take l0).length = l0 := by simp; omega
      refine ⟨zs.take l0, some a, c0, by rw [htl], by rw [htl]; exact hl, fun hn => ?_⟩
      rw [htl] at hn
      obtain ⟨bb, off, spot⟩ := a
      have hspot : spot = none := by simpa [Addr.add] using World.cell?_spot (hcell 0 (by omega))
      subst hspot
      refine ⟨bb, off, rfl, lt0 (.cell bb off) (MemPlace.mem_row.2 ⟨0, by omega, by simp⟩), fun i hi => ?_⟩
      rw [htl] at hi
      rw [← add_plain, hcell i (by omega)]
      congr 2
      simp [List.getD, hi]
  have hr1 : ∃ L, Reads W (.slice a1 l1 c1) L := by
    obtain ⟨fuel, hf⟩ := h1
    rcases open_ints Try.underlying29 Try.underlying3 Try.cellsC hf with ⟨hcs, hx⟩ | ⟨a, len', cap', zs, hcs, _, hl, hm, hz, hx, hcell, hwz⟩
    · simp [Value.cells] at hcs
      obtain ⟨rfl, rfl, rfl⟩ := hcs
      exact ⟨[], none, 0, rfl, Nat.le_refl _, fun h => absurd rfl h⟩
    · simp [Value.cells] at hcs
      obtain ⟨rfl, rfl, rfl⟩ := hcs
      simp only [Prod.mk.injEq] at hx
      obtain ⟨rfl, rfl⟩ := hx
      simp only [if_true] at hz
      have htl : (zs.take l1).length = l1 := by simp; omega
      refine ⟨zs.take l1, some a, c1, by rw [htl], by rw [htl]; exact hl, fun hn => ?_⟩
      rw [htl] at hn
      obtain ⟨bb, off, spot⟩ := a
      have hspot : spot = none := by simpa [Addr.add] using World.cell?_spot (hcell 0 (by omega))
      subst hspot
      refine ⟨bb, off, rfl, lt1 (.cell bb off) (MemPlace.mem_row.2 ⟨0, by omega, by simp⟩), fun i hi => ?_⟩
      rw [htl] at hi
      rw [← add_plain, hcell i (by omega)]
      congr 2
      simp [List.getD, hi]
  obtain ⟨L0, R0⟩ := hr0
  obtain ⟨L1, R1⟩ := hr1
  refine (codes_walk _ _ L0 L1 R0 R1).mono fun e W' ⟨he, hb⟩ => ?_
  subst he
  have t0 := Below.trod Try.laidOutC (by kernel_rfl) (of_decide_eq_true (by kernel_rfl)) h0 hb lt0
  have t1 := Below.trod Try.laidOutC (by kernel_rfl) (of_decide_eq_true (by kernel_rfl)) h1 hb lt1
  have hall := trodAll_cons_mk t0 (trodAll_cons_mk t1 trodAll_mk0)
  simp only [List.append_nil] at hall
  exact ⟨_, rfl, _, _, _, [], _, [], hW', trodAll_cons_mk (shut_bool Try.underlying4 _) trodAll_mk0, hall, rfl, hb.frame _, fun h => by cases h⟩

theorem codes_holds : Rows.CodesSaid :=
  OpenClaim.holds_of_wide 6 Try.f6 rfl rfl rfl rfl rfl rfl rfl ⟨rfl, rfl, rfl, rfl, rfl⟩ rfl rfl rfl rfl rfl (by kernel_rfl) Try.func6 (by kernel_rfl)
    (of_decide_eq_true (by kernel_rfl)) (by unfold Func.isWrapper; first | (rw [if_pos (by decide +kernel)]; kernel_rfl) | (rw [if_neg (by decide +kernel)]; exact ⟨rfl, rfl⟩))
    (fun os started H enc _ => codes_lifted os started H enc)

end Go.Proofs.Ytffajooegiempaa

