import Derived.Test.YtffajooegiempabDoorJ20
import Derived.Deep.RegionWith
namespace Go.Proofs.YtffajooegiempabDoor
open Go.RowKit
variable {w : World} {s : ByteArray}

/-- The first point at which something is found, and what. -/
def CkSays (f : Nat → Int) (n : Nat) (r : Int × Int) : Prop := ((∀ j, j < n → f j = 0) ∧ r = (0, 0)) ∨ ∃ k, k < n ∧ (∀ j, j < k → f j = 0) ∧ f k ≠ 0 ∧ r = (f k, (k : Int))
theorem CkSays.one {f : Nat → Int} {n : Nat} {r r' : Int × Int} (h : CkSays f n r) (h' : CkSays f n r') : r = r' := by
  rcases h with ⟨h, rfl⟩ | ⟨k, hk, h1, h2, rfl⟩ <;> rcases h' with ⟨h', rfl⟩ | ⟨k', hk', h1', h2', rfl⟩
  · rfl
  · exact absurd (h k' hk') h2'
  · exact absurd (h' k hk) h2
  · have : k = k' := by
      rcases Nat.lt_trichotomy k k' with q | q | q
      · exact absurd (h1' k q) h2
      · exact q
      · exact absurd (h1 k' q) h2'
    rw [this]
def CertSays (F : List Ds) (b : List Int) (r : Int × Int) : Prop :=
  match decF b with
  | none => r = (4, 0)
  | some L => if L.length ≠ F.length + 1 then r = (4, 0) else if wiB false (cE (atL L 0)) (fun _ => 0) (cM (atL L 0)) = false then r = (5, 0) else CkSays (chkP F L) F.length r

set_option maxRecDepth 100000 in
set_option maxHeartbeats 800000 in
theorem o_origin : Calls Tryd.prog 58 #[] w fun e w' => e = .returned (.agg (oc false fun _ => 0)) ∧ Below w.heap.size w w' := by
  obtain ⟨M0, hM0⟩ : ∃ M0 : Nat → Int, M0 = fun _ => 0 := ⟨_, rfl⟩
  have hz : ∀ w, (zeroValue tO).run Tryd.prog w = .ok (.agg (oc false M0)) w := by rw [hM0]; exact o_zero
  have HFr : Hid (∃ w2, (storeCells ⟨w.heap.size, 0, none⟩ (oc false M0).toList).run Tryd.prog (w.alloc (.cells (oc false M0) tO)) = .ok () w2 ∧ OAt w2 w.heap.size false M0 ∧ Below w.heap.size w w2 ∧ w.heap.size < w2.heap.size) := by rw [hM0]; exact o_fresh w false _
  have ho3 : (oc false M0).size = 65 := oc_size _ _
  have ho4 : ¬ oc false M0 = #[] := fun h => by have := congrArg Array.size h; rw [oc_size] at this; simp at this
  rw [← hM0]
  clear hM0
  obtain ⟨w3, hst3, hat3, hb3, hs3⟩ := HFr.out
  have H3 : Hid (OAt w3 w.heap.size false M0 ∧ Below w.heap.size w w3) := ⟨hat3, hb3⟩
  clear hat3 hb3
  go_enter Tryd.func58, Tryd.ntmps58
  go_wp2_with fail
  try simp only [Exit.inBlock, Exit.then]
  refine bodyPost_ret (results_o rfl _ rfl H3.out.1) rfl ?_
  exact ⟨rfl, H3.out.2⟩

/-- What stands while the points are checked. -/
def KB (w wr : World) (g : Nat) (L : List (Option (List Int))) (pv : Value) : Prop := At wr w.heap.size #[pv] tPr ∧ ORow wr g L ∧ Below w.heap.size w wr
theorem KB.keep {wr w' : World} {g : Nat} {L : List (Option (List Int))} {pv : Value} (h : KB w wr g L pv) (hb : Below wr.heap.size wr w') : KB w w' g L pv :=
  ⟨h.1.keep hb h.1.lt, h.2.1.keep hb, h.2.2.trans (hb.mono h.2.2.size)⟩
set_option maxRecDepth 100000 in
set_option maxHeartbeats 6400000 in
theorem c_check {cap : Nat} {ao : Option Addr} {F : List Ds} (hG : Glob w) (hs : s.size ≤ 9223372036854775807) (hl : F.length ≤ 20)
    (hp : ∀ w1, Below w.heap.size w w1 → ∀ g L, ORow w1 g L → (∀ r, r ∈ L → okp r) → ∀ k, k < F.length → Calls Tryd.prog 59 #[.agg #[.slice ao F.length cap], .slice (some ⟨g, 0, none⟩) L.length 21, .int .i64 (k : Int)] w1 fun e w' => e = .returned (.int .i64 (chkP F L k)) ∧ Below w1.heap.size w1 w') :
    Calls Tryd.prog 37 #[.agg #[.slice ao F.length cap], .string s] w fun e w' => ∃ a b, e = .returned (.tuple #[.int .i64 a, .int .i64 b]) ∧ CertSays F (bytesOf s) (a, b) ∧ Below w.heap.size w w' := by
  obtain ⟨M0, hM0⟩ : ∃ M0 : Nat → Int, M0 = fun _ => 0 := ⟨_, rfl⟩
  have hz : ∀ w, (zeroValue tO).run Tryd.prog w = .ok (.agg (oc false M0)) w := by rw [hM0]; exact o_zero
  have HFr : Hid (∀ (w1 : World) e M, ∃ w2, (storeCells ⟨w1.heap.size, 0, none⟩ (oc e M).toList).run Tryd.prog (w1.alloc (.cells (oc false M0) tO)) = .ok () w2 ∧ OAt w2 w1.heap.size e M ∧ Below w1.heap.size w1 w2 ∧ w1.heap.size < w2.heap.size) := by rw [hM0]; exact fun w1 e M => o_fresh w1 e M
  have HOr : Hid (∀ w1, Calls Tryd.prog 58 #[] w1 fun e w' => e = .returned (.agg (oc false M0)) ∧ Below w1.heap.size w1 w') := by rw [hM0]; exact fun w1 => o_origin
  have HM0 : Hid (M0 = fun _ => 0) := hM0
  have ho3 : (oc false M0).size = 65 := oc_size _ _
  have ho4 : ¬ oc false M0 = #[] := fun h => by have := congrArg Array.size h; rw [oc_size] at this; simp at this
  clear hM0
  have HRc : Hid (∀ w1, Below w.heap.size w w1 → Calls Tryd.prog 55 #[.string s] w1 (CLOut w1 s)) := fun w1 hb => c_readClaims (hG.keep hb hG.size) hs
  have HP : Hid (∀ w1, Below w.heap.size w w1 → ∀ g L, ORow w1 g L → (∀ r, r ∈ L → okp r) → ∀ k, k < F.length → Calls Tryd.prog 59 #[.agg #[.slice ao F.length cap], .slice (some ⟨g, 0, none⟩) L.length 21, .int .i64 (k : Int)] w1 fun e w' => e = .returned (.int .i64 (chkP F L k)) ∧ Below w1.heap.size w1 w') := hp
  obtain ⟨n, hn⟩ : ∃ n, n = F.length := ⟨_, rfl⟩
  have HN : Hid (n = F.length) := hn
  have hln : n ≤ 20 := by omega
  rw [← hn]
  clear hp hG hn
  go_enter Tryd.func37, Tryd.ntmps37
  go_wp2_with fail
  refine (HRc.out _ ((Below.refl _ _).alloc (Nat.le_refl _) _)).mono ?_
  rintro e w1 ⟨hb1, ⟨hd, rfl⟩ | ⟨L, g, hd, rfl, hg, hrow⟩⟩
  · have HB : Hid (Below w.heap.size w w1) := ((Below.refl _ _).alloc (Nat.le_refl _) _).trans (hb1.mono (by simp))
    have HR : Hid (CertSays F (bytesOf s) (4, 0)) := by show CertSays _ _ _; unfold CertSays; rw [hd]
    clear hb1 hd
    go_wp2_with fail
    go_ret2
    exact ⟨_, _, rfl, HR.out, HB.out⟩
  · have HOk : Hid (∀ r, r ∈ L → okp r) := (dec_ok (bys s) hd).2.2.2
    have hL21 := (dec_ok (bys s) hd).2.2.1
    have H1 : Hid (KB w w1 g L (.slice ao n cap)) := ⟨At.keep (At.new w _ _) hb1 (by simp), hrow, ((Below.refl _ _).alloc (Nat.le_refl _) _).trans (hb1.mono (by simp))⟩
    have HS : Hid (∀ r, (L.length ≠ n + 1 → r = (4, 0)) → (L.length = n + 1 → if wiB false (cE (atL L 0)) M0 (cM (atL L 0)) = false then r = (5, 0) else CkSays (chkP F L) n r) → CertSays F (bytesOf s) r) := by
      intro r h1 h2
      rw [HM0.out] at h2
      unfold CertSays
      rw [hd, ← HN.out]
      show if _ then _ else _
      split
      · rename_i q; exact h1 q
      · rename_i q; exact h2 (by simpa using q)
    have HEnd : Hid (∀ w1, Calls Tryd.prog 56 #[.agg #[.slice ao n cap]] w1 fun e w' => e = .returned (.int .i64 (n : Int)) ∧ Below w1.heap.size w1 w') := fun w1 => (d_end ao n cap w1 hln).mono fun e w' ⟨h1, o, h2⟩ => ⟨h1, by rw [h2]; exact (Below.refl _ _).alloc (Nat.le_refl _) _⟩
    have c0 : w1.cell? ⟨w.heap.size, 0, none⟩ = some (.slice ao n cap) := H1.out.1.cell 0
    clear hb1 hd hrow hg HRc
    go_wp2_with fail
    refine (HEnd.out w1).mono ?_
    rintro e w2 ⟨rfl, hb2⟩
    have H2 : Hid (KB w w2 g L (.slice ao n cap)) := H1.out.keep hb2
    clear hb2 c0 H1
    by_cases hlen : L.length = n + 1
    · have hli : (L.length : Int) = (n : Int) + 1 := by omega
      have HS2 : Hid (∀ r, (if wiB false (cE (atL L 0)) M0 (cM (atL L 0)) = false then r = (5, 0) else CkSays (chkP F L) n r) → CertSays F (bytesOf s) r) := fun r h => HS.out r (fun q => absurd hlen q) (fun _ => h)
      have HCl := fun w3 (h : KB w w3 g L (.slice ao n cap)) => c_claimAt h.2.1 (0 : Int)
      have HCl : Hid (∀ w3, KB w w3 g L (.slice ao n cap) → Calls Tryd.prog 57 #[.slice (some ⟨g, 0, none⟩) L.length 21, .int .i64 0] w3 fun e w' => e = .returned (.agg (oc (cE (atL L 0)) (cM (atL L 0)))) ∧ Below w3.heap.size w3 w') := HCl
      have HPt : Hid (∀ w3, KB w w3 g L (.slice ao n cap) → ∀ k, k < n → Calls Tryd.prog 59 #[.agg #[.slice ao n cap], .slice (some ⟨g, 0, none⟩) L.length 21, .int .i64 (k : Int)] w3 fun e w' => e = .returned (.int .i64 (chkP F L k)) ∧ Below w3.heap.size w3 w') := fun w3 h k hk => by
        have := HP.out w3 h.2.2 g L h.2.1 HOk.out k (by rw [← HN.out]; exact hk)
        rw [← HN.out] at this
        exact this
      clear HP HS HOk hli
      generalize L.length = m at *
      subst hlen
      generalize cE (atL L 0) = e1 at *
      generalize cM (atL L 0) = M1 at *
      generalize chkP F L = f at *
      go_wp2_with fail
      refine (HCl.out w2 H2.out).mono ?_
      rintro e w3 ⟨rfl, hb3⟩
      obtain ⟨w4, hst4, hat4, hb4, hs4⟩ := HFr.out w3 e1 M1
      have H4 : Hid (OAt w4 w3.heap.size e1 M1 ∧ KB w w4 g L (.slice ao n cap)) := ⟨hat4, (H2.out.keep hb3).keep hb4⟩
      clear hb3 hat4 hb4
      go_wp2_with fail
      refine (HOr.out w4).mono ?_
      rintro e w5 ⟨rfl, hb5⟩
      obtain ⟨w6, hst6, hat6, hb6, hs6⟩ := HFr.out w5 false M0
      have H6 : Hid (OAt w6 w5.heap.size false M0 ∧ OAt w6 w3.heap.size e1 M1 ∧ KB w w6 g L (.slice ao n cap)) := by
        have h9 : OAt w5 w3.heap.size e1 M1 := At.keep H4.out.1 hb5 (At.lt H4.out.1)
        exact ⟨hat6, At.keep h9 hb6 (At.lt h9), (H4.out.2.keep hb5).keep hb6⟩
      clear hb5 hat6 hb6
      go_wp2_with (first | refine wpList_load_o rfl (.tmp 9) rfl rfl H6.out.1 ?_ | refine wpList_load_o rfl (.tmp 8) rfl rfl H6.out.2.1 ?_)
      refine (o_within (w := w6) (e1 := false) (e2 := e1) (M := M0) (N := M1)).mono ?_
      rintro e w7 ⟨rfl, hb7⟩
      have H7 : Hid (KB w w7 g L (.slice ao n cap)) := H6.out.2.2.keep hb7
      clear hb7 H6
      cases hwi : wiB false e1 M0 M1 with
      | false =>
        have HR : Hid (CertSays F (bytesOf s) (5, 0)) := HS2.out _ (by rw [if_pos hwi])
        clear hwi
        go_wp2_with fail
        go_ret2
        exact ⟨_, _, rfl, HR.out, H7.out.2.2⟩
      | true =>
        have HS3 : Hid (∀ r, CkSays f n r → CertSays F (bytesOf s) r) := fun r h => HS2.out r (by rw [if_neg (by rw [hwi]; decide)]; exact h)
        clear hwi HS2
        go_wp2_with fail
        go_loopw [7, 10] (fun _ iv wr => ∃ i : Nat, i ≤ n ∧ iv = .int .i64 (i : Int) ∧ Hid ((∀ j, j < i → f j = 0) ∧ KB w wr g L (.slice ao n cap))) (fun _ iv _ => n - (intOf iv).toNat)
        case atStart => exact ⟨0, by omega, rfl, fun j hj => by omega, H7.out⟩
        case round =>
          obtain ⟨i, hi, rfl, HR⟩ := hrel
          have c0 : wr.cell? ⟨w.heap.size, 0, none⟩ = some (.slice ao n cap) := HR.out.2.1.cell 0
          go_wp2_with fail
          refine (HEnd.out wr).mono ?_
          rintro e w8 ⟨rfl, hb8⟩
          have H8 : Hid (KB w w8 g L (.slice ao n cap)) := HR.out.2.keep hb8
          clear hb8 c0
          by_cases hin : i < n
          · have hii : (i : Int) < (n : Int) := by omega
            have c0 : w8.cell? ⟨w.heap.size, 0, none⟩ = some (.slice ao n cap) := H8.out.1.cell 0
            have hpt := HPt.out w8 H8.out i hin
            go_wp2_with fail
            refine hpt.mono ?_
            rintro e w9 ⟨rfl, hb9⟩
            have H9 : Hid (KB w w9 g L (.slice ao n cap)) := H8.out.keep hb9
            clear hb9 c0 hpt
            by_cases h0 : f i = 0
            · have HA : Hid (∀ j, j < i + 1 → f j = 0) := fun j hj => by
                rcases Nat.lt_or_ge j i with q | q
                · exact HR.out.1 j q
                · rw [show j = i by omega]; exact h0
              rw [h0]
              clear h0
              go_wp2_with fail
              go_roundw
              case rel => exact ⟨i + 1, by omega, by go_num, HA.out, H9.out⟩
              case measure => simp [intOf]; omega
            · have HA : Hid (CertSays F (bytesOf s) (f i, (i : Int))) := HS3.out _ (.inr ⟨i, hin, HR.out.1, h0, rfl⟩)
              go_wp2_with fail
              go_ret2
              exact ⟨_, _, rfl, HA.out, H9.out.2.2⟩
          · have hie : i = n := by omega
            subst hie
            have HA : Hid (CertSays F (bytesOf s) (0, 0)) := HS3.out _ (.inl ⟨HR.out.1, rfl⟩)
            go_wp2_with fail
            go_ret2
            exact ⟨_, _, rfl, HA.out, H8.out.2.2⟩
    · have hli : ¬ (L.length : Int) = (n : Int) + 1 := by omega
      have HR : Hid (CertSays F (bytesOf s) (4, 0)) := HS.out _ (fun _ => rfl) (fun q => absurd q hlen)
      clear hlen
      go_wp2_with fail
      go_ret2
      exact ⟨_, _, rfl, HR.out, H2.out.2.2⟩

end Go.Proofs.YtffajooegiempabDoor

namespace Go.Proofs.YtffajooegiempabDoor
open Go.RowKit
variable {w : World} {s : ByteArray}

theorem c_rng {r : Option (List Int)} (h : okp r) : ∀ j, j < 64 → -20000000000 ≤ cM r j ∧ cM r j ≤ 1000000 := by
  cases r with
  | none => intro j _; show -20000000000 ≤ (0 : Int) ∧ (0 : Int) ≤ 1000000; omega
  | some l => exact ov_rng (okp_ok h)
theorem c_sh {r : Option (List Int)} (h : okp r) (he : cE r = false) : Sh (cM r) := by
  cases r with
  | none => cases he
  | some l => exact (ov_tq (okp_ok h) he).sh
theorem atL_ok {L : List (Option (List Int))} (h : ∀ r, r ∈ L → okp r) (pt : Int) : okp (atL L pt) := by
  unfold atL
  split
  · intro l e; cases e
  · exact getD_ok h _
/-- A point's check, of a program that was read. -/
theorem c_checkPoint_of {l : List Int} {m : Rd} {F : List Ds} {g0 cap : Nat} (hp : progOf l = some m) (hW : Whole F m.st) (hl : F.length ≤ 20) (hpar : ∀ (k : Nat) (x : Ds), F[k]? = some x → -1 ≤ x.parent ∧ x.parent < (k : Int)) (hP : PRow w g0 F) {g : Nat} {L : List (Option (List Int))} (hO : ORow w g L) (hok : ∀ r, r ∈ L → okp r) {k : Nat} (hk : k < F.length) :
    Calls Tryd.prog 59 #[.agg #[.slice (some ⟨g0, 0, none⟩) F.length cap], .slice (some ⟨g, 0, none⟩) L.length 21, .int .i64 (k : Int)] w fun e w' => e = .returned (.int .i64 (chkP F L k)) ∧ Below w.heap.size w w' := by
  have hD := dsg_of hp hW hk
  have hq := stq_of hp (show k < m.st.length by have := hW.1.len; omega)
  exact c_checkPoint hP hl hpar hk hO hD.1 (by rw [← hD.2.2.1]; exact ⟨hq.var.1, by have := hq.var.2; omega⟩) (c_rng (atL_ok hok _)) (c_sh (atL_ok hok _))

end Go.Proofs.YtffajooegiempabDoor

namespace Go.Proofs.YtffajooegiempabDoor
open Go.RowKit
variable {w : World} {C : Nat → Int}
theorem c_tq {r : Option (List Int)} (h : okp r) (he : cE r = false) : TQ (cM r) := by
  cases r with
  | none => cases he
  | some l => exact ov_tq (okp_ok h) he

/-- Does each state stand in what is claimed: by the document. -/
def insB (e : Bool) (M : Nat → Int) : Option (List Int) → Bool
  | none => e
  | some p => e || leF (bd M) (fun f => p.getD f 0) 32
theorem ins_same {e : Bool} {M : Nat → Int} (hT : e = false → TC M) {r : Option (List Int)} (hr : okp r) : wiB e (cE r) M (cM r) = insB e M r := by
  cases r with
  | none => cases e <;> rfl
  | some p =>
    have hp := okp_ok hr
    unfold insB wiB
    show (if (e || ovE p) = true then e else leF M (ovM p) 64) = _
    cases e with
    | true => rfl
    | false =>
      have hC := hT rfl
      have up : leF (bd M) (fun f => p.getD f 0) 32 = true → Le M (ovM p) := fun h => hC.below_sharp (lay_above hC hp (leF_iff.1 h)) (lay_top hp)
      have dn : Le M (ovM p) → leF (bd M) (fun f => p.getD f 0) 32 = true := fun h => leF_iff.2 (bd_below hp (fun a ha => Int.le_trans (h a ha) (sharp_le _ a)))
      cases hq : ovE p with
      | true =>
        show false = (false || leF (bd M) (fun f => p.getD f 0) 32)
        cases hl : leF (bd M) (fun f => p.getD f 0) 32 with
        | false => rfl
        | true =>
          exfalso
          have h := up hl
          have : conF (ovM p) 8 = false := conF_no (fun i hi => by
            have a := h (i * 8 + opp i) (by have := opp_lt hi; omega)
            rw [hC.zero i hi] at a
            exact a)
          rw [show conF (ovM p) 8 = ovE p from rfl, hq] at this
          cases this
      | false =>
        show leF M (ovM p) 64 = (false || leF (bd M) (fun f => p.getD f 0) 32)
        cases hl : leF (bd M) (fun f => p.getD f 0) 32 with
        | true => exact leF_iff.2 (up hl)
        | false =>
          cases hm : leF M (ovM p) 64 with
          | false => rfl
          | true => rw [dn (leF_iff.1 hm)] at hl; cases hl
theorem tc_zero : TC (fun _ => 0) := by
  refine ⟨?_, fun _ _ => rfl, fun _ _ => .inr rfl, fun _ _ _ _ _ _ => ⟨by unfold NB; decide, by decide⟩, fun _ _ _ _ => rfl, fun _ _ => .inr (by decide)⟩
  intro k _ i j _ _
  exact .inr (.inr ⟨show (0 : Int) ≠ NB by decide, show (0 : Int) ≤ 0 + 0 by decide⟩)
theorem bd_zero (f : Nat) : bd (fun _ => 0) f = 0 := by
  unfold bd
  split <;> rfl
/-- Has what is claimed the first state: by the document. -/
def staB : Option (List Int) → Bool
  | none => false
  | some p => leF (fun _ => 0) (fun f => p.getD f 0) 32
theorem sta_same {r : Option (List Int)} (hr : okp r) : wiB false (cE r) (fun _ => 0) (cM r) = staB r := by
  rw [ins_same (fun _ => tc_zero) hr]
  cases r with
  | none => rfl
  | some p =>
    show (false || leF (bd fun _ => 0) (fun f => p.getD f 0) 32) = _
    rw [show bd (fun _ => 0) = fun _ => 0 from funext bd_zero]
    rfl

end Go.Proofs.YtffajooegiempabDoor

/- A certificate that is taken: no run goes wrong. No Go in here. -/
namespace Go.Proofs.YtffajooegiempabDoor
variable {F : List Ds} {L : List (Option (List Int))} {I : List Int} {s : Ms}

theorem wi_sat {e2 : Bool} {M N V : Nat → Int} (h : wiB false e2 M N = true) (hN : ∀ k, k < 64 → N k ≤ 1000000) (hs : Sat V M) : e2 = false ∧ Sat V N := by
  unfold wiB at h
  cases e2 with
  | true => cases h
  | false =>
    refine ⟨rfl, ?_⟩
    have hle := leF_iff.1 (show leF M N 64 = true from h)
    intro i j hi hj
    have h1 := hle (i * 8 + j) (by omega)
    have h2 := hN (i * 8 + j) (by omega)
    rcases hs i j hi hj with q | q
    · left; unfold NB at *; omega
    · right; omega
theorem allN_all {f : Nat → Bool} {n : Nat} (h : allN f n = true) : ∀ i, i < n → f i = true := by
  intro i hi
  cases e : f i with
  | true => rfl
  | false => rw [allN_no hi e] at h; cases h
/-- A certificate that is taken. -/
structure CertOk (F : List Ds) (L : List (Option (List Int))) : Prop where
  ok : ∀ r, r ∈ L → okp r
  st : wiB false (cE (atL L 0)) (fun _ => 0) (cM (atL L 0)) = true
  pt : ∀ k, k < F.length → chkP F L k = 0
/-- What stands while it is gone on with. -/
structure Inv (F : List Ds) (L : List (Option (List Int))) (s : Ms) : Prop where
  st : (s.st = 0 ∧ s.pt < F.length) ∨ s.st = 1
  pt : 0 ≤ s.pt ∧ s.pt ≤ F.length
  e : cE (atL L s.pt) = false
  sat : Sat (gAt s.v) (cM (atL L s.pt))
theorem CertOk.says (h : CertOk F L) {k : Nat} (hk : k < F.length) : sfP (cE (atL L k)) (cM (atL L k)) (F.getD k (newDs 0 0)) = true ∧ ∀ way : Nat, (way : Int) < waysP (F.getD k (newDs 0 0)).kind → wayP F L k way = true := by
  have q := h.pt k hk
  unfold chkP at q
  cases hs : sfP (cE (atL L k)) (cM (atL L k)) (F.getD k (newDs 0 0)) with
  | false => rw [hs, if_pos rfl] at q; cases q
  | true =>
    rw [hs, if_neg (by decide)] at q
    cases ha : allN (wayP F L k) (waysP (F.getD k (newDs 0 0)).kind).toNat with
    | false => rw [ha, if_neg (by decide)] at q; cases q
    | true => exact ⟨rfl, fun way hw => allN_all ha way (by omega)⟩
theorem Inv.lea (hC : CertOk F L) {k : Nat} (hk : k < F.length) {way : Nat} (hw : (way : Int) < waysP (F.getD k (newDs 0 0)).kind) {u : Nat} {v : List Int} (he : poE (cE (atL L k)) (cM (atL L k)) (F.getD k (newDs 0 0)) way = false) (hs : Sat (gAt v) (poM (cE (atL L k)) (cM (atL L k)) (F.getD k (newDs 0 0)) way)) :
    Inv F L (leaP F ⟨u, 0, k, v⟩ way) := by
  have hz := next_z F k hk way hw
  have hi := nextP_in (F := F) k way hz
  have hy := (hC.says hk).2 way hw
  unfold wayP at hy
  rw [he] at hy
  obtain ⟨h1, h2⟩ := wi_sat hy (fun j hj => (c_rng (atL_ok hC.ok _) j hj).2) hs
  unfold leaP
  rw [if_pos hz]
  unfold entP
  refine ⟨?_, hi, h1, h2⟩
  show ((if (nextP F k way).1 = F.length then (1 : Int) else 0) = 0 ∧ (nextP F k way).1 < F.length) ∨ (if (nextP F k way).1 = F.length then (1 : Int) else 0) = 1
  by_cases q : (nextP F k way).1 = F.length
  · rw [if_pos q]; exact .inr rfl
  · rw [if_neg q]; exact .inl ⟨rfl, by omega⟩
/-- One step, from a state that an octagon has: it goes wrong only where that is not safe; else it goes by a way, and what Post says of that way has the state. -/
theorem step_says {k : Nat} (hkF : k < F.length) {u : Nat} {v : List Int} {M : Nat → Int} (hx : DQ (F.getD k (newDs 0 0))) (hs : Sat (gAt v) M) (hT : TQ M) (hl : v.length = 4) :
    (((stpP F I ⟨u, 0, k, v⟩).st = 2 ∨ (stpP F I ⟨u, 0, k, v⟩).st = 3) ∧ sfP false M (F.getD k (newDs 0 0)) = false) ∨
    ∃ (way u' : Nat) (v' : List Int), (way : Int) < waysP (F.getD k (newDs 0 0)).kind ∧ stpP F I ⟨u, 0, k, v⟩ = leaP F ⟨u', 0, k, v'⟩ way ∧ poE false M (F.getD k (newDs 0 0)) way = false ∧ Sat (gAt v') (poM false M (F.getD k (newDs 0 0)) way) := by
  have hlt' : ¬ ((k : Int) < 0 ∨ (F.length : Int) ≤ k) := by omega
  unfold stpP
  simp only [if_neg hlt', Int.toNat_natCast]
  generalize F.getD k (newDs 0 0) = x at *
  have n := hx.g.num
  by_cases k0 : x.kind = 0
  · simp only [if_pos k0]
    have pE : poE false M x ((0 : Nat) : Int) = false := by unfold poE; rw [if_neg (by decide), if_pos k0]
    have pM : poM false M x ((0 : Nat) : Int) = asM M x := by unfold poM; rw [if_neg (by decide), if_pos k0]
    have wy : ((0 : Nat) : Int) < waysP x.kind := by have := ways_rng x.kind; omega
    unfold asgP valP
    by_cases a : x.any = true
    · have hc := clampI_le (inP I u).1
      simp only [if_pos a]
      rw [if_neg (by omega)]
      exact .inr ⟨0, _, _, wy, rfl, pE, by rw [pM]; exact sat_as hs hl hx k0 (by rw [if_pos a]; exact hc)⟩
    · simp only [if_neg a]
      by_cases q : 999 < sumTo x.sg v 4 + x.num ∨ sumTo x.sg v 4 + x.num < -999
      · rw [if_pos q]
        refine .inl ⟨.inl rfl, ?_⟩
        unfold sfP
        rw [if_neg (by decide), if_pos k0, show x.any = false by simpa using a, Bool.false_or]
        unfold ftB
        refine decide_eq_false fun z => ?_
        obtain ⟨g1, g2, g3, g4⟩ := z
        have s1 := (sum_gr hs hx.len hx.g.sg hx.nz2).resolve_left g1
        have s2 := (sum_gr hs (ngL_len _) (ngL_rng hx.g.sg) (by rw [nz_ngL hx.len]; exact hx.nz2)).resolve_left g2
        rw [sum_ng] at s2
        omega
      · rw [if_neg q]
        exact .inr ⟨0, _, _, wy, rfl, pE, by rw [pM]; exact sat_as hs hl hx k0 (by rw [if_neg a])⟩
  · simp only [if_neg k0]
    by_cases k1 : x.kind = 1
    · simp only [if_pos k1]
      have wy : ((0 : Nat) : Int) < waysP x.kind := by have := ways_rng x.kind; omega
      unfold astP holP
      cases a : x.any with
      | true =>
        simp only [if_true]
        split
        · refine .inr ⟨0, _, _, wy, rfl, ?_, ?_⟩
          · unfold poE; rw [if_neg (by decide), if_neg k0, a, if_pos rfl]
          · unfold poM; rw [if_neg (by decide), if_neg k0, a, if_pos rfl]; exact hs
        · refine .inl ⟨.inr rfl, ?_⟩
          unfold sfP
          rw [if_neg (by decide), if_neg k0, if_pos k1, a]
          rfl
      | false =>
        have z1 : 1 ≤ nz x.sg := (hx.fc k0).resolve_left (by rw [a]; decide)
        simp only [Bool.false_eq_true, if_false]
        by_cases c : sumTo x.sg v 4 ≤ x.num
        · rw [if_pos (decide_eq_true c)]
          have y := sat_at hs hT hx.len hx.g.sg z1 hx.nz2 (n := x.num) (by omega) c
          refine .inr ⟨0, _, _, wy, rfl, ?_, ?_⟩
          · unfold poE; rw [if_neg (by decide), if_neg k0, a, if_neg (by decide), if_pos (show ((0 : Nat) : Int) = 0 from rfl)]; exact y.1
          · unfold poM; rw [if_neg (by decide), if_neg k0, a, if_neg (by decide), if_pos (show ((0 : Nat) : Int) = 0 from rfl)]; exact y.2
        · rw [if_neg (by rw [decide_eq_false c]; decide)]
          refine .inl ⟨.inr rfl, ?_⟩
          unfold sfP
          rw [if_neg (by decide), if_neg k0, if_pos k1, a]
          show (true && decide (grP M x.sg ≤ x.num)) = false
          rw [Bool.true_and]
          refine decide_eq_false fun g => ?_
          have s1 := (sum_gr hs hx.len hx.g.sg hx.nz2).resolve_left (fun z => by rw [z] at g; unfold NB at g; omega)
          omega
    · simp only [if_neg k1]
      have w2 : waysP x.kind = 2 := by
        unfold waysP
        rw [if_pos (by have := hx.kd; omega)]
      have wy0 : ((0 : Nat) : Int) < waysP x.kind := by omega
      have wy1 : ((1 : Nat) : Int) < waysP x.kind := by omega
      unfold braP holP
      cases a : x.any with
      | true =>
        have pE : ∀ way, poE false M x way = false := fun way => by unfold poE; rw [if_neg (by decide), if_neg k0, a, if_pos rfl]
        have pM : ∀ way, poM false M x way = M := fun way => by unfold poM; rw [if_neg (by decide), if_neg k0, a, if_pos rfl]
        simp only [if_true]
        split
        · exact .inr ⟨0, _, _, wy0, rfl, pE _, by rw [pM]; exact hs⟩
        · exact .inr ⟨1, _, _, wy1, rfl, pE _, by rw [pM]; exact hs⟩
      | false =>
        have z1 : 1 ≤ nz x.sg := (hx.fc k0).resolve_left (by rw [a]; decide)
        simp only [Bool.false_eq_true, if_false]
        by_cases c : sumTo x.sg v 4 ≤ x.num
        · rw [if_pos (decide_eq_true c)]
          have y := sat_at hs hT hx.len hx.g.sg z1 hx.nz2 (n := x.num) (by omega) c
          refine .inr ⟨0, _, _, wy0, rfl, ?_, ?_⟩
          · unfold poE; rw [if_neg (by decide), if_neg k0, a, if_neg (by decide), if_pos (show ((0 : Nat) : Int) = 0 from rfl)]; exact y.1
          · unfold poM; rw [if_neg (by decide), if_neg k0, a, if_neg (by decide), if_pos (show ((0 : Nat) : Int) = 0 from rfl)]; exact y.2
        · rw [if_neg (by rw [decide_eq_false c]; decide)]
          have y := sat_at hs hT (ngL_len _) (ngL_rng hx.g.sg) (by rw [nz_ngL hx.len]; exact z1) (by rw [nz_ngL hx.len]; exact hx.nz2) (n := -x.num - 1) (by omega) (by rw [sum_ng]; omega)
          refine .inr ⟨1, _, _, wy1, rfl, ?_, ?_⟩
          · unfold poE; rw [if_neg (by decide), if_neg k0, a, if_neg (by decide), if_neg (by decide)]; exact y.1
          · unfold poM; rw [if_neg (by decide), if_neg k0, a, if_neg (by decide), if_neg (by decide)]; exact y.2
theorem Inv.stp (hC : CertOk F L) (hD : ∀ k, k < F.length → DQ (F.getD k (newDs 0 0))) (h : Inv F L s) (hm : MsOk I s) (h0 : s.st = 0) : Inv F L (stpP F I s) := by
  have hlt : s.pt < F.length := by
    rcases h.st with q | q
    · exact q.2
    · rw [h0] at q; cases q
  obtain ⟨k, hk⟩ : ∃ k : Nat, s.pt = k := ⟨s.pt.toNat, by have := h.pt.1; omega⟩
  obtain ⟨u, st, pt, v⟩ := s
  simp only at h0 hk hlt
  subst h0
  subst hk
  have hkF : k < F.length := by omega
  have he : cE (atL L k) = false := h.e
  rcases step_says (I := I) (u := u) hkF (hD k hkF) h.sat (c_tq (atL_ok hC.ok _) he) hm.len with ⟨_, q⟩ | ⟨way, u', v', hw, e, h1, h2⟩
  · have := (hC.says hkF).1
    rw [he, q] at this
    cases this
  · rw [e]
    exact Inv.lea hC hkF hw (by rw [he]; exact h1) (by rw [he]; exact h2)
theorem Inv.run (hC : CertOk F L) (hD : ∀ k, k < F.length → DQ (F.getD k (newDs 0 0))) (hF : ∀ (k : Nat) (x : Ds), F[k]? = some x → DsOk x) : ∀ n (s : Ms), Inv F L s → MsOk I s → Inv F L (runP F I n s) := by
  intro n
  induction n with
  | zero => intro s h _; exact h
  | succ n ih =>
    intro s h hm
    rw [runP]
    split
    · rename_i h0
      exact ih _ (h.stp hC hD hm h0) (hm.stp hF)
    · exact h
/-- No run goes wrong. -/
theorem CertOk.sound (hC : CertOk F L) (hD : ∀ k, k < F.length → DQ (F.getD k (newDs 0 0))) (hF : ∀ (k : Nat) (x : Ds), F[k]? = some x → DsOk x) (steps : Int) : (finP F I steps).st = 0 ∨ (finP F I steps).st = 1 := by
  have z : Sat (gAt [0, 0, 0, 0]) (fun _ => 0) := by
    intro i j hi hj
    right
    have e : ∀ i, i < 8 → sd (gAt [0, 0, 0, 0]) i = 0 := by decide
    rw [e i hi, e j hj]
    exact (show (0 : Int) + 0 ≤ 0 by decide)
  obtain ⟨h1, h2⟩ := wi_sat hC.st (fun j hj => (c_rng (atL_ok hC.ok _) j hj).2) z
  have h := Inv.run (I := I) hC hD hF (min steps.toNat 2000) (entP F.length ⟨0, 0, 0, [0, 0, 0, 0]⟩ 0) ?_ ?_
  · rcases h.st with q | q
    · exact .inl q.1
    · exact .inr q
  · unfold entP
    refine ⟨?_, ⟨Int.le_refl _, by show (0 : Int) ≤ F.length; omega⟩, h1, h2⟩
    show ((if (0 : Int) = F.length then (1 : Int) else 0) = 0 ∧ (0 : Int) < F.length) ∨ (if (0 : Int) = F.length then (1 : Int) else 0) = 1
    by_cases q : (0 : Int) = F.length
    · rw [if_pos q]; exact .inr rfl
    · rw [if_neg q]; exact .inl ⟨rfl, by omega⟩
  · refine ⟨rfl, fun i => ?_, Nat.zero_le _⟩
    unfold entP
    show -999 ≤ sgAt [0, 0, 0, 0] i ∧ sgAt [0, 0, 0, 0] i ≤ 999
    rcases (show i = 0 ∨ i = 1 ∨ i = 2 ∨ i = 3 ∨ 4 ≤ i by omega) with rfl | rfl | rfl | rfl | h4
    · decide
    · decide
    · decide
    · decide
    · have : sgAt [0, 0, 0, 0] i = 0 := by unfold sgAt; rw [List.getD_eq_getElem?_getD, List.getElem?_eq_none (by simp; omega)]; rfl
      rw [this]; decide

end Go.Proofs.YtffajooegiempabDoor

namespace Go.Proofs.YtffajooegiempabDoor
open Go.RowKit
variable {w : World} {s : ByteArray}

theorem CertSays.one {F : List Ds} {b : List Int} {r r' : Int × Int} (h : CertSays F b r) (h' : CertSays F b r') : r = r' := by
  unfold CertSays at h h'
  cases hd : decF b with
  | none => rw [hd] at h h'; exact Eq.trans h (Eq.symm h')
  | some L =>
    rw [hd] at h h'
    simp only at h h'
    split at h
    · rename_i q; rw [if_pos q] at h'; exact h.trans h'.symm
    · rename_i q
      rw [if_neg q] at h'
      split at h
      · rename_i q2; rw [if_pos q2] at h'; exact h.trans h'.symm
      · rename_i q2; rw [if_neg q2] at h'; exact h.one h'
/-- What both Checks say. -/
def ChkSays (s c : ByteArray) (r : Int × Int) : Prop :=
  match progOf (bytesOf s) with
  | none => r = ((scanOf (bytesOf s)).2.1, (scanOf (bytesOf s)).2.2)
  | some _ => CertSays (readZ s).2 (bytesOf c) r
theorem ChkSays.one {s c : ByteArray} {r r' : Int × Int} (h : ChkSays s c r) (h' : ChkSays s c r') : r = r' := by
  unfold ChkSays at h h'
  cases hp : progOf (bytesOf s) with
  | none => rw [hp] at h h'; exact Eq.trans h (Eq.symm h')
  | some m => rw [hp] at h h'; exact CertSays.one h h'
def ChkOut (w : World) (s c : ByteArray) : Ending → World → Prop := fun e w' => ∃ a b, e = .returned (.tuple #[.int .i64 a, .int .i64 b]) ∧ ChkSays s c (a, b) ∧ Below w.heap.size w w'

set_option maxRecDepth 100000 in
set_option maxHeartbeats 3200000 in
theorem w_check (hG : Glob w) (s c : ByteArray) (hm : s.size ≤ maxLen) (hc : c.size ≤ maxLen) : Calls Tryd.prog 21 #[.string s, .string c] w (ChkOut w s c) := by
  have hr := d_read s w hm
  have hl := bytesOf_len s
  have hsc := scan_same s
  have bad : progOf (bytesOf s) = none → ∀ n : Int, (scanD s).2 = (1, n) → (∀ e w', DReadPost w s e w' → e = .returned (.tuple #[.agg #[.slice none 0 0], .int .i64 1, .int .i64 n]) ∧ Below w.heap.size w w') → Calls Tryd.prog 21 #[.string s, .string c] w (ChkOut w s c) := by
    intro hp n hn hq
    have HE : Hid (ChkSays s c (1, n)) := by
      show ChkSays s c (1, n)
      unfold ChkSays
      rw [hp]
      show (1, n) = _
      rw [← hsc, hn]
    have hr' := hr.mono hq
    clear hr hp hq hm hl hG hsc hn hc
    go_enter Tryd.func21, Tryd.ntmps21
    go_wp2_with fail
    refine hr'.mono ?_
    rintro e w1 ⟨rfl, hb⟩
    have HB : Hid (Below w.heap.size w w1) := hb
    clear hb hr'
    go_wp2_with fail
    go_ret2
    exact ⟨_, _, rfl, HE.out, HB.out.alloc HB.out.size _⟩
  by_cases h160 : 160 < s.size
  · refine bad (by unfold progOf; rw [if_pos (by omega)]) 0 (by unfold scanD; rw [if_pos h160]) ?_
    rintro e w' ⟨hb, h | h | h⟩
    · exact ⟨h.2, hb⟩
    · exact absurd h.1 (by omega)
    · exact absurd h.1 (by omega)
  rcases prog_whole s (by omega) with ⟨hg, hp⟩ | ⟨m, hg, hp, hW⟩
  · refine bad hp _ (by unfold scanD; rw [if_neg h160, if_neg (by rw [hg]; decide)]) ?_
    rintro e w' ⟨hb, h | h | h⟩
    · exact absurd h.1 h160
    · exact ⟨h.2.2, hb⟩
    · exact absurd h.2.1 (by rw [hg]; decide)
  clear bad
  have hlen : (readZ s).2.length ≤ 20 := (rStmts_goes s 22 (-1) 0 0 ((0, false), []) ⟨Nat.zero_le _, Nat.zero_le _⟩).ok.len
  have hr' := hr.mono (R' := fun e w' => ∃ ao cap, e = .returned (.tuple #[.agg #[.slice ao (readZ s).2.length cap], .int .i64 0, .int .i64 0]) ∧ Below w.heap.size w w' ∧ ((readZ s).2.length ≠ 0 → ∃ g, ao = some ⟨g, 0, none⟩ ∧ PRow w' g (readZ s).2)) (by
    rintro e w' ⟨hb, h | h | h⟩
    · exact absurd h.1 h160
    · exact absurd h.2.1 (by rw [hg]; decide)
    · obtain ⟨_, _, v, he, hrow⟩ := h
      have hrow2 := hrow
      obtain ⟨_, h2⟩ := hrow2
      rcases h2 with ⟨rfl, e0⟩ | ⟨g, cap, _, rfl, _⟩
      · exact ⟨none, 0, by rw [e0]; exact he, hb, fun z => absurd e0 z⟩
      · exact ⟨_, cap, he, hb, fun _ => ⟨g, rfl, prow_of hrow rfl (hrow.lt g rfl).2⟩⟩)
  have HS : Hid (∀ r, CertSays (readZ s).2 (bytesOf c) r → ChkSays s c r) := fun r h => by unfold ChkSays; rw [hp]; exact h
  have HC : Hid (∀ w1 ao cap, Below w.heap.size w w1 → ((readZ s).2.length ≠ 0 → ∃ g, ao = some ⟨g, 0, none⟩ ∧ PRow w1 g (readZ s).2) → Calls Tryd.prog 37 #[.agg #[.slice ao (readZ s).2.length cap], .string c] w1 fun e w' => ∃ a b, e = .returned (.tuple #[.int .i64 a, .int .i64 b]) ∧ CertSays (readZ s).2 (bytesOf c) (a, b) ∧ Below w1.heap.size w1 w') := fun w1 ao cap hb h => by
    refine c_check (hG.keep hb hG.size) (by unfold maxLen at hc; omega) hlen ?_
    intro w2 hb2 g L hO hok k hk
    obtain ⟨g0, rfl, hP⟩ := h (by omega)
    exact c_checkPoint_of hp hW hlen (fun k x hx => hW.par k x hx) (hP.keep hb2) hO hok hk
  clear hr hm hl h160 hg hp hW hsc hG hc
  generalize (readZ s).2 = F at *
  go_enter Tryd.func21, Tryd.ntmps21
  go_wp2_with fail
  refine hr'.mono ?_
  rintro e w1 ⟨ao, cap, rfl, hb, hrow⟩
  have HB : Hid (Below w.heap.size w w1 ∧ (F.length ≠ 0 → ∃ g, ao = some ⟨g, 0, none⟩ ∧ PRow w1 g F)) := ⟨hb, hrow⟩
  clear hb hrow hr'
  go_wp2_with fail
  refine (HC.out _ ao cap (HB.out.1.alloc HB.out.1.size _) (fun z => by obtain ⟨g, e, h⟩ := HB.out.2 z; exact ⟨g, e, h.keep ((Below.refl _ _).alloc (Nat.le_refl _) _)⟩)).mono ?_
  rintro e w2 ⟨a, b, rfl, hs, hb2⟩
  have H2 : Hid (Below w.heap.size w w2 ∧ ChkSays s c (a, b)) := ⟨(HB.out.1.alloc HB.out.1.size _).trans (hb2.mono (by have := HB.out.1.size; simp; omega)), HS.out _ hs⟩
  clear hb2 hs
  go_wp2_with fail
  go_ret2
  exact ⟨_, _, rfl, H2.out.2, H2.out.1⟩

end Go.Proofs.YtffajooegiempabDoor

namespace Go.Proofs.YtffajooegiempabDoor
open Go.RowKit

abbrev tM : TypeId := 88
/-- A machine's cells. -/
def mCells (pv iv : Value) (s : Ms) : Array Value := #[pv, iv, .int .i64 s.used, .int .i64 s.st, .int .i64 s.pt, .int .i64 (sgAt s.v 0), .int .i64 (sgAt s.v 1), .int .i64 (sgAt s.v 2), .int .i64 (sgAt s.v 3)]
/-- The inputs, below a block. -/
def Inp (w : World) (B : Nat) (iv : Value) (L : List Int) : Prop :=
  ∃ ao cap, iv = .slice ao L.length cap ∧ L.length ≤ cap ∧ (L.length ≠ 0 → ∃ b off, ao = some ⟨b, off, none⟩ ∧ b < B ∧ ∀ i, i < L.length → w.cell? ⟨b, off + i, none⟩ = some (.int .i64 (L.getD i 0)))
theorem Inp.keep {w w' : World} {B : Nat} {iv : Value} {L : List Int} (h : Inp w B iv L) (hb : Below B w w') : Inp w' B iv L := by
  obtain ⟨ao, cap, hv, hc, h0⟩ := h
  refine ⟨ao, cap, hv, hc, fun hn => ?_⟩
  obtain ⟨b, off, ha, hlt, hcell⟩ := h0 hn
  exact ⟨b, off, ha, hlt, fun i hi => (hb.cell (by exact hlt)).trans (hcell i hi)⟩
/-- The statements, below a block. -/
def PAt (w : World) (B : Nat) (pv : Value) (F : List Ds) : Prop :=
  ∃ ao cap, pv = .slice ao F.length cap ∧ (F.length ≠ 0 → ∃ g, ao = some ⟨g, 0, none⟩ ∧ g < B ∧ PRow w g F)
theorem PAt.keep {w w' : World} {B : Nat} {pv : Value} {F : List Ds} (h : PAt w B pv F) (hb : Below B w w') : PAt w' B pv F := by
  obtain ⟨ao, cap, hv, h0⟩ := h
  refine ⟨ao, cap, hv, fun hn => ?_⟩
  obtain ⟨g, ha, hlt, hp⟩ := h0 hn
  refine ⟨g, ha, hlt, Nat.lt_of_lt_of_le hp.1 hb.size, fun j x hx => ?_⟩
  have hc : ∀ o, w'.cell? ⟨g, o, none⟩ = w.cell? ⟨g, o, none⟩ := fun o => hb.cell (p := ⟨g, o, none⟩) hlt
  simp only [hc]
  exact hp.2 j x hx
/-- What a machine's step leaves. -/
def MPost (m : Nat) (w : World) (pv iv : Value) (s : Ms) : World → Prop := fun w' => At w' m (mCells pv iv s) tM ∧ Onl m w w'

variable {w : World} {m : Nat} {pv iv : Value} {L : List Int} {s : Ms} {F : List Ds}

theorem mcells (h : At w m (mCells pv iv s) tM) : w.cell? ⟨m, 0, none⟩ = some pv ∧ w.cell? ⟨m, 1, none⟩ = some iv ∧ w.cell? ⟨m, 2, none⟩ = some (.int .i64 s.used) ∧ w.cell? ⟨m, 3, none⟩ = some (.int .i64 s.st) ∧ w.cell? ⟨m, 4, none⟩ = some (.int .i64 s.pt) ∧
    w.cell? ⟨m, 5, none⟩ = some (.int .i64 (sgAt s.v 0)) ∧ w.cell? ⟨m, 6, none⟩ = some (.int .i64 (sgAt s.v 1)) ∧ w.cell? ⟨m, 7, none⟩ = some (.int .i64 (sgAt s.v 2)) ∧ w.cell? ⟨m, 8, none⟩ = some (.int .i64 (sgAt s.v 3)) ∧ ∀ i, w.frozen? ⟨m, i, none⟩ = false :=
  ⟨h.cell 0, h.cell 1, h.cell 2, h.cell 3, h.cell 4, h.cell 5, h.cell 6, h.cell 7, h.cell 8, h.free⟩

set_option maxRecDepth 100000 in
set_option maxHeartbeats 800000 in
theorem x_clamp (n : Int) (w : World) : Calls Tryd.prog 100 #[.int .i64 n] w fun e w' => e = .returned (.int .i64 (clampI n)) ∧ w' = w := by
  by_cases h1 : 999 < n
  · have HE : Hid (clampI n = 999) := if_pos h1
    go_enter Tryd.func100, Tryd.ntmps100
    go_wp2_with fail
    go_ret
    exact ⟨by rw [HE.out]; rfl, rfl⟩
  by_cases h2 : n < -999
  · have HE : Hid (clampI n = -999) := by show clampI n = _; unfold clampI; rw [if_neg h1, if_pos h2]
    go_enter Tryd.func100, Tryd.ntmps100
    go_wp2_with fail
    go_ret
    exact ⟨by rw [HE.out]; rfl, rfl⟩
  · have HE : Hid (clampI n = n) := by show clampI n = _; unfold clampI; rw [if_neg h1, if_neg h2]
    go_enter Tryd.func100, Tryd.ntmps100
    go_wp2_with fail
    go_ret
    exact ⟨by rw [HE.out]; rfl, rfl⟩

set_option maxRecDepth 100000 in
set_option maxHeartbeats 1600000 in
theorem x_input (h : At w m (mCells pv iv s) tM) (hi : Inp w m iv L) (hu : s.used ≤ L.length) (hL : L.length ≤ 9223372036854775807) :
    Calls Tryd.prog 99 #[.pointer (some ⟨m, 0, none⟩)] w fun e w' => e = .returned (.int .i64 (inP L s.used).1) ∧ MPost m w pv iv ⟨(inP L s.used).2, s.st, s.pt, s.v⟩ w' := by
  obtain ⟨c0, c1, c2, c3, c4, c5, c6, c7, c8, cf⟩ := mcells h
  obtain ⟨ao, cap, rfl, hcap, h0⟩ := hi
  have HA : Hid (At w m _ tM) := h
  have hlt := h.lt
  have hu0 : ¬ ((s.used : Nat) : Int) < 0 := by omega
  by_cases hb : s.used < L.length
  · obtain ⟨b, off, rfl, hbm, hcell⟩ := h0 (by omega)
    have cx := hcell s.used hb
    have HE : Hid (inP L s.used = (L.getD s.used 0, s.used + 1)) := if_pos hb
    have hui : ((s.used : Nat) : Int) < (L.length : Int) := by omega
    have hge : ¬ (L.length : Int) ≤ ((s.used : Nat) : Int) := by omega
    clear h h0 hcell
    generalize L.getD s.used 0 = y at *
    go_enter Tryd.func99, Tryd.ntmps99
    go_wp2_with fail
    go_quiet (fail)
    go_wp2_with fail
    go_quiet (fail)
    go_wp2_with fail
    go_ret
    refine ⟨by rw [HE.out]; rfl, ?_, ?_⟩
    · rw [HE.out]
      exact (HA.out.drewN _).put 2 _
    · exact ((Onl.refl m w).drewN _).setCell _ _
  · have HE : Hid (inP L s.used = (0, s.used)) := if_neg hb
    have hge : (L.length : Int) ≤ ((s.used : Nat) : Int) := by omega
    clear h h0
    go_enter Tryd.func99, Tryd.ntmps99
    go_wp2_with fail
    go_quiet (fail)
    go_wp2_with fail
    go_ret
    refine ⟨by rw [HE.out]; rfl, ?_, ?_⟩
    · rw [HE.out]
      exact HA.out.drewN _
    · exact (Onl.refl m w).drewN _

end Go.Proofs.YtffajooegiempabDoor

