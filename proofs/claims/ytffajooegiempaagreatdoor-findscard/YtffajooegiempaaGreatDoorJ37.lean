import Derived.Test.YtffajooegiempaaGreatDoorJ36
namespace Go.Proofs.YtffajooegiempaaGreatDoor
open Go.RowKit
variable {w : World} {s : ByteArray}

/-- The first point at which something is found, and what. -/
def CkSays (f : Nat → Int) (n : Nat) (r : Int × Int) : Prop := ((∀ j, j < n → f j = 0) ∧ r = (0, 0)) ∨ ∃ k, k < n ∧ (∀ j, j < k → f j = 0) ∧ f k ≠ 0 ∧ r = (f k, (k : Int))
theorem CkSays.one {f : Nat → Int} {n : Nat} {r r' : Int × Int} (h : CkSays f n r) (h' : CkSays f n r') : r = r' := by
  rcases h with ⟨h, rfl⟩ | ⟨k, hk, h1, h2, rfl⟩ <;> rcases h' with ⟨h', rfl⟩ | ⟨k', hk', h1', h2', rfl⟩
  · rfl
  · exact absurd (h k' hk') h2'
  · exact absurd (h' k hk) h2
  · have : k = k' := by
      rcases Nat.lt_trichotomy k k' with q | q | q
      · exact absurd (h1' k q) h2
      · exact q
      · exact absurd (h1 k' q) h2'
    rw [this]
def CertSays (F : List Ds) (b : List Int) (r : Int × Int) : Prop :=
  match decF b with
  | none => r = (4, 0)
  | some L => if L.length ≠ F.length + 1 then r = (4, 0) else if wiB false (cE (atL L 0)) (fun _ => 0) (cM (atL L 0)) = false then r = (5, 0) else CkSays (chkP F L) F.length r

set_option maxRecDepth 100000 in
set_option maxHeartbeats 800000 in
theorem o_origin : Calls Tryz.prog 52 #[] w fun e w' => e = .returned (.agg (oc false fun _ => 0)) ∧ Below w.heap.size w w' := by
  obtain ⟨M0, hM0⟩ : ∃ M0 : Nat → Int, M0 = fun _ => 0 := ⟨_, rfl⟩
  have hz : ∀ w, (zeroValue tO).run Tryz.prog w = .ok (.agg (oc false M0)) w := by rw [hM0]; exact o_zero
  have HFr : Hid (∃ w2, (storeCells ⟨w.heap.size, 0, none⟩ (oc false M0).toList).run Tryz.prog (w.alloc (.cells (oc false M0) tO)) = .ok () w2 ∧ OAt w2 w.heap.size false M0 ∧ Below w.heap.size w w2 ∧ w.heap.size < w2.heap.size) := by rw [hM0]; exact o_fresh w false _
  have ho3 : (oc false M0).size = 65 := oc_size _ _
  have ho4 : ¬ oc false M0 = #[] := fun h => by have := congrArg Array.size h; rw [oc_size] at this; simp at this
  rw [← hM0]
  clear hM0
  obtain ⟨w3, hst3, hat3, hb3, hs3⟩ := HFr.out
  have H3 : Hid (OAt w3 w.heap.size false M0 ∧ Below w.heap.size w w3) := ⟨hat3, hb3⟩
  clear hat3 hb3
  go_enter Tryz.func52, Tryz.ntmps52
  go_wp2_with fail
  try simp only [Exit.inBlock, Exit.then]
  refine bodyPost_ret (results_o rfl _ rfl H3.out.1) rfl ?_
  exact ⟨rfl, H3.out.2⟩

/-- What stands while the points are checked. -/
def KB (w wr : World) (g : Nat) (L : List (Option (List Int))) (pv : Value) : Prop := At wr w.heap.size #[pv] tPr ∧ ORow wr g L ∧ Below w.heap.size w wr
theorem KB.keep {wr w' : World} {g : Nat} {L : List (Option (List Int))} {pv : Value} (h : KB w wr g L pv) (hb : Below wr.heap.size wr w') : KB w w' g L pv :=
  ⟨h.1.keep hb h.1.lt, h.2.1.keep hb, h.2.2.trans (hb.mono h.2.2.size)⟩
set_option maxRecDepth 100000 in
set_option maxHeartbeats 6400000 in
theorem c_check {cap : Nat} {ao : Option Addr} {F : List Ds} (hG : Glob w) (hs : s.size ≤ 9223372036854775807) (hl : F.length ≤ 20)
    (hp : ∀ w1, Below w.heap.size w w1 → ∀ g L, ORow w1 g L → (∀ r, r ∈ L → okp r) → ∀ k, k < F.length → Calls Tryz.prog 91 #[.agg #[.slice ao F.length cap], .slice (some ⟨g, 0, none⟩) L.length 21, .int .i64 (k : Int)] w1 fun e w' => e = .returned (.int .i64 (chkP F L k)) ∧ Below w1.heap.size w1 w') :
    Calls Tryz.prog 57 #[.agg #[.slice ao F.length cap], .string s] w fun e w' => ∃ a b, e = .returned (.tuple #[.int .i64 a, .int .i64 b]) ∧ CertSays F (bytesOf s) (a, b) ∧ Below w.heap.size w w' := by
  obtain ⟨M0, hM0⟩ : ∃ M0 : Nat → Int, M0 = fun _ => 0 := ⟨_, rfl⟩
  have hz : ∀ w, (zeroValue tO).run Tryz.prog w = .ok (.agg (oc false M0)) w := by rw [hM0]; exact o_zero
  have HFr : Hid (∀ (w1 : World) e M, ∃ w2, (storeCells ⟨w1.heap.size, 0, none⟩ (oc e M).toList).run Tryz.prog (w1.alloc (.cells (oc false M0) tO)) = .ok () w2 ∧ OAt w2 w1.heap.size e M ∧ Below w1.heap.size w1 w2 ∧ w1.heap.size < w2.heap.size) := by rw [hM0]; exact fun w1 e M => o_fresh w1 e M
  have HOr : Hid (∀ w1, Calls Tryz.prog 52 #[] w1 fun e w' => e = .returned (.agg (oc false M0)) ∧ Below w1.heap.size w1 w') := by rw [hM0]; exact fun w1 => o_origin
  have HM0 : Hid (M0 = fun _ => 0) := hM0
  have ho3 : (oc false M0).size = 65 := oc_size _ _
  have ho4 : ¬ oc false M0 = #[] := fun h => by have := congrArg Array.size h; rw [oc_size] at this; simp at this
  clear hM0
  have HRc : Hid (∀ w1, Below w.heap.size w w1 → Calls Tryz.prog 89 #[.string s] w1 (CLOut w1 s)) := fun w1 hb => c_readClaims (hG.keep hb hG.size) hs
  have HP : Hid (∀ w1, Below w.heap.size w w1 → ∀ g L, ORow w1 g L → (∀ r, r ∈ L → okp r) → ∀ k, k < F.length → Calls Tryz.prog 91 #[.agg #[.slice ao F.length cap], .slice (some ⟨g, 0, none⟩) L.length 21, .int .i64 (k : Int)] w1 fun e w' => e = .returned (.int .i64 (chkP F L k)) ∧ Below w1.heap.size w1 w') := hp
  obtain ⟨n, hn⟩ : ∃ n, n = F.length := ⟨_, rfl⟩
  have HN : Hid (n = F.length) := hn
  have hln : n ≤ 20 := by omega
  rw [← hn]
  clear hp hG hn
  go_enter Tryz.func57, Tryz.ntmps57
  go_wp2_with fail
  refine (HRc.out _ ((Below.refl _ _).alloc (Nat.le_refl _) _)).mono ?_
  rintro e w1 ⟨hb1, ⟨hd, rfl⟩ | ⟨L, g, hd, rfl, hg, hrow⟩⟩
  · have HB : Hid (Below w.heap.size w w1) := ((Below.refl _ _).alloc (Nat.le_refl _) _).trans (hb1.mono (by simp))
    have HR : Hid (CertSays F (bytesOf s) (4, 0)) := by show CertSays _ _ _; unfold CertSays; rw [hd]
    clear hb1 hd
    go_wp2_with fail
    go_ret2
    exact ⟨_, _, rfl, HR.out, HB.out⟩
  · have HOk : Hid (∀ r, r ∈ L → okp r) := (dec_ok (bys s) hd).2.2.2
    have hL21 := (dec_ok (bys s) hd).2.2.1
    have H1 : Hid (KB w w1 g L (.slice ao n cap)) := ⟨At.keep (At.new w _ _) hb1 (by simp), hrow, ((Below.refl _ _).alloc (Nat.le_refl _) _).trans (hb1.mono (by simp))⟩
    have HS : Hid (∀ r, (L.length ≠ n + 1 → r = (4, 0)) → (L.length = n + 1 → if wiB false (cE (atL L 0)) M0 (cM (atL L 0)) = false then r = (5, 0) else CkSays (chkP F L) n r) → CertSays F (bytesOf s) r) := by
      intro r h1 h2
      rw [HM0.out] at h2
      unfold CertSays
      rw [hd, ← HN.out]
      show if _ then _ else _
      split
      · rename_i q; exact h1 q
      · rename_i q; exact h2 (by simpa using q)
    have HEnd : Hid (∀ w1, Calls Tryz.prog 67 #[.agg #[.slice ao n cap]] w1 fun e w' => e = .returned (.int .i64 (n : Int)) ∧ Below w1.heap.size w1 w') := fun w1 => (d_end ao n cap w1 hln).mono fun e w' ⟨h1, o, h2⟩ => ⟨h1, by rw [h2]; exact (Below.refl _ _).alloc (Nat.le_refl _) _⟩
    have c0 : w1.cell? ⟨w.heap.size, 0, none⟩ = some (.slice ao n cap) := H1.out.1.cell 0
    clear hb1 hd hrow hg HRc
    go_wp2_with fail
    refine (HEnd.out w1).mono ?_
    rintro e w2 ⟨rfl, hb2⟩
    have H2 : Hid (KB w w2 g L (.slice ao n cap)) := H1.out.keep hb2
    clear hb2 c0 H1
    by_cases hlen : L.length = n + 1
    · have hli : (L.length : Int) = (n : Int) + 1 := by omega
      have HS2 : Hid (∀ r, (if wiB false (cE (atL L 0)) M0 (cM (atL L 0)) = false then r = (5, 0) else CkSays (chkP F L) n r) → CertSays F (bytesOf s) r) := fun r h => HS.out r (fun q => absurd hlen q) (fun _ => h)
      have HCl := fun w3 (h : KB w w3 g L (.slice ao n cap)) => c_claimAt h.2.1 (0 : Int)
      have HCl : Hid (∀ w3, KB w w3 g L (.slice ao n cap) → Calls Tryz.prog 90 #[.slice (some ⟨g, 0, none⟩) L.length 21, .int .i64 0] w3 fun e w' => e = .returned (.agg (oc (cE (atL L 0)) (cM (atL L 0)))) ∧ Below w3.heap.size w3 w') := HCl
      have HPt : Hid (∀ w3, KB w w3 g L (.slice ao n cap) → ∀ k, k < n → Calls Tryz.prog 91 #[.agg #[.slice ao n cap], .slice (some ⟨g, 0, none⟩) L.length 21, .int .i64 (k : Int)] w3 fun e w' => e = .returned (.int .i64 (chkP F L k)) ∧ Below w3.heap.size w3 w') := fun w3 h k hk => by
        have := HP.out w3 h.2.2 g L h.2.1 HOk.out k (by rw [← HN.out]; exact hk)
        rw [← HN.out] at this
        exact this
      clear HP HS HOk hli
      generalize L.length = m at *
      subst hlen
      generalize cE (atL L 0) = e1 at *
      generalize cM (atL L 0) = M1 at *
      generalize chkP F L = f at *
      go_wp2_with fail
      refine (HCl.out w2 H2.out).mono ?_
      rintro e w3 ⟨rfl, hb3⟩
      obtain ⟨w4, hst4, hat4, hb4, hs4⟩ := HFr.out w3 e1 M1
      have H4 : Hid (OAt w4 w3.heap.size e1 M1 ∧ KB w w4 g L (.slice ao n cap)) := ⟨hat4, (H2.out.keep hb3).keep hb4⟩
      clear hb3 hat4 hb4
      go_wp2_with fail
      refine (HOr.out w4).mono ?_
      rintro e w5 ⟨rfl, hb5⟩
      obtain ⟨w6, hst6, hat6, hb6, hs6⟩ := HFr.out w5 false M0
      have H6 : Hid (OAt w6 w5.heap.size false M0 ∧ OAt w6 w3.heap.size e1 M1 ∧ KB w w6 g L (.slice ao n cap)) := by
        have h9 : OAt w5 w3.heap.size e1 M1 := At.keep H4.out.1 hb5 (At.lt H4.out.1)
        exact ⟨hat6, At.keep h9 hb6 (At.lt h9), (H4.out.2.keep hb5).keep hb6⟩
      clear hb5 hat6 hb6
      go_wp2_with (first | refine wpList_load_o rfl (.tmp 9) rfl rfl H6.out.1 ?_ | refine wpList_load_o rfl (.tmp 8) rfl rfl H6.out.2.1 ?_)
      refine (o_within (w := w6) (e1 := false) (e2 := e1) (M := M0) (N := M1)).mono ?_
      rintro e w7 ⟨rfl, hb7⟩
      have H7 : Hid (KB w w7 g L (.slice ao n cap)) := H6.out.2.2.keep hb7
      clear hb7 H6
      cases hwi : wiB false e1 M0 M1 with
      | false =>
        have HR : Hid (CertSays F (bytesOf s) (5, 0)) := HS2.out _ (by rw [if_pos hwi])
        clear hwi
        go_wp2_with fail
        go_ret2
        exact ⟨_, _, rfl, HR.out, H7.out.2.2⟩
      | true =>
        have HS3 : Hid (∀ r, CkSays f n r → CertSays F (bytesOf s) r) := fun r h => HS2.out r (by rw [if_neg (by rw [hwi]; decide)]; exact h)
        clear hwi HS2
        go_wp2_with fail
        go_loopw [7, 10] (fun _ iv wr => ∃ i : Nat, i ≤ n ∧ iv = .int .i64 (i : Int) ∧ Hid ((∀ j, j < i → f j = 0) ∧ KB w wr g L (.slice ao n cap))) (fun _ iv _ => n - (intOf iv).toNat)
        case atStart => exact ⟨0, by omega, rfl, fun j hj => by omega, H7.out⟩
        case round =>
          obtain ⟨i, hi, rfl, HR⟩ := hrel
          have c0 : wr.cell? ⟨w.heap.size, 0, none⟩ = some (.slice ao n cap) := HR.out.2.1.cell 0
          go_wp2_with fail
          refine (HEnd.out wr).mono ?_
          rintro e w8 ⟨rfl, hb8⟩
          have H8 : Hid (KB w w8 g L (.slice ao n cap)) := HR.out.2.keep hb8
          clear hb8 c0
          by_cases hin : i < n
          · have hii : (i : Int) < (n : Int) := by omega
            have c0 : w8.cell? ⟨w.heap.size, 0, none⟩ = some (.slice ao n cap) := H8.out.1.cell 0
            have hpt := HPt.out w8 H8.out i hin
            go_wp2_with fail
            refine hpt.mono ?_
            rintro e w9 ⟨rfl, hb9⟩
            have H9 : Hid (KB w w9 g L (.slice ao n cap)) := H8.out.keep hb9
            clear hb9 c0 hpt
            by_cases h0 : f i = 0
            · have HA : Hid (∀ j, j < i + 1 → f j = 0) := fun j hj => by
                rcases Nat.lt_or_ge j i with q | q
                · exact HR.out.1 j q
                · rw [show j = i by omega]; exact h0
              rw [h0]
              clear h0
              go_wp2_with fail
              go_roundw
              case rel => exact ⟨i + 1, by omega, by go_num, HA.out, H9.out⟩
              case measure => simp [intOf]; omega
            · have HA : Hid (CertSays F (bytesOf s) (f i, (i : Int))) := HS3.out _ (.inr ⟨i, hin, HR.out.1, h0, rfl⟩)
              go_wp2_with fail
              go_ret2
              exact ⟨_, _, rfl, HA.out, H9.out.2.2⟩
          · have hie : i = n := by omega
            subst hie
            have HA : Hid (CertSays F (bytesOf s) (0, 0)) := HS3.out _ (.inl ⟨HR.out.1, rfl⟩)
            go_wp2_with fail
            go_ret2
            exact ⟨_, _, rfl, HA.out, H8.out.2.2⟩
    · have hli : ¬ (L.length : Int) = (n : Int) + 1 := by omega
      have HR : Hid (CertSays F (bytesOf s) (4, 0)) := HS.out _ (fun _ => rfl) (fun q => absurd q hlen)
      clear hlen
      go_wp2_with fail
      go_ret2
      exact ⟨_, _, rfl, HR.out, H2.out.2.2⟩

end Go.Proofs.YtffajooegiempaaGreatDoor

namespace Go.Proofs.YtffajooegiempaaGreatDoor
open Go.RowKit
variable {w : World} {s : ByteArray}

theorem c_rng {r : Option (List Int)} (h : okp r) : ∀ j, j < 64 → -20000000000 ≤ cM r j ∧ cM r j ≤ 1000000 := by
  cases r with
  | none => intro j _; show -20000000000 ≤ (0 : Int) ∧ (0 : Int) ≤ 1000000; omega
  | some l => exact ov_rng (okp_ok h)
theorem c_sh {r : Option (List Int)} (h : okp r) (he : cE r = false) : Sh (cM r) := by
  cases r with
  | none => cases he
  | some l => exact (ov_tq (okp_ok h) he).sh
theorem atL_ok {L : List (Option (List Int))} (h : ∀ r, r ∈ L → okp r) (pt : Int) : okp (atL L pt) := by
  unfold atL
  split
  · intro l e; cases e
  · exact getD_ok h _
/-- A point's check, of a program that was read. -/
theorem c_checkPoint_of {l : List Int} {m : Rd} {F : List Ds} {g0 cap : Nat} (hp : progOf l = some m) (hW : Whole F m.st) (hl : F.length ≤ 20) (hpar : ∀ (k : Nat) (x : Ds), F[k]? = some x → -1 ≤ x.parent ∧ x.parent < (k : Int)) (hP : PRow w g0 F) {g : Nat} {L : List (Option (List Int))} (hO : ORow w g L) (hok : ∀ r, r ∈ L → okp r) {k : Nat} (hk : k < F.length) :
    Calls Tryz.prog 91 #[.agg #[.slice (some ⟨g0, 0, none⟩) F.length cap], .slice (some ⟨g, 0, none⟩) L.length 21, .int .i64 (k : Int)] w fun e w' => e = .returned (.int .i64 (chkP F L k)) ∧ Below w.heap.size w w' := by
  have hD := dsg_of hp hW hk
  have hq := stq_of hp (show k < m.st.length by have := hW.1.len; omega)
  exact c_checkPoint hP hl hpar hk hO hD.1 (by rw [← hD.2.2.1]; exact ⟨hq.var.1, by have := hq.var.2; omega⟩) (c_rng (atL_ok hok _)) (c_sh (atL_ok hok _))

end Go.Proofs.YtffajooegiempaaGreatDoor

namespace Go.Proofs.YtffajooegiempaaGreatDoor
open Go.RowKit
variable {w : World} {C : Nat → Int}

/-- The octagon behind a condition, if it has a state, is closed. -/
theorem at_tc (h : TQ C) {l : List Int} (hl : l.length = 4) (hv : ∀ i, -1 ≤ gAt l i ∧ gAt l i ≤ 1) (h1 : 1 ≤ nz l) (h2 : nz l ≤ 2) {n : Int} (hn : n ≤ 1000) (he : atE false C l n = false) : TC (atM false C l n) := by
  obtain ⟨f, hf, hnf, hgr, hs1, hs2⟩ := grP_form h.tc hl hv h1 h2
  unfold atE at he
  unfold atM
  by_cases q : atS false C l n = true
  · rw [if_pos q]; exact h.tc
  · rw [if_neg q] at he ⊢
    have e : lm C (sd1 l) (sd2 l) n = sb C f n := by rw [hs1, hs2]; rfl
    rw [e] at he ⊢
    exact (sb_raw h.tc (h.top.mono (by decide)) hf hn).tc he
/-- The octagon behind a statement, if it has a state, is closed. -/
theorem po_tc (h : TQ C) {x : Ds} {u : St} (hx : DsG x) (hu : StQ u) (hc : Cor x u) (way : Int) (he : poE false C x way = false) : TC (poM false C x way) := by
  have hk0 := kind_0 hc
  obtain ⟨-, c1, c2, c3, c4⟩ := id hc
  have n := hx.num
  have ht : 0 ≤ x.target ∧ x.target < 4 := by rw [← c1]; exact ⟨hu.var.1, by have := hu.var.2; omega⟩
  unfold poE at he
  unfold poM
  rw [if_neg (by decide)] at he ⊢
  by_cases k0 : x.kind = 0
  · rw [if_pos k0]
    unfold asM
    split
    · exact (bt_tc h.tc h.top (by omega) ⟨by omega, by omega⟩ ⟨by omega, by omega⟩ (by omega)).1
    · split
      · exact (bt_tc h.tc h.top (by omega) ⟨by omega, by omega⟩ ⟨by omega, by omega⟩ (Int.le_refl _)).1
      · exact (ss_tc h.tc h.top (by omega) (sdS_lt x.sg 4 (Nat.le_refl _)).1 ⟨by omega, by omega⟩).1
  · rw [if_neg k0] at he ⊢
    have k61 : ¬ u.kind = 61 := fun z => k0 (hk0.2 z)
    cases ha : x.any with
    | true => rw [if_pos rfl]; exact h.tc
    | false =>
      rw [ha, if_neg (by decide)] at he
      rw [if_neg (by decide)]
      have hz1 : 1 ≤ nz u.sg := (hu.fq.2 k61).resolve_left (by rw [c2, ha]; decide)
      rw [c3] at hz1
      have g1 : x.sg.length = 4 := by rw [← c3]; exact hu.g.len
      have g2 : nz x.sg ≤ 2 := by rw [← c3]; exact hu.g.nz
      by_cases w0 : way = 0
      · rw [if_pos w0] at he ⊢
        exact at_tc h g1 hx.sg hz1 g2 (by omega) he
      · rw [if_neg w0] at he ⊢
        exact at_tc h (ngL_len _) (ngL_rng hx.sg) (by rw [nz_ngL g1]; exact hz1) (by rw [nz_ngL g1]; exact g2) (by omega) he
theorem c_tq {r : Option (List Int)} (h : okp r) (he : cE r = false) : TQ (cM r) := by
  cases r with
  | none => cases he
  | some l => exact ov_tq (okp_ok h) he

/-- Does each state stand in what is claimed: by the document. -/
def insB (e : Bool) (M : Nat → Int) : Option (List Int) → Bool
  | none => e
  | some p => e || leF (bd M) (fun f => p.getD f 0) 32
theorem ins_same {e : Bool} {M : Nat → Int} (hT : e = false → TC M) {r : Option (List Int)} (hr : okp r) : wiB e (cE r) M (cM r) = insB e M r := by
  cases r with
  | none => cases e <;> rfl
  | some p =>
    have hp := okp_ok hr
    unfold insB wiB
    show (if (e || ovE p) = true then e else leF M (ovM p) 64) = _
    cases e with
    | true => rfl
    | false =>
      have hC := hT rfl
      have up : leF (bd M) (fun f => p.getD f 0) 32 = true → Le M (ovM p) := fun h => hC.below_sharp (lay_above hC hp (leF_iff.1 h)) (lay_top hp)
      have dn : Le M (ovM p) → leF (bd M) (fun f => p.getD f 0) 32 = true := fun h => leF_iff.2 (bd_below hp (fun a ha => Int.le_trans (h a ha) (sharp_le _ a)))
      cases hq : ovE p with
      | true =>
        show false = (false || leF (bd M) (fun f => p.getD f 0) 32)
        cases hl : leF (bd M) (fun f => p.getD f 0) 32 with
        | false => rfl
        | true =>
          exfalso
          have h := up hl
          have : conF (ovM p) 8 = false := conF_no (fun i hi => by
            have a := h (i * 8 + opp i) (by have := opp_lt hi; omega)
            rw [hC.zero i hi] at a
            exact a)
          rw [show conF (ovM p) 8 = ovE p from rfl, hq] at this
          cases this
      | false =>
        show leF M (ovM p) 64 = (false || leF (bd M) (fun f => p.getD f 0) 32)
        cases hl : leF (bd M) (fun f => p.getD f 0) 32 with
        | true => exact leF_iff.2 (up hl)
        | false =>
          cases hm : leF M (ovM p) 64 with
          | false => rfl
          | true => rw [dn (leF_iff.1 hm)] at hl; cases hl
theorem tc_zero : TC (fun _ => 0) := by
  refine ⟨?_, fun _ _ => rfl, fun _ _ => .inr rfl, fun _ _ _ _ _ _ => ⟨by unfold NB; decide, by decide⟩, fun _ _ _ _ => rfl, fun _ _ => .inr (by decide)⟩
  intro k _ i j _ _
  exact .inr (.inr ⟨show (0 : Int) ≠ NB by decide, show (0 : Int) ≤ 0 + 0 by decide⟩)
theorem bd_zero (f : Nat) : bd (fun _ => 0) f = 0 := by
  unfold bd
  split <;> rfl
/-- Has what is claimed the first state: by the document. -/
def staB : Option (List Int) → Bool
  | none => false
  | some p => leF (fun _ => 0) (fun f => p.getD f 0) 32
theorem sta_same {r : Option (List Int)} (hr : okp r) : wiB false (cE r) (fun _ => 0) (cM r) = staB r := by
  rw [ins_same (fun _ => tc_zero) hr]
  cases r with
  | none => rfl
  | some p =>
    show (false || leF (bd fun _ => 0) (fun f => p.getD f 0) 32) = _
    rw [show bd (fun _ => 0) = fun _ => 0 from funext bd_zero]
    rfl

end Go.Proofs.YtffajooegiempaaGreatDoor

/- What the search claims stays small. No Go in here. -/
namespace Go.Proofs.YtffajooegiempaaGreatDoor
open Go.RowKit
variable {M N : Nat → Int} {F : List Ds}

/-- A closed octagon whose variables are from -999 to 999. -/
structure Wn (M : Nat → Int) : Prop where
  tc : TC M
  box : ∀ i, i < 8 → M (i * 8 + i) ≤ 1998
theorem Wn.ne (h : Wn M) {i : Nat} (hi : i < 8) : M (i * 8 + i) ≠ NB := by have := h.box i hi; unfold NB; omega
theorem Wn.up (h : Wn M) {i j : Nat} (hi : i < 8) (hj : j < 8) : M (i * 8 + j) ≠ NB ∧ M (i * 8 + j) ≤ 1998 := by
  obtain ⟨a, b⟩ := h.tc.half i j hi hj (h.ne hi) (h.ne hj)
  have := h.box i hi
  have := h.box j hj
  exact ⟨a, by omega⟩
theorem Wn.lo (h : Wn M) {i j : Nat} (hi : i < 8) (hj : j < 8) : -1998 ≤ M (i * 8 + j) := by
  have t := h.tc.tri (opp j) (opp_lt hj) i (opp i) hi (opp_lt hi)
  rw [h.tc.zero i hi, opp_opp j hj] at t
  have a := h.up hi hj
  have b := h.up (opp_lt hj) (opp_lt hi)
  rcases t with q | q | q
  · exact absurd q a.1
  · exact absurd q b.1
  · omega
theorem Wn.all (h : Wn M) {k : Nat} (hk : k < 64) : M k ≠ NB ∧ -1998 ≤ M k ∧ M k ≤ 1998 := by
  have e : k = k / 8 * 8 + k % 8 := by omega
  rw [e]
  have a := h.up (i := k / 8) (j := k % 8) (by omega) (by omega)
  exact ⟨a.1, h.lo (by omega) (by omega), a.2⟩
theorem Wn.tq (h : Wn M) : TQ M := ⟨h.tc, fun k hk => .inr (by have := h.all hk; omega), fun k hk => by have := h.all hk; omega⟩
theorem wn_zero : Wn (fun _ => 0) := ⟨tc_zero, fun _ _ => by show (0 : Int) ≤ 1998; omega⟩
theorem jF_mx (M N : Nat → Int) {a : Nat} (ha : a < 64) : (jF M N 64 a = M a ∨ jF M N 64 a = N a) ∧ M a ≤ jF M N 64 a ∧ N a ≤ jF M N 64 a := by
  rw [jF_eq]
  by_cases q : a < 64 ∧ M a < N a
  · rw [if_pos q]; exact ⟨.inr rfl, by omega, Int.le_refl _⟩
  · rw [if_neg q]; exact ⟨.inl rfl, Int.le_refl _, by omega⟩
theorem wn_join (h : Wn M) (k : Wn N) : Wn (jF M N 64) := by
  have fin : ∀ {a : Nat}, a < 64 → jF M N 64 a ≠ NB ∧ jF M N 64 a ≤ 1998 := fun {a} ha => by
    rcases (jF_mx M N ha).1 with e | e <;> rw [e]
    · exact ⟨(h.all ha).1, (h.all ha).2.2⟩
    · exact ⟨(k.all ha).1, (k.all ha).2.2⟩
  refine ⟨⟨?_, ?_, ?_, ?_, ?_, ?_⟩, fun i hi => (fin (by omega)).2⟩
  · intro s hs i j hi hj
    have o1 := opp_lt hs
    have a1 := jF_mx M N (a := i * 8 + j) (by omega)
    have a2 := jF_mx M N (a := i * 8 + opp s) (by omega)
    have a3 := jF_mx M N (a := s * 8 + j) (by omega)
    refine .inr (.inr ⟨(fin (by omega)).1, ?_⟩)
    have t1 := h.tc.tri s hs i j hi hj
    have t2 := k.tc.tri s hs i j hi hj
    have n1 := h.up hi o1
    have n2 := h.up hs hj
    have n3 := k.up hi o1
    have n4 := k.up hs hj
    rcases t1 with q | q | q
    · exact absurd q n1.1
    · exact absurd q n2.1
    · rcases t2 with r | r | r
      · exact absurd r n3.1
      · exact absurd r n4.1
      · rcases a1.1 with e | e <;> rw [e] <;> omega
  · intro i hi
    have o := opp_lt hi
    rcases (jF_mx M N (a := i * 8 + opp i) (by omega)).1 with e | e <;> rw [e]
    · exact h.tc.zero i hi
    · exact k.tc.zero i hi
  · intro i hi
    rcases (jF_mx M N (a := i * 8 + i) (by omega)).1 with e | e <;> rw [e]
    · exact h.tc.even i hi
    · exact k.tc.even i hi
  · intro i j hi hj _ _
    refine ⟨(fin (by omega)).1, ?_⟩
    have a1 := jF_mx M N (a := i * 8 + j) (by omega)
    have a2 := jF_mx M N (a := i * 8 + i) (by omega)
    have a3 := jF_mx M N (a := j * 8 + j) (by omega)
    have t1 := (h.tc.half i j hi hj (h.ne hi) (h.ne hj)).2
    have t2 := (k.tc.half i j hi hj (k.ne hi) (k.ne hj)).2
    rcases a1.1 with e | e <;> rw [e] <;> omega
  · intro i j hi hj
    rw [jF_eq, jF_eq, h.tc.sym i j hi hj, k.tc.sym i j hi hj]
    by_cases q : M (j * 8 + i) < N (j * 8 + i)
    · rw [if_pos ⟨by omega, q⟩, if_pos ⟨by omega, q⟩]
    · rw [if_neg (fun z => q z.2), if_neg (fun z => q z.2)]
  · intro a ha
    have := fin ha
    exact .inr (by omega)

/-- The sides of one variable, turned: a table of all sign lists. -/
def tabN (l : List Int) : Bool := decide (1 < nz l) || (if sd1 l = sd2 l then decide (sd1 (ngL l) = opp (sd1 l)) && decide (sd2 (ngL l) = opp (sd1 l)) else true)
theorem tabN_all : (sg3.all fun a => sg3.all fun b => sg3.all fun c => sg3.all fun d => tabN [a, b, c, d]) = true := by decide +kernel
theorem ng_sd {l : List Int} (hl : l.length = 4) (h : ∀ i, -1 ≤ gAt l i ∧ gAt l i ≤ 1) (h1 : nz l ≤ 1) (he : sd1 l = sd2 l) : sd1 (ngL l) = opp (sd1 l) ∧ sd2 (ngL l) = opp (sd1 l) := by
  have t : tabN l = true := by
    obtain ⟨a, b, c, d, rfl⟩ := four_of hl
    have t := tabN_all
    simp only [List.all_eq_true] at t
    exact t a (mem_sg3 (h 0)) b (mem_sg3 (h 1)) c (mem_sg3 (h 2)) d (mem_sg3 (h 3))
  unfold tabN at t
  rw [decide_eq_false (by omega : ¬ 1 < nz l), Bool.false_or, if_pos he, Bool.and_eq_true] at t
  exact ⟨of_decide_eq_true t.1, of_decide_eq_true t.2⟩
theorem gr_diag (h : Wn M) {i : Nat} (hi : i < 8) : 2 * mo M i i = M (i * 8 + i) := by
  exact ((mo_tc h.tc hi).2 (h.ne hi)).1
/-- Behind a statement where nothing goes wrong. -/
theorem wn_post (h : Wn M) {x : Ds} (hx : DQ x) (hs : sfP false M x = true) (way : Int) (he : poE false M x way = false) : Wn (poM false M x way) := by
  have n := hx.g.num
  have ht := hx.tg
  have hT := h.tq
  unfold sfP at hs
  unfold poE at he
  unfold poM
  rw [if_neg (by decide)] at hs he ⊢
  by_cases k0 : x.kind = 0
  · rw [if_pos k0] at hs ⊢
    unfold asM
    have bt : ∀ {lo hi : Int}, -999 ≤ lo → hi ≤ 999 → lo ≤ hi → Wn (sbT M x.target.toNat lo hi) := fun {lo hi} h1 h2 h3 => by
      have hlo : -999 ≤ lo ∧ lo ≤ 999 := ⟨h1, by omega⟩
      have hhi : -999 ≤ hi ∧ hi ≤ 999 := ⟨by omega, h2⟩
      refine ⟨(bt_tc h.tc hT.top (by omega) hlo hhi h3).1, fun i hi' => ?_⟩
      rw [sbT_at M (by omega) hlo hhi hi' hi']
      unfold sbG
      by_cases ti : isT x.target.toNat i
      · rw [if_pos ti, if_pos ti, if_pos rfl]
        split <;> omega
      · rw [if_neg ti, if_neg ti]
        exact h.box i hi'
    by_cases a : x.any = true
    · rw [if_pos a]
      exact bt (by omega) (by omega) (by omega)
    · rw [if_neg a]
      rw [show x.any = false by simpa using a, Bool.false_or] at hs
      unfold ftB at hs
      obtain ⟨g1, g2, g3, g4⟩ := of_decide_eq_true hs
      by_cases q : sd1 x.sg = opp (sd2 x.sg)
      · rw [if_pos q]
        exact bt (by omega) (by omega) (Int.le_refl _)
      · rw [if_neg q]
        have hf := (sdS_lt x.sg 4 (Nat.le_refl _)).1
        have e := (one_sd hx.len hx.g.sg (hx.fa k0)).resolve_right q
        have ng := ng_sd hx.len hx.g.sg (hx.fa k0) e
        have hf' : sd1 x.sg < 8 := hf
        refine ⟨(ss_tc h.tc hT.top (by omega) hf ⟨by omega, by omega⟩).1, fun i hi => ?_⟩
        rw [ss_at M _ _ _ hi hi]
        have u1 : grP M x.sg = mo M (sd1 x.sg) (sd1 x.sg) := by unfold grP; rw [← e]
        have u2 : grP M (ngL x.sg) = mo M (opp (sd1 x.sg)) (opp (sd1 x.sg)) := by unfold grP; rw [ng.1, ng.2]
        have d1 := gr_diag h hf'
        have d2 := gr_diag h (opp_lt hf')
        have b0 := h.box i hi
        unfold orgF addF
        by_cases i1 : i = 2 * x.target.toNat
        · rw [if_pos i1, if_pos i1]
          unfold pl
          rw [if_neg (fun z => z.elim (h.ne hf') (fun q => by unfold NB at q; omega))]
          rw [u1] at g3
          omega
        · rw [if_neg i1, if_neg i1]
          by_cases i2 : i = 2 * x.target.toNat + 1
          · rw [if_pos i2, if_pos i2]
            unfold pl
            rw [if_neg (fun z => z.elim (h.ne (opp_lt hf')) (fun q => by unfold NB at q; omega))]
            rw [u2] at g4
            omega
          · rw [if_neg i2, if_neg i2]
            unfold pl
            rw [if_neg (fun z => z.elim (h.ne hi) (fun q => by unfold NB at q; omega))]
            omega
  · rw [if_neg k0] at hs he ⊢
    cases ha : x.any with
    | true => rw [if_pos rfl]; exact h
    | false =>
      rw [ha, if_neg (by decide)] at he
      rw [if_neg (by decide)]
      have hz1 : 1 ≤ nz x.sg := (hx.fc k0).resolve_left (by rw [ha]; decide)
      have fin : ∀ {l : List Int} {c : Int}, l.length = 4 → (∀ i, -1 ≤ gAt l i ∧ gAt l i ≤ 1) → 1 ≤ nz l → nz l ≤ 2 → c ≤ 1000 → atE false M l c = false → Wn (atM false M l c) := fun {l c} a1 a2 a3 a4 a5 a6 => by
        refine ⟨at_tc hT a1 a2 a3 a4 a5 a6, fun i hi => ?_⟩
        obtain ⟨f, hf, hnf, hgr, hs1, hs2⟩ := grP_form h.tc a1 a2 a3 a4
        unfold atM
        by_cases q : atS false M l c = true
        · rw [if_pos q]; exact h.box i hi
        · rw [if_neg q]
          have e : lm M (sd1 l) (sd2 l) c = sb M f c := by rw [hs1, hs2]; rfl
          rw [e]
          have s1 := sharp_le (sb M f c) (i * 8 + i)
          have hc : ¬ grP M l ≤ c := by
            unfold atS at q
            simpa using q
          rw [hgr] at hc
          rw [sb_at M hf (by unfold NB; omega) hi hi] at s1
          have b0 := h.box i hi
          split at s1
          · rename_i z
            obtain ⟨n1, n2, n3, n4, n5, n6⟩ := nf_fs f hf
            have f8 : f < 8 := by
              rcases Nat.lt_or_ge f 8 with r | r
              · exact r
              · exact absurd (show fs f = ss f by omega) (fs_hi f hf r)
            rw [if_pos f8] at s1
            have hb : bd M f = mo M f f := by
              obtain ⟨q1, q2⟩ := fs_lo f f8
              unfold bd mo
              rw [q1, q2]
            have hd := gr_diag h f8
            have hif : i = f := by
              obtain ⟨q1, q2⟩ := fs_lo f f8
              omega
            rw [hb] at hc
            rw [← hif] at hc hd
            omega
          · omega
      by_cases w0 : way = 0
      · rw [if_pos w0] at he ⊢
        exact fin hx.len hx.g.sg hz1 hx.nz2 (by omega) he
      · rw [if_neg w0] at he ⊢
        exact fin (ngL_len _) (ngL_rng hx.g.sg) (by rw [nz_ngL hx.len]; exact hz1) (by rw [nz_ngL hx.len]; exact hx.nz2) (by omega) he

/-- What a point claims. -/
def PlOk (p : Pl) : Prop := (p.e = false ∧ Wn p.M) ∨ (p.e = true ∧ p.M = fun _ => 0)
def GoodS (s : SS) : Prop := ∀ i, PlOk (s.1.getD i p0)
theorem PlOk.p0 : PlOk p0 := .inr ⟨rfl, rfl⟩
theorem PlOk.rg {p : Pl} (h : PlOk p) : RgP p := by
  rcases h with ⟨h1, h2⟩ | ⟨h1, h2⟩
  · exact ⟨fun j hj => by have := h2.all hj; omega, fun _ => h2.tq.sh⟩
  · exact ⟨fun j _ => by rw [h2]; show -20000000000 ≤ (0 : Int) ∧ (0 : Int) ≤ 1000000; omega, fun q => by rw [h1] at q; cases q⟩
theorem PlOk.sm {p : Pl} (h : PlOk p) : Sm p.M := fun k hk => by have := h.rg.1 k hk; omega
theorem good_set {s : SS} (h : GoodS s) (k : Nat) {p : Pl} (hp : PlOk p) (b : Bool) : GoodS (s.1.set k p, b) := by
  intro i
  show PlOk ((s.1.set k p).getD i Go.Proofs.YtffajooegiempaaGreatDoor.p0)
  rcases Nat.lt_or_ge k s.1.length with q | q
  · rw [plset_at q]
    split
    · exact hp
    · exact h i
  · rw [List.set_eq_of_length_le q]; exact h i
theorem clm_good {s : SS} (h : GoodS s) (pt : Int) {e : Bool} {M : Nat → Int} (hM : e = false → Wn M) : GoodS (clmS s pt e M) := by
  unfold clmS
  split
  · exact h
  · split
    · exact h
    · rename_i q
      have he : e = false := by
        cases e with
        | false => rfl
        | true => exact absurd rfl q
      have hw := hM he
      refine good_set h _ ?_ true
      subst he
      rcases h pt.toNat with ⟨h1, h2⟩ | ⟨h1, h2⟩
      · refine .inl ⟨?_, ?_⟩
        · show joE _ false = false; rw [h1]; rfl
        · show Wn (joM _ false _ M); rw [h1]; exact wn_join h2 hw
      · refine .inl ⟨?_, ?_⟩
        · show joE _ false = false; rw [h1]; rfl
        · show Wn (joM _ false _ M); rw [h1]; exact hw
theorem wys_good {s : SS} (h : GoodS s) {k : Nat} (hx : DQ (F.getD k (newDs 0 0))) {e : Bool} {M : Nat → Int} (hM : e = false → Wn M) (hs : sfP e M (F.getD k (newDs 0 0)) = true) : ∀ n, GoodS (wysS F k e M s n)
  | 0 => h
  | n + 1 => by
    refine clm_good (wys_good h hx hM hs n) _ fun he => ?_
    cases e with
    | true => cases he
    | false => exact wn_post (hM rfl) hx hs n he
theorem flw_good {s : SS} (h : GoodS s) {k : Nat} (hx : k < F.length → DQ (F.getD k (newDs 0 0))) {e : Bool} {M : Nat → Int} (hM : e = false → Wn M) : GoodS (flwS F k e M s) := by
  unfold flwS
  split
  · rename_i q
    split
    · rename_i hs
      exact wys_good h (hx q) hM hs _
    · exact h
  · exact h
theorem pnt_good {s : SS} (h : GoodS s) {k : Nat} (hx : k < F.length → DQ (F.getD k (newDs 0 0))) : GoodS (pntS F k s) := by
  unfold pntS
  split
  · refine flw_good (good_set h _ ?_ _) hx ?_
    · rcases h k with q | q
      · exact .inl q
      · exact .inr q
    · intro he
      rcases h k with q | q
      · exact q.2
      · rw [q.1] at he; cases he
  · exact h
theorem rnd_good {s : SS} (h : GoodS s) (hx : ∀ k, k < F.length → DQ (F.getD k (newDs 0 0))) : ∀ n, GoodS (rndS F s n)
  | 0 => h
  | n + 1 => pnt_good (rnd_good h hx n) (hx n)
theorem it_good (hx : ∀ k, k < F.length → DQ (F.getD k (newDs 0 0))) : ∀ r {s : SS}, GoodS s → GoodS (itS F r s)
  | 0, _, h => h
  | r + 1, s, h => by
    rw [itS]
    split
    · exact it_good hx r (rnd_good h hx _)
    · exact h
theorem it_len (F : List Ds) : ∀ r (s : SS), (itS F r s).1.length = s.1.length
  | 0, _ => rfl
  | r + 1, s => by
    rw [itS]
    split
    · rw [it_len F r, rndS_len]
    · rfl
/-- The search from its beginning. -/
def begS (n : Nat) : SS := clmS (List.replicate (n + 1) p0, false) 0 false (fun _ => 0)
def finS (F : List Ds) : SS := itS F 2685334 (begS F.length)
theorem beg_good (n : Nat) : GoodS (begS n) := by
  refine clm_good (fun i => ?_) _ fun _ => wn_zero
  show PlOk ((List.replicate (n + 1) p0).getD i p0)
  rw [List.getD_eq_getElem?_getD, List.getElem?_replicate]
  split <;> exact PlOk.p0
theorem beg_len (n : Nat) : (begS n).1.length = n + 1 := by unfold begS; rw [clmS_len]; simp
theorem fin_good (hx : ∀ k, k < F.length → DQ (F.getD k (newDs 0 0))) : GoodS (finS F) := it_good hx _ (beg_good _)
theorem fin_len (F : List Ds) : (finS F).1.length = F.length + 1 := by unfold finS; rw [it_len, beg_len]

end Go.Proofs.YtffajooegiempaaGreatDoor

