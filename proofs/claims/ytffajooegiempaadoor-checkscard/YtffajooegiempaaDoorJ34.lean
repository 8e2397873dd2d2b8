import Derived.Test.YtffajooegiempaaDoorJ33
namespace Go.Proofs.YtffajooegiempaaDoor
open Go.RowKit
variable {w : World} {s : ByteArray}

/-- The first point at which something is found, and what. -/
def CkSays (f : Nat → Int) (n : Nat) (r : Int × Int) : Prop := ((∀ j, j < n → f j = 0) ∧ r = (0, 0)) ∨ ∃ k, k < n ∧ (∀ j, j < k → f j = 0) ∧ f k ≠ 0 ∧ r = (f k, (k : Int))
theorem CkSays.one {f : Nat → Int} {n : Nat} {r r' : Int × Int} (h : CkSays f n r) (h' : CkSays f n r') : r = r' := by
  rcases h with ⟨h, rfl⟩ | ⟨k, hk, h1, h2, rfl⟩ <;> rcases h' with ⟨h', rfl⟩ | ⟨k', hk', h1', h2', rfl⟩
  · rfl
  · exact absurd (h k' hk') h2'
  · exact absurd (h' k hk) h2
  · have : k = k' := by
      rcases Nat.lt_trichotomy k k' with q | q | q
      · exact absurd (h1' k q) h2
      · exact q
      · exact absurd (h1 k' q) h2'
    rw [this]
def CertSays (F : List Ds) (b : List Int) (r : Int × Int) : Prop :=
  match decF b with
  | none => r = (4, 0)
  | some L => if L.length ≠ F.length + 1 then r = (4, 0) else if wiB false (cE (atL L 0)) (fun _ => 0) (cM (atL L 0)) = false then r = (5, 0) else CkSays (chkP F L) F.length r

set_option maxRecDepth 100000 in
set_option maxHeartbeats 800000 in
theorem o_origin : Calls Tryd.prog 69 #[] w fun e w' => e = .returned (.agg (oc false fun _ => 0)) ∧ Below w.heap.size w w' := by
  obtain ⟨M0, hM0⟩ : ∃ M0 : Nat → Int, M0 = fun _ => 0 := ⟨_, rfl⟩
  have hz : ∀ w, (zeroValue tO).run Tryd.prog w = .ok (.agg (oc false M0)) w := by rw [hM0]; exact o_zero
  have HFr : Hid (∃ w2, (storeCells ⟨w.heap.size, 0, none⟩ (oc false M0).toList).run Tryd.prog (w.alloc (.cells (oc false M0) tO)) = .ok () w2 ∧ OAt w2 w.heap.size false M0 ∧ Below w.heap.size w w2 ∧ w.heap.size < w2.heap.size) := by rw [hM0]; exact o_fresh w false _
  have ho3 : (oc false M0).size = 65 := oc_size _ _
  have ho4 : ¬ oc false M0 = #[] := fun h => by have := congrArg Array.size h; rw [oc_size] at this; simp at this
  rw [← hM0]
  clear hM0
  obtain ⟨w3, hst3, hat3, hb3, hs3⟩ := HFr.out
  have H3 : Hid (OAt w3 w.heap.size false M0 ∧ Below w.heap.size w w3) := ⟨hat3, hb3⟩
  clear hat3 hb3
  go_enter Tryd.func69, Tryd.ntmps69
  go_wp2_with fail
  try simp only [Exit.inBlock, Exit.then]
  refine bodyPost_ret (results_o rfl _ rfl H3.out.1) rfl ?_
  exact ⟨rfl, H3.out.2⟩

/-- What stands while the points are checked. -/
def KB (w wr : World) (g : Nat) (L : List (Option (List Int))) (pv : Value) : Prop := At wr w.heap.size #[pv] tPr ∧ ORow wr g L ∧ Below w.heap.size w wr
theorem KB.keep {wr w' : World} {g : Nat} {L : List (Option (List Int))} {pv : Value} (h : KB w wr g L pv) (hb : Below wr.heap.size wr w') : KB w w' g L pv :=
  ⟨h.1.keep hb h.1.lt, h.2.1.keep hb, h.2.2.trans (hb.mono h.2.2.size)⟩
set_option maxRecDepth 100000 in
set_option maxHeartbeats 6400000 in
theorem c_check {cap : Nat} {ao : Option Addr} {F : List Ds} (hG : Glob w) (hs : s.size ≤ 9223372036854775807) (hl : F.length ≤ 20)
    (hp : ∀ w1, Below w.heap.size w w1 → ∀ g L, ORow w1 g L → (∀ r, r ∈ L → okp r) → ∀ k, k < F.length → Calls Tryd.prog 70 #[.agg #[.slice ao F.length cap], .slice (some ⟨g, 0, none⟩) L.length 21, .int .i64 (k : Int)] w1 fun e w' => e = .returned (.int .i64 (chkP F L k)) ∧ Below w1.heap.size w1 w') :
    Calls Tryd.prog 42 #[.agg #[.slice ao F.length cap], .string s] w fun e w' => ∃ a b, e = .returned (.tuple #[.int .i64 a, .int .i64 b]) ∧ CertSays F (bytesOf s) (a, b) ∧ Below w.heap.size w w' := by
  obtain ⟨M0, hM0⟩ : ∃ M0 : Nat → Int, M0 = fun _ => 0 := ⟨_, rfl⟩
  have hz : ∀ w, (zeroValue tO).run Tryd.prog w = .ok (.agg (oc false M0)) w := by rw [hM0]; exact o_zero
  have HFr : Hid (∀ (w1 : World) e M, ∃ w2, (storeCells ⟨w1.heap.size, 0, none⟩ (oc e M).toList).run Tryd.prog (w1.alloc (.cells (oc false M0) tO)) = .ok () w2 ∧ OAt w2 w1.heap.size e M ∧ Below w1.heap.size w1 w2 ∧ w1.heap.size < w2.heap.size) := by rw [hM0]; exact fun w1 e M => o_fresh w1 e M
  have HOr : Hid (∀ w1, Calls Tryd.prog 69 #[] w1 fun e w' => e = .returned (.agg (oc false M0)) ∧ Below w1.heap.size w1 w') := by rw [hM0]; exact fun w1 => o_origin
  have HM0 : Hid (M0 = fun _ => 0) := hM0
  have ho3 : (oc false M0).size = 65 := oc_size _ _
  have ho4 : ¬ oc false M0 = #[] := fun h => by have := congrArg Array.size h; rw [oc_size] at this; simp at this
  clear hM0
  have HRc : Hid (∀ w1, Below w.heap.size w w1 → Calls Tryd.prog 66 #[.string s] w1 (CLOut w1 s)) := fun w1 hb => c_readClaims (hG.keep hb hG.size) hs
  have HP : Hid (∀ w1, Below w.heap.size w w1 → ∀ g L, ORow w1 g L → (∀ r, r ∈ L → okp r) → ∀ k, k < F.length → Calls Tryd.prog 70 #[.agg #[.slice ao F.length cap], .slice (some ⟨g, 0, none⟩) L.length 21, .int .i64 (k : Int)] w1 fun e w' => e = .returned (.int .i64 (chkP F L k)) ∧ Below w1.heap.size w1 w') := hp
  obtain ⟨n, hn⟩ : ∃ n, n = F.length := ⟨_, rfl⟩
  have HN : Hid (n = F.length) := hn
  have hln : n ≤ 20 := by omega
  rw [← hn]
  clear hp hG hn
  go_enter Tryd.func42, Tryd.ntmps42
  go_wp2_with fail
  refine (HRc.out _ ((Below.refl _ _).alloc (Nat.le_refl _) _)).mono ?_
  rintro e w1 ⟨hb1, ⟨hd, rfl⟩ | ⟨L, g, hd, rfl, hg, hrow⟩⟩
  · have HB : Hid (Below w.heap.size w w1) := ((Below.refl _ _).alloc (Nat.le_refl _) _).trans (hb1.mono (by simp))
    have HR : Hid (CertSays F (bytesOf s) (4, 0)) := by show CertSays _ _ _; unfold CertSays; rw [hd]
    clear hb1 hd
    go_wp2_with fail
    go_ret2
    exact ⟨_, _, rfl, HR.out, HB.out⟩
  · have HOk : Hid (∀ r, r ∈ L → okp r) := (dec_ok (bys s) hd).2.2.2
    have hL21 := (dec_ok (bys s) hd).2.2.1
    have H1 : Hid (KB w w1 g L (.slice ao n cap)) := ⟨At.keep (At.new w _ _) hb1 (by simp), hrow, ((Below.refl _ _).alloc (Nat.le_refl _) _).trans (hb1.mono (by simp))⟩
    have HS : Hid (∀ r, (L.length ≠ n + 1 → r = (4, 0)) → (L.length = n + 1 → if wiB false (cE (atL L 0)) M0 (cM (atL L 0)) = false then r = (5, 0) else CkSays (chkP F L) n r) → CertSays F (bytesOf s) r) := by
      intro r h1 h2
      rw [HM0.out] at h2
      unfold CertSays
      rw [hd, ← HN.out]
      show if _ then _ else _
      split
      · rename_i q; exact h1 q
      · rename_i q; exact h2 (by simpa using q)
    have HEnd : Hid (∀ w1, Calls Tryd.prog 67 #[.agg #[.slice ao n cap]] w1 fun e w' => e = .returned (.int .i64 (n : Int)) ∧ Below w1.heap.size w1 w') := fun w1 => (d_end ao n cap w1 hln).mono fun e w' ⟨h1, o, h2⟩ => ⟨h1, by rw [h2]; exact (Below.refl _ _).alloc (Nat.le_refl _) _⟩
    have c0 : w1.cell? ⟨w.heap.size, 0, none⟩ = some (.slice ao n cap) := H1.out.1.cell 0
    clear hb1 hd hrow hg HRc
    go_wp2_with fail
    refine (HEnd.out w1).mono ?_
    rintro e w2 ⟨rfl, hb2⟩
    have H2 : Hid (KB w w2 g L (.slice ao n cap)) := H1.out.keep hb2
    clear hb2 c0 H1
    by_cases hlen : L.length = n + 1
    · have hli : (L.length : Int) = (n : Int) + 1 := by omega
      have HS2 : Hid (∀ r, (if wiB false (cE (atL L 0)) M0 (cM (atL L 0)) = false then r = (5, 0) else CkSays (chkP F L) n r) → CertSays F (bytesOf s) r) := fun r h => HS.out r (fun q => absurd hlen q) (fun _ => h)
      have HCl := fun w3 (h : KB w w3 g L (.slice ao n cap)) => c_claimAt h.2.1 (0 : Int)
      have HCl : Hid (∀ w3, KB w w3 g L (.slice ao n cap) → Calls Tryd.prog 68 #[.slice (some ⟨g, 0, none⟩) L.length 21, .int .i64 0] w3 fun e w' => e = .returned (.agg (oc (cE (atL L 0)) (cM (atL L 0)))) ∧ Below w3.heap.size w3 w') := HCl
      have HPt : Hid (∀ w3, KB w w3 g L (.slice ao n cap) → ∀ k, k < n → Calls Tryd.prog 70 #[.agg #[.slice ao n cap], .slice (some ⟨g, 0, none⟩) L.length 21, .int .i64 (k : Int)] w3 fun e w' => e = .returned (.int .i64 (chkP F L k)) ∧ Below w3.heap.size w3 w') := fun w3 h k hk => by
        have := HP.out w3 h.2.2 g L h.2.1 HOk.out k (by rw [← HN.out]; exact hk)
        rw [← HN.out] at this
        exact this
      clear HP HS HOk hli
      generalize L.length = m at *
      subst hlen
      generalize cE (atL L 0) = e1 at *
      generalize cM (atL L 0) = M1 at *
      generalize chkP F L = f at *
      go_wp2_with fail
      refine (HCl.out w2 H2.out).mono ?_
      rintro e w3 ⟨rfl, hb3⟩
      obtain ⟨w4, hst4, hat4, hb4, hs4⟩ := HFr.out w3 e1 M1
      have H4 : Hid (OAt w4 w3.heap.size e1 M1 ∧ KB w w4 g L (.slice ao n cap)) := ⟨hat4, (H2.out.keep hb3).keep hb4⟩
      clear hb3 hat4 hb4
      go_wp2_with fail
      refine (HOr.out w4).mono ?_
      rintro e w5 ⟨rfl, hb5⟩
      obtain ⟨w6, hst6, hat6, hb6, hs6⟩ := HFr.out w5 false M0
      have H6 : Hid (OAt w6 w5.heap.size false M0 ∧ OAt w6 w3.heap.size e1 M1 ∧ KB w w6 g L (.slice ao n cap)) := by
        have h9 : OAt w5 w3.heap.size e1 M1 := At.keep H4.out.1 hb5 (At.lt H4.out.1)
        exact ⟨hat6, At.keep h9 hb6 (At.lt h9), (H4.out.2.keep hb5).keep hb6⟩
      clear hb5 hat6 hb6
      go_wp2_with (first | refine wpList_load_o rfl (.tmp 9) rfl rfl H6.out.1 ?_ | refine wpList_load_o rfl (.tmp 8) rfl rfl H6.out.2.1 ?_)
      refine (o_within (w := w6) (e1 := false) (e2 := e1) (M := M0) (N := M1)).mono ?_
      rintro e w7 ⟨rfl, hb7⟩
      have H7 : Hid (KB w w7 g L (.slice ao n cap)) := H6.out.2.2.keep hb7
      clear hb7 H6
      cases hwi : wiB false e1 M0 M1 with
      | false =>
        have HR : Hid (CertSays F (bytesOf s) (5, 0)) := HS2.out _ (by rw [if_pos hwi])
        clear hwi
        go_wp2_with fail
        go_ret2
        exact ⟨_, _, rfl, HR.out, H7.out.2.2⟩
      | true =>
        have HS3 : Hid (∀ r, CkSays f n r → CertSays F (bytesOf s) r) := fun r h => HS2.out r (by rw [if_neg (by rw [hwi]; decide)]; exact h)
        clear hwi HS2
        go_wp2_with fail
        go_loopw [7, 10] (fun _ iv wr => ∃ i : Nat, i ≤ n ∧ iv = .int .i64 (i : Int) ∧ Hid ((∀ j, j < i → f j = 0) ∧ KB w wr g L (.slice ao n cap))) (fun _ iv _ => n - (intOf iv).toNat)
        case atStart => exact ⟨0, by omega, rfl, fun j hj => by omega, H7.out⟩
        case round =>
          obtain ⟨i, hi, rfl, HR⟩ := hrel
          have c0 : wr.cell? ⟨w.heap.size, 0, none⟩ = some (.slice ao n cap) := HR.out.2.1.cell 0
          go_wp2_with fail
          refine (HEnd.out wr).mono ?_
          rintro e w8 ⟨rfl, hb8⟩
          have H8 : Hid (KB w w8 g L (.slice ao n cap)) := HR.out.2.keep hb8
          clear hb8 c0
          by_cases hin : i < n
          · have hii : (i : Int) < (n : Int) := by omega
            have c0 : w8.cell? ⟨w.heap.size, 0, none⟩ = some (.slice ao n cap) := H8.out.1.cell 0
            have hpt := HPt.out w8 H8.out i hin
            go_wp2_with fail
            refine hpt.mono ?_
            rintro e w9 ⟨rfl, hb9⟩
            have H9 : Hid (KB w w9 g L (.slice ao n cap)) := H8.out.keep hb9
            clear hb9 c0 hpt
            by_cases h0 : f i = 0
            · have HA : Hid (∀ j, j < i + 1 → f j = 0) := fun j hj => by
                rcases Nat.lt_or_ge j i with q | q
                · exact HR.out.1 j q
                · rw [show j = i by omega]; exact h0
              rw [h0]
              clear h0
              go_wp2_with fail
              go_roundw
              case rel => exact ⟨i + 1, by omega, by go_num, HA.out, H9.out⟩
              case measure => simp [intOf]; omega
            · have HA : Hid (CertSays F (bytesOf s) (f i, (i : Int))) := HS3.out _ (.inr ⟨i, hin, HR.out.1, h0, rfl⟩)
              go_wp2_with fail
              go_ret2
              exact ⟨_, _, rfl, HA.out, H9.out.2.2⟩
          · have hie : i = n := by omega
            subst hie
            have HA : Hid (CertSays F (bytesOf s) (0, 0)) := HS3.out _ (.inl ⟨HR.out.1, rfl⟩)
            go_wp2_with fail
            go_ret2
            exact ⟨_, _, rfl, HA.out, H8.out.2.2⟩
    · have hli : ¬ (L.length : Int) = (n : Int) + 1 := by omega
      have HR : Hid (CertSays F (bytesOf s) (4, 0)) := HS.out _ (fun _ => rfl) (fun q => absurd q hlen)
      clear hlen
      go_wp2_with fail
      go_ret2
      exact ⟨_, _, rfl, HR.out, H2.out.2.2⟩

end Go.Proofs.YtffajooegiempaaDoor

namespace Go.Proofs.YtffajooegiempaaDoor
open Go.RowKit
variable {w : World} {s : ByteArray}

theorem c_rng {r : Option (List Int)} (h : okp r) : ∀ j, j < 64 → -20000000000 ≤ cM r j ∧ cM r j ≤ 1000000 := by
  cases r with
  | none => intro j _; show -20000000000 ≤ (0 : Int) ∧ (0 : Int) ≤ 1000000; omega
  | some l => exact ov_rng (okp_ok h)
theorem c_sh {r : Option (List Int)} (h : okp r) (he : cE r = false) : Sh (cM r) := by
  cases r with
  | none => cases he
  | some l => exact (ov_tq (okp_ok h) he).sh
theorem atL_ok {L : List (Option (List Int))} (h : ∀ r, r ∈ L → okp r) (pt : Int) : okp (atL L pt) := by
  unfold atL
  split
  · intro l e; cases e
  · exact getD_ok h _
/-- A point's check, of a program that was read. -/
theorem c_checkPoint_of {l : List Int} {m : Rd} {F : List Ds} {g0 cap : Nat} (hp : progOf l = some m) (hW : Whole F m.st) (hl : F.length ≤ 20) (hpar : ∀ (k : Nat) (x : Ds), F[k]? = some x → -1 ≤ x.parent ∧ x.parent < (k : Int)) (hP : PRow w g0 F) {g : Nat} {L : List (Option (List Int))} (hO : ORow w g L) (hok : ∀ r, r ∈ L → okp r) {k : Nat} (hk : k < F.length) :
    Calls Tryd.prog 70 #[.agg #[.slice (some ⟨g0, 0, none⟩) F.length cap], .slice (some ⟨g, 0, none⟩) L.length 21, .int .i64 (k : Int)] w fun e w' => e = .returned (.int .i64 (chkP F L k)) ∧ Below w.heap.size w w' := by
  have hD := dsg_of hp hW hk
  have hq := stq_of hp (show k < m.st.length by have := hW.1.len; omega)
  exact c_checkPoint hP hl hpar hk hO hD.1 (by rw [← hD.2.2.1]; exact ⟨hq.var.1, by have := hq.var.2; omega⟩) (c_rng (atL_ok hok _)) (c_sh (atL_ok hok _))

end Go.Proofs.YtffajooegiempaaDoor

namespace Go.Proofs.YtffajooegiempaaDoor
open Go.RowKit
variable {w : World} {s : ByteArray}

theorem CertSays.one {F : List Ds} {b : List Int} {r r' : Int × Int} (h : CertSays F b r) (h' : CertSays F b r') : r = r' := by
  unfold CertSays at h h'
  cases hd : decF b with
  | none => rw [hd] at h h'; exact Eq.trans h (Eq.symm h')
  | some L =>
    rw [hd] at h h'
    simp only at h h'
    split at h
    · rename_i q; rw [if_pos q] at h'; exact h.trans h'.symm
    · rename_i q
      rw [if_neg q] at h'
      split at h
      · rename_i q2; rw [if_pos q2] at h'; exact h.trans h'.symm
      · rename_i q2; rw [if_neg q2] at h'; exact h.one h'
/-- What both Checks say. -/
def ChkSays (s c : ByteArray) (r : Int × Int) : Prop :=
  match progOf (bytesOf s) with
  | none => r = ((scanOf (bytesOf s)).2.1, (scanOf (bytesOf s)).2.2)
  | some _ => CertSays (readZ s).2 (bytesOf c) r
theorem ChkSays.one {s c : ByteArray} {r r' : Int × Int} (h : ChkSays s c r) (h' : ChkSays s c r') : r = r' := by
  unfold ChkSays at h h'
  cases hp : progOf (bytesOf s) with
  | none => rw [hp] at h h'; exact Eq.trans h (Eq.symm h')
  | some m => rw [hp] at h h'; exact CertSays.one h h'
def ChkOut (w : World) (s c : ByteArray) : Ending → World → Prop := fun e w' => ∃ a b, e = .returned (.tuple #[.int .i64 a, .int .i64 b]) ∧ ChkSays s c (a, b) ∧ Below w.heap.size w w'

set_option maxRecDepth 100000 in
set_option maxHeartbeats 3200000 in
theorem w_check (hG : Glob w) (s c : ByteArray) (hm : s.size ≤ maxLen) (hc : c.size ≤ maxLen) : Calls Tryd.prog 21 #[.string s, .string c] w (ChkOut w s c) := by
  have hr := d_read s w hm
  have hl := bytesOf_len s
  have hsc := scan_same s
  have bad : progOf (bytesOf s) = none → ∀ n : Int, (scanD s).2 = (1, n) → (∀ e w', DReadPost w s e w' → e = .returned (.tuple #[.agg #[.slice none 0 0], .int .i64 1, .int .i64 n]) ∧ Below w.heap.size w w') → Calls Tryd.prog 21 #[.string s, .string c] w (ChkOut w s c) := by
    intro hp n hn hq
    have HE : Hid (ChkSays s c (1, n)) := by
      show ChkSays s c (1, n)
      unfold ChkSays
      rw [hp]
      show (1, n) = _
      rw [← hsc, hn]
    have hr' := hr.mono hq
    clear hr hp hq hm hl hG hsc hn hc
    go_enter Tryd.func21, Tryd.ntmps21
    go_wp2_with fail
    refine hr'.mono ?_
    rintro e w1 ⟨rfl, hb⟩
    have HB : Hid (Below w.heap.size w w1) := hb
    clear hb hr'
    go_wp2_with fail
    go_ret2
    exact ⟨_, _, rfl, HE.out, HB.out.alloc HB.out.size _⟩
  by_cases h160 : 160 < s.size
  · refine bad (by unfold progOf; rw [if_pos (by omega)]) 0 (by unfold scanD; rw [if_pos h160]) ?_
    rintro e w' ⟨hb, h | h | h⟩
    · exact ⟨h.2, hb⟩
    · exact absurd h.1 (by omega)
    · exact absurd h.1 (by omega)
  rcases prog_whole s (by omega) with ⟨hg, hp⟩ | ⟨m, hg, hp, hW⟩
  · refine bad hp _ (by unfold scanD; rw [if_neg h160, if_neg (by rw [hg]; decide)]) ?_
    rintro e w' ⟨hb, h | h | h⟩
    · exact absurd h.1 h160
    · exact ⟨h.2.2, hb⟩
    · exact absurd h.2.1 (by rw [hg]; decide)
  clear bad
  have hlen : (readZ s).2.length ≤ 20 := (rStmts_goes s 22 (-1) 0 0 ((0, false), []) ⟨Nat.zero_le _, Nat.zero_le _⟩).ok.len
  have hr' := hr.mono (R' := fun e w' => ∃ ao cap, e = .returned (.tuple #[.agg #[.slice ao (readZ s).2.length cap], .int .i64 0, .int .i64 0]) ∧ Below w.heap.size w w' ∧ ((readZ s).2.length ≠ 0 → ∃ g, ao = some ⟨g, 0, none⟩ ∧ PRow w' g (readZ s).2)) (by
    rintro e w' ⟨hb, h | h | h⟩
    · exact absurd h.1 h160
    · exact absurd h.2.1 (by rw [hg]; decide)
    · obtain ⟨_, _, v, he, hrow⟩ := h
      have hrow2 := hrow
      obtain ⟨_, h2⟩ := hrow2
      rcases h2 with ⟨rfl, e0⟩ | ⟨g, cap, _, rfl, _⟩
      · exact ⟨none, 0, by rw [e0]; exact he, hb, fun z => absurd e0 z⟩
      · exact ⟨_, cap, he, hb, fun _ => ⟨g, rfl, prow_of hrow rfl (hrow.lt g rfl).2⟩⟩)
  have HS : Hid (∀ r, CertSays (readZ s).2 (bytesOf c) r → ChkSays s c r) := fun r h => by unfold ChkSays; rw [hp]; exact h
  have HC : Hid (∀ w1 ao cap, Below w.heap.size w w1 → ((readZ s).2.length ≠ 0 → ∃ g, ao = some ⟨g, 0, none⟩ ∧ PRow w1 g (readZ s).2) → Calls Tryd.prog 42 #[.agg #[.slice ao (readZ s).2.length cap], .string c] w1 fun e w' => ∃ a b, e = .returned (.tuple #[.int .i64 a, .int .i64 b]) ∧ CertSays (readZ s).2 (bytesOf c) (a, b) ∧ Below w1.heap.size w1 w') := fun w1 ao cap hb h => by
    refine c_check (hG.keep hb hG.size) (by unfold maxLen at hc; omega) hlen ?_
    intro w2 hb2 g L hO hok k hk
    obtain ⟨g0, rfl, hP⟩ := h (by omega)
    exact c_checkPoint_of hp hW hlen (fun k x hx => hW.par k x hx) (hP.keep hb2) hO hok hk
  clear hr hm hl h160 hg hp hW hsc hG hc
  generalize (readZ s).2 = F at *
  go_enter Tryd.func21, Tryd.ntmps21
  go_wp2_with fail
  refine hr'.mono ?_
  rintro e w1 ⟨ao, cap, rfl, hb, hrow⟩
  have HB : Hid (Below w.heap.size w w1 ∧ (F.length ≠ 0 → ∃ g, ao = some ⟨g, 0, none⟩ ∧ PRow w1 g F)) := ⟨hb, hrow⟩
  clear hb hrow hr'
  go_wp2_with fail
  refine (HC.out _ ao cap (HB.out.1.alloc HB.out.1.size _) (fun z => by obtain ⟨g, e, h⟩ := HB.out.2 z; exact ⟨g, e, h.keep ((Below.refl _ _).alloc (Nat.le_refl _) _)⟩)).mono ?_
  rintro e w2 ⟨a, b, rfl, hs, hb2⟩
  have H2 : Hid (Below w.heap.size w w2 ∧ ChkSays s c (a, b)) := ⟨(HB.out.1.alloc HB.out.1.size _).trans (hb2.mono (by have := HB.out.1.size; simp; omega)), HS.out _ hs⟩
  clear hb2 hs
  go_wp2_with fail
  go_ret2
  exact ⟨_, _, rfl, H2.out.2, H2.out.1⟩

end Go.Proofs.YtffajooegiempaaDoor

namespace Go.Proofs.YtffajooegiempaaDoor
open Go.RowKit
variable {w : World} {C : Nat → Int}

/-- The octagon behind a condition, if it has a state, is closed. -/
theorem at_tc (h : TQ C) {l : List Int} (hl : l.length = 4) (hv : ∀ i, -1 ≤ gAt l i ∧ gAt l i ≤ 1) (h1 : 1 ≤ nz l) (h2 : nz l ≤ 2) {n : Int} (hn : n ≤ 1000) (he : atE false C l n = false) : TC (atM false C l n) := by
  obtain ⟨f, hf, hnf, hgr, hs1, hs2⟩ := grP_form h.tc hl hv h1 h2
  unfold atE at he
  unfold atM
  by_cases q : atS false C l n = true
  · rw [if_pos q]; exact h.tc
  · rw [if_neg q] at he ⊢
    have e : lm C (sd1 l) (sd2 l) n = sb C f n := by rw [hs1, hs2]; rfl
    rw [e] at he ⊢
    exact (sb_raw h.tc (h.top.mono (by decide)) hf hn).tc he
/-- The octagon behind a statement, if it has a state, is closed. -/
theorem po_tc (h : TQ C) {x : Ds} {u : St} (hx : DsG x) (hu : StQ u) (hc : Cor x u) (way : Int) (he : poE false C x way = false) : TC (poM false C x way) := by
  have hk0 := kind_0 hc
  obtain ⟨-, c1, c2, c3, c4⟩ := id hc
  have n := hx.num
  have ht : 0 ≤ x.target ∧ x.target < 4 := by rw [← c1]; exact ⟨hu.var.1, by have := hu.var.2; omega⟩
  unfold poE at he
  unfold poM
  rw [if_neg (by decide)] at he ⊢
  by_cases k0 : x.kind = 0
  · rw [if_pos k0]
    unfold asM
    split
    · exact (bt_tc h.tc h.top (by omega) ⟨by omega, by omega⟩ ⟨by omega, by omega⟩ (by omega)).1
    · split
      · exact (bt_tc h.tc h.top (by omega) ⟨by omega, by omega⟩ ⟨by omega, by omega⟩ (Int.le_refl _)).1
      · exact (ss_tc h.tc h.top (by omega) (sdS_lt x.sg 4 (Nat.le_refl _)).1 ⟨by omega, by omega⟩).1
  · rw [if_neg k0] at he ⊢
    have k61 : ¬ u.kind = 61 := fun z => k0 (hk0.2 z)
    cases ha : x.any with
    | true => rw [if_pos rfl]; exact h.tc
    | false =>
      rw [ha, if_neg (by decide)] at he
      rw [if_neg (by decide)]
      have hz1 : 1 ≤ nz u.sg := (hu.fq.2 k61).resolve_left (by rw [c2, ha]; decide)
      rw [c3] at hz1
      have g1 : x.sg.length = 4 := by rw [← c3]; exact hu.g.len
      have g2 : nz x.sg ≤ 2 := by rw [← c3]; exact hu.g.nz
      by_cases w0 : way = 0
      · rw [if_pos w0] at he ⊢
        exact at_tc h g1 hx.sg hz1 g2 (by omega) he
      · rw [if_neg w0] at he ⊢
        exact at_tc h (ngL_len _) (ngL_rng hx.sg) (by rw [nz_ngL g1]; exact hz1) (by rw [nz_ngL g1]; exact g2) (by omega) he
theorem c_tq {r : Option (List Int)} (h : okp r) (he : cE r = false) : TQ (cM r) := by
  cases r with
  | none => cases he
  | some l => exact ov_tq (okp_ok h) he

/-- Does each state stand in what is claimed: by the document. -/
def insB (e : Bool) (M : Nat → Int) : Option (List Int) → Bool
  | none => e
  | some p => e || leF (bd M) (fun f => p.getD f 0) 32
theorem ins_same {e : Bool} {M : Nat → Int} (hT : e = false → TC M) {r : Option (List Int)} (hr : okp r) : wiB e (cE r) M (cM r) = insB e M r := by
  cases r with
  | none => cases e <;> rfl
  | some p =>
    have hp := okp_ok hr
    unfold insB wiB
    show (if (e || ovE p) = true then e else leF M (ovM p) 64) = _
    cases e with
    | true => rfl
    | false =>
      have hC := hT rfl
      have up : leF (bd M) (fun f => p.getD f 0) 32 = true → Le M (ovM p) := fun h => hC.below_sharp (lay_above hC hp (leF_iff.1 h)) (lay_top hp)
      have dn : Le M (ovM p) → leF (bd M) (fun f => p.getD f 0) 32 = true := fun h => leF_iff.2 (bd_below hp (fun a ha => Int.le_trans (h a ha) (sharp_le _ a)))
      cases hq : ovE p with
      | true =>
        show false = (false || leF (bd M) (fun f => p.getD f 0) 32)
        cases hl : leF (bd M) (fun f => p.getD f 0) 32 with
        | false => rfl
        | true =>
          exfalso
          have h := up hl
          have : conF (ovM p) 8 = false := conF_no (fun i hi => by
            have a := h (i * 8 + opp i) (by have := opp_lt hi; omega)
            rw [hC.zero i hi] at a
            exact a)
          rw [show conF (ovM p) 8 = ovE p from rfl, hq] at this
          cases this
      | false =>
        show leF M (ovM p) 64 = (false || leF (bd M) (fun f => p.getD f 0) 32)
        cases hl : leF (bd M) (fun f => p.getD f 0) 32 with
        | true => exact leF_iff.2 (up hl)
        | false =>
          cases hm : leF M (ovM p) 64 with
          | false => rfl
          | true => rw [dn (leF_iff.1 hm)] at hl; cases hl
theorem tc_zero : TC (fun _ => 0) := by
  refine ⟨?_, fun _ _ => rfl, fun _ _ => .inr rfl, fun _ _ _ _ _ _ => ⟨by unfold NB; decide, by decide⟩, fun _ _ _ _ => rfl, fun _ _ => .inr (by decide)⟩
  intro k _ i j _ _
  exact .inr (.inr ⟨show (0 : Int) ≠ NB by decide, show (0 : Int) ≤ 0 + 0 by decide⟩)
theorem bd_zero (f : Nat) : bd (fun _ => 0) f = 0 := by
  unfold bd
  split <;> rfl
/-- Has what is claimed the first state: by the document. -/
def staB : Option (List Int) → Bool
  | none => false
  | some p => leF (fun _ => 0) (fun f => p.getD f 0) 32
theorem sta_same {r : Option (List Int)} (hr : okp r) : wiB false (cE r) (fun _ => 0) (cM r) = staB r := by
  rw [ins_same (fun _ => tc_zero) hr]
  cases r with
  | none => rfl
  | some p =>
    show (false || leF (bd fun _ => 0) (fun f => p.getD f 0) 32) = _
    rw [show bd (fun _ => 0) = fun _ => 0 from funext bd_zero]
    rfl

end Go.Proofs.YtffajooegiempaaDoor

