import Derived.Test.YtffajooegiempabDoorJ8
import Derived.Deep.RegionWith
namespace Go.Proofs.YtffajooegiempabDoor
open Go.RowKit
variable {w : World} {e0 : Bool} {M : Nat → Int}

/-- A variable is made each number from lo to hi: the bounds with the other sides. -/
def sbF (M : Nat → Int) (t : Nat) (lo hi : Int) : Nat → Nat → Int
  | 0 => M
  | j + 1 => if j = 2 * t ∨ j = 2 * t + 1 then sbF M t lo hi j
    else lm (lm (sbF M t lo hi j) (2 * t) j (pl hi (mo (sbF M t lo hi j) j j))) (2 * t + 1) j (pl (-lo) (mo (sbF M t lo hi j) j j))
def sbT (M : Nat → Int) (t : Nat) (lo hi : Int) : Nat → Int := lm (lm (sbF M t lo hi 8) (2 * t) (2 * t) hi) (2 * t + 1) (2 * t + 1) (-lo)
theorem lm_sm {N : Nat → Int} (hN : Sm N) {i j : Nat} {n : Int} (h : -45000000000 ≤ n ∧ (n = NB ∨ n ≤ 500000)) : Sm (lm N i j n) := by
  intro k hk
  have := hN k hk
  unfold NB at h
  unfold lm upd NB
  split
  · split <;> omega
  · split
    · split <;> omega
    · exact this
/-- Half of the room. -/
def Sh (M : Nat → Int) : Prop := ∀ k, k < 64 → -40000000000 ≤ M k ∧ (M k = NB ∨ M k ≤ 432000)
theorem Sh.sm (h : Sh M) : Sm M := fun k hk => by have := h k hk; unfold NB at this; omega
theorem sbF_dia (M : Nat → Int) {t : Nat} (ht : t < 4) (lo hi : Int) : ∀ n, n ≤ 8 → ∀ j, j < 8 → j ≠ 2 * t → j ≠ 2 * t + 1 → sbF M t lo hi n (j * 8 + j) = M (j * 8 + j) := by
  intro n
  induction n with
  | zero => intro _ j _ _ _; rfl
  | succ n ih =>
    intro hn j hj h1 h2
    have e := ih (by omega) j hj h1 h2
    rw [sbF]
    split
    · exact e
    · rename_i c
      unfold lm
      rw [upd_other _ _ (by omega), upd_other _ _ (by omega), upd_other _ _ (by omega), upd_other _ _ (by omega)]
      exact e
theorem mo_half (h : Sh M) {j : Nat} (hj : j < 8) : -40000000000 ≤ mo M j j ∧ (mo M j j = NB ∨ mo M j j ≤ 400000) := by
  have a := h (j * 8 + j) (by omega)
  have t := tdiv2 (M (j * 8 + j))
  unfold mo
  by_cases q : M (j * 8 + j) = NB
  · rw [if_neg (fun z => z.2 q)]
    exact ⟨a.1, .inl q⟩
  · rw [if_pos ⟨rfl, q⟩]
    have a2 := a.2.resolve_left q
    rcases Int.lt_or_le (M (j * 8 + j)) 0 with c | c
    · rw [t.2 c]; exact ⟨by omega, .inr (by omega)⟩
    · rw [t.1 c]; exact ⟨by omega, .inr (by omega)⟩

theorem pl_half {a b : Int} (ha : -999 ≤ a ∧ a ≤ 999) (hb : -40000000000 ≤ b ∧ (b = NB ∨ b ≤ 400000)) : -41000000000 ≤ pl a b ∧ (pl a b = NB ∨ pl a b ≤ 500000) := by
  unfold pl
  by_cases q : a = NB ∨ b = NB
  · rw [if_pos q]; exact ⟨by decide, .inl rfl⟩
  · rw [if_neg q]
    have : b ≠ NB := fun z => q (.inr z)
    have := hb.2.resolve_left this
    exact ⟨by omega, .inr (by omega)⟩

theorem mo_congr {N : Nat → Int} {j : Nat} (h : N (j * 8 + j) = M (j * 8 + j)) : mo N j j = mo M j j := by unfold mo; rw [h]
theorem sbF_sm (h : Sh M) {t : Nat} (ht : t < 4) {lo hi : Int} (hlo : -999 ≤ -lo ∧ -lo ≤ 999) (hhi : -999 ≤ hi ∧ hi ≤ 999) : ∀ n, n ≤ 8 → Sm (sbF M t lo hi n) := by
  intro n
  induction n with
  | zero => intro _; exact h.sm
  | succ n ih =>
    intro hn
    rw [sbF]
    split
    · exact ih (by omega)
    · rename_i c
      have e := mo_congr (sbF_dia M ht lo hi n (by omega) n (by omega) (fun z => c (.inl z)) (fun z => c (.inr z)))
      rw [e]
      have q := mo_half h (show n < 8 by omega)
      have a := pl_half hhi q
      have b := pl_half hlo q
      exact lm_sm (lm_sm (ih (by omega)) ⟨by omega, a.2⟩) ⟨by omega, b.2⟩

set_option maxRecDepth 100000 in
set_option maxHeartbeats 3200000 in
theorem o_setBetween (h : Sh M) (t : Nat) (ht : t < 4) (lo hi : Int) (hlo : -999 ≤ lo ∧ lo ≤ 999) (hhi : -999 ≤ hi ∧ hi ≤ 999) :
    Calls Tryd.prog 79 #[.agg (oc e0 M), .int .i64 (t : Int), .int .i64 lo, .int .i64 hi] w fun e w' => e = .returned (.agg (oc e0 (sbT M t lo hi))) ∧ Below w.heap.size w w' := by
  have hz := o_zero
  have hlo' : -999 ≤ -lo ∧ -lo ≤ 999 := by omega
  have HSm : Hid (∀ n, n ≤ 8 → Sm (sbF M t lo hi n)) := sbF_sm h ht hlo' hhi
  have hti : (t : Int) < 4 := by omega
  have ht0 : ¬ (4 : Int) ≤ (t : Int) := by omega
  obtain ⟨w0, hw0⟩ : ∃ w0, w0 = (w.alloc (.cells (oc e0 M) tO)).alloc (.cells (oc false fun _ => 0) tO) := ⟨_, rfl⟩
  have H0 : Hid (OAt w0 w.heap.size e0 (sbF M t lo hi 0) ∧ OAt w0 (w.heap.size + 1) false (fun _ => 0) ∧ Below w.heap.size w w0) := by
    refine ⟨by rw [hw0]; exact At.allocH (At.new _ _ _) _, ?_, by rw [hw0]; exact ((Below.refl _ _).alloc (Nat.le_refl _) _).alloc (by simp) _⟩
    have := At.new (w.alloc (.cells (oc e0 M) tO)) (oc false fun _ => 0) tO
    rw [show (w.alloc (.cells (oc e0 M) tO)).heap.size = w.heap.size + 1 by simp] at this
    rw [hw0]; exact this
  have HMo : Hid (∀ w1 n j, n ≤ 8 → j < 8 → Calls Tryd.prog 71 #[.agg (oc e0 (sbF M t lo hi n)), .int .i64 ((j : Nat) : Int), .int .i64 ((j : Nat) : Int)] w1 fun e w' => e = .returned (.int .i64 (mo (sbF M t lo hi n) j j)) ∧ Below w1.heap.size w1 w') := fun w1 n j hn hj => o_most j j hj hj (by have := HSm.out n hn (j * 8 + j) (by omega); omega)
  have HRg : Hid (∀ n, n < 8 → n ≠ 2 * t → n ≠ 2 * t + 1 → (-40000000000 ≤ mo (sbF M t lo hi n) n n ∧ mo (sbF M t lo hi n) n n ≤ 1000000) ∧ (-41000000000 ≤ pl hi (mo (sbF M t lo hi n) n n) ∧ pl hi (mo (sbF M t lo hi n) n n) ≤ 1000000) ∧ (-41000000000 ≤ pl (-lo) (mo (sbF M t lo hi n) n n) ∧ pl (-lo) (mo (sbF M t lo hi n) n n) ≤ 1000000)) := by
    intro n hn h1 h2
    rw [mo_congr (sbF_dia M ht lo hi n (by omega) n hn h1 h2)]
    have q := mo_half h hn
    have a := pl_half hhi q
    have b := pl_half hlo' q
    unfold NB at q a b
    omega
  have HEq : Hid (∀ n, sbF M t lo hi (n + 1) = if n = 2 * t ∨ n = 2 * t + 1 then sbF M t lo hi n else lm (lm (sbF M t lo hi n) (2 * t) n (pl hi (mo (sbF M t lo hi n) n n))) (2 * t + 1) n (pl (-lo) (mo (sbF M t lo hi n) n n))) := fun _ => rfl
  have HT : Hid (sbT M t lo hi = lm (lm (sbF M t lo hi 8) (2 * t) (2 * t) hi) (2 * t + 1) (2 * t + 1) (-lo)) := rfl
  have HLm : Hid (∀ w1 (b : Nat) (N : Nat → Int) (i j : Nat) (n : Int), i < 8 → j < 8 → (-1000000000000 ≤ n ∧ n ≤ 1000000000000) → OAt w1 b e0 N → Calls Tryd.prog 66 #[.pointer (some ⟨b, 0, none⟩), .int .i64 (i : Int), .int .i64 (j : Int), .int .i64 n] w1 fun e w' => e = .returned (.tuple #[]) ∧ Hid (OAt w' b e0 (lm N i j n) ∧ Onl b w1 w')) := fun w1 b N i j n hi hj hn ha => (o_limit ha i j hi hj n hn).mono fun e w' h => h
  have e2t : ((2 * t : Nat) : Int) = 2 * (t : Int) := by omega
  have e2t1 : ((2 * t + 1 : Nat) : Int) = 2 * (t : Int) + 1 := by omega
  rw [hw0] at H0
  clear h hw0 hlo'
  go_enter Tryd.func79, Tryd.ntmps79
  go_wp2_with fail
  go_loopw [11] (fun jv wr => ∃ (j : Nat), j ≤ 8 ∧ jv = .int .i64 j ∧ Hid (OAt wr w.heap.size e0 (sbF M t lo hi j) ∧ OAt wr (w.heap.size + 1) false (fun _ => 0) ∧ Below w.heap.size w wr)) (fun jv _ => 8 - (intOf jv).toNat)
  case atStart => exact ⟨0, by omega, rfl, H0.out⟩
  case round =>
    obtain ⟨j, hj, rfl, HR⟩ := hrel
    clear H0
    by_cases hlt : j < 8
    · have hji : (j : Int) < 8 := by omega
      by_cases c1 : j = 2 * t
      · have HE : Hid (sbF M t lo hi (j + 1) = sbF M t lo hi j) := (HEq.out j).trans (if_pos (.inl c1))
        have b1 : ((j : Int) == 2 * (t : Int)) = true := by rw [beq_iff_eq]; omega
        clear c1
        go_wp2_with fail
        go_roundw
        case rel => exact ⟨j + 1, by omega, by go_num, by rw [HE.out]; exact HR.out.1, HR.out.2⟩
        case measure => simp [intOf]; omega
      · have b1 : ((j : Int) == 2 * (t : Int)) = false := by rw [beq_eq_false_iff_ne]; omega
        by_cases c2 : j = 2 * t + 1
        · have HE : Hid (sbF M t lo hi (j + 1) = sbF M t lo hi j) := (HEq.out j).trans (if_pos (.inr c2))
          have b2 : ((j : Int) == 2 * (t : Int) + 1) = true := by rw [beq_iff_eq]; omega
          clear c1 c2
          go_wp2_with fail
          go_roundw
          case rel => exact ⟨j + 1, by omega, by go_num, by rw [HE.out]; exact HR.out.1, HR.out.2⟩
          case measure => simp [intOf]; omega
        · have b2 : ((j : Int) == 2 * (t : Int) + 1) = false := by rw [beq_eq_false_iff_ne]; omega
          have HE : Hid (sbF M t lo hi (j + 1) = _) := (HEq.out j).trans (if_neg (fun z => z.elim c1 c2))
          obtain ⟨⟨m1, m2⟩, ⟨m3, m4⟩, ⟨m5, m6⟩⟩ := HRg.out j hlt c1 c2
          have hmo := HMo.out wr j j hj hlt
          have hp1 := fun w1 => o_plus hi (mo (sbF M t lo hi j) j j) ⟨by omega, by omega⟩ ⟨by omega, m2⟩ w1
          have hp2 := fun w1 => o_plus (-lo) (mo (sbF M t lo hi j) j j) ⟨by omega, by omega⟩ ⟨by omega, m2⟩ w1
          have hlr : w.heap.size + 1 < wr.heap.size := At.lt HR.out.2.1
          have HLm1 : Hid (∀ w1 (N : Nat → Int), OAt w1 w.heap.size e0 N → Calls Tryd.prog 66 #[.pointer (some ⟨w.heap.size, 0, none⟩), .int .i64 (2 * (t : Int)), .int .i64 (j : Int), .int .i64 (pl hi (mo (sbF M t lo hi j) j j))] w1 fun e w' => e = .returned (.tuple #[]) ∧ Hid (OAt w' w.heap.size e0 (lm N (2 * t) j (pl hi (mo (sbF M t lo hi j) j j))) ∧ Onl w.heap.size w1 w')) := fun w1 N ha => by
            rw [← e2t]; exact HLm.out w1 _ N (2 * t) j _ (by omega) hlt ⟨by omega, by omega⟩ ha
          have HLm2 : Hid (∀ w1 (N : Nat → Int), OAt w1 w.heap.size e0 N → Calls Tryd.prog 66 #[.pointer (some ⟨w.heap.size, 0, none⟩), .int .i64 (2 * (t : Int) + 1), .int .i64 (j : Int), .int .i64 (pl (-lo) (mo (sbF M t lo hi j) j j))] w1 fun e w' => e = .returned (.tuple #[]) ∧ Hid (OAt w' w.heap.size e0 (lm N (2 * t + 1) j (pl (-lo) (mo (sbF M t lo hi j) j j))) ∧ Onl w.heap.size w1 w')) := fun w1 N ha => by
            rw [← e2t1]; exact HLm.out w1 _ N (2 * t + 1) j _ (by omega) hlt ⟨by omega, by omega⟩ ha
          have HP1 : Hid (∀ w1, Calls Tryd.prog 84 _ w1 _) := hp1
          have HP2 : Hid (∀ w1, Calls Tryd.prog 84 _ w1 _) := hp2
          clear c1 c2 hp1 hp2
          generalize pl hi (mo (sbF M t lo hi j) j j) = q1 at *
          generalize pl (-lo) (mo (sbF M t lo hi j) j j) = q2 at *
          generalize mo (sbF M t lo hi j) j j = q0 at *
          go_wp2_with (refine wpList_load_o rfl (.tmp 4) rfl rfl HR.out.1 ?_)
          refine hmo.mono ?_
          rintro e w2 ⟨rfl, hb2⟩
          have H2 : Hid (OAt w2 w.heap.size e0 (sbF M t lo hi j) ∧ OAt w2 (w.heap.size + 1) false (fun _ => 0) ∧ Below w.heap.size w w2) := ⟨At.keep HR.out.1 hb2 (by omega), At.keep HR.out.2.1 hb2 hlr, HR.out.2.2.trans (hb2.mono HR.out.2.2.size)⟩
          have hp1 := HP1.out w2
          have hl1 := HLm1.out w2 _ H2.out.1
          clear hb2 hmo
          go_wp2_with fail
          refine hp1.mono ?_
          rintro e w3 ⟨rfl, hw3⟩
          subst hw3
          go_wp2_with fail
          refine hl1.mono ?_
          rintro e w4 ⟨rfl, h4⟩
          have H4 : Hid (OAt w4 w.heap.size e0 (lm (sbF M t lo hi j) (2 * t) j q1) ∧ OAt w4 (w.heap.size + 1) false (fun _ => 0) ∧ Below w.heap.size w w4) := ⟨h4.out.1, h4.out.2.at_ H2.out.2.1 (by omega), H2.out.2.2.trans (h4.out.2.below (Nat.le_refl _) H2.out.2.2.size)⟩
          have hp2 := HP2.out w4
          have hl2 := HLm2.out w4 _ H4.out.1
          clear h4 hp1 hl1
          go_wp2_with fail
          refine hp2.mono ?_
          rintro e w5 ⟨rfl, hw5⟩
          subst hw5
          go_wp2_with fail
          refine hl2.mono ?_
          rintro e w6 ⟨rfl, h6⟩
          go_wp2_with fail
          go_roundw
          case rel => exact ⟨j + 1, by omega, by go_num, by rw [HE.out]; exact h6.out.1, h6.out.2.at_ H4.out.2.1 (by omega), H4.out.2.2.trans (h6.out.2.below (Nat.le_refl _) H4.out.2.2.size)⟩
          case measure => simp [intOf]; omega
    · have hj8 : j = 8 := by omega
      subst hj8
      have hl1 : Calls Tryd.prog 66 #[.pointer (some ⟨w.heap.size, 0, none⟩), .int .i64 (2 * (t : Int)), .int .i64 (2 * (t : Int)), .int .i64 hi] wr fun e w' => e = .returned (.tuple #[]) ∧ Hid (OAt w' w.heap.size e0 (lm (sbF M t lo hi 8) (2 * t) (2 * t) hi) ∧ Onl w.heap.size wr w') := by
        rw [← e2t]; exact HLm.out wr _ _ (2 * t) (2 * t) hi (by omega) (by omega) ⟨by omega, by omega⟩ HR.out.1
      have HLm2 : Hid (∀ w1 (N : Nat → Int), OAt w1 w.heap.size e0 N → Calls Tryd.prog 66 #[.pointer (some ⟨w.heap.size, 0, none⟩), .int .i64 (2 * (t : Int) + 1), .int .i64 (2 * (t : Int) + 1), .int .i64 (-lo)] w1 fun e w' => e = .returned (.tuple #[]) ∧ Hid (OAt w' w.heap.size e0 (lm N (2 * t + 1) (2 * t + 1) (-lo)) ∧ Onl w.heap.size w1 w')) := fun w1 N ha => by
        rw [← e2t1]; exact HLm.out w1 _ N (2 * t + 1) (2 * t + 1) (-lo) (by omega) (by omega) ⟨by omega, by omega⟩ ha
      go_wp2_with fail
      refine hl1.mono ?_
      rintro e w4 ⟨rfl, h4⟩
      have H4 : Hid (OAt w4 w.heap.size e0 (lm (sbF M t lo hi 8) (2 * t) (2 * t) hi) ∧ OAt w4 (w.heap.size + 1) false (fun _ => 0) ∧ Below w.heap.size w w4) := ⟨h4.out.1, h4.out.2.at_ HR.out.2.1 (by omega), HR.out.2.2.trans (h4.out.2.below (Nat.le_refl _) HR.out.2.2.size)⟩
      have hl2 := HLm2.out w4 _ H4.out.1
      clear h4 hl1
      go_wp2_with fail
      refine hl2.mono ?_
      rintro e w6 ⟨rfl, h6⟩
      have H6 : Hid (OAt w6 w.heap.size e0 (sbT M t lo hi) ∧ OAt w6 (w.heap.size + 1) false (fun _ => 0) ∧ Below w.heap.size w w6) := ⟨by rw [HT.out]; exact h6.out.1, h6.out.2.at_ H4.out.2.1 (by omega), H4.out.2.2.trans (h6.out.2.below (Nat.le_refl _) H4.out.2.2.size)⟩
      obtain ⟨w7, hst7, hat7, ho7⟩ := o_store H6.out.2.1 e0 (sbT M t lo hi)
      have H7 : Hid (OAt w7 (w.heap.size + 1) e0 (sbT M t lo hi) ∧ Below w.heap.size w w7) := ⟨hat7, H6.out.2.2.trans (ho7.below (by omega) H6.out.2.2.size)⟩
      clear h6 hl2 hat7 ho7
      generalize hTT : sbT M t lo hi = T at *
      have HTT : Hid (sbT M t lo hi = T) := hTT
      clear hTT
      go_wp2_with (refine wpList_load_o rfl (.tmp 4) rfl rfl H6.out.1 ?_)
      try simp only [Exit.inBlock, Exit.then]
      refine bodyPost_ret (results_o rfl _ rfl H7.out.1) rfl ?_
      exact ⟨by rw [HTT.out], H7.out.2⟩

end Go.Proofs.YtffajooegiempabDoor

namespace Go.Proofs.YtffajooegiempabDoor
open Go.RowKit
variable {w : World} {e0 : Bool} {M : Nat → Int}

/-- What a side was made of, and what is added. -/
def orgF (t f i : Nat) : Nat := if i = 2 * t then f else if i = 2 * t + 1 then opp f else i
def addF (t : Nat) (n : Int) (i : Nat) : Int := if i = 2 * t then n else if i = 2 * t + 1 then -n else 0
/-- A variable is made a sum, as far as it is done. -/
def ssF (M : Nat → Int) (t f : Nat) (n : Int) : Nat → Nat → Int
  | 0 => M
  | k + 1 => upd (ssF M t f n k) k (pl (M (orgF t f (k / 8) * 8 + orgF t f (k % 8))) (addF t n (k / 8) + addF t n (k % 8)))
abbrev tA8 : TypeId := 52
def c8 (F : Nat → Int) : Array Value := #[.int .i64 (F 0), .int .i64 (F 1), .int .i64 (F 2), .int .i64 (F 3), .int .i64 (F 4), .int .i64 (F 5), .int .i64 (F 6), .int .i64 (F 7)]
theorem c8_get (F : Nat → Int) {i : Nat} (h : i < 8) : (c8 F)[i]? = some (.int .i64 (F i)) := by
  rcases (show i = 0 ∨ i = 1 ∨ i = 2 ∨ i = 3 ∨ i = 4 ∨ i = 5 ∨ i = 6 ∨ i = 7 by omega) with rfl | rfl | rfl | rfl | rfl | rfl | rfl | rfl <;> rfl
theorem org_lt {t f i : Nat} (hf : f < 8) (hi : i < 8) : orgF t f i < 8 := by
  unfold orgF
  split
  · exact hf
  · split
    · exact opp_lt hf
    · exact hi
theorem add_rng {t : Nat} {n : Int} (h : -999 ≤ n ∧ n ≤ 999) (i : Nat) : -999 ≤ addF t n i ∧ addF t n i ≤ 999 := by
  unfold addF
  split
  · exact h
  · split <;> omega


end Go.Proofs.YtffajooegiempabDoor

/- What an assignment makes of a closed octagon. -/
namespace Go.Proofs.YtffajooegiempabDoor
variable {C : Nat → Int}

theorem ssF_at (M : Nat → Int) (t f : Nat) (n : Int) : ∀ k a, ssF M t f n k a = if a < k then pl (M (orgF t f (a / 8) * 8 + orgF t f (a % 8))) (addF t n (a / 8) + addF t n (a % 8)) else M a := by
  intro k
  induction k with
  | zero => intro a; rw [if_neg (by omega)]; rfl
  | succ k ih =>
    intro a
    rw [ssF]
    unfold upd
    by_cases e : a = k
    · rw [if_pos e, if_pos (by omega), e]
    · rw [if_neg e, ih]
      by_cases q : a < k
      · rw [if_pos q, if_pos (by omega)]
      · rw [if_neg q, if_neg (by omega)]
theorem ss_at (M : Nat → Int) (t f : Nat) (n : Int) {i j : Nat} (hi : i < 8) (hj : j < 8) : ssF M t f n 64 (i * 8 + j) = pl (M (orgF t f i * 8 + orgF t f j)) (addF t n i + addF t n j) := by
  rw [ssF_at, if_pos (by omega), show (i * 8 + j) / 8 = i by omega, show (i * 8 + j) % 8 = j by omega]
/- A variable made each number of a range. -/
def uF (C : Nat → Int) (t : Nat) (lo hi : Int) (i : Nat) : Int := if i = 2 * t then hi else if i = 2 * t + 1 then -lo else mo C i i
abbrev isT (t i : Nat) : Prop := i = 2 * t ∨ i = 2 * t + 1
/-- What SetBetween comes to. -/
def sbG (C : Nat → Int) (t : Nat) (lo hi : Int) (i j : Nat) : Int :=
  if isT t i then (if isT t j then (if i = j then (if i = 2 * t then 2 * hi else 2 * -lo) else C (i * 8 + j)) else pl (uF C t lo hi i) (mo C j j))
  else if isT t j then pl (uF C t lo hi j) (mo C i i) else C (i * 8 + j)
theorem lm_at (M : Nat → Int) (p q : Nat) (n : Int) {i j : Nat} (_hi : i < 8) (hj : j < 8) (hp : p < 8) (hq : q < 8) : lm M p q n (i * 8 + j) = if (i = p ∧ j = q) ∨ (i = q ∧ j = p) then (if p = q ∧ n ≠ NB then 2 * n else n) else M (i * 8 + j) := by
  unfold lm
  generalize (if p = q ∧ n ≠ NB then 2 * n else n) = y
  unfold upd
  by_cases q1 : i * 8 + j = q * 8 + p
  · rw [if_pos q1, if_pos (.inr (by omega))]
  · rw [if_neg q1]
    by_cases q2 : i * 8 + j = p * 8 + q
    · rw [if_pos q2, if_pos (.inl (by omega))]
    · rw [if_neg q2, if_neg (by omega)]
theorem if_cg {b c : Prop} [Decidable b] [Decidable c] {x x' y y' : Int} (h : b ↔ c) (hx : x = x') (hy : y = y') : (if b then x else y) = if c then x' else y' := by
  by_cases q : c
  · rw [if_pos (h.2 q), if_pos q, hx]
  · rw [if_neg (fun z => q (h.1 z)), if_neg q, hy]
theorem sbF_at (M : Nat → Int) {t : Nat} (ht : t < 4) (lo hi' : Int) : ∀ n, n ≤ 8 → ∀ i j, i < 8 → j < 8 → sbF M t lo hi' n (i * 8 + j) =
    if isT t i ∧ ¬ isT t j ∧ j < n then pl (uF M t lo hi' i) (mo M j j) else if isT t j ∧ ¬ isT t i ∧ i < n then pl (uF M t lo hi' j) (mo M i i) else M (i * 8 + j) := by
  intro n
  induction n with
  | zero => intro _ i j _ _; rw [if_neg (by omega), if_neg (by omega)]; rfl
  | succ n ih =>
    intro hn i j hi hj
    rw [sbF]
    by_cases c : n = 2 * t ∨ n = 2 * t + 1
    · rw [if_pos c, ih (by omega) i j hi hj]
      exact if_cg ⟨fun h => ⟨h.1, h.2.1, by omega⟩, fun h => ⟨h.1, h.2.1, by omega⟩⟩ rfl (if_cg ⟨fun h => ⟨h.1, h.2.1, by omega⟩, fun h => ⟨h.1, h.2.1, by omega⟩⟩ rfl rfl)
    · rw [if_neg c, mo_congr (sbF_dia M ht lo hi' n (by omega) n (by omega) (fun z => c (.inl z)) (fun z => c (.inr z)))]
      rw [lm_at _ _ _ _ hi hj (by omega) (by omega), lm_at _ _ _ _ hi hj (by omega) (by omega), ih (by omega) i j hi hj]
      rw [if_neg (show ¬ (2 * t + 1 = n ∧ pl (-lo) (mo M n n) ≠ NB) by omega), if_neg (show ¬ (2 * t = n ∧ pl hi' (mo M n n) ≠ NB) by omega)]
      by_cases a1 : (i = 2 * t + 1 ∧ j = n) ∨ (i = n ∧ j = 2 * t + 1)
      · rw [if_pos a1]
        rcases a1 with ⟨b1, b2⟩ | ⟨b1, b2⟩
        · rw [if_pos (show isT t i ∧ ¬ isT t j ∧ j < n + 1 from ⟨.inr b1, by omega, by omega⟩), b2]; unfold uF; rw [if_neg (show ¬ i = 2 * t by omega), if_pos b1]
        · rw [if_neg (show ¬ (isT t i ∧ ¬ isT t j ∧ j < n + 1) by omega), if_pos (show isT t j ∧ ¬ isT t i ∧ i < n + 1 from ⟨.inr b2, by omega, by omega⟩), b1]; unfold uF; rw [if_neg (show ¬ j = 2 * t by omega), if_pos b2]
      · rw [if_neg a1]
        by_cases a2 : (i = 2 * t ∧ j = n) ∨ (i = n ∧ j = 2 * t)
        · rw [if_pos a2]
          rcases a2 with ⟨b1, b2⟩ | ⟨b1, b2⟩
          · rw [if_pos (show isT t i ∧ ¬ isT t j ∧ j < n + 1 from ⟨.inl b1, by omega, by omega⟩), b2]; unfold uF; rw [if_pos b1]
          · rw [if_neg (show ¬ (isT t i ∧ ¬ isT t j ∧ j < n + 1) by omega), if_pos (show isT t j ∧ ¬ isT t i ∧ i < n + 1 from ⟨.inl b2, by omega, by omega⟩), b1]; unfold uF; rw [if_pos b2]
        · rw [if_neg a2]
          exact if_cg ⟨fun h => ⟨h.1, h.2.1, by omega⟩, fun h => ⟨h.1, h.2.1, by omega⟩⟩ rfl (if_cg ⟨fun h => ⟨h.1, h.2.1, by omega⟩, fun h => ⟨h.1, h.2.1, by omega⟩⟩ rfl rfl)
theorem sbT_at (M : Nat → Int) {t : Nat} (ht : t < 4) {lo hi : Int} (hlo : -999 ≤ lo ∧ lo ≤ 999) (hhi : -999 ≤ hi ∧ hi ≤ 999) {i j : Nat} (hi' : i < 8) (hj : j < 8) : sbT M t lo hi (i * 8 + j) = sbG M t lo hi i j := by
  have n1 : hi ≠ NB := by unfold NB; omega
  have n2 : -lo ≠ NB := by unfold NB; omega
  unfold sbT sbG
  rw [lm_at _ _ _ _ hi' hj (by omega) (by omega), lm_at _ _ _ _ hi' hj (by omega) (by omega), sbF_at M ht lo hi 8 (Nat.le_refl _) i j hi' hj, if_pos (show 2 * t + 1 = 2 * t + 1 ∧ -lo ≠ NB from ⟨rfl, n2⟩), if_pos (show 2 * t = 2 * t ∧ hi ≠ NB from ⟨rfl, n1⟩)]
  by_cases a1 : i = 2 * t + 1 ∧ j = 2 * t + 1
  · rw [if_pos (.inl a1), if_pos (show isT t i from .inr a1.1), if_pos (show isT t j from .inr a1.2), if_pos (show i = j by omega), if_neg (show ¬ i = 2 * t by omega)]
  · rw [if_neg (show ¬ ((i = 2 * t + 1 ∧ j = 2 * t + 1) ∨ (i = 2 * t + 1 ∧ j = 2 * t + 1)) by omega)]
    by_cases a2 : i = 2 * t ∧ j = 2 * t
    · rw [if_pos (.inl a2), if_pos (show i = 2 * t ∨ i = 2 * t + 1 by omega), if_pos (show j = 2 * t ∨ j = 2 * t + 1 by omega), if_pos (show i = j by omega), if_pos a2.1]
    · rw [if_neg (show ¬ ((i = 2 * t ∧ j = 2 * t) ∨ (i = 2 * t ∧ j = 2 * t)) by omega)]
      by_cases q1 : i = 2 * t ∨ i = 2 * t + 1
      · rw [if_pos q1]
        by_cases q2 : j = 2 * t ∨ j = 2 * t + 1
        · rw [if_pos q2, if_neg (show ¬ i = j by omega), if_neg (fun z => z.2.1 q2), if_neg (fun z => z.2.1 q1)]
        · rw [if_neg q2, if_pos ⟨q1, q2, hj⟩]
      · rw [if_neg q1, if_neg (fun z => q1 z.1)]
        by_cases q2 : j = 2 * t ∨ j = 2 * t + 1
        · rw [if_pos q2, if_pos ⟨q2, q1, hi'⟩]
        · rw [if_neg q2, if_neg (fun z => q2 z.1)]
theorem isT_eq {t i j : Nat} (hi : isT t i) (hj : isT t j) : j = i ∨ j = opp i := by
  unfold isT opp at *
  split <;> omega
end Go.Proofs.YtffajooegiempabDoor

namespace Go.Proofs.YtffajooegiempabDoor
open Go.RowKit
variable {w : World}

abbrev tNk : TypeId := 3
/-- The two variables of a pair. -/
def px (k : Nat) : Nat := [0, 0, 0, 1, 1, 2].getD k 0
def py (k : Nat) : Nat := [1, 2, 3, 2, 3, 3].getD k 0
def fst (k : Nat) (sx sy : Int) (t : Nat) : List Int := if k < t then ([0, 0, 0, 0].set (px k) sx).set (py k) sy else [0, 0, 0, 0]

set_option maxRecDepth 100000 in
set_option maxHeartbeats 1600000 in
theorem k_form_lo (f : Nat) (hf : f < 8) : Calls Tryd.prog 29 #[.int .i64 (f : Int)] w fun e w' => e = .returned (.slice (some ⟨w.heap.size, 0, none⟩) 4 4) ∧ At w' w.heap.size (ic (frm f)) tNk ∧ Below w.heap.size w w' := by
  have hmk : ∀ w, (Instr.makeSlice 22 (.int .i64 4) (.int .i64 4)).run Tryd.prog w = .ok (.slice (some ⟨w.heap.size, 0, none⟩) 4 4) (w.alloc (.cells #[.int .i64 0, .int .i64 0, .int .i64 0, .int .i64 0] tNk)) := fun _ => by kernel_rfl
  have HB : Hid (∀ o, Below w.heap.size w (w.alloc o)) := fun o => (Below.refl _ _).alloc (Nat.le_refl _) _
  rcases (show f = 0 ∨ f = 1 ∨ f = 2 ∨ f = 3 ∨ f = 4 ∨ f = 5 ∨ f = 6 ∨ f = 7 by omega) with rfl | rfl | rfl | rfl | rfl | rfl | rfl | rfl
  all_goals
    go_enter Tryd.func29, Tryd.ntmps29
    go_wp2_with fail
    go_ret
    refine ⟨rfl, ?_, ?_⟩
    · exact At.new _ _ _
    · exact HB.out _

theorem form_parts : ∀ f : Nat, f < 32 → 8 ≤ f → ((f : Int) - 8).tdiv 4 = (((f - 8) / 4 : Nat) : Int) ∧ (((f : Int) - 8).tmod 4).tdiv 2 = (((f - 8) % 4 / 2 : Nat) : Int) ∧ ((f : Int) - 8).tmod 2 = (((f - 8) % 2 : Nat) : Int) ∧ (f - 8) / 4 < 6 ∧ (f - 8) % 4 / 2 < 2 ∧ (f - 8) % 2 < 2 ∧
    frm f = fst ((f - 8) / 4) (1 - (((f - 8) % 4 / 2 : Nat) : Int) * 2) (1 - (((f - 8) % 2 : Nat) : Int) * 2) 6 := by decide

/-- How many pairs come ahead of x. -/
def tx (x : Nat) : Nat := [0, 3, 5, 6, 6].getD x 6
set_option maxRecDepth 100000 in
set_option maxHeartbeats 3200000 in
theorem k_form_hi (f : Nat) (hf : f < 32) (hf8 : 8 ≤ f) : Calls Tryd.prog 29 #[.int .i64 (f : Int)] w fun e w' => e = .returned (.slice (some ⟨w.heap.size, 0, none⟩) 4 4) ∧ At w' w.heap.size (ic (frm f)) tNk ∧ Below w.heap.size w w' := by
  have hmk : ∀ w, (Instr.makeSlice 22 (.int .i64 4) (.int .i64 4)).run Tryd.prog w = .ok (.slice (some ⟨w.heap.size, 0, none⟩) 4 4) (w.alloc (.cells #[.int .i64 0, .int .i64 0, .int .i64 0, .int .i64 0] tNk)) := fun _ => by kernel_rfl
  have HA : Hid (At (w.alloc (.cells #[.int .i64 0, .int .i64 0, .int .i64 0, .int .i64 0] tNk)) w.heap.size (ic [0, 0, 0, 0]) tNk) := At.new _ _ _
  have HB : Hid (∀ o, Below w.heap.size w (w.alloc o)) := fun o => (Below.refl _ _).alloc (Nat.le_refl _) _
  obtain ⟨p1, p2, p3, p4, p5, p6, p7⟩ := form_parts f hf hf8
  have HF : Hid (_ = _) := p7
  have hfi : ¬ (f : Int) < 8 := by omega
  have hfu : (f : Int) < 32 := by omega
  generalize (f - 8) / 4 = k at *
  obtain ⟨a, ha⟩ : ∃ a : Int, a = (((f - 8) % 4 / 2 : Nat) : Int) := ⟨_, rfl⟩
  obtain ⟨c, hc⟩ : ∃ c : Int, c = (((f - 8) % 2 : Nat) : Int) := ⟨_, rfl⟩
  have HA2 : Hid (((f : Int) - 8) % 4 / 2 = a) := by show _ = a; omega
  rw [← ha] at p2 HF
  rw [← hc] at p3 HF
  have a0 : 0 ≤ a := by omega
  have a1 : a ≤ 1 := by omega
  have c0' : 0 ≤ c := by omega
  have c1' : c ≤ 1 := by omega
  have HS : Hid (fst k (1 - a * 2) (1 - c * 2) 0 = [0, 0, 0, 0]) := by show fst _ _ _ _ = _; unfold fst; rw [if_neg (by omega)]
  clear ha hc p5 p6 p7 hf
  go_enter Tryd.func29, Tryd.ntmps29
  go_wp2_with fail
  go_loopw [4, 5] (fun kv xv wr => ∃ (x : Nat), x ≤ 4 ∧ xv = .int .i64 x ∧ kv = .int .i64 ((k : Int) - ((tx x : Nat) : Int)) ∧ Hid (At wr w.heap.size (ic (fst k (1 - a * 2) (1 - c * 2) (tx x))) tNk ∧ Below w.heap.size w wr)) (fun _ xv _ => 4 - (intOf xv).toNat)
  case atStart => exact ⟨0, by omega, rfl, by show Value.int .i64 (k : Int) = .int .i64 ((k : Int) - ((0 : Nat) : Int)); rw [show ((0 : Nat) : Int) = 0 from rfl, Int.sub_zero], by show At _ _ (ic (fst k (1 - a * 2) (1 - c * 2) 0)) _; rw [HS.out]; exact HA.out, HB.out _⟩
  case round =>
    obtain ⟨x, hx, rfl, rfl, HR⟩ := hrel
    rcases (show x = 0 ∨ x = 1 ∨ x = 2 ∨ x = 3 ∨ x = 4 by omega) with rfl | rfl | rfl | rfl | rfl
    · have hx4 : (0 : Nat) < 4 := by omega
      obtain ⟨w4, rfl⟩ : ∃ w4, w4 = wr := ⟨_, rfl⟩
      go_wp2_with fail
      go_loopw [4, 6] (fun kv yv wr => ∃ (y : Nat), 0 + 1 ≤ y ∧ y ≤ 4 ∧ yv = .int .i64 y ∧ kv = .int .i64 ((k : Int) - ((0 + (y - 0 - 1) : Nat) : Int)) ∧ Hid (At wr w.heap.size (ic (fst k (1 - a * 2) (1 - c * 2) (0 + (y - 0 - 1)))) tNk ∧ Below w.heap.size w wr)) (fun _ yv _ => 4 - (intOf yv).toNat)
      case atStart => exact ⟨1, by omega, by omega, rfl, rfl, HR.out⟩
      case round =>
        obtain ⟨y, hy1, hy2, rfl, rfl, HQ⟩ := hrel
        by_cases hlt : y < 4
        · rcases (show y = 1 ∨ y = 2 ∨ y = 3 by omega) with rfl | rfl | rfl
          · by_cases hk : k = 0
            · subst hk
              have c0 := HQ.out.1.cell 0
              have c1 := HQ.out.1.cell 1
              have c2 := HQ.out.1.cell 2
              have c3 := HQ.out.1.cell 3
              have cf := HQ.out.1.free
              have hbl := HQ.out.1.lt
              have e00 : fst 0 (1 - a * 2) (1 - c * 2) 0 = [0, 0, 0, 0] := rfl
              rw [e00] at c0 c1 c2 c3
              simp [ic] at c0 c1 c2 c3
              go_wp2_with fail
              go_roundw
              case rel =>
                refine ⟨1 + 1, by omega, by omega, rfl, rfl, ?_, ?_⟩
                · try rw [HA2.out]
                  exact (HQ.out.1.put (px 0) (.int .i64 (1 - a * 2))).put (py 0) (.int .i64 (1 - c * 2))
                · exact (HQ.out.2.setCell (by show w.heap.size ≤ w.heap.size; omega) _).setCell (by show w.heap.size ≤ w.heap.size; omega) _
              case measure => simp [intOf]
            · have hkb : ((k : Int) - 0 == 0) = false := by rw [beq_eq_false_iff_ne]; omega
              have HE : Hid (fst k (1 - a * 2) (1 - c * 2) (0 + 1) = fst k (1 - a * 2) (1 - c * 2) 0) := by
                show fst _ _ _ _ = _
                unfold fst
                by_cases q : k < 0
                · rw [if_pos q, if_pos (by omega)]
                · rw [if_neg q, if_neg (by omega)]
              go_wp2_with fail
              go_roundw
              case rel =>
                refine ⟨1 + 1, by omega, by omega, rfl, ?_, ?_, HQ.out.2⟩
                · first | rfl | (congr 1; omega) | (congr 1; simp; omega)
                · show At _ _ (ic (fst k (1 - a * 2) (1 - c * 2) (0 + 1))) _
                  rw [HE.out]; exact HQ.out.1
              case measure => simp [intOf]
          · by_cases hk : k = 1
            · subst hk
              have c0 := HQ.out.1.cell 0
              have c1 := HQ.out.1.cell 1
              have c2 := HQ.out.1.cell 2
              have c3 := HQ.out.1.cell 3
              have cf := HQ.out.1.free
              have hbl := HQ.out.1.lt
              have e00 : fst 1 (1 - a * 2) (1 - c * 2) 1 = [0, 0, 0, 0] := rfl
              rw [e00] at c0 c1 c2 c3
              simp [ic] at c0 c1 c2 c3
              go_wp2_with fail
              go_roundw
              case rel =>
                refine ⟨2 + 1, by omega, by omega, rfl, rfl, ?_, ?_⟩
                · try rw [HA2.out]
                  exact (HQ.out.1.put (px 1) (.int .i64 (1 - a * 2))).put (py 1) (.int .i64 (1 - c * 2))
                · exact (HQ.out.2.setCell (by show w.heap.size ≤ w.heap.size; omega) _).setCell (by show w.heap.size ≤ w.heap.size; omega) _
              case measure => simp [intOf]
            · have hkb : ((k : Int) - 1 == 0) = false := by rw [beq_eq_false_iff_ne]; omega
              have HE : Hid (fst k (1 - a * 2) (1 - c * 2) (1 + 1) = fst k (1 - a * 2) (1 - c * 2) 1) := by
                show fst _ _ _ _ = _
                unfold fst
                by_cases q : k < 1
                · rw [if_pos q, if_pos (by omega)]
                · rw [if_neg q, if_neg (by omega)]
              go_wp2_with fail
              go_roundw
              case rel =>
                refine ⟨2 + 1, by omega, by omega, rfl, ?_, ?_, HQ.out.2⟩
                · first | rfl | (congr 1; omega) | (congr 1; simp; omega)
                · show At _ _ (ic (fst k (1 - a * 2) (1 - c * 2) (1 + 1))) _
                  rw [HE.out]; exact HQ.out.1
              case measure => simp [intOf]
          · by_cases hk : k = 2
            · subst hk
              have c0 := HQ.out.1.cell 0
              have c1 := HQ.out.1.cell 1
              have c2 := HQ.out.1.cell 2
              have c3 := HQ.out.1.cell 3
              have cf := HQ.out.1.free
              have hbl := HQ.out.1.lt
              have e00 : fst 2 (1 - a * 2) (1 - c * 2) 2 = [0, 0, 0, 0] := rfl
              rw [e00] at c0 c1 c2 c3
              simp [ic] at c0 c1 c2 c3
              go_wp2_with fail
              go_roundw
              case rel =>
                refine ⟨3 + 1, by omega, by omega, rfl, rfl, ?_, ?_⟩
                · try rw [HA2.out]
                  exact (HQ.out.1.put (px 2) (.int .i64 (1 - a * 2))).put (py 2) (.int .i64 (1 - c * 2))
                · exact (HQ.out.2.setCell (by show w.heap.size ≤ w.heap.size; omega) _).setCell (by show w.heap.size ≤ w.heap.size; omega) _
              case measure => simp [intOf]
            · have hkb : ((k : Int) - 2 == 0) = false := by rw [beq_eq_false_iff_ne]; omega
              have HE : Hid (fst k (1 - a * 2) (1 - c * 2) (2 + 1) = fst k (1 - a * 2) (1 - c * 2) 2) := by
                show fst _ _ _ _ = _
                unfold fst
                by_cases q : k < 2
                · rw [if_pos q, if_pos (by omega)]
                · rw [if_neg q, if_neg (by omega)]
              go_wp2_with fail
              go_roundw
              case rel =>
                refine ⟨3 + 1, by omega, by omega, rfl, ?_, ?_, HQ.out.2⟩
                · first | rfl | (congr 1; omega) | (congr 1; simp; omega)
                · show At _ _ (ic (fst k (1 - a * 2) (1 - c * 2) (2 + 1))) _
                  rw [HE.out]; exact HQ.out.1
              case measure => simp [intOf]
        · have hy4 : y = 4 := by omega
          subst hy4
          go_wp2_with fail
          go_roundw
          case rel => exact ⟨0 + 1, by omega, rfl, rfl, HQ.out⟩
          case measure => simp [intOf]
    · have hx4 : (1 : Nat) < 4 := by omega
      obtain ⟨w4, rfl⟩ : ∃ w4, w4 = wr := ⟨_, rfl⟩
      go_wp2_with fail
      go_loopw [4, 6] (fun kv yv wr => ∃ (y : Nat), 1 + 1 ≤ y ∧ y ≤ 4 ∧ yv = .int .i64 y ∧ kv = .int .i64 ((k : Int) - ((3 + (y - 1 - 1) : Nat) : Int)) ∧ Hid (At wr w.heap.size (ic (fst k (1 - a * 2) (1 - c * 2) (3 + (y - 1 - 1)))) tNk ∧ Below w.heap.size w wr)) (fun _ yv _ => 4 - (intOf yv).toNat)
      case atStart => exact ⟨2, by omega, by omega, rfl, rfl, HR.out⟩
      case round =>
        obtain ⟨y, hy1, hy2, rfl, rfl, HQ⟩ := hrel
        by_cases hlt : y < 4
        · rcases (show y = 2 ∨ y = 3 by omega) with rfl | rfl
          · by_cases hk : k = 3
            · subst hk
              have c0 := HQ.out.1.cell 0
              have c1 := HQ.out.1.cell 1
              have c2 := HQ.out.1.cell 2
              have c3 := HQ.out.1.cell 3
              have cf := HQ.out.1.free
              have hbl := HQ.out.1.lt
              have e00 : fst 3 (1 - a * 2) (1 - c * 2) 3 = [0, 0, 0, 0] := rfl
              rw [e00] at c0 c1 c2 c3
              simp [ic] at c0 c1 c2 c3
              go_wp2_with fail
              go_roundw
              case rel =>
                refine ⟨2 + 1, by omega, by omega, rfl, rfl, ?_, ?_⟩
                · try rw [HA2.out]
                  exact (HQ.out.1.put (px 3) (.int .i64 (1 - a * 2))).put (py 3) (.int .i64 (1 - c * 2))
                · exact (HQ.out.2.setCell (by show w.heap.size ≤ w.heap.size; omega) _).setCell (by show w.heap.size ≤ w.heap.size; omega) _
              case measure => simp [intOf]
            · have hkb : ((k : Int) - 3 == 0) = false := by rw [beq_eq_false_iff_ne]; omega
              have HE : Hid (fst k (1 - a * 2) (1 - c * 2) (3 + 1) = fst k (1 - a * 2) (1 - c * 2) 3) := by
                show fst _ _ _ _ = _
                unfold fst
                by_cases q : k < 3
                · rw [if_pos q, if_pos (by omega)]
                · rw [if_neg q, if_neg (by omega)]
              go_wp2_with fail
              go_roundw
              case rel =>
                refine ⟨2 + 1, by omega, by omega, rfl, ?_, ?_, HQ.out.2⟩
                · first | rfl | (congr 1; omega) | (congr 1; simp; omega)
                · show At _ _ (ic (fst k (1 - a * 2) (1 - c * 2) (3 + 1))) _
                  rw [HE.out]; exact HQ.out.1
              case measure => simp [intOf]
          · by_cases hk : k = 4
            · subst hk
              have c0 := HQ.out.1.cell 0
              have c1 := HQ.out.1.cell 1
              have c2 := HQ.out.1.cell 2
              have c3 := HQ.out.1.cell 3
              have cf := HQ.out.1.free
              have hbl := HQ.out.1.lt
              have e00 : fst 4 (1 - a * 2) (1 - c * 2) 4 = [0, 0, 0, 0] := rfl
              rw [e00] at c0 c1 c2 c3
              simp [ic] at c0 c1 c2 c3
              go_wp2_with fail
              go_roundw
              case rel =>
                refine ⟨3 + 1, by omega, by omega, rfl, rfl, ?_, ?_⟩
                · try rw [HA2.out]
                  exact (HQ.out.1.put (px 4) (.int .i64 (1 - a * 2))).put (py 4) (.int .i64 (1 - c * 2))
                · exact (HQ.out.2.setCell (by show w.heap.size ≤ w.heap.size; omega) _).setCell (by show w.heap.size ≤ w.heap.size; omega) _
              case measure => simp [intOf]
            · have hkb : ((k : Int) - 4 == 0) = false := by rw [beq_eq_false_iff_ne]; omega
              have HE : Hid (fst k (1 - a * 2) (1 - c * 2) (4 + 1) = fst k (1 - a * 2) (1 - c * 2) 4) := by
                show fst _ _ _ _ = _
                unfold fst
                by_cases q : k < 4
                · rw [if_pos q, if_pos (by omega)]
                · rw [if_neg q, if_neg (by omega)]
              go_wp2_with fail
              go_roundw
              case rel =>
                refine ⟨3 + 1, by omega, by omega, rfl, ?_, ?_, HQ.out.2⟩
                · first | rfl | (congr 1; omega) | (congr 1; simp; omega)
                · show At _ _ (ic (fst k (1 - a * 2) (1 - c * 2) (4 + 1))) _
                  rw [HE.out]; exact HQ.out.1
              case measure => simp [intOf]
        · have hy4 : y = 4 := by omega
          subst hy4
          go_wp2_with fail
          go_roundw
          case rel => exact ⟨1 + 1, by omega, rfl, rfl, HQ.out⟩
          case measure => simp [intOf]
    · have hx4 : (2 : Nat) < 4 := by omega
      obtain ⟨w4, rfl⟩ : ∃ w4, w4 = wr := ⟨_, rfl⟩
      go_wp2_with fail
      go_loopw [4, 6] (fun kv yv wr => ∃ (y : Nat), 2 + 1 ≤ y ∧ y ≤ 4 ∧ yv = .int .i64 y ∧ kv = .int .i64 ((k : Int) - ((5 + (y - 2 - 1) : Nat) : Int)) ∧ Hid (At wr w.heap.size (ic (fst k (1 - a * 2) (1 - c * 2) (5 + (y - 2 - 1)))) tNk ∧ Below w.heap.size w wr)) (fun _ yv _ => 4 - (intOf yv).toNat)
      case atStart => exact ⟨3, by omega, by omega, rfl, rfl, HR.out⟩
      case round =>
        obtain ⟨y, hy1, hy2, rfl, rfl, HQ⟩ := hrel
        by_cases hlt : y < 4
        · obtain rfl : y = 3 := by omega
          by_cases hk : k = 5
          · subst hk
            have c0 := HQ.out.1.cell 0
            have c1 := HQ.out.1.cell 1
            have c2 := HQ.out.1.cell 2
            have c3 := HQ.out.1.cell 3
            have cf := HQ.out.1.free
            have hbl := HQ.out.1.lt
            have e00 : fst 5 (1 - a * 2) (1 - c * 2) 5 = [0, 0, 0, 0] := rfl
            rw [e00] at c0 c1 c2 c3
            simp [ic] at c0 c1 c2 c3
            go_wp2_with fail
            go_roundw
            case rel =>
              refine ⟨3 + 1, by omega, by omega, rfl, rfl, ?_, ?_⟩
              · try rw [HA2.out]
                exact (HQ.out.1.put (px 5) (.int .i64 (1 - a * 2))).put (py 5) (.int .i64 (1 - c * 2))
              · exact (HQ.out.2.setCell (by show w.heap.size ≤ w.heap.size; omega) _).setCell (by show w.heap.size ≤ w.heap.size; omega) _
            case measure => simp [intOf]
          · have hkb : ((k : Int) - 5 == 0) = false := by rw [beq_eq_false_iff_ne]; omega
            have HE : Hid (fst k (1 - a * 2) (1 - c * 2) (5 + 1) = fst k (1 - a * 2) (1 - c * 2) 5) := by
              show fst _ _ _ _ = _
              unfold fst
              by_cases q : k < 5
              · rw [if_pos q, if_pos (by omega)]
              · rw [if_neg q, if_neg (by omega)]
            go_wp2_with fail
            go_roundw
            case rel =>
              refine ⟨3 + 1, by omega, by omega, rfl, ?_, ?_, HQ.out.2⟩
              · first | rfl | (congr 1; omega) | (congr 1; simp; omega)
              · show At _ _ (ic (fst k (1 - a * 2) (1 - c * 2) (5 + 1))) _
                rw [HE.out]; exact HQ.out.1
            case measure => simp [intOf]
        · have hy4 : y = 4 := by omega
          subst hy4
          go_wp2_with fail
          go_roundw
          case rel => exact ⟨2 + 1, by omega, rfl, rfl, HQ.out⟩
          case measure => simp [intOf]
    · have hx4 : (3 : Nat) < 4 := by omega
      obtain ⟨w4, rfl⟩ : ∃ w4, w4 = wr := ⟨_, rfl⟩
      go_wp2_with fail
      go_loopw [4, 6] (fun kv yv wr => ∃ (y : Nat), 3 + 1 ≤ y ∧ y ≤ 4 ∧ yv = .int .i64 y ∧ kv = .int .i64 ((k : Int) - ((6 + (y - 3 - 1) : Nat) : Int)) ∧ Hid (At wr w.heap.size (ic (fst k (1 - a * 2) (1 - c * 2) (6 + (y - 3 - 1)))) tNk ∧ Below w.heap.size w wr)) (fun _ yv _ => 4 - (intOf yv).toNat)
      case atStart => exact ⟨4, by omega, by omega, rfl, rfl, HR.out⟩
      case round =>
        obtain ⟨y, hy1, hy2, rfl, rfl, HQ⟩ := hrel
        have hy4 : y = 4 := by omega
        subst hy4
        go_wp2_with fail
        go_roundw
        case rel => exact ⟨3 + 1, by omega, rfl, rfl, HQ.out⟩
        case measure => simp [intOf]
    · go_wp2_with fail
      go_ret
      exact ⟨rfl, by rw [HF.out]; exact HR.out.1, HR.out.2⟩

end Go.Proofs.YtffajooegiempabDoor

namespace Go.Proofs.YtffajooegiempabDoor
open Go.RowKit
variable {w : World}
theorem four_of {l : List Int} (h : l.length = 4) : ∃ a b c d, l = [a, b, c, d] := by
  match l, h with
  | [a, b, c, d], _ => exact ⟨a, b, c, d, rfl⟩
end Go.Proofs.YtffajooegiempabDoor

namespace Go.Proofs.YtffajooegiempabDoor
open Go.RowKit
variable {w : World}
end Go.Proofs.YtffajooegiempabDoor



namespace Go.Proofs.YtffajooegiempabDoor
open Go.RowKit

abbrev tN : TypeId := 3

end Go.Proofs.YtffajooegiempabDoor

namespace Go.Proofs.YtffajooegiempabDoor
open Go.RowKit
end Go.Proofs.YtffajooegiempabDoor

namespace Go.Proofs.YtffajooegiempabDoor
open Go.RowKit
variable {w : World}
end Go.Proofs.YtffajooegiempabDoor

