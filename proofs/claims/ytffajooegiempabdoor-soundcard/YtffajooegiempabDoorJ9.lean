import Derived.Test.YtffajooegiempabDoorJ8
import Derived.Deep.RegionWith
import Derived.Deep.RegionLaw
import Derived.BigRegion
namespace Go.Proofs.YtffajooegiempabDoor
open Go.RowKit
variable {w : World} {e0 : Bool} {M : Nat → Int}

/-- A variable is made each number from lo to hi: the bounds with the other sides. -/
def sbF (M : Nat → Int) (t : Nat) (lo hi : Int) : Nat → Nat → Int
  | 0 => M
  | j + 1 => if j = 2 * t ∨ j = 2 * t + 1 then sbF M t lo hi j
    else lm (lm (sbF M t lo hi j) (2 * t) j (pl hi (mo (sbF M t lo hi j) j j))) (2 * t + 1) j (pl (-lo) (mo (sbF M t lo hi j) j j))
def sbT (M : Nat → Int) (t : Nat) (lo hi : Int) : Nat → Int := lm (lm (sbF M t lo hi 8) (2 * t) (2 * t) hi) (2 * t + 1) (2 * t + 1) (-lo)
theorem lm_sm {N : Nat → Int} (hN : Sm N) {i j : Nat} {n : Int} (h : -45000000000 ≤ n ∧ (n = NB ∨ n ≤ 500000)) : Sm (lm N i j n) := by
  intro k hk
  have := hN k hk
  unfold NB at h
  unfold lm upd NB
  split
  · split <;> omega
  · split
    · split <;> omega
    · exact this
/-- Half of the room. -/
def Sh (M : Nat → Int) : Prop := ∀ k, k < 64 → -40000000000 ≤ M k ∧ (M k = NB ∨ M k ≤ 432000)
theorem Sh.sm (h : Sh M) : Sm M := fun k hk => by have := h k hk; unfold NB at this; omega
theorem sbF_dia (M : Nat → Int) {t : Nat} (ht : t < 4) (lo hi : Int) : ∀ n, n ≤ 8 → ∀ j, j < 8 → j ≠ 2 * t → j ≠ 2 * t + 1 → sbF M t lo hi n (j * 8 + j) = M (j * 8 + j) := by
  intro n
  induction n with
  | zero => intro _ j _ _ _; rfl
  | succ n ih =>
    intro hn j hj h1 h2
    have e := ih (by omega) j hj h1 h2
    rw [sbF]
    split
    · exact e
    · rename_i c
      unfold lm
      rw [upd_other _ _ (by omega), upd_other _ _ (by omega), upd_other _ _ (by omega), upd_other _ _ (by omega)]
      exact e
theorem mo_half (h : Sh M) {j : Nat} (hj : j < 8) : -40000000000 ≤ mo M j j ∧ (mo M j j = NB ∨ mo M j j ≤ 400000) := by
  have a := h (j * 8 + j) (by omega)
  have t := tdiv2 (M (j * 8 + j))
  unfold mo
  by_cases q : M (j * 8 + j) = NB
  · rw [if_neg (fun z => z.2 q)]
    exact ⟨a.1, .inl q⟩
  · rw [if_pos ⟨rfl, q⟩]
    have a2 := a.2.resolve_left q
    rcases Int.lt_or_le (M (j * 8 + j)) 0 with c | c
    · rw [t.2 c]; exact ⟨by omega, .inr (by omega)⟩
    · rw [t.1 c]; exact ⟨by omega, .inr (by omega)⟩

theorem pl_half {a b : Int} (ha : -999 ≤ a ∧ a ≤ 999) (hb : -40000000000 ≤ b ∧ (b = NB ∨ b ≤ 400000)) : -41000000000 ≤ pl a b ∧ (pl a b = NB ∨ pl a b ≤ 500000) := by
  unfold pl
  by_cases q : a = NB ∨ b = NB
  · rw [if_pos q]; exact ⟨by decide, .inl rfl⟩
  · rw [if_neg q]
    have : b ≠ NB := fun z => q (.inr z)
    have := hb.2.resolve_left this
    exact ⟨by omega, .inr (by omega)⟩

theorem mo_congr {N : Nat → Int} {j : Nat} (h : N (j * 8 + j) = M (j * 8 + j)) : mo N j j = mo M j j := by unfold mo; rw [h]
theorem sbF_sm (h : Sh M) {t : Nat} (ht : t < 4) {lo hi : Int} (hlo : -999 ≤ -lo ∧ -lo ≤ 999) (hhi : -999 ≤ hi ∧ hi ≤ 999) : ∀ n, n ≤ 8 → Sm (sbF M t lo hi n) := by
  intro n
  induction n with
  | zero => intro _; exact h.sm
  | succ n ih =>
    intro hn
    rw [sbF]
    split
    · exact ih (by omega)
    · rename_i c
      have e := mo_congr (sbF_dia M ht lo hi n (by omega) n (by omega) (fun z => c (.inl z)) (fun z => c (.inr z)))
      rw [e]
      have q := mo_half h (show n < 8 by omega)
      have a := pl_half hhi q
      have b := pl_half hlo q
      exact lm_sm (lm_sm (ih (by omega)) ⟨by omega, a.2⟩) ⟨by omega, b.2⟩

set_option maxRecDepth 100000 in
set_option maxHeartbeats 3200000 in
theorem o_setBetween (h : Sh M) (t : Nat) (ht : t < 4) (lo hi : Int) (hlo : -999 ≤ lo ∧ lo ≤ 999) (hhi : -999 ≤ hi ∧ hi ≤ 999) :
    Calls Tryd.prog 79 #[.agg (oc e0 M), .int .i64 (t : Int), .int .i64 lo, .int .i64 hi] w fun e w' => e = .returned (.agg (oc e0 (sbT M t lo hi))) ∧ Below w.heap.size w w' := by
  have hz := o_zero
  have hlo' : -999 ≤ -lo ∧ -lo ≤ 999 := by omega
  have HSm : Hid (∀ n, n ≤ 8 → Sm (sbF M t lo hi n)) := sbF_sm h ht hlo' hhi
  have hti : (t : Int) < 4 := by omega
  have ht0 : ¬ (4 : Int) ≤ (t : Int) := by omega
  obtain ⟨w0, hw0⟩ : ∃ w0, w0 = (w.alloc (.cells (oc e0 M) tO)).alloc (.cells (oc false fun _ => 0) tO) := ⟨_, rfl⟩
  have H0 : Hid (OAt w0 w.heap.size e0 (sbF M t lo hi 0) ∧ OAt w0 (w.heap.size + 1) false (fun _ => 0) ∧ Below w.heap.size w w0) := by
    refine ⟨by rw [hw0]; exact At.allocH (At.new _ _ _) _, ?_, by rw [hw0]; exact ((Below.refl _ _).alloc (Nat.le_refl _) _).alloc (by simp) _⟩
    have := At.new (w.alloc (.cells (oc e0 M) tO)) (oc false fun _ => 0) tO
    rw [show (w.alloc (.cells (oc e0 M) tO)).heap.size = w.heap.size + 1 by simp] at this
    rw [hw0]; exact this
  have HMo : Hid (∀ w1 n j, n ≤ 8 → j < 8 → Calls Tryd.prog 71 #[.agg (oc e0 (sbF M t lo hi n)), .int .i64 ((j : Nat) : Int), .int .i64 ((j : Nat) : Int)] w1 fun e w' => e = .returned (.int .i64 (mo (sbF M t lo hi n) j j)) ∧ Below w1.heap.size w1 w') := fun w1 n j hn hj => o_most j j hj hj (by have := HSm.out n hn (j * 8 + j) (by omega); omega)
  have HRg : Hid (∀ n, n < 8 → n ≠ 2 * t → n ≠ 2 * t + 1 → (-40000000000 ≤ mo (sbF M t lo hi n) n n ∧ mo (sbF M t lo hi n) n n ≤ 1000000) ∧ (-41000000000 ≤ pl hi (mo (sbF M t lo hi n) n n) ∧ pl hi (mo (sbF M t lo hi n) n n) ≤ 1000000) ∧ (-41000000000 ≤ pl (-lo) (mo (sbF M t lo hi n) n n) ∧ pl (-lo) (mo (sbF M t lo hi n) n n) ≤ 1000000)) := by
    intro n hn h1 h2
    rw [mo_congr (sbF_dia M ht lo hi n (by omega) n hn h1 h2)]
    have q := mo_half h hn
    have a := pl_half hhi q
    have b := pl_half hlo' q
    unfold NB at q a b
    omega
  have HEq : Hid (∀ n, sbF M t lo hi (n + 1) = if n = 2 * t ∨ n = 2 * t + 1 then sbF M t lo hi n else lm (lm (sbF M t lo hi n) (2 * t) n (pl hi (mo (sbF M t lo hi n) n n))) (2 * t + 1) n (pl (-lo) (mo (sbF M t lo hi n) n n))) := fun _ => rfl
  have HT : Hid (sbT M t lo hi = lm (lm (sbF M t lo hi 8) (2 * t) (2 * t) hi) (2 * t + 1) (2 * t + 1) (-lo)) := rfl
  have HLm : Hid (∀ w1 (b : Nat) (N : Nat → Int) (i j : Nat) (n : Int), i < 8 → j < 8 → (-1000000000000 ≤ n ∧ n ≤ 1000000000000) → OAt w1 b e0 N → Calls Tryd.prog 66 #[.pointer (some ⟨b, 0, none⟩), .int .i64 (i : Int), .int .i64 (j : Int), .int .i64 n] w1 fun e w' => e = .returned (.tuple #[]) ∧ Hid (OAt w' b e0 (lm N i j n) ∧ Onl b w1 w')) := fun w1 b N i j n hi hj hn ha => (o_limit ha i j hi hj n hn).mono fun e w' h => h
  have e2t : ((2 * t : Nat) : Int) = 2 * (t : Int) := by omega
  have e2t1 : ((2 * t + 1 : Nat) : Int) = 2 * (t : Int) + 1 := by omega
  rw [hw0] at H0
  clear h hw0 hlo'
  go_enter Tryd.func79, Tryd.ntmps79
  go_wp2_with fail
  go_loopw [11] (fun jv wr => ∃ (j : Nat), j ≤ 8 ∧ jv = .int .i64 j ∧ Hid (OAt wr w.heap.size e0 (sbF M t lo hi j) ∧ OAt wr (w.heap.size + 1) false (fun _ => 0) ∧ Below w.heap.size w wr)) (fun jv _ => 8 - (intOf jv).toNat)
  case atStart => exact ⟨0, by omega, rfl, H0.out⟩
  case round =>
    obtain ⟨j, hj, rfl, HR⟩ := hrel
    clear H0
    by_cases hlt : j < 8
    · have hji : (j : Int) < 8 := by omega
      by_cases c1 : j = 2 * t
      · have HE : Hid (sbF M t lo hi (j + 1) = sbF M t lo hi j) := (HEq.out j).trans (if_pos (.inl c1))
        have b1 : ((j : Int) == 2 * (t : Int)) = true := by rw [beq_iff_eq]; omega
        clear c1
        go_wp2_with fail
        go_roundw
        case rel => exact ⟨j + 1, by omega, by go_num, by rw [HE.out]; exact HR.out.1, HR.out.2⟩
        case measure => simp [intOf]; omega
      · have b1 : ((j : Int) == 2 * (t : Int)) = false := by rw [beq_eq_false_iff_ne]; omega
        by_cases c2 : j = 2 * t + 1
        · have HE : Hid (sbF M t lo hi (j + 1) = sbF M t lo hi j) := (HEq.out j).trans (if_pos (.inr c2))
          have b2 : ((j : Int) == 2 * (t : Int) + 1) = true := by rw [beq_iff_eq]; omega
          clear c1 c2
          go_wp2_with fail
          go_roundw
          case rel => exact ⟨j + 1, by omega, by go_num, by rw [HE.out]; exact HR.out.1, HR.out.2⟩
          case measure => simp [intOf]; omega
        · have b2 : ((j : Int) == 2 * (t : Int) + 1) = false := by rw [beq_eq_false_iff_ne]; omega
          have HE : Hid (sbF M t lo hi (j + 1) = _) := (HEq.out j).trans (if_neg (fun z => z.elim c1 c2))
          obtain ⟨⟨m1, m2⟩, ⟨m3, m4⟩, ⟨m5, m6⟩⟩ := HRg.out j hlt c1 c2
          have hmo := HMo.out wr j j hj hlt
          have hp1 := fun w1 => o_plus hi (mo (sbF M t lo hi j) j j) ⟨by omega, by omega⟩ ⟨by omega, m2⟩ w1
          have hp2 := fun w1 => o_plus (-lo) (mo (sbF M t lo hi j) j j) ⟨by omega, by omega⟩ ⟨by omega, m2⟩ w1
          have hlr : w.heap.size + 1 < wr.heap.size := At.lt HR.out.2.1
          have HLm1 : Hid (∀ w1 (N : Nat → Int), OAt w1 w.heap.size e0 N → Calls Tryd.prog 66 #[.pointer (some ⟨w.heap.size, 0, none⟩), .int .i64 (2 * (t : Int)), .int .i64 (j : Int), .int .i64 (pl hi (mo (sbF M t lo hi j) j j))] w1 fun e w' => e = .returned (.tuple #[]) ∧ Hid (OAt w' w.heap.size e0 (lm N (2 * t) j (pl hi (mo (sbF M t lo hi j) j j))) ∧ Onl w.heap.size w1 w')) := fun w1 N ha => by
            rw [← e2t]; exact HLm.out w1 _ N (2 * t) j _ (by omega) hlt ⟨by omega, by omega⟩ ha
          have HLm2 : Hid (∀ w1 (N : Nat → Int), OAt w1 w.heap.size e0 N → Calls Tryd.prog 66 #[.pointer (some ⟨w.heap.size, 0, none⟩), .int .i64 (2 * (t : Int) + 1), .int .i64 (j : Int), .int .i64 (pl (-lo) (mo (sbF M t lo hi j) j j))] w1 fun e w' => e = .returned (.tuple #[]) ∧ Hid (OAt w' w.heap.size e0 (lm N (2 * t + 1) j (pl (-lo) (mo (sbF M t lo hi j) j j))) ∧ Onl w.heap.size w1 w')) := fun w1 N ha => by
            rw [← e2t1]; exact HLm.out w1 _ N (2 * t + 1) j _ (by omega) hlt ⟨by omega, by omega⟩ ha
          have HP1 : Hid (∀ w1, Calls Tryd.prog 84 _ w1 _) := hp1
          have HP2 : Hid (∀ w1, Calls Tryd.prog 84 _ w1 _) := hp2
          clear c1 c2 hp1 hp2
          generalize pl hi (mo (sbF M t lo hi j) j j) = q1 at *
          generalize pl (-lo) (mo (sbF M t lo hi j) j j) = q2 at *
          generalize mo (sbF M t lo hi j) j j = q0 at *
          go_wp2_with (refine wpList_load_o rfl (.tmp 4) rfl rfl HR.out.1 ?_)
          refine hmo.mono ?_
          rintro e w2 ⟨rfl, hb2⟩
          have H2 : Hid (OAt w2 w.heap.size e0 (sbF M t lo hi j) ∧ OAt w2 (w.heap.size + 1) false (fun _ => 0) ∧ Below w.heap.size w w2) := ⟨At.keep HR.out.1 hb2 (by omega), At.keep HR.out.2.1 hb2 hlr, HR.out.2.2.trans (hb2.mono HR.out.2.2.size)⟩
          have hp1 := HP1.out w2
          have hl1 := HLm1.out w2 _ H2.out.1
          clear hb2 hmo
          go_wp2_with fail
          refine hp1.mono ?_
          rintro e w3 ⟨rfl, hw3⟩
          subst hw3
          go_wp2_with fail
          refine hl1.mono ?_
          rintro e w4 ⟨rfl, h4⟩
          have H4 : Hid (OAt w4 w.heap.size e0 (lm (sbF M t lo hi j) (2 * t) j q1) ∧ OAt w4 (w.heap.size + 1) false (fun _ => 0) ∧ Below w.heap.size w w4) := ⟨h4.out.1, h4.out.2.at_ H2.out.2.1 (by omega), H2.out.2.2.trans (h4.out.2.below (Nat.le_refl _) H2.out.2.2.size)⟩
          have hp2 := HP2.out w4
          have hl2 := HLm2.out w4 _ H4.out.1
          clear h4 hp1 hl1
          go_wp2_with fail
          refine hp2.mono ?_
          rintro e w5 ⟨rfl, hw5⟩
          subst hw5
          go_wp2_with fail
          refine hl2.mono ?_
          rintro e w6 ⟨rfl, h6⟩
          go_wp2_with fail
          go_roundw
          case rel => exact ⟨j + 1, by omega, by go_num, by rw [HE.out]; exact h6.out.1, h6.out.2.at_ H4.out.2.1 (by omega), H4.out.2.2.trans (h6.out.2.below (Nat.le_refl _) H4.out.2.2.size)⟩
          case measure => simp [intOf]; omega
    · have hj8 : j = 8 := by omega
      subst hj8
      have hl1 : Calls Tryd.prog 66 #[.pointer (some ⟨w.heap.size, 0, none⟩), .int .i64 (2 * (t : Int)), .int .i64 (2 * (t : Int)), .int .i64 hi] wr fun e w' => e = .returned (.tuple #[]) ∧ Hid (OAt w' w.heap.size e0 (lm (sbF M t lo hi 8) (2 * t) (2 * t) hi) ∧ Onl w.heap.size wr w') := by
        rw [← e2t]; exact HLm.out wr _ _ (2 * t) (2 * t) hi (by omega) (by omega) ⟨by omega, by omega⟩ HR.out.1
      have HLm2 : Hid (∀ w1 (N : Nat → Int), OAt w1 w.heap.size e0 N → Calls Tryd.prog 66 #[.pointer (some ⟨w.heap.size, 0, none⟩), .int .i64 (2 * (t : Int) + 1), .int .i64 (2 * (t : Int) + 1), .int .i64 (-lo)] w1 fun e w' => e = .returned (.tuple #[]) ∧ Hid (OAt w' w.heap.size e0 (lm N (2 * t + 1) (2 * t + 1) (-lo)) ∧ Onl w.heap.size w1 w')) := fun w1 N ha => by
        rw [← e2t1]; exact HLm.out w1 _ N (2 * t + 1) (2 * t + 1) (-lo) (by omega) (by omega) ⟨by omega, by omega⟩ ha
      go_wp2_with fail
      refine hl1.mono ?_
      rintro e w4 ⟨rfl, h4⟩
      have H4 : Hid (OAt w4 w.heap.size e0 (lm (sbF M t lo hi 8) (2 * t) (2 * t) hi) ∧ OAt w4 (w.heap.size + 1) false (fun _ => 0) ∧ Below w.heap.size w w4) := ⟨h4.out.1, h4.out.2.at_ HR.out.2.1 (by omega), HR.out.2.2.trans (h4.out.2.below (Nat.le_refl _) HR.out.2.2.size)⟩
      have hl2 := HLm2.out w4 _ H4.out.1
      clear h4 hl1
      go_wp2_with fail
      refine hl2.mono ?_
      rintro e w6 ⟨rfl, h6⟩
      have H6 : Hid (OAt w6 w.heap.size e0 (sbT M t lo hi) ∧ OAt w6 (w.heap.size + 1) false (fun _ => 0) ∧ Below w.heap.size w w6) := ⟨by rw [HT.out]; exact h6.out.1, h6.out.2.at_ H4.out.2.1 (by omega), H4.out.2.2.trans (h6.out.2.below (Nat.le_refl _) H4.out.2.2.size)⟩
      obtain ⟨w7, hst7, hat7, ho7⟩ := o_store H6.out.2.1 e0 (sbT M t lo hi)
      have H7 : Hid (OAt w7 (w.heap.size + 1) e0 (sbT M t lo hi) ∧ Below w.heap.size w w7) := ⟨hat7, H6.out.2.2.trans (ho7.below (by omega) H6.out.2.2.size)⟩
      clear h6 hl2 hat7 ho7
      generalize hTT : sbT M t lo hi = T at *
      have HTT : Hid (sbT M t lo hi = T) := hTT
      clear hTT
      go_wp2_with (refine wpList_load_o rfl (.tmp 4) rfl rfl H6.out.1 ?_)
      try simp only [Exit.inBlock, Exit.then]
      refine bodyPost_ret (results_o rfl _ rfl H7.out.1) rfl ?_
      exact ⟨by rw [HTT.out], H7.out.2⟩

end Go.Proofs.YtffajooegiempabDoor

namespace Go.Proofs.YtffajooegiempabDoor
open Go.RowKit
variable {w : World} {e0 : Bool} {M : Nat → Int}

/-- What a side was made of, and what is added. -/
def orgF (t f i : Nat) : Nat := if i = 2 * t then f else if i = 2 * t + 1 then opp f else i
def addF (t : Nat) (n : Int) (i : Nat) : Int := if i = 2 * t then n else if i = 2 * t + 1 then -n else 0
/-- A variable is made a sum, as far as it is done. -/
def ssF (M : Nat → Int) (t f : Nat) (n : Int) : Nat → Nat → Int
  | 0 => M
  | k + 1 => upd (ssF M t f n k) k (pl (M (orgF t f (k / 8) * 8 + orgF t f (k % 8))) (addF t n (k / 8) + addF t n (k % 8)))
abbrev tA8 : TypeId := 52
def c8 (F : Nat → Int) : Array Value := #[.int .i64 (F 0), .int .i64 (F 1), .int .i64 (F 2), .int .i64 (F 3), .int .i64 (F 4), .int .i64 (F 5), .int .i64 (F 6), .int .i64 (F 7)]
theorem c8_get (F : Nat → Int) {i : Nat} (h : i < 8) : (c8 F)[i]? = some (.int .i64 (F i)) := by
  rcases (show i = 0 ∨ i = 1 ∨ i = 2 ∨ i = 3 ∨ i = 4 ∨ i = 5 ∨ i = 6 ∨ i = 7 by omega) with rfl | rfl | rfl | rfl | rfl | rfl | rfl | rfl <;> rfl
theorem org_lt {t f i : Nat} (hf : f < 8) (hi : i < 8) : orgF t f i < 8 := by
  unfold orgF
  split
  · exact hf
  · split
    · exact opp_lt hf
    · exact hi
theorem add_rng {t : Nat} {n : Int} (h : -999 ≤ n ∧ n ≤ 999) (i : Nat) : -999 ≤ addF t n i ∧ addF t n i ≤ 999 := by
  unfold addF
  split
  · exact h
  · split <;> omega


end Go.Proofs.YtffajooegiempabDoor

/- What an assignment makes of a closed octagon. -/
namespace Go.Proofs.YtffajooegiempabDoor
variable {C : Nat → Int}

theorem ssF_at (M : Nat → Int) (t f : Nat) (n : Int) : ∀ k a, ssF M t f n k a = if a < k then pl (M (orgF t f (a / 8) * 8 + orgF t f (a % 8))) (addF t n (a / 8) + addF t n (a % 8)) else M a := by
  intro k
  induction k with
  | zero => intro a; rw [if_neg (by omega)]; rfl
  | succ k ih =>
    intro a
    rw [ssF]
    unfold upd
    by_cases e : a = k
    · rw [if_pos e, if_pos (by omega), e]
    · rw [if_neg e, ih]
      by_cases q : a < k
      · rw [if_pos q, if_pos (by omega)]
      · rw [if_neg q, if_neg (by omega)]
theorem ss_at (M : Nat → Int) (t f : Nat) (n : Int) {i j : Nat} (hi : i < 8) (hj : j < 8) : ssF M t f n 64 (i * 8 + j) = pl (M (orgF t f i * 8 + orgF t f j)) (addF t n i + addF t n j) := by
  rw [ssF_at, if_pos (by omega), show (i * 8 + j) / 8 = i by omega, show (i * 8 + j) % 8 = j by omega]
/- A variable made each number of a range. -/
def uF (C : Nat → Int) (t : Nat) (lo hi : Int) (i : Nat) : Int := if i = 2 * t then hi else if i = 2 * t + 1 then -lo else mo C i i
abbrev isT (t i : Nat) : Prop := i = 2 * t ∨ i = 2 * t + 1
/-- What SetBetween comes to. -/
def sbG (C : Nat → Int) (t : Nat) (lo hi : Int) (i j : Nat) : Int :=
  if isT t i then (if isT t j then (if i = j then (if i = 2 * t then 2 * hi else 2 * -lo) else C (i * 8 + j)) else pl (uF C t lo hi i) (mo C j j))
  else if isT t j then pl (uF C t lo hi j) (mo C i i) else C (i * 8 + j)
theorem lm_at (M : Nat → Int) (p q : Nat) (n : Int) {i j : Nat} (_hi : i < 8) (hj : j < 8) (hp : p < 8) (hq : q < 8) : lm M p q n (i * 8 + j) = if (i = p ∧ j = q) ∨ (i = q ∧ j = p) then (if p = q ∧ n ≠ NB then 2 * n else n) else M (i * 8 + j) := by
  unfold lm
  generalize (if p = q ∧ n ≠ NB then 2 * n else n) = y
  unfold upd
  by_cases q1 : i * 8 + j = q * 8 + p
  · rw [if_pos q1, if_pos (.inr (by omega))]
  · rw [if_neg q1]
    by_cases q2 : i * 8 + j = p * 8 + q
    · rw [if_pos q2, if_pos (.inl (by omega))]
    · rw [if_neg q2, if_neg (by omega)]
theorem if_cg {b c : Prop} [Decidable b] [Decidable c] {x x' y y' : Int} (h : b ↔ c) (hx : x = x') (hy : y = y') : (if b then x else y) = if c then x' else y' := by
  by_cases q : c
  · rw [if_pos (h.2 q), if_pos q, hx]
  · rw [if_neg (fun z => q (h.1 z)), if_neg q, hy]
theorem sbF_at (M : Nat → Int) {t : Nat} (ht : t < 4) (lo hi' : Int) : ∀ n, n ≤ 8 → ∀ i j, i < 8 → j < 8 → sbF M t lo hi' n (i * 8 + j) =
    if isT t i ∧ ¬ isT t j ∧ j < n then pl (uF M t lo hi' i) (mo M j j) else if isT t j ∧ ¬ isT t i ∧ i < n then pl (uF M t lo hi' j) (mo M i i) else M (i * 8 + j) := by
  intro n
  induction n with
  | zero => intro _ i j _ _; rw [if_neg (by omega), if_neg (by omega)]; rfl
  | succ n ih =>
    intro hn i j hi hj
    rw [sbF]
    by_cases c : n = 2 * t ∨ n = 2 * t + 1
    · rw [if_pos c, ih (by omega) i j hi hj]
      exact if_cg ⟨fun h => ⟨h.1, h.2.1, by omega⟩, fun h => ⟨h.1, h.2.1, by omega⟩⟩ rfl (if_cg ⟨fun h => ⟨h.1, h.2.1, by omega⟩, fun h => ⟨h.1, h.2.1, by omega⟩⟩ rfl rfl)
    · rw [if_neg c, mo_congr (sbF_dia M ht lo hi' n (by omega) n (by omega) (fun z => c (.inl z)) (fun z => c (.inr z)))]
      rw [lm_at _ _ _ _ hi hj (by omega) (by omega), lm_at _ _ _ _ hi hj (by omega) (by omega), ih (by omega) i j hi hj]
      rw [if_neg (show ¬ (2 * t + 1 = n ∧ pl (-lo) (mo M n n) ≠ NB) by omega), if_neg (show ¬ (2 * t = n ∧ pl hi' (mo M n n) ≠ NB) by omega)]
      by_cases a1 : (i = 2 * t + 1 ∧ j = n) ∨ (i = n ∧ j = 2 * t + 1)
      · rw [if_pos a1]
        rcases a1 with ⟨b1, b2⟩ | ⟨b1, b2⟩
        · rw [if_pos (show isT t i ∧ ¬ isT t j ∧ j < n + 1 from ⟨.inr b1, by omega, by omega⟩), b2]; unfold uF; rw [if_neg (show ¬ i = 2 * t by omega), if_pos b1]
        · rw [if_neg (show ¬ (isT t i ∧ ¬ isT t j ∧ j < n + 1) by omega), if_pos (show isT t j ∧ ¬ isT t i ∧ i < n + 1 from ⟨.inr b2, by omega, by omega⟩), b1]; unfold uF; rw [if_neg (show ¬ j = 2 * t by omega), if_pos b2]
      · rw [if_neg a1]
        by_cases a2 : (i = 2 * t ∧ j = n) ∨ (i = n ∧ j = 2 * t)
        · rw [if_pos a2]
          rcases a2 with ⟨b1, b2⟩ | ⟨b1, b2⟩
          · rw [if_pos (show isT t i ∧ ¬ isT t j ∧ j < n + 1 from ⟨.inl b1, by omega, by omega⟩), b2]; unfold uF; rw [if_pos b1]
          · rw [if_neg (show ¬ (isT t i ∧ ¬ isT t j ∧ j < n + 1) by omega), if_pos (show isT t j ∧ ¬ isT t i ∧ i < n + 1 from ⟨.inl b2, by omega, by omega⟩), b1]; unfold uF; rw [if_pos b2]
        · rw [if_neg a2]
          exact if_cg ⟨fun h => ⟨h.1, h.2.1, by omega⟩, fun h => ⟨h.1, h.2.1, by omega⟩⟩ rfl (if_cg ⟨fun h => ⟨h.1, h.2.1, by omega⟩, fun h => ⟨h.1, h.2.1, by omega⟩⟩ rfl rfl)
theorem sbT_at (M : Nat → Int) {t : Nat} (ht : t < 4) {lo hi : Int} (hlo : -999 ≤ lo ∧ lo ≤ 999) (hhi : -999 ≤ hi ∧ hi ≤ 999) {i j : Nat} (hi' : i < 8) (hj : j < 8) : sbT M t lo hi (i * 8 + j) = sbG M t lo hi i j := by
  have n1 : hi ≠ NB := by unfold NB; omega
  have n2 : -lo ≠ NB := by unfold NB; omega
  unfold sbT sbG
  rw [lm_at _ _ _ _ hi' hj (by omega) (by omega), lm_at _ _ _ _ hi' hj (by omega) (by omega), sbF_at M ht lo hi 8 (Nat.le_refl _) i j hi' hj, if_pos (show 2 * t + 1 = 2 * t + 1 ∧ -lo ≠ NB from ⟨rfl, n2⟩), if_pos (show 2 * t = 2 * t ∧ hi ≠ NB from ⟨rfl, n1⟩)]
  by_cases a1 : i = 2 * t + 1 ∧ j = 2 * t + 1
  · rw [if_pos (.inl a1), if_pos (show isT t i from .inr a1.1), if_pos (show isT t j from .inr a1.2), if_pos (show i = j by omega), if_neg (show ¬ i = 2 * t by omega)]
  · rw [if_neg (show ¬ ((i = 2 * t + 1 ∧ j = 2 * t + 1) ∨ (i = 2 * t + 1 ∧ j = 2 * t + 1)) by omega)]
    by_cases a2 : i = 2 * t ∧ j = 2 * t
    · rw [if_pos (.inl a2), if_pos (show i = 2 * t ∨ i = 2 * t + 1 by omega), if_pos (show j = 2 * t ∨ j = 2 * t + 1 by omega), if_pos (show i = j by omega), if_pos a2.1]
    · rw [if_neg (show ¬ ((i = 2 * t ∧ j = 2 * t) ∨ (i = 2 * t ∧ j = 2 * t)) by omega)]
      by_cases q1 : i = 2 * t ∨ i = 2 * t + 1
      · rw [if_pos q1]
        by_cases q2 : j = 2 * t ∨ j = 2 * t + 1
        · rw [if_pos q2, if_neg (show ¬ i = j by omega), if_neg (fun z => z.2.1 q2), if_neg (fun z => z.2.1 q1)]
        · rw [if_neg q2, if_pos ⟨q1, q2, hj⟩]
      · rw [if_neg q1, if_neg (fun z => q1 z.1)]
        by_cases q2 : j = 2 * t ∨ j = 2 * t + 1
        · rw [if_pos q2, if_pos ⟨q2, q1, hi'⟩]
        · rw [if_neg q2, if_neg (fun z => q2 z.1)]
theorem isT_eq {t i j : Nat} (hi : isT t i) (hj : isT t j) : j = i ∨ j = opp i := by
  unfold isT opp at *
  split <;> omega
end Go.Proofs.YtffajooegiempabDoor

namespace Go.Proofs.YtffajooegiempabDoor
open Go.RowKit
variable {w : World}
end Go.Proofs.YtffajooegiempabDoor

namespace Go.Proofs.YtffajooegiempabDoor
open Go.RowKit
variable {w : World}
theorem four_of {l : List Int} (h : l.length = 4) : ∃ a b c d, l = [a, b, c, d] := by
  match l, h with
  | [a, b, c, d], _ => exact ⟨a, b, c, d, rfl⟩
end Go.Proofs.YtffajooegiempabDoor

namespace Go.Proofs.YtffajooegiempabDoor
open Go.RowKit
variable {w : World}
end Go.Proofs.YtffajooegiempabDoor



namespace Go.Proofs.YtffajooegiempabDoor
open Go.RowKit

abbrev tN : TypeId := 3

end Go.Proofs.YtffajooegiempabDoor

namespace Go.Proofs.YtffajooegiempabDoor
open Go.RowKit
end Go.Proofs.YtffajooegiempabDoor

namespace Go.Proofs.YtffajooegiempabDoor
open Go.RowKit
variable {w : World}
end Go.Proofs.YtffajooegiempabDoor

/- What every statement of a program keeps to: its variable, its signs. No Go in here. -/
namespace Go.Proofs.YtffajooegiempabDoor
variable {m m' : Rd}

def Gd (s : St) : Prop := 0 ≤ s.var ∧ s.var ≤ 3 ∧ ∀ x, x ∈ s.sg → -1 ≤ x ∧ x ≤ 1
def AllGd (m : Rd) : Prop := ∀ s, s ∈ m.st → Gd s
theorem gd_no : Gd noSt := ⟨by decide, by decide, fun x hx => by simp [noSt] at hx; omega⟩
theorem AllGd.get (h : AllGd m) (k : Nat) : Gd (m.st.getD k noSt) := by
  rw [List.getD_eq_getElem?_getD]
  cases e : m.st[k]? with
  | none => exact gd_no
  | some s => exact h s (List.mem_of_getElem? e)
theorem AllGd.cur (h : AllGd m) : Gd (cur m) := h.get _
theorem AllGd.setC (h : AllGd m) {s : St} (hs : Gd s) : AllGd (setCur m s) := fun t ht => (mem_setCur ht).elim (h t) (fun e => e ▸ hs)
theorem AllGd.of {m1 : Rd} (h : AllGd m1) (e : m'.st = m1.st) : AllGd m' := fun s hs => h s (e ▸ hs)

theorem AllGd.begin_ (h : AllGd m) {k v x : Int} (h0 : 0 ≤ v) (h3 : v ≤ 3) (e : beginStep m k v x = some m') : AllGd m' := by
  unfold beginStep at e
  split at e
  · cases e
  · cases e
    intro s hs
    rcases List.mem_append.1 hs with hs | hs
    · exact h s hs
    · rw [List.mem_singleton.1 hs]
      exact ⟨h0, h3, fun x hx => by simp at hx; omega⟩
theorem AllGd.shut (h : AllGd m) (e : shutStep m = some m') : AllGd m' := by
  have hg := h.get (top m).of_
  simp only [shutStep] at e
  split at e
  · cases e; exact fun t ht => (List.mem_or_eq_of_mem_set ht).elim (h t) (fun e => e ▸ hg)
  · cases e; exact fun t ht => (List.mem_or_eq_of_mem_set ht).elim (h t) (fun e => e ▸ hg)
theorem AllGd.digit (h : AllGd m) {c x : Int} {pos : Bool} (e : digitStep m c pos x = some m') : AllGd m' := by
  obtain ⟨d, u, _, _, rfl⟩ := digit_inv e
  exact (h.setC (s := { Go.Proofs.YtffajooegiempabDoor.cur m with num := 10 * u + (c - 48) }) h.cur).of rfl
theorem AllGd.signTo (h : AllGd m) (v : Nat) (y x : Int) (hy : -1 ≤ y ∧ y ≤ 1) : AllGd (signTo m v y x) := by
  have hc := h.cur
  refine (h.setC (s := { Go.Proofs.YtffajooegiempabDoor.cur m with sg := (Go.Proofs.YtffajooegiempabDoor.cur m).sg.set v y }) ⟨hc.1, hc.2.1, fun z hz => ?_⟩).of rfl
  rcases List.mem_or_eq_of_mem_set hz with hz | hz
  · exact hc.2.2 z hz
  · rw [hz]; exact hy
theorem AllGd.plain (h : AllGd m) {c : Int} (e : plainStep m c = some m') : AllGd m' := by
  unfold plainStep at e
  split at e
  · split at e
    · cases e; exact h.of rfl
    · cases e
  · split at e
    · cases e
    · cases e; exact h.of rfl

theorem AllGd.value (h : AllGd m) (ok : Ok m) {c : Int} (e : valueStep m c = some m') : AllGd m' := by
  have hs := ok.sgn
  have ve : AllGd (valueEnd m) := (h.setC (s := { Go.Proofs.YtffajooegiempabDoor.cur m with num := m.sign * (Go.Proofs.YtffajooegiempabDoor.cur m).num }) h.cur).of rfl
  unfold valueStep at e
  split at e
  · split at e
    · cases e; exact (h.setC (s := { Go.Proofs.YtffajooegiempabDoor.cur m with star := true }) h.cur).of rfl
    split at e
    · cases e; exact h.of rfl
    split at e
    · cases e; exact h.signTo _ 1 120 (by omega)
    · exact AllGd.digit (m := { m with sign := 1 }) (h.of rfl) e
  split at e
  · split at e
    · cases e; exact h.signTo _ m.sign 120 hs
    · exact h.digit e
  split at e
  · split at e
    · cases e; exact h.of rfl
    split at e
    · cases e; exact h.of rfl
    split at e
    · cases e; exact ve
    · cases e
  split at e
  · exact h.digit e
  · split at e
    · cases e; exact ve
    · exact h.digit e

theorem AllGd.cond (h : AllGd m) (ok : Ok m) {c : Int} (e : condStep m c = some m') : AllGd m' := by
  have hs := ok.sgn
  unfold condStep at e
  by_cases x1 : m.state = 99
  · rw [if_pos x1] at e
    split at e
    · cases e; exact (h.setC (s := { Go.Proofs.YtffajooegiempabDoor.cur m with star := true }) h.cur).of rfl
    split at e
    · cases e; exact h.of rfl
    split at e
    · cases e; exact h.signTo _ 1 100 (by omega)
    · cases e
  rw [if_neg x1] at e
  by_cases x2 : m.state = 67
  · rw [if_pos x2] at e
    split at e
    · cases e; exact h.signTo _ m.sign 100 hs
    · cases e
  rw [if_neg x2] at e
  by_cases x3 : m.state = 100
  · rw [if_pos x3] at e
    split at e
    · cases e; exact h.of rfl
    split at e
    · cases e; exact h.of rfl
    split at e
    · cases e; exact h.of rfl
    · cases e
  rw [if_neg x3] at e
  by_cases x4 : m.state = 101
  · rw [if_pos x4] at e
    split at e
    · split at e
      · cases e; exact h.signTo _ m.sign 102 hs
      · cases e
    · cases e
  rw [if_neg x4] at e
  by_cases x5 : m.state = 102
  · rw [if_pos x5] at e
    split at e
    · cases e; exact h.of rfl
    · cases e
  rw [if_neg x5] at e
  by_cases x6 : m.state = 60
  · rw [if_pos x6] at e
    split at e
    · cases e; exact h.of rfl
    · cases e
  rw [if_neg x6] at e
  by_cases x7 : m.state = 98
  · rw [if_pos x7] at e
    split at e
    · cases e; exact h.of rfl
    · exact h.digit e
  rw [if_neg x7] at e
  by_cases x8 : m.state = 66
  · rw [if_pos x8] at e
    exact h.digit e
  rw [if_neg x8] at e
  by_cases x9 : m.state = 109
  · rw [if_pos x9] at e
    split at e
    · exact AllGd.plain (m := { setCur m { Go.Proofs.YtffajooegiempabDoor.cur m with num := if m.neg then -(Go.Proofs.YtffajooegiempabDoor.cur m).num else (Go.Proofs.YtffajooegiempabDoor.cur m).num } with state := behindOf m }) ((h.setC (s := { Go.Proofs.YtffajooegiempabDoor.cur m with num := if m.neg then -(Go.Proofs.YtffajooegiempabDoor.cur m).num else (Go.Proofs.YtffajooegiempabDoor.cur m).num }) h.cur).of rfl) e
    · exact h.digit e
  rw [if_neg x9] at e
  split at e
  · cases e; exact h.of rfl
  · cases e

theorem AllGd.byte (h : AllGd m) (ok : Ok m) {c : Int} (e : byteStep m c = some m') : AllGd m' := by
  unfold byteStep at e
  split at e
  · unfold startStep at e
    split at e
    · exact h.begin_ (by omega) (by omega) e
    split at e
    · split at e
      · exact h.begin_ (by omega) (by omega) e
      · cases e
    split at e
    · exact h.begin_ (by omega) (by omega) e
    split at e
    · exact h.shut e
    · cases e
  split at e
  · split at e
    · cases e; exact h.of rfl
    · cases e
  split at e
  · exact h.value ok e
  split at e
  · exact h.plain e
  · exact h.cond ok e

theorem gd_from {l : List Int} : ∀ {m : Rd} {n k : Nat}, AllGd m → Ok m → readFrom m l n = (k, some m') → AllGd m' ∧ Ok m' := by
  induction l with
  | nil => intro m n k h ok e; simp [readFrom] at e; rw [← e.2]; exact ⟨h, ok⟩
  | cons c l ih =>
    intro m n k h ok e
    simp only [readFrom] at e
    split at e
    · cases e
    · rename_i m1 e1
      exact ih (h.byte ok e1) (ok.byte e1) e

end Go.Proofs.YtffajooegiempabDoor

/- How many variables stand in a statement. No Go in here. -/
namespace Go.Proofs.YtffajooegiempabDoor
variable {m m' : Rd}

/-- How many signs are not 0. -/
def nz (l : List Int) : Nat := l.countP fun x => decide (x ≠ 0)
theorem nz_cons (a : Int) (l : List Int) : nz (a :: l) = nz l + if a = 0 then 0 else 1 := by
  unfold nz
  rw [List.countP_cons]
  by_cases h : a = 0
  · rw [if_pos h, if_neg (by simpa using h)]
  · rw [if_neg h, if_pos (by simpa using h)]
theorem nz_set : ∀ (l : List Int) (v : Nat) (x : Int), nz (l.set v x) ≤ nz l + 1 := by
  intro l
  induction l with
  | nil => intro v x; simp
  | cons a l ih =>
    intro v x
    cases v with
    | zero =>
      rw [List.set_cons_zero, nz_cons, nz_cons]
      split <;> split <;> omega
    | succ v =>
      rw [List.set_cons_succ, nz_cons, nz_cons]
      have := ih v x
      omega
/-- How many may stand in the statement that is being read. -/
def lim (x : Int) : Nat := if x = 61 ∨ x = 118 ∨ x = 86 ∨ x = 99 ∨ x = 67 then 0 else if x = 100 ∨ x = 101 then 1 else 2
structure Cn (m : Rd) : Prop where
  all : ∀ s, s ∈ m.st → nz s.sg ≤ 2
  cur : nz (cur m).sg ≤ lim m.state
theorem lim_le (x : Int) : lim x ≤ 2 := by unfold lim; split <;> (try split) <;> omega
theorem Cn.of (h : Cn m) (e : m'.st = m.st) (hl : lim m.state ≤ lim m'.state) : Cn m' := by
  refine ⟨fun s hs => h.all s (e ▸ hs), ?_⟩
  have : Go.Proofs.YtffajooegiempabDoor.cur m' = Go.Proofs.YtffajooegiempabDoor.cur m := by unfold Go.Proofs.YtffajooegiempabDoor.cur; rw [e]
  rw [this]
  exact Nat.le_trans h.cur hl
/-- The statement that is being read is turned. -/
theorem Cn.setC (h : Cn m) {s : St} {n : Nat} (hs : nz s.sg ≤ n) (hn : n ≤ 2) (ok : m.state ≠ 115) (ok' : Ok m) (e : m'.st = (setCur m s).st) (hl : n ≤ lim m'.state) : Cn m' := by
  have hp := ok'.some_ ok
  refine ⟨fun t ht => ?_, ?_⟩
  · rw [e] at ht
    rcases mem_setCur ht with q | q
    · exact h.all t q
    · rw [q]; omega
  · have : Go.Proofs.YtffajooegiempabDoor.cur m' = s := by
      unfold Go.Proofs.YtffajooegiempabDoor.cur
      rw [e]
      unfold setCur
      simp [List.getD, show m.st.length - 1 < m.st.length by omega]
    rw [this]
    omega
theorem Cn.begin_ (h : Cn m) {k v x : Int} (hx : lim x = 0) (e : beginStep m k v x = some m') : Cn m' := by
  unfold beginStep at e
  split at e
  · cases e
  · cases e
    refine ⟨fun s hs => ?_, ?_⟩
    · rcases List.mem_append.1 hs with hs | hs
      · exact h.all s hs
      · rw [List.mem_singleton.1 hs]; show nz [0, 0, 0, 0] ≤ 2; decide
    · show nz (Go.Proofs.YtffajooegiempabDoor.cur _).sg ≤ lim x
      rw [hx]
      unfold Go.Proofs.YtffajooegiempabDoor.cur
      simp [List.getD]
      decide
theorem Cn.shut (h : Cn m) (hs : m.state = 115) (e : shutStep m = some m') : Cn m' := by
  have key : ∀ (s : St), s.sg = (m.st.getD (top m).of_ noSt).sg → ∀ t, t ∈ m.st.set (top m).of_ s → nz t.sg ≤ 2 := by
    intro s hsg t ht
    rcases List.mem_or_eq_of_mem_set ht with q | q
    · exact h.all t q
    · rw [q, hsg, List.getD_eq_getElem?_getD]
      cases e : m.st[(top m).of_]? with
      | none => decide
      | some u => exact h.all u (List.mem_of_getElem? e)
  have cu : ∀ (s : St) (m2 : Rd), m2.st = m.st.set (top m).of_ s → s.sg = (m.st.getD (top m).of_ noSt).sg → nz (Go.Proofs.YtffajooegiempabDoor.cur m2).sg ≤ 2 := by
    intro s m2 e2 hsg
    unfold Go.Proofs.YtffajooegiempabDoor.cur
    rw [e2, List.getD_eq_getElem?_getD]
    cases e3 : (m.st.set (top m).of_ s)[(m.st.set (top m).of_ s).length - 1]? with
    | none => decide
    | some u => exact key s hsg u (List.mem_of_getElem? e3)
  simp only [shutStep] at e
  split at e
  · cases e
    exact ⟨key _ rfl, cu _ _ rfl rfl⟩
  · cases e
    refine ⟨key _ rfl, ?_⟩
    show _ ≤ lim m.state
    rw [hs]
    exact cu _ _ rfl rfl
theorem Cn.digit (h : Cn m) (ok : Ok m) (h0 : m.state ≠ 115) {c x : Int} {pos : Bool} (e : digitStep m c pos x = some m') (hl : lim m.state ≤ lim x) : Cn m' := by
  obtain ⟨d, u, _, _, rfl⟩ := digit_inv e
  exact h.setC (s := { Go.Proofs.YtffajooegiempabDoor.cur m with num := 10 * u + (c - 48) }) (n := lim m.state) h.cur (lim_le _) h0 ok rfl hl
theorem Cn.signTo (h : Cn m) (ok : Ok m) (h0 : m.state ≠ 115) (v : Nat) (y x : Int) (hl : lim m.state + 1 ≤ lim x) : Cn (signTo m v y x) := by
  have := lim_le x
  have hc := h.cur
  have hn := nz_set (Go.Proofs.YtffajooegiempabDoor.cur m).sg v y
  exact h.setC (s := { Go.Proofs.YtffajooegiempabDoor.cur m with sg := (Go.Proofs.YtffajooegiempabDoor.cur m).sg.set v y }) (n := lim m.state + 1) (by show nz ((Go.Proofs.YtffajooegiempabDoor.cur m).sg.set v y) ≤ _; omega) (by omega) h0 ok rfl hl
theorem Cn.plain (h : Cn m) (hl : lim m.state ≤ 2) {c : Int} (e : plainStep m c = some m') : Cn m' := by
  unfold plainStep at e
  split at e
  · split at e
    · cases e; exact h.of rfl hl
    · cases e
  · split at e
    · cases e
    · cases e; exact h.of rfl hl
theorem Cn.value (h : Cn m) (ok : Ok m) {c : Int} (hst : m.state = 118 ∨ m.state = 86 ∨ m.state = 120 ∨ m.state = 121 ∨ m.state = 110) (e : valueStep m c = some m') : Cn m' := by
  have h0 : m.state ≠ 115 := by omega
  have l2 := lim_le m.state
  have ve : Cn (valueEnd m) := h.setC (s := { Go.Proofs.YtffajooegiempabDoor.cur m with num := m.sign * (Go.Proofs.YtffajooegiempabDoor.cur m).num }) (n := lim m.state) h.cur l2 h0 ok rfl l2
  unfold valueStep at e
  split at e
  · rename_i x1
    have hz : lim m.state = 0 := by rw [x1]; rfl
    split at e
    · cases e; exact h.setC (s := { Go.Proofs.YtffajooegiempabDoor.cur m with star := true }) (n := lim m.state) h.cur l2 h0 ok rfl l2
    split at e
    · cases e; exact h.of rfl (by omega)
    split at e
    · cases e; exact h.signTo ok h0 _ 1 120 (by rw [hz]; decide)
    · exact Cn.digit (m := { m with sign := 1 }) (h.of rfl (Nat.le_refl _)) ⟨ok.states, ok.some_, ok.len, ok.oplen, ok.ofs, by show -1 ≤ (1 : Int) ∧ (1 : Int) ≤ 1; omega, ok.digs, ok.nums, ok.sgl, ok.inNum, ok.open_⟩ h0 e l2
  split at e
  · rename_i x1 x2
    have hz : lim m.state = 0 := by rw [x2]; rfl
    split at e
    · cases e; exact h.signTo ok h0 _ m.sign 120 (by rw [hz]; decide)
    · exact h.digit ok h0 e l2
  split at e
  · split at e
    · cases e; exact h.of rfl l2
    split at e
    · cases e; exact h.of rfl l2
    split at e
    · cases e; exact ve
    · cases e
  split at e
  · exact h.digit ok h0 e l2
  · split at e
    · cases e; exact ve
    · exact h.digit ok h0 e l2
theorem lim_beh (m : Rd) : lim (behindOf m) = 2 := by unfold behindOf; split <;> rfl
theorem Cn.cond (h : Cn m) (ok : Ok m) (h0 : m.state ≠ 115) {c : Int} (e : condStep m c = some m') : Cn m' := by
  have l2 := lim_le m.state
  unfold condStep at e
  by_cases x1 : m.state = 99
  · rw [if_pos x1] at e
    have hz : lim m.state = 0 := by rw [x1]; rfl
    split at e
    · cases e; exact h.setC (s := { Go.Proofs.YtffajooegiempabDoor.cur m with star := true }) (n := lim m.state) h.cur l2 h0 ok rfl (by show _ ≤ lim (behindOf m); rw [lim_beh]; exact l2)
    split at e
    · cases e; exact h.of rfl (by omega)
    split at e
    · cases e; exact h.signTo ok h0 _ 1 100 (by rw [hz]; decide)
    · cases e
  rw [if_neg x1] at e
  by_cases x2 : m.state = 67
  · rw [if_pos x2] at e
    have hz : lim m.state = 0 := by rw [x2]; rfl
    split at e
    · cases e; exact h.signTo ok h0 _ m.sign 100 (by rw [hz]; decide)
    · cases e
  rw [if_neg x2] at e
  by_cases x3 : m.state = 100
  · rw [if_pos x3] at e
    have hz : lim m.state = 1 := by rw [x3]; rfl
    split at e
    · cases e; exact h.of rfl (by rw [hz]; show 1 ≤ lim 101; decide)
    split at e
    · cases e; exact h.of rfl (by rw [hz]; show 1 ≤ lim 101; decide)
    split at e
    · cases e; exact h.of rfl (by rw [hz]; show 1 ≤ lim 60; decide)
    · cases e
  rw [if_neg x3] at e
  by_cases x4 : m.state = 101
  · rw [if_pos x4] at e
    have hz : lim m.state = 1 := by rw [x4]; rfl
    split at e
    · split at e
      · cases e; exact h.signTo ok h0 _ m.sign 102 (by rw [hz]; decide)
      · cases e
    · cases e
  rw [if_neg x4] at e
  by_cases x5 : m.state = 102
  · rw [if_pos x5] at e
    split at e
    · cases e; exact h.of rfl l2
    · cases e
  rw [if_neg x5] at e
  by_cases x6 : m.state = 60
  · rw [if_pos x6] at e
    split at e
    · cases e; exact h.of rfl l2
    · cases e
  rw [if_neg x6] at e
  by_cases x7 : m.state = 98
  · rw [if_pos x7] at e
    split at e
    · cases e; exact h.of rfl l2
    · exact h.digit ok h0 e l2
  rw [if_neg x7] at e
  by_cases x8 : m.state = 66
  · rw [if_pos x8] at e
    exact h.digit ok h0 e l2
  rw [if_neg x8] at e
  by_cases x9 : m.state = 109
  · rw [if_pos x9] at e
    split at e
    · refine Cn.plain (m := { setCur m { Go.Proofs.YtffajooegiempabDoor.cur m with num := if m.neg then -(Go.Proofs.YtffajooegiempabDoor.cur m).num else (Go.Proofs.YtffajooegiempabDoor.cur m).num } with state := behindOf m }) ?_ (lim_le _) e
      exact h.setC (s := { Go.Proofs.YtffajooegiempabDoor.cur m with num := if m.neg then -(Go.Proofs.YtffajooegiempabDoor.cur m).num else (Go.Proofs.YtffajooegiempabDoor.cur m).num }) (n := lim m.state) h.cur l2 h0 ok rfl (by show _ ≤ lim (behindOf m); rw [lim_beh]; exact l2)
    · exact h.digit ok h0 e l2
  rw [if_neg x9] at e
  split at e
  · cases e; exact h.of rfl l2
  · cases e
theorem Cn.byte (h : Cn m) (ok : Ok m) {c : Int} (e : byteStep m c = some m') : Cn m' := by
  unfold byteStep at e
  split at e
  · rename_i hs
    unfold startStep at e
    split at e
    · exact h.begin_ rfl e
    split at e
    · split at e
      · exact h.begin_ rfl e
      · cases e
    split at e
    · exact h.begin_ rfl e
    split at e
    · exact h.shut hs e
    · cases e
  split at e
  · rename_i h1 h2
    split at e
    · cases e; exact h.of rfl (by rw [h2]; show lim 61 ≤ lim 118; decide)
    · cases e
  split at e
  · rename_i hv; exact h.value ok hv e
  split at e
  · exact h.plain (lim_le _) e
  · rename_i h1 _ _ _; exact h.cond ok h1 e
theorem cn_from {l : List Int} : ∀ {m : Rd} {n k : Nat}, Cn m → Ok m → readFrom m l n = (k, some m') → Cn m' := by
  induction l with
  | nil => intro m n k h ok e; simp [readFrom] at e; rw [← e.2]; exact h
  | cons c l ih =>
    intro m n k h ok e
    simp only [readFrom] at e
    split at e
    · cases e
    · rename_i m1 e1
      exact ih (h.byte ok e1) (ok.byte e1) e

end Go.Proofs.YtffajooegiempabDoor

namespace Go.Proofs.YtffajooegiempabDoor
open Go.RowKit
variable {w : World}

/- The signs of a sum of at most two: its number by the document, its sides by the program. -/
def sg3 : List Int := [-1, 0, 1]
def tabS (l : List Int) : Bool := decide (2 < nz l) || (if nz l = 0 then decide (numV l = -1) && decide (sd1 l = 0) && decide (sd2 l = 1)
  else decide (0 ≤ numV l) && decide (numV l < 32) && decide (sd1 l = fs (numV l).toNat) && decide (sd2 l = ss (numV l).toNat))
theorem tabS_all : (sg3.all fun a => sg3.all fun b => sg3.all fun c => sg3.all fun d => tabS [a, b, c, d]) = true := by decide +kernel
theorem mem_sg3 {a : Int} (h : -1 ≤ a ∧ a ≤ 1) : a ∈ sg3 := by
  rcases (show a = -1 ∨ a = 0 ∨ a = 1 by omega) with rfl | rfl | rfl <;> decide
theorem tabS_of {l : List Int} (hl : l.length = 4) (h : ∀ i, -1 ≤ gAt l i ∧ gAt l i ≤ 1) : tabS l = true := by
  obtain ⟨a, b, c, d, rfl⟩ := four_of hl
  have t := tabS_all
  simp only [List.all_eq_true] at t
  exact t a (mem_sg3 (h 0)) b (mem_sg3 (h 1)) c (mem_sg3 (h 2)) d (mem_sg3 (h 3))
theorem nz_four (a b c d : Int) : nz [a, b, c, d] = (if a = 0 then 0 else 1) + (if b = 0 then 0 else 1) + (if c = 0 then 0 else 1) + (if d = 0 then 0 else 1) := by
  rw [nz_cons, nz_cons, nz_cons, nz_cons]
  have : nz [] = 0 := rfl
  omega
theorem nz_ngL {l : List Int} (hl : l.length = 4) : nz (ngL l) = nz l := by
  obtain ⟨a, b, c, d, rfl⟩ := four_of hl
  show nz [-a, -b, -c, -d] = _
  rw [nz_four, nz_four]
  have h : ∀ x : Int, (if -x = 0 then 0 else 1 : Nat) = if x = 0 then 0 else 1 := fun x => by
    by_cases e : x = 0
    · rw [if_pos e, if_pos (by omega)]
    · rw [if_neg e, if_neg (by omega)]
  rw [h, h, h, h]

end Go.Proofs.YtffajooegiempabDoor

namespace Go.Proofs.YtffajooegiempabDoor
end Go.Proofs.YtffajooegiempabDoor

namespace Go.Proofs.YtffajooegiempabDoor
end Go.Proofs.YtffajooegiempabDoor

namespace Go.Proofs.YtffajooegiempabDoor
end Go.Proofs.YtffajooegiempabDoor

namespace Go.Proofs.YtffajooegiempabDoor
end Go.Proofs.YtffajooegiempabDoor

namespace Go.Proofs.YtffajooegiempabDoor
end Go.Proofs.YtffajooegiempabDoor

namespace Go.Proofs.YtffajooegiempabDoor
end Go.Proofs.YtffajooegiempabDoor

namespace Go.Proofs.YtffajooegiempabDoor
end Go.Proofs.YtffajooegiempabDoor

namespace Go.Proofs.YtffajooegiempabDoor
end Go.Proofs.YtffajooegiempabDoor

namespace Go.Proofs.YtffajooegiempabDoor
end Go.Proofs.YtffajooegiempabDoor

namespace Go.Proofs.YtffajooegiempabDoor
end Go.Proofs.YtffajooegiempabDoor

namespace Go
end Go
namespace Go.Proofs.YtffajooegiempabDoor
end Go.Proofs.YtffajooegiempabDoor

namespace Go.Proofs.YtffajooegiempabDoor
end Go.Proofs.YtffajooegiempabDoor

namespace Go.Proofs.YtffajooegiempabDoor
end Go.Proofs.YtffajooegiempabDoor

