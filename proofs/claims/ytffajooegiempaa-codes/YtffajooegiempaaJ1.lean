import Derived.Test.YtffajooegiempaaJ0
import Derived.Laws.CopyOwn
import Derived.Laws.MakeOwn
import Derived.Laws.AppendOwn
import Derived.Laws.BytesArg
import Derived.Laws.Concat
/- Octagons, plain: bounds of sums of two sides, as the program keeps them: entry 8 i + j. No Go in here. -/
namespace Go.Proofs.Ytffajooegiempaa

def NB : Int := 1000000
def opp (i : Nat) : Nat := if i % 2 = 0 then i + 1 else i - 1
def pl (a b : Int) : Int := if a = NB ∨ b = NB then NB else a + b
def upd (M : Nat → Int) (k : Nat) (x : Int) : Nat → Int := fun a => if a = k then x else M a

theorem opp_lt {i : Nat} (h : i < 8) : opp i < 8 := by unfold opp; split <;> omega
theorem upd_same (M : Nat → Int) (k : Nat) (x : Int) : upd M k x k = x := if_pos rfl
theorem upd_other (M : Nat → Int) {k a : Nat} (x : Int) (h : a ≠ k) : upd M k x a = M a := if_neg h

/-- One step of a chain through a side. -/
def ch1 (s : Nat) (M : Nat → Int) (k : Nat) : Nat → Int :=
  if pl (M (k / 8 * 8 + opp s)) (M (s * 8 + k % 8)) < M k then upd M k (pl (M (k / 8 * 8 + opp s)) (M (s * 8 + k % 8))) else M
def chF (s : Nat) (M : Nat → Int) : Nat → Nat → Int
  | 0 => M
  | k + 1 => ch1 s (chF s M k) k
/-- All chains. -/
def fw (M : Nat → Int) : Nat → Nat → Int
  | 0 => M
  | s + 1 => chF s (fw M s) 64
/-- The sums of a side with itself, made even. -/
def rd1 (M : Nat → Int) (i : Nat) : Nat → Int := if M (i * 8 + i) = NB then M else upd M (i * 8 + i) (M (i * 8 + i) / 2 * 2)
def rdF (M : Nat → Int) : Nat → Nat → Int
  | 0 => M
  | i + 1 => rd1 (rdF M i) i
/-- Each sum of two sides against those of the two alone. -/
def ah1 (M : Nat → Int) (k : Nat) : Nat → Int :=
  if pl (M (k / 8 * 8 + k / 8)) (M (k % 8 * 8 + k % 8)) ≠ NB ∧ (pl (M (k / 8 * 8 + k / 8)) (M (k % 8 * 8 + k % 8))).tdiv 2 < M k then upd M k ((pl (M (k / 8 * 8 + k / 8)) (M (k % 8 * 8 + k % 8))).tdiv 2) else M
def ahF (M : Nat → Int) : Nat → Nat → Int
  | 0 => M
  | k + 1 => ah1 (ahF M k) k
/-- All three. -/
def sharp (M : Nat → Int) : Nat → Int := ahF (rdF (fw M 8) 8) 64
/-- Is there a side that would have to be less than 0 with its opposite? -/
def conF (M : Nat → Int) : Nat → Bool
  | 0 => false
  | i + 1 => conF M i || decide (M (i * 8 + opp i) < 0)

/- Each step only lowers. -/
theorem ch1_le (s : Nat) (M : Nat → Int) (k a : Nat) : ch1 s M k a ≤ M a := by
  unfold ch1
  split
  · unfold upd
    split
    · rename_i h e; subst e; exact Int.le_of_lt h
    · exact Int.le_refl _
  · exact Int.le_refl _
theorem chF_le (s : Nat) (M : Nat → Int) : ∀ k a, chF s M k a ≤ M a
  | 0, _ => Int.le_refl _
  | k + 1, a => Int.le_trans (ch1_le s _ k a) (chF_le s M k a)
theorem fw_le (M : Nat → Int) : ∀ s a, fw M s a ≤ M a
  | 0, _ => Int.le_refl _
  | s + 1, a => by rw [fw]; exact Int.le_trans (chF_le s _ 64 a) (fw_le M s a)
theorem rd1_le (M : Nat → Int) (i a : Nat) : rd1 M i a ≤ M a := by
  unfold rd1
  split
  · exact Int.le_refl _
  · unfold upd
    split
    · rename_i e; subst e; omega
    · exact Int.le_refl _
theorem rdF_le (M : Nat → Int) : ∀ i a, rdF M i a ≤ M a
  | 0, _ => Int.le_refl _
  | i + 1, a => Int.le_trans (rd1_le _ i a) (rdF_le M i a)
theorem ah1_le (M : Nat → Int) (k a : Nat) : ah1 M k a ≤ M a := by
  unfold ah1
  split
  · unfold upd
    split
    · rename_i h e; subst e; exact Int.le_of_lt h.2
    · exact Int.le_refl _
  · exact Int.le_refl _
theorem ahF_le (M : Nat → Int) : ∀ k a, ahF M k a ≤ M a
  | 0, _ => Int.le_refl _
  | k + 1, a => Int.le_trans (ah1_le _ k a) (ahF_le M k a)
theorem sharp_le (M : Nat → Int) (a : Nat) : sharp M a ≤ M a := Int.le_trans (ahF_le _ 64 a) (Int.le_trans (rdF_le _ 8 a) (fw_le M 8 a))

/- How low the entries get. -/
def Lo (L : Int) (M : Nat → Int) : Prop := ∀ a, a < 64 → -L ≤ M a
structure LoC (L : Int) (s : Nat) (M M' : Nat → Int) (k : Nat) : Prop where
  old : ∀ a, k ≤ a → M' a = M a
  all : ∀ a, a < 64 → -(6 * L) ≤ M' a
  col : ∀ i, i < 8 → -(3 * L) ≤ M' (i * 8 + opp s)
  row : ∀ j, j < 8 → -(3 * L) ≤ M' (s * 8 + j)
  cor : -(2 * L) ≤ M' (s * 8 + opp s)
theorem pl_ge {a b x y : Int} (ha : -x ≤ a) (hb : -y ≤ b) (h : -1000000 ≤ x + y) : -(x + y) ≤ pl a b := by
  unfold pl NB
  split
  · omega
  · omega
theorem chF_lo {L : Int} {s : Nat} {M : Nat → Int} (hL : 0 ≤ L) (hs : s < 8) (h : Lo L M) : ∀ k, k ≤ 64 → LoC L s M (chF s M k) k := by
  have ho := opp_lt hs
  intro k
  induction k with
  | zero =>
    intro _
    refine ⟨fun _ _ => rfl, fun a ha => ?_, fun i hi => ?_, fun j hj => ?_, ?_⟩
    · have := h a ha; show _ ≤ M a; omega
    · have := h (i * 8 + opp s) (by omega); show _ ≤ M _; omega
    · have := h (s * 8 + j) (by omega); show _ ≤ M _; omega
    · have := h (s * 8 + opp s) (by omega); show _ ≤ M _; omega
  | succ k ih =>
    intro hk
    have hc := ih (by omega)
    have hi : k / 8 < 8 := by omega
    have hj : k % 8 < 8 := by omega
    have hkk : k / 8 * 8 + k % 8 = k := by omega
    have hkM : chF s M k k = M k := hc.old k (Nat.le_refl _)
    have hMk : -L ≤ M k := h k (by omega)
    have c1 := hc.col _ hi
    have c2 := hc.row _ hj
    have c3 := hc.cor
    show LoC L s M (ch1 s (chF s M k) k) (k + 1)
    unfold ch1
    split
    · have g6 : -(6 * L) ≤ pl (chF s M k (k / 8 * 8 + opp s)) (chF s M k (s * 8 + k % 8)) := by
        have := pl_ge c1 c2 (by omega); omega
      refine ⟨fun a ha => ?_, fun a ha => ?_, fun i hi' => ?_, fun j hj' => ?_, ?_⟩
      · rw [upd_other _ _ (by omega)]; exact hc.old a (by omega)
      · unfold upd; split
        · exact g6
        · exact hc.all a ha
      · unfold upd; split
        · rename_i e
          have e1 : k / 8 = i := by omega
          have e2 : k % 8 = opp s := by omega
          have : chF s M k (k / 8 * 8 + opp s) = M k := by rw [show k / 8 * 8 + opp s = k by omega]; exact hkM
          rw [this, e2]
          have := pl_ge (x := L) (y := 2 * L) hMk c3 (by omega)
          omega
        · exact hc.col i hi'
      · unfold upd; split
        · rename_i e
          have e1 : k / 8 = s := by omega
          have e2 : k % 8 = j := by omega
          have : chF s M k (s * 8 + k % 8) = M k := by rw [show s * 8 + k % 8 = k by omega]; exact hkM
          rw [this, e1]
          have := pl_ge (x := 2 * L) (y := L) c3 hMk (by omega)
          omega
        · exact hc.row j hj'
      · unfold upd; split
        · rename_i e
          have e1 : k / 8 = s := by omega
          have e2 : k % 8 = opp s := by omega
          have : chF s M k (s * 8 + opp s) = M k := by rw [e]; exact hkM
          rw [e1, e2, this]
          have := pl_ge (x := L) (y := L) hMk hMk (by omega)
          omega
        · exact hc.cor
    · exact ⟨fun a ha => hc.old a (by omega), hc.all, hc.col, hc.row, hc.cor⟩
theorem fw_lo {M : Nat → Int} {L : Int} (hL : 0 ≤ L) (h : Lo L M) : ∀ s, s ≤ 8 → Lo (L * 6 ^ s) (fw M s) := by
  intro s
  induction s with
  | zero => intro _; simpa [fw] using h
  | succ s ih =>
    intro hs
    have h1 := ih (by omega)
    have hp : 0 ≤ L * 6 ^ s := Int.mul_nonneg hL (Int.le_of_lt (Int.pow_pos (by decide)))
    have h2 := (chF_lo (s := s) hp (by omega) h1 64 (Nat.le_refl _)).all
    intro a ha
    have := h2 a ha
    rw [fw, Int.pow_succ]
    have e : L * (6 ^ s * 6) = 6 * (L * 6 ^ s) := by rw [← Int.mul_assoc, Int.mul_comm]
    rw [e]; exact this

end Go.Proofs.Ytffajooegiempaa

namespace Go.Proofs.Ytffajooegiempaa
open Go.RowKit

set_option maxRecDepth 100000 in
set_option maxHeartbeats 800000 in
theorem l_same (w : World) (a b : Value) (l : List Int) (hm : l.length ≤ 1073741824) (ha : Reads w a l) (hb : Reads w b l) :
    Calls Try.prog 23 #[a, b] w fun e w' => e = .returned (.bool true) ∧ ∃ k, w' = w.drewN k := by
  obtain ⟨ao, ca, rfl, hca, ha⟩ := ha
  obtain ⟨bo, cb, rfl, hcb, hb⟩ := hb
  by_cases h0 : l.length = 0
  · rw [h0]
    clear ha hb hca hcb h0
    go_enter Try.func23, Try.ntmps23
    go_wp2_with fail
    go_loop [5] (fun i => i = .int .i64 0) (fun _ => 0)
    case atStart => rfl
    case round =>
      subst hrel
      go_wp2_with fail
      go_ret
      exact ⟨rfl, 0, rfl⟩
  · obtain ⟨p, o, rfl, hp, cp⟩ := ha h0
    obtain ⟨q, o', rfl, hq, cq⟩ := hb h0
    generalize hL : l.length = n at *
    have HA : Hid (∀ i, i < n → w.cell? ⟨p, o + i, none⟩ = some (.int .i64 (l.getD i 0))) := cp
    have HB : Hid (∀ i, i < n → w.cell? ⟨q, o' + i, none⟩ = some (.int .i64 (l.getD i 0))) := cq
    clear ha hb cp cq hL h0
    go_enter Try.func23, Try.ntmps23
    go_wp2_with fail
    go_loopw [5] (fun i wr => ∃ j k : Nat, j ≤ n ∧ i = .int .i64 j ∧ wr = w.drewN k) (fun i _ => n - (intOf i).toNat)
    case atStart => exact ⟨0, 0, Nat.zero_le _, rfl, rfl⟩
    case round =>
      obtain ⟨j, k, hj, rfl, hwr⟩ := hrel
      have HW : Hid (∃ k, wr = w.drewN k) := ⟨k, hwr⟩
      have k1 : ∀ a, wr.cell? a = w.cell? a := fun a => by rw [hwr]; rfl
      by_cases hlt : j < n
      · have c1 : wr.cell? ⟨p, o + j, none⟩ = some (.int .i64 (l.getD j 0)) := (k1 _).trans (HA.out j hlt)
        have c2 : wr.cell? ⟨q, o' + j, none⟩ = some (.int .i64 (l.getD j 0)) := (k1 _).trans (HB.out j hlt)
        clear hwr k1
        have hji : (j : Int) < (n : Int) := by omega
        generalize l.getD j 0 = x at *
        go_wp2_with fail
        go_quiet (fail)
        go_wp2_with fail
        go_roundw
        case rel => obtain ⟨k', e⟩ := HW.out; exact ⟨j + 1, _, by omega, by go_num, by rw [e]; exact drewN_two _ _ _⟩
        case measure => simp [intOf]; omega
      · have hji : ¬ (j : Int) < (n : Int) := by omega
        clear hwr k1
        go_wp2_with fail
        go_ret
        exact ⟨rfl, HW.out⟩

end Go.Proofs.Ytffajooegiempaa

namespace Go.Proofs.Ytffajooegiempaa
open Go.RowKit
variable {w : World}

/-- May it be a bound? -/
def isB (n : Int) : Bool := decide (n = NB ∨ (-4000 ≤ n ∧ n ≤ 4000))
/-- May the list be handed in? -/
def okL (l : List Int) : Prop := l.length = 32 ∧ ∀ i, i < 32 → isB (l.getD i 0) = true

set_option maxRecDepth 100000 in
set_option maxHeartbeats 1600000 in
theorem o_isBound (n : Int) : Calls Try.prog 66 #[.int .i64 n] w fun e w' => e = .returned (.bool (isB n)) ∧ w' = w := by
  by_cases h1 : n = 1000000
  · subst h1
    go_enter Try.func66, Try.ntmps66
    go_wp2_with fail
    go_ret
    exact ⟨rfl, rfl⟩
  have q1 : (n == 1000000) = false := by simpa using h1
  by_cases h2 : -4000 ≤ n
  · by_cases h3 : n ≤ 4000
    · have HE : Hid (isB n = true) := by show isB n = true; unfold isB; exact decide_eq_true (.inr ⟨h2, h3⟩)
      clear h1
      go_enter Try.func66, Try.ntmps66
      go_wp2_with fail
      go_ret
      exact ⟨by rw [HE.out]; rfl, rfl⟩
    · have HE : Hid (isB n = false) := by show isB n = false; unfold isB; exact decide_eq_false (fun e => e.elim h1 (fun e => h3 e.2))
      clear h1
      go_enter Try.func66, Try.ntmps66
      go_wp2_with fail
      go_ret
      exact ⟨by rw [HE.out]; rfl, rfl⟩
  · have HE : Hid (isB n = false) := by show isB n = false; unfold isB; exact decide_eq_false (fun e => e.elim h1 (fun e => h2 e.1))
    clear h1
    go_enter Try.func66, Try.ntmps66
    go_wp2_with fail
    go_ret
    exact ⟨by rw [HE.out]; rfl, rfl⟩

/-- May it be handed in? -/
def gdF (l : List Int) : Nat → Bool
  | 0 => true
  | f + 1 => gdF l f && isB (l.getD f 0)
def gdB (l : List Int) : Bool := decide (l.length = 32) && gdF l 32
theorem gdF_all {l : List Int} : ∀ {n : Nat}, gdF l n = true ↔ ∀ f, f < n → isB (l.getD f 0) = true := by
  intro n
  induction n with
  | zero => exact ⟨fun _ f hf => absurd hf (by omega), fun _ => rfl⟩
  | succ n ih =>
    show (gdF l n && isB (l.getD n 0)) = true ↔ _
    rw [Bool.and_eq_true, ih]
    constructor
    · rintro ⟨h1, h2⟩ f hf
      rcases Nat.lt_or_eq_of_le (Nat.lt_succ_iff.1 hf) with q | q
      · exact h1 f q
      · rw [q]; exact h2
    · intro h
      exact ⟨fun f hf => h f (by omega), h n (by omega)⟩
theorem gdB_ok {l : List Int} : gdB l = true ↔ okL l := by
  unfold gdB okL
  rw [Bool.and_eq_true, decide_eq_true_eq, gdF_all]
theorem gdF_no {l : List Int} {f : Nat} (hf : f < 32) (h : isB (l.getD f 0) = false) : gdF l 32 = false := by
  cases e : gdF l 32 with
  | false => rfl
  | true => rw [gdF_all.1 e f hf] at h; cases h

set_option maxRecDepth 100000 in
set_option maxHeartbeats 1600000 in
theorem r_good (u : Value) (l : List Int) (_hm : l.length ≤ 1073741824) (hu : Reads w u l) :
    Calls Try.prog 36 #[u] w fun e w' => e = .returned (.bool (gdB l)) ∧ w' = w := by
  obtain ⟨au, cu, rfl, hcu, h0⟩ := hu
  by_cases h32 : l.length = 32
  · have HE : Hid (gdB l = gdF l 32) := by show gdB l = _; unfold gdB; rw [decide_eq_true h32]; rfl
    obtain ⟨p, off, rfl, hp, hcell⟩ := h0 (by omega)
    have HC : Hid (∀ i, i < 32 → w.cell? ⟨p, off + i, none⟩ = some (.int .i64 (l.getD i 0))) := fun i hi => hcell i (by omega)
    rw [h32]
    clear h0 hcell hcu h32 _hm
    go_enter Try.func36, Try.ntmps36
    go_wp2_with fail
    go_loopw [3] (fun i wr => ∃ (f : Nat), f ≤ 32 ∧ i = .int .i64 f ∧ wr = w ∧ Hid (gdF l f = true)) (fun i _ => 32 - (intOf i).toNat)
    case atStart => exact ⟨0, by omega, rfl, rfl, rfl⟩
    case round =>
      obtain ⟨f, hf, rfl, rfl, HR⟩ := hrel
      by_cases hlt : f < 32
      · have hfi : (f : Int) < 32 := by omega
        have HEq : Hid (gdF l (f + 1) = (gdF l f && isB (l.getD f 0))) := rfl
        have cx := HC.out f hlt
        have HNo : Hid (¬ (l.getD f 0 = 1000000 ∨ (-4000 ≤ l.getD f 0 ∧ l.getD f 0 ≤ 4000)) → gdF l 32 = false) := fun h => gdF_no hlt (decide_eq_false h)
        generalize l.getD f 0 = x at *
        by_cases e1 : x = 1000000
        · have HY : Hid (isB x = true) := decide_eq_true (.inl e1)
          have e1' : (x != 1000000) = false := by rw [e1]; rfl
          go_wp2_with fail
          go_roundw
          case rel => exact ⟨f + 1, by omega, by go_num, by simp, by show gdF l (f + 1) = true; rw [HEq.out, HR.out, HY.out]; rfl⟩
          case measure => simp [intOf]; omega
        · have e1' : (x != 1000000) = true := by rw [bne_iff_ne]; exact e1
          by_cases e2 : x < -4000
          · have HF : Hid (gdF l 32 = false) := HNo.out (by omega)
            go_wp2_with fail
            go_ret
            exact ⟨by rw [HE.out, HF.out]; rfl, rfl⟩
          · by_cases e3 : 4000 < x
            · have HF : Hid (gdF l 32 = false) := HNo.out (by omega)
              go_wp2_with fail
              go_ret
              exact ⟨by rw [HE.out, HF.out]; rfl, rfl⟩
            · have HY : Hid (isB x = true) := decide_eq_true (by exact .inr ⟨by omega, by omega⟩)
              go_wp2_with fail
              go_roundw
              case rel => exact ⟨f + 1, by omega, by go_num, by simp, by show gdF l (f + 1) = true; rw [HEq.out, HR.out, HY.out]; rfl⟩
              case measure => simp [intOf]; omega
      · have hf32 : f = 32 := by omega
        subst hf32
        go_wp2_with fail
        go_ret
        exact ⟨by rw [HE.out, HR.out]; rfl, rfl⟩
  · have HE : Hid (gdB l = false) := by show gdB l = _; unfold gdB; rw [decide_eq_false h32]; rfl
    have hb : ((l.length : Int) != 32) = true := by rw [bne_iff_ne]; omega
    clear h0 h32
    go_enter Try.func36, Try.ntmps36
    go_wp2_with fail
    go_ret
    exact ⟨by rw [HE.out]; rfl, rfl⟩


set_option maxRecDepth 100000 in
set_option maxHeartbeats 1600000 in
/-- The program's test of a list. -/
theorem o_isList (u : Value) (l : List Int) (hu : Reads w u l) :
    Calls Try.prog 51 #[u] w fun e w' => e = .returned (.bool (gdB l)) ∧ w' = w := by
  obtain ⟨au, cu, rfl, hcu, h0⟩ := hu
  have kb := fun (n : Int) => o_isBound (w := w) n
  by_cases h32 : l.length = 32
  · have HE : Hid (gdB l = gdF l 32) := by show gdB l = _; unfold gdB; rw [decide_eq_true h32]; rfl
    obtain ⟨p, off, rfl, hp, hcell⟩ := h0 (by omega)
    have HC : Hid (∀ i, i < 32 → w.cell? ⟨p, off + i, none⟩ = some (.int .i64 (l.getD i 0))) := fun i hi => hcell i (by omega)
    rw [h32]
    clear h0 hcell hcu h32
    go_enter Try.func51, Try.ntmps51
    go_wp2_with fail
    go_loopw [10] (fun i wr => ∃ (f : Nat), f ≤ 32 ∧ i = .int .i64 f ∧ wr = w ∧ Hid (gdF l f = true)) (fun i _ => 32 - (intOf i).toNat)
    case atStart => exact ⟨0, by omega, rfl, rfl, rfl⟩
    case round =>
      obtain ⟨f, hf, rfl, rfl, HR⟩ := hrel
      by_cases hlt : f < 32
      · have hfi : (f : Int) < 32 := by omega
        have HEq : Hid (gdF l (f + 1) = (gdF l f && isB (l.getD f 0))) := rfl
        have cx := HC.out f hlt
        have HNo : Hid (isB (l.getD f 0) = false → gdF l 32 = false) := fun h => gdF_no hlt h
        generalize l.getD f 0 = x at *
        cases hb : isB x with
        | true =>
          have kx := kb x
          rw [hb] at kx
          have HY : Hid (isB x = true) := hb
          clear hb kb
          go_wp2_with fail
          refine kx.mono ?_
          rintro e w2 ⟨rfl, rfl⟩
          go_wp2_with fail
          go_roundw
          case rel => exact ⟨f + 1, by omega, by go_num, by simp, by show gdF l (f + 1) = true; rw [HEq.out, HR.out, HY.out]; rfl⟩
          case measure => simp [intOf]; omega
        | false =>
          have kx := kb x
          rw [hb] at kx
          have HF : Hid (gdF l 32 = false) := HNo.out hb
          clear hb kb
          go_wp2_with fail
          refine kx.mono ?_
          rintro e w2 ⟨rfl, rfl⟩
          go_wp2_with fail
          go_ret
          exact ⟨by rw [HE.out, HF.out]; rfl, rfl⟩
      · have hf32 : f = 32 := by omega
        subst hf32
        go_wp2_with fail
        go_ret
        exact ⟨by rw [HE.out, HR.out]; rfl, rfl⟩
  · have HE : Hid (gdB l = false) := by show gdB l = _; unfold gdB; rw [decide_eq_false h32]; rfl
    have hb : ((l.length : Int) != 32) = true := by rw [bne_iff_ne]; omega
    clear h0 h32
    go_enter Try.func51, Try.ntmps51
    go_wp2_with fail
    go_ret
    exact ⟨by rw [HE.out]; rfl, rfl⟩

end Go.Proofs.Ytffajooegiempaa

namespace Go.Proofs.Ytffajooegiempaa
open Go.RowKit

/-- Of the blocks that were there nothing but m has turned; new ones may have come. -/
structure Onl (m : Nat) (w w' : World) : Prop where
  os : w'.os = w.os
  tape : w'.tape = w.tape
  output : w'.output = w.output
  size : w.heap.size ≤ w'.heap.size
  block : ∀ k, k < w.heap.size → k ≠ m → w'.heap[k]? = w.heap[k]?

variable {m : Nat} {a b c w w' : World}
theorem Onl.refl (m : Nat) (w : World) : Onl m w w := ⟨rfl, rfl, rfl, Nat.le_refl _, fun _ _ _ => rfl⟩
theorem Onl.trans (h : Onl m a b) (k : Onl m b c) : Onl m a c :=
  ⟨k.os.trans h.os, k.tape.trans h.tape, k.output.trans h.output, Nat.le_trans h.size k.size, fun i hi hn => (k.block i (Nat.lt_of_lt_of_le hi h.size) hn).trans (h.block i hi hn)⟩
theorem Onl.of (h : Below w.heap.size w w') (m : Nat) : Onl m w w' := ⟨h.os, h.tape, h.output, h.size, fun k hk _ => h.block k hk⟩
/-- A block of the call's own is written. -/
theorem Onl.own (h : Onl m a b) {q : Nat} (hq : q = m ∨ a.heap.size ≤ q) (o : Nat) (u : Value) : Onl m a (b.setCell ⟨q, o, none⟩ u) :=
  ⟨h.os, h.tape, h.output, by have := h.size; simpa [World.setCell] using this, fun k hk hn => (Below.heap_setCell _ _ _ _ (by show k ≠ q; omega)).trans (h.block k hk hn)⟩
theorem Onl.setCell (h : Onl m a b) (o : Nat) (u : Value) : Onl m a (b.setCell ⟨m, o, none⟩ u) := h.own (.inl rfl) o u
theorem Onl.alloc (h : Onl m a b) (o : Obj) : Onl m a (b.alloc o) := h.trans (Onl.of ((Below.refl _ _).alloc (Nat.le_refl _) _) m)
theorem Onl.drewN (h : Onl m a b) (n : Nat) : Onl m a (b.drewN n) := ⟨h.os, h.tape, h.output, h.size, h.block⟩
theorem Onl.below (h : Onl m a b) {B : Nat} (h1 : B ≤ m) (h2 : B ≤ a.heap.size) : Below B a b := ⟨h.os, h.tape, h.output, h.size, fun k hk => h.block k (by omega) (by omega)⟩
theorem Onl.at_ {q : Nat} {c : Array Value} {t : TypeId} (h : Onl m w w') (ha : At w q c t) (hn : q ≠ m) : At w' q c t := ha.same (h.block q ha.lt hn)
theorem Onl.cell (h : Onl m w w') {q : Nat} (hq : q < w.heap.size) (hn : q ≠ m) (i : Nat) : w'.cell? ⟨q, i, none⟩ = w.cell? ⟨q, i, none⟩ := World.cell?_of_block (a := ⟨q, i, none⟩) (h.block q hq hn)
theorem At.keep {w w' : World} {B b : Nat} {c : Array Value} {t : TypeId} (h : At w b c t) (hb : Below B w w') (hlt : b < B) : At w' b c t := h.same (hb.block b hlt)
theorem At.allocH {b : Nat} {c : Array Value} {t : TypeId} (h : At w b c t) (o : Obj) : At (w.alloc o) b c t := h.keep ((Below.refl _ _).alloc (Nat.le_refl _) _) h.lt
theorem At.new (w : World) (c : Array Value) (t : TypeId) : At (w.alloc (.cells c t)) w.heap.size c t := by
  show (w.heap.push _)[w.heap.size]? = _
  simp

end Go.Proofs.Ytffajooegiempaa

namespace Go.Proofs.Ytffajooegiempaa
open Go.RowKit
variable {w : World}

abbrev tBy : TypeId := 5
/-- Bytes in a row of the call's own. -/
def byv (xs : List Int) : List Value := xs.map (Value.int .u8)
theorem byv_app (xs ys : List Int) : byv (xs ++ ys) = byv xs ++ byv ys := by simp [byv]
def BRow (w : World) (base : Nat) (v : Value) (xs : List Int) : Prop := w.ownsRow base tBy 1 v xs.length (byv xs) ∧ ∃ g cap, v = .slice (some ⟨g, 0, none⟩) xs.length cap

theorem ownsRow_below {w w' : World} {base e size n : Nat} {v : Value} {xs : List Value} (h : w.ownsRow base e size v n xs) (hb : ∀ k, v.ownBlock = some k → w'.heap[k]? = w.heap[k]?) : w'.ownsRow base e size v n xs := by
  obtain ⟨h1, h2⟩ := h
  refine ⟨h1, ?_⟩
  rcases h2 with h2 | ⟨g, cap, c, hv, hg, hh, r⟩
  · exact .inl h2
  · exact .inr ⟨g, cap, c, hv, hg, by rw [hb g (by rw [hv]; rfl)]; exact hh, r⟩
theorem BRow.keep {w w' : World} {base B : Nat} {v : Value} {xs : List Int} (h : BRow w base v xs) (hb : Below B w w') (hB : w.heap.size ≤ B) : BRow w' base v xs :=
  ⟨ownsRow_below h.1 (fun k hk => hb.block k (by have := (h.1.lt k hk).2; omega)), h.2⟩
/-- A row that is read. -/
theorem BRow.cells {base : Nat} {g cap : Nat} {xs : List Int} (h : BRow w base (.slice (some ⟨g, 0, none⟩) xs.length cap) xs) : ∀ i, i < xs.length → w.cell? ⟨g, i, none⟩ = some (.int .u8 (xs.getD i 0)) := by
  intro i hi
  have := h.1.cells (g := g) rfl i (.int .u8 (xs.getD i 0)) (by simp [byv, List.getD, hi])
  have e1 : (⟨g, 0, none⟩ : Addr).add i = ⟨g, i, none⟩ := by unfold Addr.add; split <;> simp_all
  rwa [e1] at this
/-- A row that was laid of the call's own. -/
theorem BRow.new (w : World) (xs : List Int) (base : Nat) (hb : base ≤ w.heap.size) (hx : xs.length ≤ maxLen) : BRow (w.alloc (.cells (byv xs).toArray tBy)) base (.slice (some ⟨w.heap.size, 0, none⟩) xs.length xs.length) xs :=
  ⟨⟨by simp [byv], .inr ⟨w.heap.size, xs.length, (byv xs).toArray, rfl, hb, heap_alloc_new w _, Nat.le_refl _, hx, by simp [byv], List.take_of_length_le (by simp [byv])⟩⟩, _, _, rfl⟩

/-- Bytes behind a row of the call's own. -/
theorem wpList_append_b {base : Nat} {v : Value} {xs ys : List Int} {ops : Array Oper} {rest : List Oper} {o : Oper} {a : Act} {Q : Exit → Act → World → Prop} (hgd : o.guard = none) (s x : Operand)
    (ho : o.op = .call { callee := .builtin .append, args := #[s, x], argTypes := #[71, 71] })
    (hs : a.eval s = v) (hown : BRow w base v xs) (g c : Nat) (hx : a.eval x = .slice (some ⟨g, 0, none⟩) ys.length c) (hnews : ∀ i, i < ys.length → w.cell? ⟨g, i, none⟩ = some (.int .u8 (ys.getD i 0)))
    (h63 : xs.length + ys.length ≤ 1000000) (hbase : base ≤ w.heap.size)
    (h : ∀ v' w', BRow w' base v' (xs ++ ys) → w.grownBy w' v.ownBlock → wpList Try.prog ops Q rest (a.put o.dst v') w') : wpList Try.prog ops Q (o :: rest) a w := by
  obtain ⟨i0, hi, hz0, hz1, hz2⟩ := info_parts (P := Try.prog) (e := tBy) (z := .int .u8 0) (size := 1) (bytes := 1) (by kernel_rfl)
  obtain ⟨hrow, q, cap, rfl⟩ := hown
  refine wpList_append_own _ hgd s x 71 ho base tBy i0 _ 1 1 Try.underlying71 hi hz0 hz1 hz2 rfl (by decide) _ _ _ hs hrow ⟨g, 0, none⟩ ys.length c (byv ys) hx (by simp [byv]) (by
    intro j u hj
    have hjl : j < ys.length := by
      rcases Nat.lt_or_ge j ys.length with q | q
      · exact q
      · rw [List.getElem?_eq_none (by simp [byv]; omega)] at hj; cases hj
    have e1 : (⟨g, 0, none⟩ : Addr).add j = ⟨g, j, none⟩ := by unfold Addr.add; split <;> simp_all
    rw [e1, hnews j hjl]
    simpa [byv, List.getD, hjl] using hj) (by
    intro u hu
    obtain ⟨y, _, rfl⟩ := List.mem_map.1 hu
    rfl) (by unfold maxLen; omega) (by omega) hbase ?_
  intro v' w' h2 h3 h4
  refine h v' w' ⟨by rw [List.length_append, byv_app]; exact h2, ?_⟩ h3
  rcases h2.2 with ⟨e, _⟩ | ⟨g', cap', cur, e, _⟩
  · obtain ⟨e1, _⟩ := h4.1 e; cases e1
  · exact ⟨g', cap', by rw [List.length_append]; exact e⟩

set_option maxRecDepth 100000 in
set_option maxHeartbeats 1600000 in
theorem c_countTold (p off cu : Nat) (l : List Int) (_hp : p < w.heap.size) (hc : ∀ i, i < 32 → w.cell? ⟨p, off + i, none⟩ = some (.int .i64 (l.getD i 0))) :
    Calls Try.prog 67 #[.slice (some ⟨p, off, none⟩) 32 cu] w fun e w' => e = .returned (.int .i64 ((ct l 32 : Nat) : Int)) ∧ w' = w := by
  have HC : Hid (∀ i, i < 32 → w.cell? ⟨p, off + i, none⟩ = some (.int .i64 (l.getD i 0))) := hc
  obtain ⟨C, hC⟩ : ∃ C, C = ct l := ⟨_, rfl⟩
  have HS : Hid (∀ f, C (f + 1) = C f + (if l.getD f 0 = 1000000 then 0 else 1)) := by rw [hC]; exact ct_succ l
  have HL : Hid (∀ f, C f ≤ f) := by rw [hC]; exact ct_le l
  have HZ : Hid (C 0 = 0) := by rw [hC]; rfl
  rw [← hC]
  clear hc hC
  go_enter Try.func67, Try.ntmps67
  go_wp2_with fail
  go_loopw [3, 8] (fun t i wr => ∃ (f : Nat), f ≤ 32 ∧ i = .int .i64 f ∧ wr = w ∧ t = .int .i64 ((C f : Nat) : Int)) (fun _ i _ => 32 - (intOf i).toNat)
  case atStart => exact ⟨0, by omega, rfl, rfl, by rw [HZ.out]; rfl⟩
  case round =>
    obtain ⟨f, hf, rfl, rfl, rfl⟩ := hrel
    have hcf := HL.out f
    by_cases hlt : f < 32
    · have hfi : (f : Int) < 32 := by omega
      have cx := HC.out f hlt
      have HEq := (show Hid (_ = _) from HS.out f)
      generalize l.getD f 0 = x at *
      generalize C f = cf at *
      by_cases e1 : x = 1000000
      · have e1' : (x != 1000000) = false := by rw [e1]; rfl
        have HX : Hid (C (f + 1) = cf) := by show _ = _; rw [HEq.out, if_pos e1]; rfl
        go_wp2_with fail
        go_roundw
        case rel => exact ⟨f + 1, by omega, by go_num, by simp, by rw [HX.out]⟩
        case measure => simp [intOf]; omega
      · have e1' : (x != 1000000) = true := by rw [bne_iff_ne]; exact e1
        have HX : Hid (C (f + 1) = cf + 1) := by show _ = _; rw [HEq.out, if_neg e1]
        go_wp2_with fail
        go_roundw
        case rel => exact ⟨f + 1, by omega, by go_num, by simp, by rw [HX.out]; go_num⟩
        case measure => simp [intOf]; omega
    · have hf32 : f = 32 := by omega
      subst hf32
      go_wp2_with fail
      go_ret
      exact ⟨rfl, rfl⟩

theorem c_quo (x : Int) (h0 : 0 ≤ x) : x.tdiv 256 = x / 256 := Int.tdiv_eq_ediv_of_nonneg h0
theorem c_rem (x : Int) (h0 : 0 ≤ x) : x.tmod 256 = x % 256 := Int.tmod_eq_emod_of_nonneg h0

end Go.Proofs.Ytffajooegiempaa

namespace Go.Proofs.Ytffajooegiempaa
open Go.RowKit
variable {w : World}

/-- What comes out: a row of the call's own with these bytes. -/
def BOut (w : World) (xs : List Int) : Ending → World → Prop := fun e w' => ∃ v, BRow w' w.heap.size v xs ∧ e = .returned v ∧ Below w.heap.size w w'

set_option maxRecDepth 100000 in
set_option maxHeartbeats 1600000 in
theorem c_toldBounds (p off cu : Nat) (l : List Int) (hp : p < w.heap.size) (hc : ∀ i, i < 32 → w.cell? ⟨p, off + i, none⟩ = some (.int .i64 (l.getD i 0))) (hb : ∀ f, f < 32 → cBd (l.getD f 0)) :
    Calls Try.prog 52 #[.slice (some ⟨p, off, none⟩) 32 cu] w (BOut w (((ct l 32 : Nat) : Int) :: tl l 32)) := by
  have HC : Hid (∀ i, i < 32 → w.cell? ⟨p, off + i, none⟩ = some (.int .i64 (l.getD i 0))) := hc
  have HB : Hid (∀ f, f < 32 → cBd (l.getD f 0)) := hb
  have hct := c_countTold p off cu l hp hc
  have hcl := ct_le l 32
  obtain ⟨T, hT⟩ : ∃ T, T = tl l := ⟨_, rfl⟩
  have HT : Hid (∀ f, T (f + 1) = T f ++ (if l.getD f 0 = 1000000 then [] else b3 (f, l.getD f 0))) := by rw [hT]; exact tl_succ l
  have HTL : Hid (∀ f, f ≤ 32 → (T f).length ≤ 96) := by
    rw [hT]; intro f hf; rw [tl_len]; have := ct_le l f; omega
  have HZ : Hid (T 0 = []) := by rw [hT]; rfl
  rw [← hT]
  generalize ct l 32 = cc at *
  have HN : Hid (BRow (w.alloc (.cells #[.int .u8 ((cc : Nat) : Int)] tBy)) w.heap.size (.slice (some ⟨w.heap.size, 0, none⟩) 1 1) [((cc : Nat) : Int)]) := BRow.new w [((cc : Nat) : Int)] w.heap.size (Nat.le_refl _) (by simp [maxLen])
  have HB1 : Hid (Below w.heap.size w (w.alloc (.cells #[.int .u8 ((cc : Nat) : Int)] tBy))) := (Below.refl _ _).alloc (Nat.le_refl _) _
  clear hc hb hT
  go_enter Try.func52, Try.ntmps52
  go_wp2_with fail
  refine hct.mono ?_
  rintro e w1 ⟨rfl, rfl⟩
  clear hct
  go_wp2_with fail
  go_loopw [3, 13] (fun sl i wr => ∃ (f g cap n : Nat), f ≤ 32 ∧ i = .int .i64 f ∧ sl = .slice (some ⟨g, 0, none⟩) n cap ∧ n ≤ 97 ∧ Hid (BRow wr w1.heap.size (.slice (some ⟨g, 0, none⟩) n cap) (((cc : Nat) : Int) :: T f) ∧ Below w1.heap.size w1 wr)) (fun _ i _ => 32 - (intOf i).toNat)
  case atStart => exact ⟨0, _, _, _, by omega, rfl, rfl, by omega, by show _ ∧ _; rw [HZ.out]; exact ⟨HN.out, HB1.out⟩⟩
  case round =>
    obtain ⟨f, g, cap, n, hf, rfl, rfl, hn, HR⟩ := hrel
    by_cases hlt : f < 32
    · have hfi : (f : Int) < 32 := by omega
      have cx : wr.cell? ⟨p, off + f, none⟩ = some (.int .i64 (l.getD f 0)) := (HR.out.2.cell (p := ⟨p, off + f, none⟩) hp).trans (HC.out f hlt)
      have hpr : p < wr.heap.size := Nat.lt_of_lt_of_le hp HR.out.2.size
      have HEq := (show Hid (_ = _) from HT.out f)
      have HBf := (show Hid (cBd _) from HB.out f hlt)
      have HL1 := (show Hid (_ ≤ _) from HTL.out (f + 1) (by omega))
      generalize l.getD f 0 = x at *
      by_cases e1 : x = 1000000
      · have e1' : (x == 1000000) = true := by rw [e1]; rfl
        have HX : Hid (T (f + 1) = T f) := by show _ = _; rw [HEq.out, if_pos e1, List.append_nil]
        go_wp2_with fail
        go_roundw
        case rel => exact ⟨f + 1, g, cap, n, by omega, by go_num, rfl, hn, by show _ ∧ _; rw [HX.out]; exact HR.out⟩
        case measure => simp [intOf]; omega
      · have e1' : (x == 1000000) = false := by simpa using e1
        obtain ⟨x1, x2⟩ : -4000 ≤ x ∧ x ≤ 4000 := HBf.out.resolve_left e1
        have HX : Hid (T (f + 1) = T f ++ [(f : Int), (x + 4000) / 256, (x + 4000) % 256]) := by show _ = _; rw [HEq.out, if_neg e1]; rfl
        have r1 := c_quo (x + 4000) (by omega)
        have r2 := c_rem (x + 4000) (by omega)
        have y1 : 0 ≤ (x + 4000) / 256 := by omega
        have y2 : (x + 4000) / 256 ≤ 255 := by omega
        have y3 : 0 ≤ (x + 4000) % 256 := by omega
        have y4 : (x + 4000) % 256 ≤ 255 := by omega
        generalize (x + 4000) / 256 = ya at *
        generalize (x + 4000) % 256 = yb at *
        have HLn : Hid ((((cc : Nat) : Int) :: T f).length = n) := by
          obtain ⟨_, g', cap', e⟩ := HR.out.1
          injection e with _ e2 _; exact e2.symm
        have hln : n + 3 ≤ 97 := by
          have h1 := HL1.out
          rw [HX.out] at h1
          have h2 := HLn.out
          simp at h1 h2; omega
        go_wp2_with (at_builtin; refine wpList_append_b (xs := ((cc : Nat) : Int) :: T f) (ys := [(f : Int), ya, yb]) rfl (.tmp 22) (.tmp 31) rfl rfl (HR.out.1.keep ((Below.refl _ _).alloc (Nat.le_refl _) _) (Nat.le_refl _)) wr.heap.size 3 rfl (by
            intro i hi
            match i, hi with
            | 0, _ => exact World.cell?_alloc_at _ _ _ _ rfl
            | 1, _ => exact World.cell?_alloc_at _ _ _ _ rfl
            | 2, _ => exact World.cell?_alloc_at _ _ _ _ rfl) (by rw [HLn.out]; simp; omega) (by have := HR.out.2.size; simp; omega) ?_; intro v5 w5 hrow5 hgrow5)
        obtain ⟨hr5, g5, c5, rfl⟩ := id hrow5
        have H5 : Hid (BRow w5 w1.heap.size (.slice (some ⟨g5, 0, none⟩) (n + 3) c5) (((cc : Nat) : Int) :: T (f + 1)) ∧ Below w1.heap.size w1 w5) := by
          have e : (((cc : Nat) : Int) :: T f ++ [(f : Int), ya, yb]).length = n + 3 := by rw [List.length_append, HLn.out]; rfl
          rw [e] at hrow5
          refine ⟨by rw [HX.out]; exact hrow5, ?_⟩
          exact ((HR.out.2.alloc HR.out.2.size _).grown hgrow5 (by have := HR.out.2.size; simp; omega) (fun k hk => (HR.out.1.1.lt k hk).1))
        have e : (((cc : Nat) : Int) :: T f ++ [(f : Int), ya, yb]).length = n + 3 := by rw [List.length_append, HLn.out]; rfl
        rw [e]
        clear hr5 hrow5 hgrow5
        go_roundw
        case rel => exact ⟨f + 1, g5, c5, n + 3, by omega, by go_num, rfl, by omega, H5.out⟩
        case measure => simp [intOf]; omega
    · have hf32 : f = 32 := by omega
      subst hf32
      go_wp2_with fail
      go_ret
      exact ⟨_, HR.out.1, rfl, HR.out.2⟩

end Go.Proofs.Ytffajooegiempaa

