import Derived.Test.YtffajooegiempabDoorRows
import Derived.WalkKit
import Derived.WalkSpells
import Derived.WalkLawsBesides
import Derived.BigQuiet
import Derived.Deep.QuietTactic
import Derived.Laws.CopyOwn
import Derived.Laws.MakeOwn
import Derived.Deep.RegionWith
namespace Go.Proofs.YtffajooegiempabDoor
open Go.RowKit

/-- The number of a variable, -1 where it is none. -/
def varOf (c : Int) : Int := if 97 ≤ c ∧ c ≤ 100 then c - 97 else -1

/-- A block of cells, none of them frozen. -/
def At (w : World) (b : Nat) (c : Array Value) (t : TypeId) : Prop := w.heap[b]? = some (.cells c t (0, 0))

theorem At.cell {w : World} {b : Nat} {c : Array Value} {t : TypeId} (h : At w b c t) (i : Nat) : w.cell? ⟨b, i, none⟩ = c[i]? := by
  unfold At at h; simp [World.cell?, h]
theorem At.free {w : World} {b : Nat} {c : Array Value} {t : TypeId} (h : At w b c t) (i : Nat) : w.frozen? ⟨b, i, none⟩ = false := by
  unfold At at h; simp [World.frozen?, h]
theorem At.lt {w : World} {b : Nat} {c : Array Value} {t : TypeId} (h : At w b c t) : b < w.heap.size := lt_of_block h
theorem At.ne {w : World} {a b : Nat} {c d : Array Value} {t u : TypeId} (h : At w a c t) (k : At w b d u) (hn : t ≠ u) : a ≠ b := by
  intro e; subst e; unfold At at h k; rw [h] at k; simp at k; exact hn k.2
theorem At.same {w w' : World} {b : Nat} {c : Array Value} {t : TypeId} (h : At w b c t) (k : w'.heap[b]? = w.heap[b]?) : At w' b c t := by
  unfold At at *; rw [k]; exact h
theorem At.other {w : World} {b : Nat} {c : Array Value} {t : TypeId} (h : At w b c t) {a : Nat} (o : Nat) (u : Value) (hn : b ≠ a) : At (w.setCell ⟨a, o, none⟩ u) b c t :=
  h.same (Below.heap_setCell _ _ _ _ hn)
theorem At.put {w : World} {b : Nat} {c : Array Value} {t : TypeId} (h : At w b c t) (o : Nat) (u : Value) : At (w.setCell ⟨b, o, none⟩ u) b (c.setIfInBounds o u) t := by
  have hlt := h.lt
  unfold At at *
  have h' : w.heap[b] = .cells c t (0, 0) := by simpa [Array.getElem?_eq_getElem hlt] using h
  show (w.heap.modify b _)[b]? = _
  rw [Array.getElem?_eq_getElem (by simpa using hlt), Array.getElem_modify_self, h']
  rfl
theorem At.drewN {w : World} {b : Nat} {c : Array Value} {t : TypeId} (h : At w b c t) (k : Nat) : At (w.drewN k) b c t := h

theorem mul_wrap (a b : Int) (h0 : -1 ≤ a) (h1 : a ≤ 1) (h2 : -99 ≤ b) (h3 : b ≤ 99) : wrap64 (a * b) = a * b := by
  have : -99 ≤ a * b ∧ a * b ≤ 99 := by
    rcases (show a = -1 ∨ a = 0 ∨ a = 1 by omega) with rfl | rfl | rfl <;> omega
  unfold wrap64; omega


end Go.Proofs.YtffajooegiempabDoor

namespace Go.Proofs.YtffajooegiempabDoor
open Go.RowKit

/-- Of the blocks that were there nothing but m has turned; new ones may have come. -/
structure Onl (m : Nat) (w w' : World) : Prop where
  os : w'.os = w.os
  tape : w'.tape = w.tape
  output : w'.output = w.output
  size : w.heap.size ≤ w'.heap.size
  block : ∀ k, k < w.heap.size → k ≠ m → w'.heap[k]? = w.heap[k]?

variable {m : Nat} {a b c w w' : World}
theorem Onl.refl (m : Nat) (w : World) : Onl m w w := ⟨rfl, rfl, rfl, Nat.le_refl _, fun _ _ _ => rfl⟩
theorem Onl.trans (h : Onl m a b) (k : Onl m b c) : Onl m a c :=
  ⟨k.os.trans h.os, k.tape.trans h.tape, k.output.trans h.output, Nat.le_trans h.size k.size, fun i hi hn => (k.block i (Nat.lt_of_lt_of_le hi h.size) hn).trans (h.block i hi hn)⟩
theorem Onl.of (h : Below w.heap.size w w') (m : Nat) : Onl m w w' := ⟨h.os, h.tape, h.output, h.size, fun k hk _ => h.block k hk⟩
/-- A block of the call's own is written. -/
theorem Onl.own (h : Onl m a b) {q : Nat} (hq : q = m ∨ a.heap.size ≤ q) (o : Nat) (u : Value) : Onl m a (b.setCell ⟨q, o, none⟩ u) :=
  ⟨h.os, h.tape, h.output, by have := h.size; simpa [World.setCell] using this, fun k hk hn => (Below.heap_setCell _ _ _ _ (by show k ≠ q; omega)).trans (h.block k hk hn)⟩
theorem Onl.setCell (h : Onl m a b) (o : Nat) (u : Value) : Onl m a (b.setCell ⟨m, o, none⟩ u) := h.own (.inl rfl) o u
theorem Onl.alloc (h : Onl m a b) (o : Obj) : Onl m a (b.alloc o) := h.trans (Onl.of ((Below.refl _ _).alloc (Nat.le_refl _) _) m)
theorem Onl.drewN (h : Onl m a b) (n : Nat) : Onl m a (b.drewN n) := ⟨h.os, h.tape, h.output, h.size, h.block⟩
theorem Onl.below (h : Onl m a b) {B : Nat} (h1 : B ≤ m) (h2 : B ≤ a.heap.size) : Below B a b := ⟨h.os, h.tape, h.output, h.size, fun k hk => h.block k (by omega) (by omega)⟩
theorem Onl.at_ {q : Nat} {c : Array Value} {t : TypeId} (h : Onl m w w') (ha : At w q c t) (hn : q ≠ m) : At w' q c t := ha.same (h.block q ha.lt hn)
theorem Onl.cell (h : Onl m w w') {q : Nat} (hq : q < w.heap.size) (hn : q ≠ m) (i : Nat) : w'.cell? ⟨q, i, none⟩ = w.cell? ⟨q, i, none⟩ := World.cell?_of_block (a := ⟨q, i, none⟩) (h.block q hq hn)
theorem At.keep {w w' : World} {B b : Nat} {c : Array Value} {t : TypeId} (h : At w b c t) (hb : Below B w w') (hlt : b < B) : At w' b c t := h.same (hb.block b hlt)
theorem At.allocH {b : Nat} {c : Array Value} {t : TypeId} (h : At w b c t) (o : Obj) : At (w.alloc o) b c t := h.keep ((Below.refl _ _).alloc (Nat.le_refl _) _) h.lt
theorem At.new (w : World) (c : Array Value) (t : TypeId) : At (w.alloc (.cells c t)) w.heap.size c t := by
  show (w.heap.push _)[w.heap.size]? = _
  simp

end Go.Proofs.YtffajooegiempabDoor

/- Octagons, plain: bounds of sums of two sides, as the program keeps them: entry 8 i + j. No Go in here. -/
namespace Go.Proofs.YtffajooegiempabDoor

def NB : Int := 1000000
def opp (i : Nat) : Nat := if i % 2 = 0 then i + 1 else i - 1
def pl (a b : Int) : Int := if a = NB ∨ b = NB then NB else a + b
def upd (M : Nat → Int) (k : Nat) (x : Int) : Nat → Int := fun a => if a = k then x else M a

theorem opp_lt {i : Nat} (h : i < 8) : opp i < 8 := by unfold opp; split <;> omega
theorem upd_same (M : Nat → Int) (k : Nat) (x : Int) : upd M k x k = x := if_pos rfl
theorem upd_other (M : Nat → Int) {k a : Nat} (x : Int) (h : a ≠ k) : upd M k x a = M a := if_neg h

/-- One step of a chain through a side. -/
def ch1 (s : Nat) (M : Nat → Int) (k : Nat) : Nat → Int :=
  if pl (M (k / 8 * 8 + opp s)) (M (s * 8 + k % 8)) < M k then upd M k (pl (M (k / 8 * 8 + opp s)) (M (s * 8 + k % 8))) else M
def chF (s : Nat) (M : Nat → Int) : Nat → Nat → Int
  | 0 => M
  | k + 1 => ch1 s (chF s M k) k
/-- All chains. -/
def fw (M : Nat → Int) : Nat → Nat → Int
  | 0 => M
  | s + 1 => chF s (fw M s) 64
/-- The sums of a side with itself, made even. -/
def rd1 (M : Nat → Int) (i : Nat) : Nat → Int := if M (i * 8 + i) = NB then M else upd M (i * 8 + i) (M (i * 8 + i) / 2 * 2)
def rdF (M : Nat → Int) : Nat → Nat → Int
  | 0 => M
  | i + 1 => rd1 (rdF M i) i
/-- Each sum of two sides against those of the two alone. -/
def ah1 (M : Nat → Int) (k : Nat) : Nat → Int :=
  if pl (M (k / 8 * 8 + k / 8)) (M (k % 8 * 8 + k % 8)) ≠ NB ∧ (pl (M (k / 8 * 8 + k / 8)) (M (k % 8 * 8 + k % 8))).tdiv 2 < M k then upd M k ((pl (M (k / 8 * 8 + k / 8)) (M (k % 8 * 8 + k % 8))).tdiv 2) else M
def ahF (M : Nat → Int) : Nat → Nat → Int
  | 0 => M
  | k + 1 => ah1 (ahF M k) k
/-- All three. -/
def sharp (M : Nat → Int) : Nat → Int := ahF (rdF (fw M 8) 8) 64
/-- Is there a side that would have to be less than 0 with its opposite? -/
def conF (M : Nat → Int) : Nat → Bool
  | 0 => false
  | i + 1 => conF M i || decide (M (i * 8 + opp i) < 0)

/- Each step only lowers. -/
theorem ch1_le (s : Nat) (M : Nat → Int) (k a : Nat) : ch1 s M k a ≤ M a := by
  unfold ch1
  split
  · unfold upd
    split
    · rename_i h e; subst e; exact Int.le_of_lt h
    · exact Int.le_refl _
  · exact Int.le_refl _
theorem chF_le (s : Nat) (M : Nat → Int) : ∀ k a, chF s M k a ≤ M a
  | 0, _ => Int.le_refl _
  | k + 1, a => Int.le_trans (ch1_le s _ k a) (chF_le s M k a)
theorem fw_le (M : Nat → Int) : ∀ s a, fw M s a ≤ M a
  | 0, _ => Int.le_refl _
  | s + 1, a => by rw [fw]; exact Int.le_trans (chF_le s _ 64 a) (fw_le M s a)
theorem rd1_le (M : Nat → Int) (i a : Nat) : rd1 M i a ≤ M a := by
  unfold rd1
  split
  · exact Int.le_refl _
  · unfold upd
    split
    · rename_i e; subst e; omega
    · exact Int.le_refl _
theorem rdF_le (M : Nat → Int) : ∀ i a, rdF M i a ≤ M a
  | 0, _ => Int.le_refl _
  | i + 1, a => Int.le_trans (rd1_le _ i a) (rdF_le M i a)
theorem ah1_le (M : Nat → Int) (k a : Nat) : ah1 M k a ≤ M a := by
  unfold ah1
  split
  · unfold upd
    split
    · rename_i h e; subst e; exact Int.le_of_lt h.2
    · exact Int.le_refl _
  · exact Int.le_refl _
theorem ahF_le (M : Nat → Int) : ∀ k a, ahF M k a ≤ M a
  | 0, _ => Int.le_refl _
  | k + 1, a => Int.le_trans (ah1_le _ k a) (ahF_le M k a)
theorem sharp_le (M : Nat → Int) (a : Nat) : sharp M a ≤ M a := Int.le_trans (ahF_le _ 64 a) (Int.le_trans (rdF_le _ 8 a) (fw_le M 8 a))

/- How low the entries get. -/
def Lo (L : Int) (M : Nat → Int) : Prop := ∀ a, a < 64 → -L ≤ M a
structure LoC (L : Int) (s : Nat) (M M' : Nat → Int) (k : Nat) : Prop where
  old : ∀ a, k ≤ a → M' a = M a
  all : ∀ a, a < 64 → -(6 * L) ≤ M' a
  col : ∀ i, i < 8 → -(3 * L) ≤ M' (i * 8 + opp s)
  row : ∀ j, j < 8 → -(3 * L) ≤ M' (s * 8 + j)
  cor : -(2 * L) ≤ M' (s * 8 + opp s)
theorem pl_ge {a b x y : Int} (ha : -x ≤ a) (hb : -y ≤ b) (h : -1000000 ≤ x + y) : -(x + y) ≤ pl a b := by
  unfold pl NB
  split
  · omega
  · omega
theorem chF_lo {L : Int} {s : Nat} {M : Nat → Int} (hL : 0 ≤ L) (hs : s < 8) (h : Lo L M) : ∀ k, k ≤ 64 → LoC L s M (chF s M k) k := by
  have ho := opp_lt hs
  intro k
  induction k with
  | zero =>
    intro _
    refine ⟨fun _ _ => rfl, fun a ha => ?_, fun i hi => ?_, fun j hj => ?_, ?_⟩
    · have := h a ha; show _ ≤ M a; omega
    · have := h (i * 8 + opp s) (by omega); show _ ≤ M _; omega
    · have := h (s * 8 + j) (by omega); show _ ≤ M _; omega
    · have := h (s * 8 + opp s) (by omega); show _ ≤ M _; omega
  | succ k ih =>
    intro hk
    have hc := ih (by omega)
    have hi : k / 8 < 8 := by omega
    have hj : k % 8 < 8 := by omega
    have hkk : k / 8 * 8 + k % 8 = k := by omega
    have hkM : chF s M k k = M k := hc.old k (Nat.le_refl _)
    have hMk : -L ≤ M k := h k (by omega)
    have c1 := hc.col _ hi
    have c2 := hc.row _ hj
    have c3 := hc.cor
    show LoC L s M (ch1 s (chF s M k) k) (k + 1)
    unfold ch1
    split
    · have g6 : -(6 * L) ≤ pl (chF s M k (k / 8 * 8 + opp s)) (chF s M k (s * 8 + k % 8)) := by
        have := pl_ge c1 c2 (by omega); omega
      refine ⟨fun a ha => ?_, fun a ha => ?_, fun i hi' => ?_, fun j hj' => ?_, ?_⟩
      · rw [upd_other _ _ (by omega)]; exact hc.old a (by omega)
      · unfold upd; split
        · exact g6
        · exact hc.all a ha
      · unfold upd; split
        · rename_i e
          have e1 : k / 8 = i := by omega
          have e2 : k % 8 = opp s := by omega
          have : chF s M k (k / 8 * 8 + opp s) = M k := by rw [show k / 8 * 8 + opp s = k by omega]; exact hkM
          rw [this, e2]
          have := pl_ge (x := L) (y := 2 * L) hMk c3 (by omega)
          omega
        · exact hc.col i hi'
      · unfold upd; split
        · rename_i e
          have e1 : k / 8 = s := by omega
          have e2 : k % 8 = j := by omega
          have : chF s M k (s * 8 + k % 8) = M k := by rw [show s * 8 + k % 8 = k by omega]; exact hkM
          rw [this, e1]
          have := pl_ge (x := 2 * L) (y := L) c3 hMk (by omega)
          omega
        · exact hc.row j hj'
      · unfold upd; split
        · rename_i e
          have e1 : k / 8 = s := by omega
          have e2 : k % 8 = opp s := by omega
          have : chF s M k (s * 8 + opp s) = M k := by rw [e]; exact hkM
          rw [e1, e2, this]
          have := pl_ge (x := L) (y := L) hMk hMk (by omega)
          omega
        · exact hc.cor
    · exact ⟨fun a ha => hc.old a (by omega), hc.all, hc.col, hc.row, hc.cor⟩
theorem fw_lo {M : Nat → Int} {L : Int} (hL : 0 ≤ L) (h : Lo L M) : ∀ s, s ≤ 8 → Lo (L * 6 ^ s) (fw M s) := by
  intro s
  induction s with
  | zero => intro _; simpa [fw] using h
  | succ s ih =>
    intro hs
    have h1 := ih (by omega)
    have hp : 0 ≤ L * 6 ^ s := Int.mul_nonneg hL (Int.le_of_lt (Int.pow_pos (by decide)))
    have h2 := (chF_lo (s := s) hp (by omega) h1 64 (Nat.le_refl _)).all
    intro a ha
    have := h2 a ha
    rw [fw, Int.pow_succ]
    have e : L * (6 ^ s * 6) = 6 * (L * 6 ^ s) := by rw [← Int.mul_assoc, Int.mul_comm]
    rw [e]; exact this

end Go.Proofs.YtffajooegiempabDoor

/- The states of an octagon keep to what is made of its bounds. -/
namespace Go.Proofs.YtffajooegiempabDoor

theorem tdiv2 (x : Int) : (0 ≤ x → x.tdiv 2 = x / 2) ∧ (x < 0 → x.tdiv 2 = -((-x) / 2)) := by
  constructor
  · intro h; exact Int.tdiv_eq_ediv_of_nonneg h
  · intro h
    have : x.tdiv 2 = -((-x).tdiv 2) := by rw [Int.neg_tdiv, Int.neg_neg]
    rw [this, Int.tdiv_eq_ediv_of_nonneg (by omega)]
theorem tdiv2_le (x : Int) : x.tdiv 2 * 2 ≤ x + 1 ∧ x - 1 ≤ x.tdiv 2 * 2 := by
  have h := tdiv2 x
  rcases Int.lt_or_le x 0 with e | e
  · rw [h.2 e]; omega
  · rw [h.1 e]; omega

theorem rdF_at (M : Nat → Int) : ∀ n a, rdF M n a = if a % 9 = 0 ∧ a / 9 < n ∧ M a ≠ NB then M a / 2 * 2 else M a := by
  intro n
  induction n with
  | zero => intro a; rw [rdF, if_neg (by omega)]
  | succ n ih =>
    intro a
    rw [rdF]
    unfold rd1
    have hn : rdF M n (n * 8 + n) = M (n * 8 + n) := by rw [ih, if_neg (by omega)]
    rw [hn]
    by_cases e : a = n * 8 + n
    · subst e
      split
      · rename_i h; rw [hn, if_neg (fun q => q.2.2 h)]
      · rename_i h; rw [upd_same, if_pos ⟨by omega, by omega, h⟩]
    · have hne : ¬ (a % 9 = 0 ∧ a / 9 = n) := by omega
      have : (if M (n * 8 + n) = NB then rdF M n else upd (rdF M n) (n * 8 + n) (M (n * 8 + n) / 2 * 2)) a = rdF M n a := by
        split
        · rfl
        · exact upd_other _ _ e
      rw [this, ih]
      by_cases q : a % 9 = 0 ∧ a / 9 < n ∧ M a ≠ NB
      · rw [if_pos q, if_pos ⟨q.1, by omega, q.2.2⟩]
      · rw [if_neg q, if_neg (fun p => q ⟨p.1, by omega, p.2.2⟩)]
theorem rdF_lo {L : Int} {M : Nat → Int} (h : Lo L M) (n : Nat) : Lo (L + 1) (rdF M n) := by
  intro a ha
  have := h a ha
  rw [rdF_at]
  split <;> omega
theorem ah1_lo {L : Int} {M : Nat → Int} (hL : 0 ≤ L) (h : Lo L M) {k : Nat} (hk : k < 64) : Lo L (ah1 M k) := by
  intro a ha
  have h1 := h (k / 8 * 8 + k / 8) (by omega)
  have h2 := h (k % 8 * 8 + k % 8) (by omega)
  have h3 := h a ha
  have := pl_ge h1 h2 (by omega)
  unfold ah1
  split
  · unfold upd
    split
    · have := tdiv2_le (pl (M (k / 8 * 8 + k / 8)) (M (k % 8 * 8 + k % 8))); omega
    · exact h3
  · exact h3
theorem ahF_lo {L : Int} {M : Nat → Int} (hL : 0 ≤ L) (h : Lo L M) : ∀ k, k ≤ 64 → Lo L (ahF M k) := by
  intro k
  induction k with
  | zero => intro _; exact h
  | succ k ih => intro hk; rw [ahF]; exact ah1_lo hL (ih (by omega)) (by omega)

/-- The value of a side. -/
def sd (v : Nat → Int) (i : Nat) : Int := if i % 2 = 0 then v (i / 2) else -v (i / 2)
theorem sd_opp (v : Nat → Int) (i : Nat) : sd v (opp i) = -sd v i := by
  unfold sd opp
  by_cases h : i % 2 = 0
  · rw [if_pos h, if_pos h, if_neg (by omega), show (i + 1) / 2 = i / 2 by omega]
  · rw [if_neg h, if_neg h, if_pos (by omega), show (i - 1) / 2 = i / 2 by omega, Int.neg_neg]
/-- A state keeps to the bounds. -/
def Sat (v : Nat → Int) (M : Nat → Int) : Prop := ∀ i j, i < 8 → j < 8 → M (i * 8 + j) = NB ∨ sd v i + sd v j ≤ M (i * 8 + j)
theorem pl_fin {a b : Int} (h : pl a b ≠ NB) : a ≠ NB ∧ b ≠ NB ∧ pl a b = a + b := by
  unfold pl at h ⊢
  by_cases q : a = NB ∨ b = NB
  · rw [if_pos q] at h; exact absurd rfl h
  · rw [if_neg q]; exact ⟨fun e => q (.inl e), fun e => q (.inr e), rfl⟩
theorem Sat.ch1 {v M : Nat → Int} (h : Sat v M) {s k : Nat} (hs : s < 8) (_hk : k < 64) : Sat v (ch1 s M k) := by
  intro i j hi hj
  unfold Go.Proofs.YtffajooegiempabDoor.ch1
  split
  · unfold upd
    split
    · rename_i e
      have e1 : k / 8 = i := by omega
      have e2 : k % 8 = j := by omega
      rw [e1, e2]
      by_cases q : pl (M (i * 8 + opp s)) (M (s * 8 + j)) = NB
      · exact .inl q
      · obtain ⟨q1, q2, q3⟩ := pl_fin q
        right
        rw [q3]
        have a1 := (h i (opp s) hi (opp_lt hs)).resolve_left q1
        have a2 := (h s j hs hj).resolve_left q2
        rw [sd_opp] at a1
        omega
    · exact h i j hi hj
  · exact h i j hi hj
theorem Sat.chF {v M : Nat → Int} (h : Sat v M) {s : Nat} (hs : s < 8) : ∀ k, k ≤ 64 → Sat v (chF s M k) := by
  intro k
  induction k with
  | zero => intro _; exact h
  | succ k ih => intro hk; rw [Go.Proofs.YtffajooegiempabDoor.chF]; exact (ih (by omega)).ch1 hs (by omega)
theorem Sat.fw {v M : Nat → Int} (h : Sat v M) : ∀ s, s ≤ 8 → Sat v (fw M s) := by
  intro s
  induction s with
  | zero => intro _; exact h
  | succ s ih => intro hs; rw [Go.Proofs.YtffajooegiempabDoor.fw]; exact (ih (by omega)).chF (by omega) 64 (Nat.le_refl _)
theorem Sat.rdF {v M : Nat → Int} (h : Sat v M) (n : Nat) : Sat v (rdF M n) := by
  intro i j hi hj
  rw [rdF_at]
  split
  · rename_i q
    have e : i = j := by omega
    subst e
    have := (h i i hi hi).resolve_left q.2.2
    right
    omega
  · exact h i j hi hj
theorem Sat.ah1 {v M : Nat → Int} (h : Sat v M) {k : Nat} (_hk : k < 64) : Sat v (ah1 M k) := by
  intro i j hi hj
  unfold Go.Proofs.YtffajooegiempabDoor.ah1
  split
  · rename_i q
    unfold upd
    split
    · rename_i e
      have e1 : k / 8 = i := by omega
      have e2 : k % 8 = j := by omega
      rw [e1, e2] at q ⊢
      obtain ⟨q1, q2, q3⟩ := pl_fin q.1
      have a1 := (h i i hi hi).resolve_left q1
      have a2 := (h j j hj hj).resolve_left q2
      have := tdiv2 (pl (M (i * 8 + i)) (M (j * 8 + j)))
      right
      rcases Int.lt_or_le (pl (M (i * 8 + i)) (M (j * 8 + j))) 0 with e | e
      · rw [this.2 e]; omega
      · rw [this.1 e]; omega
    · exact h i j hi hj
  · exact h i j hi hj
theorem Sat.ahF {v M : Nat → Int} (h : Sat v M) : ∀ k, k ≤ 64 → Sat v (ahF M k) := by
  intro k
  induction k with
  | zero => intro _; exact h
  | succ k ih => intro hk; rw [Go.Proofs.YtffajooegiempabDoor.ahF]; exact (ih (by omega)).ah1 (by omega)
theorem Sat.sharp {v M : Nat → Int} (h : Sat v M) : Sat v (sharp M) := ((h.fw 8 (Nat.le_refl _)).rdF 8).ahF 64 (Nat.le_refl _)
theorem conF_true {M : Nat → Int} : ∀ {n : Nat}, conF M n = true → ∃ i, i < n ∧ M (i * 8 + opp i) < 0 := by
  intro n
  induction n with
  | zero => intro h; cases h
  | succ n ih =>
    intro h
    rw [conF, Bool.or_eq_true] at h
    rcases h with h | h
    · obtain ⟨i, hi, h⟩ := ih h
      exact ⟨i, by omega, h⟩
    · exact ⟨n, by omega, of_decide_eq_true h⟩
/-- An octagon that has a state is not found to be empty. -/
theorem Sat.some {v M : Nat → Int} (h : Sat v M) : conF M 8 = false := by
  cases e : conF M 8 with
  | false => rfl
  | true =>
    obtain ⟨i, hi, h1⟩ := conF_true e
    rcases h i (opp i) hi (opp_lt hi) with q | q
    · rw [q] at h1; exact absurd h1 (by decide)
    · rw [sd_opp] at q; omega
theorem sharp_lo {M : Nat → Int} (h : Lo 8000 M) : Lo (8000 * 6 ^ 8 + 1) (sharp M) := ahF_lo (by decide) (rdF_lo (fw_lo (by decide) h 8 (Nat.le_refl _)) 8) 64 (Nat.le_refl _)

end Go.Proofs.YtffajooegiempabDoor

namespace Go.Proofs.YtffajooegiempabDoor
open Go.RowKit

abbrev tO : TypeId := 55
/-- An octagon's cells. -/
def oc (e : Bool) (M : Nat → Int) : Array Value := (Value.bool e :: (List.range 64).map fun k => Value.int .i64 (M k)).toArray
theorem oc_size (e : Bool) (M : Nat → Int) : (oc e M).size = 65 := by simp [oc]
theorem oc_at (e : Bool) (M : Nat → Int) (k : Nat) (h : k < 64) : (oc e M)[1 + k]? = some (.int .i64 (M k)) := by
  rw [Nat.add_comm]; simp [oc, h]
theorem oc_0 (e : Bool) (M : Nat → Int) : (oc e M)[0]? = some (.bool e) := by simp [oc]
theorem oc_set (e : Bool) (M : Nat → Int) (k : Nat) (h : k < 64) (x : Int) : (oc e M).setIfInBounds (1 + k) (.int .i64 x) = oc e (upd M k x) := by
  apply Array.ext
  · simp [oc]
  · intro i h1 h2
    simp only [oc_size] at h2
    rw [Array.getElem_setIfInBounds (by rw [oc_size]; exact h2)]
    by_cases e1 : 1 + k = i
    · subst e1
      rw [if_pos rfl]
      have := oc_at e (upd M k x) k h
      rw [Array.getElem?_eq_getElem (by rw [oc_size]; exact h2), upd_same] at this
      exact (Option.some.inj this).symm
    · rw [if_neg e1]
      cases i with
      | zero =>
        have a := oc_0 e M
        have b := oc_0 e (upd M k x)
        rw [Array.getElem?_eq_getElem (by rw [oc_size]; exact h2)] at a b
        rw [Option.some.inj a, Option.some.inj b]
      | succ i =>
        have a := oc_at e M i (by omega)
        have b := oc_at e (upd M k x) i (by omega)
        rw [show 1 + i = i + 1 by omega] at a b
        rw [Array.getElem?_eq_getElem (by rw [oc_size]; exact h2)] at a b
        rw [Option.some.inj a, Option.some.inj b, upd_other _ _ (by omega)]
theorem oc_setE (e e' : Bool) (M : Nat → Int) : (oc e M).setIfInBounds 0 (.bool e') = oc e' M := by simp [oc]
theorem oc_congr {e : Bool} {M M' : Nat → Int} (h : ∀ k, k < 64 → M k = M' k) : oc e M = oc e M' := by
  unfold oc
  congr 2
  apply List.map_congr_left
  intro k hk
  rw [h k (by simpa using hk)]

/-- Numbers that Go's own do not outgrow. -/
def Sm (M : Nat → Int) : Prop := ∀ k, k < 64 → -100000000000000000 ≤ M k ∧ M k ≤ 1000000

set_option maxRecDepth 100000 in
set_option maxHeartbeats 800000 in
theorem o_opposite (i : Nat) (hi : i < 8) (w : World) : Calls Tryd.prog 85 #[.int .i64 (i : Int)] w fun e w' => e = .returned (.int .i64 ((opp i : Nat) : Int)) ∧ w' = w := by
  rcases (show i = 0 ∨ i = 1 ∨ i = 2 ∨ i = 3 ∨ i = 4 ∨ i = 5 ∨ i = 6 ∨ i = 7 by omega) with rfl | rfl | rfl | rfl | rfl | rfl | rfl | rfl
  all_goals
    go_enter Tryd.func85, Tryd.ntmps85
    go_wp2_with fail
    go_ret
    exact ⟨rfl, rfl⟩

set_option maxRecDepth 100000 in
set_option maxHeartbeats 800000 in
theorem o_plus (a b : Int) (ha : -100000000000000000 ≤ a ∧ a ≤ 1000000) (hb : -100000000000000000 ≤ b ∧ b ≤ 1000000) (w : World) : Calls Tryd.prog 84 #[.int .i64 a, .int .i64 b] w fun e w' => e = .returned (.int .i64 (pl a b)) ∧ w' = w := by
  by_cases h1 : a = 1000000
  · subst h1
    have HE : Hid (pl 1000000 b = 1000000) := if_pos (.inl rfl)
    go_enter Tryd.func84, Tryd.ntmps84
    go_wp2_with fail
    go_ret
    exact ⟨by rw [HE.out]; rfl, rfl⟩
  have q1 : (a == 1000000) = false := by simpa using h1
  by_cases h2 : b = 1000000
  · subst h2
    have HE : Hid (pl a 1000000 = 1000000) := if_pos (.inr rfl)
    go_enter Tryd.func84, Tryd.ntmps84
    go_wp2_with fail
    go_ret
    exact ⟨by rw [HE.out]; rfl, rfl⟩
  have q2 : (b == 1000000) = false := by simpa using h2
  have HE : Hid (pl a b = a + b) := if_neg (fun e => e.elim h1 h2)
  obtain ⟨a0, a1⟩ := ha
  obtain ⟨b0, b1⟩ := hb
  clear h1 h2
  go_enter Tryd.func84, Tryd.ntmps84
  go_wp2_with fail
  go_ret
  exact ⟨by rw [HE.out]; rfl, rfl⟩

theorem half_floor (n : Int) : (n < n.tdiv 2 * 2 → n / 2 = n.tdiv 2 - 1) ∧ (¬ n < n.tdiv 2 * 2 → n / 2 = n.tdiv 2) := by
  have := tdiv2 n
  rcases Int.lt_or_le n 0 with e | e
  · rw [this.2 e]; omega
  · rw [this.1 e]; omega

set_option maxRecDepth 100000 in
set_option maxHeartbeats 800000 in
theorem o_halfBelow (n : Int) (hn : -100000000000000000 ≤ n ∧ n ≤ 1000000) (w : World) : Calls Tryd.prog 86 #[.int .i64 n] w fun e w' => e = .returned (.int .i64 (n / 2)) ∧ w' = w := by
  have hb := tdiv2_le n
  have hf := half_floor n
  obtain ⟨n0, n1⟩ := hn
  obtain ⟨b0, b1⟩ := hb
  by_cases h : n < n.tdiv 2 * 2
  · have HE : Hid (n / 2 = n.tdiv 2 - 1) := hf.1 h
    clear hf
    go_enter Tryd.func86, Tryd.ntmps86
    go_wp2_with fail
    go_ret
    exact ⟨by rw [HE.out]; rfl, rfl⟩
  · have HE : Hid (n / 2 = n.tdiv 2) := hf.2 h
    clear hf
    go_enter Tryd.func86, Tryd.ntmps86
    go_wp2_with fail
    go_ret
    exact ⟨by rw [HE.out]; rfl, rfl⟩

end Go.Proofs.YtffajooegiempabDoor

namespace Go.Proofs.YtffajooegiempabDoor
open Go.RowKit
variable {w : World} {b : Nat} {e0 : Bool} {M : Nat → Int}

/-- An octagon's block, and what a step on it leaves. -/
def OAt (w : World) (b : Nat) (e : Bool) (M : Nat → Int) : Prop := At w b (oc e M) tO
theorem OAt.cell (h : OAt w b e0 M) (k : Nat) (hk : k < 64) : w.cell? ⟨b, 1 + k, none⟩ = some (.int .i64 (M k)) := by rw [At.cell h]; exact oc_at _ _ _ hk
theorem OAt.put (h : OAt w b e0 M) (k : Nat) (hk : k < 64) (x : Int) : OAt (w.setCell ⟨b, 1 + k, none⟩ (.int .i64 x)) b e0 (upd M k x) := by
  have := At.put h (1 + k) (.int .i64 x)
  rw [oc_set _ _ _ hk] at this
  exact this

set_option maxRecDepth 100000 in
set_option maxHeartbeats 1600000 in
theorem o_chain (h : OAt w b e0 M) (s : Nat) (hs : s < 8) (hS : ∀ k, k ≤ 64 → Sm (chF s M k)) :
    Calls Tryd.prog 67 #[.pointer (some ⟨b, 0, none⟩), .int .i64 (s : Int)] w fun e w' => e = .returned (.tuple #[]) ∧ OAt w' b e0 (chF s M 64) ∧ Onl b w w' := by
  have HA : Hid (OAt w b e0 M) := h
  have HS : Hid (∀ k, k ≤ 64 → Sm (chF s M k)) := hS
  have hsi : (s : Int) < 8 := by omega
  have hs0 : ¬ (s : Int) < 0 := by omega
  have hs8 : ¬ (8 : Int) ≤ (s : Int) := by omega
  have hosl := opp_lt hs
  clear h hS
  go_enter Tryd.func67, Tryd.ntmps67
  go_wp2_with fail
  go_loopw [4] (fun i wr => ∃ (p : Nat), p ≤ 8 ∧ i = .int .i64 p ∧ Hid (OAt wr b e0 (chF s M (p * 8)) ∧ Onl b w wr)) (fun i _ => 8 - (intOf i).toNat)
  case atStart => exact ⟨0, by omega, rfl, HA.out, Onl.refl _ _⟩
  case round =>
    obtain ⟨p, hp, rfl, HR⟩ := hrel
    by_cases hlt : p < 8
    · have hpi : (p : Int) < 8 := by omega
      obtain ⟨w4, rfl⟩ : ∃ w4, w4 = wr := ⟨_, rfl⟩
      go_wp2_with fail
      go_loopw [5] (fun j wr => ∃ (q : Nat), q ≤ 8 ∧ j = .int .i64 q ∧ Hid (OAt wr b e0 (chF s M (p * 8 + q)) ∧ Onl b w wr)) (fun j _ => 8 - (intOf j).toNat)
      case atStart => exact ⟨0, by omega, rfl, HR.out⟩
      case round =>
        obtain ⟨q, hq, rfl, HQ⟩ := hrel
        by_cases hlt2 : q < 8
        · have hqi : (q : Int) < 8 := by omega
          have hk : p * 8 + q < 64 := by omega
          have hsm := HS.out (p * 8 + q) (by omega)
          have HE0 : Hid (chF s M (p * 8 + (q + 1)) = if pl (chF s M (p * 8 + q) (p * 8 + opp s)) (chF s M (p * 8 + q) (s * 8 + q)) < chF s M (p * 8 + q) (p * 8 + q) then upd (chF s M (p * 8 + q)) (p * 8 + q) (pl (chF s M (p * 8 + q) (p * 8 + opp s)) (chF s M (p * 8 + q) (s * 8 + q))) else chF s M (p * 8 + q)) := by show chF s M (p * 8 + q + 1) = _; rw [chF]; unfold ch1; rw [show (p * 8 + q) / 8 = p by omega, show (p * 8 + q) % 8 = q by omega]
          generalize chF s M (p * 8 + q) = N at *
          have hm1 := hsm (p * 8 + opp s) (by omega)
          have hm2 := hsm (s * 8 + q) (by omega)
          have HOp : Hid (∀ n, Calls Tryd.prog 85 #[.int .i64 (s : Int)] (wr.drewN n) fun e w' => e = .returned (.int .i64 ((opp s : Nat) : Int)) ∧ w' = wr.drewN n) := fun n => o_opposite s hs _
          have hoi : ((opp s : Nat) : Int) < 8 := by omega
          generalize opp s = os at *
          have c1 : wr.cell? ⟨b, 1 + p * 8 + os, none⟩ = some (.int .i64 (N (p * 8 + os))) := by rw [Nat.add_assoc]; exact HQ.out.1.cell (p * 8 + os) (by omega)
          have c2 : wr.cell? ⟨b, 1 + s * 8 + q, none⟩ = some (.int .i64 (N (s * 8 + q))) := by rw [Nat.add_assoc]; exact HQ.out.1.cell (s * 8 + q) (by omega)
          have c3 : wr.cell? ⟨b, 1 + p * 8 + q, none⟩ = some (.int .i64 (N (p * 8 + q))) := by rw [Nat.add_assoc]; exact HQ.out.1.cell (p * 8 + q) (by omega)
          have cf : wr.frozen? ⟨b, 1 + p * 8 + q, none⟩ = false := At.free HQ.out.1 _
          have hbl : b < wr.heap.size := At.lt HQ.out.1
          have HPl : Hid (∀ n, Calls Tryd.prog 84 #[.int .i64 (N (p * 8 + os)), .int .i64 (N (s * 8 + q))] (wr.drewN n) fun e w' => e = .returned (.int .i64 (pl (N (p * 8 + os)) (N (s * 8 + q)))) ∧ w' = wr.drewN n) := fun n => o_plus _ _ hm1 hm2 _
          clear hsm hm1 hm2
          generalize pl (N (p * 8 + os)) (N (s * 8 + q)) = n at *
          by_cases hn : n < N (p * 8 + q)
          · have HE : Hid (_ = _) := HE0.out.trans (if_pos hn)
            clear HE0
            go_wp2_with fail
            go_quiet (first
              | (go_at_call 85; refine Calls.quiet_of_same (HOp.out _))
              | (go_at_call 84; refine Calls.quiet_of_same (HPl.out _)))
            go_wp2_with fail
            go_roundw
            case rel =>
              refine ⟨q + 1, by omega, by go_num, ?_, (HQ.out.2.drewN _).setCell _ _⟩
              rw [HE.out, Nat.add_assoc]
              exact OAt.put (w := wr.drewN nq) (At.drewN HQ.out.1 nq) (p * 8 + q) hk n
            case measure => simp [intOf]; omega
          · have HE : Hid (_ = _) := HE0.out.trans (if_neg hn)
            clear HE0
            go_wp2_with fail
            go_quiet (first
              | (go_at_call 85; refine Calls.quiet_of_same (HOp.out _))
              | (go_at_call 84; refine Calls.quiet_of_same (HPl.out _)))
            go_wp2_with fail
            go_roundw
            case rel =>
              refine ⟨q + 1, by omega, by go_num, ?_, HQ.out.2.drewN _⟩
              rw [HE.out]
              exact At.drewN HQ.out.1 nq
            case measure => simp [intOf]; omega
        · have hq8 : q = 8 := by omega
          subst hq8
          go_wp2_with fail
          go_roundw
          case rel => exact ⟨p + 1, by omega, by go_num, by rw [show (p + 1) * 8 = p * 8 + 8 by omega]; exact HQ.out.1, HQ.out.2⟩
          case measure => simp [intOf]; omega
    · have hp8 : p = 8 := by omega
      subst hp8
      go_wp2_with fail
      go_end0
      exact ⟨rfl, HR.out⟩

end Go.Proofs.YtffajooegiempabDoor

namespace Go.Proofs.YtffajooegiempabDoor
open Go.RowKit

/-- Numbers as cells. -/
def ic (l : List Int) : Array Value := (l.map (Value.int .i64)).toArray
theorem ic_get (l : List Int) (i : Nat) (h : i < l.length) : (ic l)[i]? = some (.int .i64 (l.getD i 0)) := by
  simp [ic, List.getD, h]
theorem ic_set (l : List Int) (i : Nat) (x : Int) : (ic l).setIfInBounds i (.int .i64 x) = ic (l.set i x) := by simp [ic, List.map_set]
theorem ic_size (l : List Int) : (ic l).size = l.length := by simp [ic]

/-- A slice that reads as these numbers. -/
def Reads (w : World) (v : Value) (l : List Int) : Prop :=
  ∃ ao cap, v = .slice ao l.length cap ∧ l.length ≤ cap ∧ (l.length ≠ 0 → ∃ b off, ao = some ⟨b, off, none⟩ ∧ b < w.heap.size ∧ ∀ i, i < l.length → w.cell? ⟨b, off + i, none⟩ = some (.int .i64 (l.getD i 0)))

theorem Reads.keep {w w' : World} {v : Value} {l : List Int} (h : Reads w v l) (hb : Below w.heap.size w w') : Reads w' v l := by
  obtain ⟨ao, cap, hv, hc, h0⟩ := h
  refine ⟨ao, cap, hv, hc, fun hn => ?_⟩
  obtain ⟨b, off, ha, hlt, hcell⟩ := h0 hn
  exact ⟨b, off, ha, Nat.lt_of_lt_of_le hlt hb.size, fun i hi => (hb.cell (by exact hlt)).trans (hcell i hi)⟩
theorem Reads.at_ {w : World} {g n cap : Nat} {l : List Int} {c : Array Value} {t : TypeId} (h : At w g c t) (hn : l.length = n) (hcap : n ≤ cap) (hc : ∀ i, i < n → c[i]? = some (.int .i64 (l.getD i 0))) : Reads w (.slice (some ⟨g, 0, none⟩) n cap) l := by
  subst hn
  exact ⟨_, cap, rfl, hcap, fun _ => ⟨g, 0, rfl, h.lt, fun i hi => by rw [Nat.zero_add, h.cell]; exact hc i hi⟩⟩

theorem drewN_two (w : World) (j k : Nat) : (w.drewN j).drewN k = w.drewN (j + k) := by
  first | rfl | (induction k with | zero => rfl | succ k ih => rw [← Nat.add_assoc]; show ((w.drewN j).drewN k).drew = _; rw [ih]; rfl) | simp [World.drewN, Nat.add_assoc]

end Go.Proofs.YtffajooegiempabDoor

namespace Go.Proofs.YtffajooegiempabDoor
open Go.RowKit


end Go.Proofs.YtffajooegiempabDoor

namespace Go.Proofs.YtffajooegiempabDoor
open Go.RowKit
variable {w : World}

/-- May it be a bound? -/
def isB (n : Int) : Bool := decide (n = NB ∨ (-4000 ≤ n ∧ n ≤ 4000))
/-- May the list be handed in? -/
def okL (l : List Int) : Prop := l.length = 32 ∧ ∀ i, i < 32 → isB (l.getD i 0) = true

set_option maxRecDepth 100000 in
set_option maxHeartbeats 1600000 in
theorem o_isBound (n : Int) : Calls Tryd.prog 65 #[.int .i64 n] w fun e w' => e = .returned (.bool (isB n)) ∧ w' = w := by
  by_cases h1 : n = 1000000
  · subst h1
    go_enter Tryd.func65, Tryd.ntmps65
    go_wp2_with fail
    go_ret
    exact ⟨rfl, rfl⟩
  have q1 : (n == 1000000) = false := by simpa using h1
  by_cases h2 : -4000 ≤ n
  · by_cases h3 : n ≤ 4000
    · have HE : Hid (isB n = true) := by show isB n = true; unfold isB; exact decide_eq_true (.inr ⟨h2, h3⟩)
      clear h1
      go_enter Tryd.func65, Tryd.ntmps65
      go_wp2_with fail
      go_ret
      exact ⟨by rw [HE.out]; rfl, rfl⟩
    · have HE : Hid (isB n = false) := by show isB n = false; unfold isB; exact decide_eq_false (fun e => e.elim h1 (fun e => h3 e.2))
      clear h1
      go_enter Tryd.func65, Tryd.ntmps65
      go_wp2_with fail
      go_ret
      exact ⟨by rw [HE.out]; rfl, rfl⟩
  · have HE : Hid (isB n = false) := by show isB n = false; unfold isB; exact decide_eq_false (fun e => e.elim h1 (fun e => h2 e.1))
    clear h1
    go_enter Tryd.func65, Tryd.ntmps65
    go_wp2_with fail
    go_ret
    exact ⟨by rw [HE.out]; rfl, rfl⟩

/-- May it be handed in? -/
def gdF (l : List Int) : Nat → Bool
  | 0 => true
  | f + 1 => gdF l f && isB (l.getD f 0)
def gdB (l : List Int) : Bool := decide (l.length = 32) && gdF l 32
theorem gdF_all {l : List Int} : ∀ {n : Nat}, gdF l n = true ↔ ∀ f, f < n → isB (l.getD f 0) = true := by
  intro n
  induction n with
  | zero => exact ⟨fun _ f hf => absurd hf (by omega), fun _ => rfl⟩
  | succ n ih =>
    show (gdF l n && isB (l.getD n 0)) = true ↔ _
    rw [Bool.and_eq_true, ih]
    constructor
    · rintro ⟨h1, h2⟩ f hf
      rcases Nat.lt_or_eq_of_le (Nat.lt_succ_iff.1 hf) with q | q
      · exact h1 f q
      · rw [q]; exact h2
    · intro h
      exact ⟨fun f hf => h f (by omega), h n (by omega)⟩
theorem gdB_ok {l : List Int} : gdB l = true ↔ okL l := by
  unfold gdB okL
  rw [Bool.and_eq_true, decide_eq_true_eq, gdF_all]
theorem gdF_no {l : List Int} {f : Nat} (hf : f < 32) (h : isB (l.getD f 0) = false) : gdF l 32 = false := by
  cases e : gdF l 32 with
  | false => rfl
  | true => rw [gdF_all.1 e f hf] at h; cases h



set_option maxRecDepth 100000 in
set_option maxHeartbeats 1600000 in
/-- The program's test of a list. -/
theorem o_isList (u : Value) (l : List Int) (hu : Reads w u l) :
    Calls Tryd.prog 39 #[u] w fun e w' => e = .returned (.bool (gdB l)) ∧ w' = w := by
  obtain ⟨au, cu, rfl, hcu, h0⟩ := hu
  have kb := fun (n : Int) => o_isBound (w := w) n
  by_cases h32 : l.length = 32
  · have HE : Hid (gdB l = gdF l 32) := by show gdB l = _; unfold gdB; rw [decide_eq_true h32]; rfl
    obtain ⟨p, off, rfl, hp, hcell⟩ := h0 (by omega)
    have HC : Hid (∀ i, i < 32 → w.cell? ⟨p, off + i, none⟩ = some (.int .i64 (l.getD i 0))) := fun i hi => hcell i (by omega)
    rw [h32]
    clear h0 hcell hcu h32
    go_enter Tryd.func39, Tryd.ntmps39
    go_wp2_with fail
    go_loopw [10] (fun i wr => ∃ (f : Nat), f ≤ 32 ∧ i = .int .i64 f ∧ wr = w ∧ Hid (gdF l f = true)) (fun i _ => 32 - (intOf i).toNat)
    case atStart => exact ⟨0, by omega, rfl, rfl, rfl⟩
    case round =>
      obtain ⟨f, hf, rfl, rfl, HR⟩ := hrel
      by_cases hlt : f < 32
      · have hfi : (f : Int) < 32 := by omega
        have HEq : Hid (gdF l (f + 1) = (gdF l f && isB (l.getD f 0))) := rfl
        have cx := HC.out f hlt
        have HNo : Hid (isB (l.getD f 0) = false → gdF l 32 = false) := fun h => gdF_no hlt h
        generalize l.getD f 0 = x at *
        cases hb : isB x with
        | true =>
          have kx := kb x
          rw [hb] at kx
          have HY : Hid (isB x = true) := hb
          clear hb kb
          go_wp2_with fail
          refine kx.mono ?_
          rintro e w2 ⟨rfl, rfl⟩
          go_wp2_with fail
          go_roundw
          case rel => exact ⟨f + 1, by omega, by go_num, by simp, by show gdF l (f + 1) = true; rw [HEq.out, HR.out, HY.out]; rfl⟩
          case measure => simp [intOf]; omega
        | false =>
          have kx := kb x
          rw [hb] at kx
          have HF : Hid (gdF l 32 = false) := HNo.out hb
          clear hb kb
          go_wp2_with fail
          refine kx.mono ?_
          rintro e w2 ⟨rfl, rfl⟩
          go_wp2_with fail
          go_ret
          exact ⟨by rw [HE.out, HF.out]; rfl, rfl⟩
      · have hf32 : f = 32 := by omega
        subst hf32
        go_wp2_with fail
        go_ret
        exact ⟨by rw [HE.out, HR.out]; rfl, rfl⟩
  · have HE : Hid (gdB l = false) := by show gdB l = _; unfold gdB; rw [decide_eq_false h32]; rfl
    have hb : ((l.length : Int) != 32) = true := by rw [bne_iff_ne]; omega
    clear h0 h32
    go_enter Tryd.func39, Tryd.ntmps39
    go_wp2_with fail
    go_ret
    exact ⟨by rw [HE.out]; rfl, rfl⟩

end Go.Proofs.YtffajooegiempabDoor

namespace Go.Proofs.YtffajooegiempabDoor
open Go.RowKit
variable {w : World} {b : Nat} {e0 : Bool} {M : Nat → Int}

def fsL : List Nat := [0, 1, 2, 3, 4, 5, 6, 7, 0, 0, 1, 1, 0, 0, 1, 1, 0, 0, 1, 1, 2, 2, 3, 3, 2, 2, 3, 3, 4, 4, 5, 5]
def ssL : List Nat := [0, 1, 2, 3, 4, 5, 6, 7, 2, 3, 2, 3, 4, 5, 4, 5, 6, 7, 6, 7, 4, 5, 4, 5, 6, 7, 6, 7, 6, 7, 6, 7]
/-- The two sides of a form. -/
def fs (f : Nat) : Nat := fsL.getD f 0
def ss (f : Nat) : Nat := ssL.getD f 0
theorem fs_lt : ∀ f, f < 32 → fs f < 8 := by decide
theorem ss_lt : ∀ f, f < 32 → ss f < 8 := by decide
/-- A bound of two sides, laid into the sums. -/
def lm (M : Nat → Int) (i j : Nat) (n : Int) : Nat → Int :=
  upd (upd M (i * 8 + j) (if i = j ∧ n ≠ NB then 2 * n else n)) (j * 8 + i) (if i = j ∧ n ≠ NB then 2 * n else n)
/-- A bound of a form, laid into the sums. -/
def sb (M : Nat → Int) (f : Nat) (n : Int) : Nat → Int :=
  upd (upd M (fs f * 8 + ss f) (if fs f = ss f ∧ n ≠ NB then 2 * n else n)) (ss f * 8 + fs f) (if fs f = ss f ∧ n ≠ NB then 2 * n else n)
/-- The two tables, as the program's text lays them. -/
structure Glob (w : World) : Prop where
  first : ∀ f, f < 32 → w.cell? ⟨0, f, none⟩ = some (.int .i64 ((fs f : Nat) : Int))
  second : ∀ f, f < 32 → w.cell? ⟨1, f, none⟩ = some (.int .i64 ((ss f : Nat) : Int))
  size : 2 ≤ w.heap.size
theorem Glob.keep {w w' : World} {B : Nat} (h : Glob w) (hb : Below B w w') (hB : 2 ≤ B) : Glob w' where
  first := fun f hf => (hb.cell (p := ⟨0, f, none⟩) (by show 0 < B; omega)).trans (h.first f hf)
  second := fun f hf => (hb.cell (p := ⟨1, f, none⟩) (by show 1 < B; omega)).trans (h.second f hf)
  size := Nat.le_trans h.size hb.size

set_option maxRecDepth 100000 in
set_option maxHeartbeats 1600000 in
theorem o_limit (h : OAt w b e0 M) (i j : Nat) (hi : i < 8) (hj : j < 8) (n : Int) (hn : -1000000000000 ≤ n ∧ n ≤ 1000000000000) :
    Calls Tryd.prog 66 #[.pointer (some ⟨b, 0, none⟩), .int .i64 (i : Int), .int .i64 (j : Int), .int .i64 n] w fun e w' => e = .returned (.tuple #[]) ∧ OAt w' b e0 (lm M i j n) ∧ Onl b w w' := by
  have hbl : b < w.heap.size := At.lt h
  have HA : Hid (OAt w b e0 M) := h
  have HE0 : Hid (lm M i j n = upd (upd M (i * 8 + j) (if i = j ∧ n ≠ NB then 2 * n else n)) (j * 8 + i) (if i = j ∧ n ≠ NB then 2 * n else n)) := rfl
  have hii : (i : Int) < 8 := by omega
  have hji : (j : Int) < 8 := by omega
  have hi0 : ¬ (8 : Int) ≤ (i : Int) := by omega
  have hj0 : ¬ (8 : Int) ≤ (j : Int) := by omega
  have k1 : i * 8 + j < 64 := by omega
  have k2 : j * 8 + i < 64 := by omega
  have c1 : w.cell? ⟨b, 1 + i * 8 + j, none⟩ = some (.int .i64 (M (i * 8 + j))) := by rw [Nat.add_assoc]; exact h.cell _ k1
  have c2 : w.cell? ⟨b, 1 + j * 8 + i, none⟩ = some (.int .i64 (M (j * 8 + i))) := by rw [Nat.add_assoc]; exact h.cell _ k2
  have cf : ∀ a, w.frozen? ⟨b, a, none⟩ = false := At.free h
  obtain ⟨n0, n1⟩ := hn
  have HC2 : Hid (∀ x n, OAt ((((w.drewN n).setCell ⟨b, 1 + i * 8 + j, none⟩ (.int .i64 x))).setCell ⟨b, 1 + j * 8 + i, none⟩ (.int .i64 x)) b e0 (upd (upd M (i * 8 + j) x) (j * 8 + i) x)) := by
    intro x n
    rw [Nat.add_assoc, Nat.add_assoc]
    exact OAt.put (OAt.put (w := w.drewN n) (At.drewN HA.out n) _ k1 x) _ k2 x
  clear h
  by_cases hq : i = j ∧ n ≠ NB
  · obtain ⟨rfl, hq2⟩ := hq
    have HE : Hid (lm M i i n = upd (upd M (i * 8 + i) (2 * n)) (i * 8 + i) (2 * n)) := by show lm M i i n = _; rw [HE0.out, if_pos ⟨rfl, hq2⟩]
    have hb : (n != 1000000) = true := by rw [bne_iff_ne]; exact hq2
    clear HE0 hq2
    go_enter Tryd.func66, Tryd.ntmps66
    go_wp2_with fail
    go_end0
    exact ⟨rfl, by rw [HE.out]; exact HC2.out _ 0, (((Onl.refl b w).drewN 0).setCell _ _).setCell _ _⟩
  · have HE : Hid (lm M i j n = upd (upd M (i * 8 + j) n) (j * 8 + i) n) := by show lm M i j n = _; rw [HE0.out, if_neg hq]
    clear HE0
    by_cases hij : i = j
    · subst hij
      have hb : (n != 1000000) = false := by
        have : n = 1000000 := by
          rcases Classical.em (n = NB) with e | e
          · exact e
          · exact absurd ⟨rfl, e⟩ hq
        rw [this]; rfl
      clear hq
      go_enter Tryd.func66, Tryd.ntmps66
      go_wp2_with fail
      go_end0
      exact ⟨rfl, by rw [HE.out]; exact HC2.out _ 0, (((Onl.refl b w).drewN 0).setCell _ _).setCell _ _⟩
    · have hb : ((i : Int) == (j : Int)) = false := by rw [beq_eq_false_iff_ne]; omega
      have hne1 : 1 + j * 8 + i ≠ 1 + i * 8 + j := by omega
      have hne2 : 1 + i * 8 + j ≠ 1 + j * 8 + i := by omega
      clear hq hij
      go_enter Tryd.func66, Tryd.ntmps66
      go_wp2_with fail
      go_end0
      exact ⟨rfl, by rw [HE.out]; exact HC2.out _ 0, (((Onl.refl b w).drewN 0).setCell _ _).setCell _ _⟩

set_option maxRecDepth 100000 in
set_option maxHeartbeats 1600000 in
theorem o_setBound (hG : Glob w) (_hb2 : 2 ≤ b) (h : OAt w b e0 M) (f : Nat) (hf : f < 32) (n : Int) (hn : -4000 ≤ n ∧ n ≤ 1000000) :
    Calls Tryd.prog 40 #[.pointer (some ⟨b, 0, none⟩), .int .i64 (f : Int), .int .i64 n] w fun e w' => e = .returned (.tuple #[]) ∧ OAt w' b e0 (sb M f n) ∧ Onl b w w' := by
  have hfi : (f : Int) < 32 := by omega
  have hf0 : ¬ (32 : Int) ≤ (f : Int) := by omega
  have g0 := hG.first f hf
  have g1 := hG.second f hf
  have hi := fs_lt f hf
  have hj := ss_lt f hf
  have HE : Hid (sb M f n = lm M (fs f) (ss f) n) := rfl
  have HL : Hid (∀ w1, OAt w1 b e0 M → Calls Tryd.prog 66 #[.pointer (some ⟨b, 0, none⟩), .int .i64 ((fs f : Nat) : Int), .int .i64 ((ss f : Nat) : Int), .int .i64 n] w1 fun e w' => e = .returned (.tuple #[]) ∧ Hid (OAt w' b e0 (lm M (fs f) (ss f) n) ∧ Onl b w1 w')) := fun w1 h1 => (o_limit h1 _ _ hi hj n ⟨by omega, by omega⟩).mono fun e w' h' => ⟨h'.1, h'.2⟩
  generalize fs f = i at *
  generalize ss f = j at *
  have HA : Hid (OAt w b e0 M) := h
  clear h hG hn hi hj
  go_enter Tryd.func40, Tryd.ntmps40
  go_wp2_with fail
  go_region_with (go_at_call 66; refine (HL.out _ (by exact HA.out)).mono ?_; rintro e w1 ⟨rfl, H1⟩)
  all_goals
    go_wp2_with fail
    go_end0
    exact ⟨rfl, by rw [HE.out]; exact H1.out.1, ((Onl.refl b w).drewN 1).trans H1.out.2⟩

end Go.Proofs.YtffajooegiempabDoor

