import Derived.Test.YtadhimimdmoodabRows
import Derived.WalkKit
import Derived.WalkSpells
import Derived.WalkLawsBesides
import Derived.BigQuiet
import Derived.Deep.QuietTactic
namespace Go.Proofs.Ytadhimimdmoodab
open Go.RowKit

/-- The number of a variable, -1 where it is none. -/
def varOf (c : Int) : Int := if 97 ≤ c ∧ c ≤ 100 then c - 97 else -1

/-- A block of cells, none of them frozen. -/
def At (w : World) (b : Nat) (c : Array Value) (t : TypeId) : Prop := w.heap[b]? = some (.cells c t (0, 0))

theorem At.cell {w : World} {b : Nat} {c : Array Value} {t : TypeId} (h : At w b c t) (i : Nat) : w.cell? ⟨b, i, none⟩ = c[i]? := by
  unfold At at h; simp [World.cell?, h]
theorem At.free {w : World} {b : Nat} {c : Array Value} {t : TypeId} (h : At w b c t) (i : Nat) : w.frozen? ⟨b, i, none⟩ = false := by
  unfold At at h; simp [World.frozen?, h]
theorem At.lt {w : World} {b : Nat} {c : Array Value} {t : TypeId} (h : At w b c t) : b < w.heap.size := lt_of_block h
theorem At.ne {w : World} {a b : Nat} {c d : Array Value} {t u : TypeId} (h : At w a c t) (k : At w b d u) (hn : t ≠ u) : a ≠ b := by
  intro e; subst e; unfold At at h k; rw [h] at k; simp at k; exact hn k.2
theorem At.same {w w' : World} {b : Nat} {c : Array Value} {t : TypeId} (h : At w b c t) (k : w'.heap[b]? = w.heap[b]?) : At w' b c t := by
  unfold At at *; rw [k]; exact h
theorem At.other {w : World} {b : Nat} {c : Array Value} {t : TypeId} (h : At w b c t) {a : Nat} (o : Nat) (u : Value) (hn : b ≠ a) : At (w.setCell ⟨a, o, none⟩ u) b c t :=
  h.same (Below.heap_setCell _ _ _ _ hn)
theorem At.put {w : World} {b : Nat} {c : Array Value} {t : TypeId} (h : At w b c t) (o : Nat) (u : Value) : At (w.setCell ⟨b, o, none⟩ u) b (c.setIfInBounds o u) t := by
  have hlt := h.lt
  unfold At at *
  have h' : w.heap[b] = .cells c t (0, 0) := by simpa [Array.getElem?_eq_getElem hlt] using h
  show (w.heap.modify b _)[b]? = _
  rw [Array.getElem?_eq_getElem (by simpa using hlt), Array.getElem_modify_self, h']
  rfl
theorem At.drewN {w : World} {b : Nat} {c : Array Value} {t : TypeId} (h : At w b c t) (k : Nat) : At (w.drewN k) b c t := h

theorem mul_wrap (a b : Int) (h0 : -1 ≤ a) (h1 : a ≤ 1) (h2 : -99 ≤ b) (h3 : b ≤ 99) : wrap64 (a * b) = a * b := by
  have : -99 ≤ a * b ∧ a * b ≤ 99 := by
    rcases (show a = -1 ∨ a = 0 ∨ a = 1 by omega) with rfl | rfl | rfl <;> omega
  unfold wrap64; omega


end Go.Proofs.Ytadhimimdmoodab
