import Derived.Test.YtadhimimdmoodaaDl
import Derived.Test.YtadhimimdmoodaaGp
namespace Go.Proofs.Ytadhimimdmoodaa
open Go.RowKit
variable {w w' : World} {g cap : Nat} {F : List Ds}

/-- The statements of a program, as they lie in memory. -/
def PRow (w : World) (g : Nat) (F : List Ds) : Prop := g < w.heap.size ∧ ∀ j x, F[j]? = some x → w.cell? ⟨g, j * 10, none⟩ = some (.int .i64 x.kind) ∧ w.cell? ⟨g, j * 10 + 1, none⟩ = some (.int .i64 x.target) ∧ w.cell? ⟨g, j * 10 + 2, none⟩ = some (.bool x.any) ∧
  w.cell? ⟨g, j * 10 + 3, none⟩ = some (.int .i64 (sgAt x.sg 0)) ∧ w.cell? ⟨g, j * 10 + 4, none⟩ = some (.int .i64 (sgAt x.sg 1)) ∧ w.cell? ⟨g, j * 10 + 5, none⟩ = some (.int .i64 (sgAt x.sg 2)) ∧ w.cell? ⟨g, j * 10 + 6, none⟩ = some (.int .i64 (sgAt x.sg 3)) ∧
  w.cell? ⟨g, j * 10 + 7, none⟩ = some (.int .i64 x.num) ∧ w.cell? ⟨g, j * 10 + 8, none⟩ = some (.int .i64 x.parent) ∧ w.cell? ⟨g, j * 10 + 9, none⟩ = some (.int .i64 x.block)
theorem PRow.keep (h : PRow w g F) (hb : Below w.heap.size w w') : PRow w' g F := by
  refine ⟨Nat.lt_of_lt_of_le h.1 hb.size, fun j x hx => ?_⟩
  have hc : ∀ o, w'.cell? ⟨g, o, none⟩ = w.cell? ⟨g, o, none⟩ := fun o => hb.cell (p := ⟨g, o, none⟩) h.1
  simp only [hc]
  exact h.2 j x hx

theorem flat_get : ∀ (F : List Ds) (j o : Nat) (x : Ds), F[j]? = some x → o < 10 → (flat F)[j * 10 + o]? = (dsCells x).toList[o]? := by
  intro F
  induction F with
  | nil => intro j o x h; simp at h
  | cons y F ih =>
    intro j o x h ho
    have hl : (dsCells y).toList.length = 10 := rfl
    show ((dsCells y).toList ++ flat F)[j * 10 + o]? = _
    cases j with
    | zero =>
      simp at h
      subst h
      rw [List.getElem?_append_left (by rw [hl]; omega)]
      congr 1; omega
    | succ j =>
      rw [List.getElem?_append_right (by rw [hl]; omega), hl]
      rw [show (j + 1) * 10 + o - 10 = j * 10 + o by omega]
      exact ih j o x (by simpa using h) ho

theorem prow_of {B n : Nat} (h : w.ownsRow B tDs 10 (.slice (some ⟨g, 0, none⟩) n cap) n (flat F)) (hn : F.length = n) (hlt : g < w.heap.size) : PRow w g F := by
  refine ⟨hlt, fun j x hx => ?_⟩
  have hj : j < n := by
    rw [← hn]
    rcases Nat.lt_or_ge j F.length with h' | h'
    · exact h'
    · simp [List.getElem?_eq_none h'] at hx
  have hc : ∀ o, o < 10 → w.cell? ⟨g, j * 10 + o, none⟩ = (dsCells x).toList[o]? := fun o ho => by
    rw [h.cellAt (j * 10 + o) (by omega), flat_get F j o x hx ho]
  exact ⟨hc 0 (by omega), hc 1 (by omega), hc 2 (by omega), hc 3 (by omega), hc 4 (by omega), hc 5 (by omega), hc 6 (by omega), hc 7 (by omega), hc 8 (by omega), hc 9 (by omega)⟩

theorem gets' {j : Nat} (hj : j < F.length) : F[j]? = some (F.getD j (newDs 0 0)) := by rw [List.getD_eq_getElem?_getD, List.getElem?_eq_getElem hj]; rfl

set_option maxRecDepth 100000 in
set_option maxHeartbeats 800000 in
theorem d_isRepeat (h : PRow w g F) (_hl : F.length ≤ 20) (p : Int) :
    Calls Try.prog 44 #[.agg #[.slice (some ⟨g, 0, none⟩) F.length cap], .int .i64 p] w fun e w' => e = .returned (.bool (isRepP F p)) ∧ Below w.heap.size w w' := by
  have hg := h.1
  by_cases h0 : p < 0
  · have HE : Hid (isRepP F p = false) := by show isRepP F p = false; unfold isRepP; rw [decide_eq_false (by omega : ¬ 0 ≤ p)]; rfl
    clear h
    go_enter Try.func44, Try.ntmps44
    go_wp2_with fail
    go_ret
    exact ⟨by rw [HE.out]; rfl, (Below.refl _ _).alloc (Nat.le_refl _) _⟩
  by_cases h1 : (F.length : Int) ≤ p
  · have HE : Hid (isRepP F p = false) := by show isRepP F p = false; unfold isRepP; rw [decide_eq_false (by omega : ¬ p < F.length)]; simp
    clear h
    go_enter Try.func44, Try.ntmps44
    go_wp2_with fail
    go_ret
    exact ⟨by rw [HE.out]; rfl, (Below.refl _ _).alloc (Nat.le_refl _) _⟩
  obtain ⟨k, rfl⟩ : ∃ k : Nat, p = k := ⟨p.toNat, by omega⟩
  have hk : k < F.length := by omega
  obtain ⟨c0, -⟩ := h.2 k _ (gets' hk)
  have hki : (k : Int) < (F.length : Int) := by omega
  have HE : Hid (isRepP F k = ((F.getD k (newDs 0 0)).kind == 3)) := by
    show isRepP F k = _
    unfold isRepP
    rw [Int.toNat_natCast, decide_eq_true (by omega : (0 : Int) ≤ k), decide_eq_true hki]
    simp only [Bool.true_and]
    rfl
  clear h h0 h1
  generalize (F.getD k (newDs 0 0)).kind = kd at *
  go_enter Try.func44, Try.ntmps44
  go_wp2_with fail
  go_ret
  exact ⟨by rw [HE.out]; rfl, (Below.refl _ _).alloc (Nat.le_refl _) _⟩

end Go.Proofs.Ytadhimimdmoodaa
