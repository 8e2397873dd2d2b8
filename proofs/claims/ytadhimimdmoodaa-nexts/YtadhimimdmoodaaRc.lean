import Derived.Test.YtadhimimdmoodaaRb
namespace Go.Proofs.Ytadhimimdmoodaa
open Go.RowKit
variable {B : Nat} {w w' : World} {r : Nat} {m : Rd} {vs vo : Value} {P Q O : Nat → Nat}

theorem Rep.rdc (h : Rep B w r m vs vo P Q O) : w.cell? ⟨r, 0, none⟩ = some (.int .u8 m.state) ∧ w.cell? ⟨r, 1, none⟩ = some vs ∧ w.cell? ⟨r, 2, none⟩ = some vo ∧ w.cell? ⟨r, 3, none⟩ = some (.int .i64 m.sign) ∧ w.cell? ⟨r, 4, none⟩ = some (.bool m.neg) ∧ w.cell? ⟨r, 5, none⟩ = some (.int .i64 m.dig) ∧ ∀ i, w.frozen? ⟨r, i, none⟩ = false :=
  ⟨h.rd.cell 0, h.rd.cell 1, h.rd.cell 2, h.rd.cell 3, h.rd.cell 4, h.rd.cell 5, h.rd.free⟩

theorem Rep.curs (hn : 0 < m.st.length) : m.st[m.st.length - 1]? = some (cur m) := by
  unfold cur
  rw [List.getD_eq_getElem?_getD, List.getElem?_eq_getElem (by omega)]; rfl

theorem Rep.stc (h : Rep B w r m vs vo P Q O) (k : Nat) (s : St) (hk : m.st[k]? = some s) : w.cell? ⟨P k, 0, none⟩ = some (.int .u8 s.kind) ∧ w.cell? ⟨P k, 1, none⟩ = some (.int .i64 s.var) ∧ w.cell? ⟨P k, 2, none⟩ = some (.bool s.star) ∧ w.cell? ⟨P k, 3, none⟩ = some (.slice (some ⟨Q k, 0, none⟩) 4 4) ∧ w.cell? ⟨P k, 4, none⟩ = some (.int .i64 s.num) ∧ w.cell? ⟨P k, 5, none⟩ = some (.int .i64 s.mid) ∧ w.cell? ⟨P k, 6, none⟩ = some (.int .i64 s.fin) ∧ (∀ i, w.frozen? ⟨P k, i, none⟩ = false) ∧ (∀ i, w.frozen? ⟨Q k, i, none⟩ = false) ∧ P k ≠ r ∧ Q k ≠ r ∧ Q k ≠ P k := by
  obtain ⟨a, b⟩ := h.st k s hk
  exact ⟨a.cell 0, a.cell 1, a.cell 2, a.cell 3, a.cell 4, a.cell 5, a.cell 6, a.free, b.free, a.ne h.rd (by decide), b.ne h.rd (by decide), b.ne a (by decide)⟩

/-- The row of the statements' pointers. -/
theorem Rep.row (h : Rep B w r m vs vo P Q O) (hn : 0 < m.st.length) : ∃ g cap, vs = .slice (some ⟨g, 0, none⟩) m.st.length cap ∧ (∀ i, i < m.st.length → w.cell? ⟨g, i, none⟩ = some (ptr (P i))) ∧ g ≠ r ∧ m.st.length ≤ cap ∧ ∀ k s, m.st[k]? = some s → g ≠ P k ∧ g ≠ Q k := by
  obtain ⟨g, cap, c, hv, hg, ha, hc⟩ := ownsRow_at h.rs hn
  refine ⟨g, cap, hv, ?_, ha.ne h.rd (by decide), hc, fun k s hk => ?_⟩
  · intro i hi
    have := h.rs
    rw [hv] at this
    rw [this.cellAt i (by omega)]
    simp [hi]
  · obtain ⟨a, b⟩ := h.st k s hk
    exact ⟨ha.ne a (by decide), ha.ne b (by decide)⟩

theorem Rep.now (h : Rep B w r m vs vo P Q O) (hn : 0 < m.st.length) (hl : m.st.length ≤ 20) :
    Calls Try.prog 53 #[.pointer (some ⟨r, 0, none⟩)] w fun e w' => e = .returned (.pointer (some ⟨P (m.st.length - 1), 0, none⟩)) ∧ ∃ k, w' = w.drewN k := by
  obtain ⟨g, cap, rfl, hrow, _⟩ := h.row hn
  exact now_any r g (P (m.st.length - 1)) m.st.length cap w hn hl h.rdc.2.1 (hrow _ (by omega))

set_option maxHeartbeats 400000 in
theorem Rep.behind (h : Rep B w r m vs vo P Q O) (hn : 0 < m.st.length) (hl : m.st.length ≤ 20) :
    Calls Try.prog 55 #[.pointer (some ⟨r, 0, none⟩)] w fun e w' => e = .returned (.int .u8 (behindOf m)) ∧ ∃ k, w' = w.drewN k := by
  have hc := h.now hn hl
  obtain ⟨c0, -⟩ := h.stc _ _ (Rep.curs hn)
  unfold behindOf
  generalize P (m.st.length - 1) = p at *
  generalize (cur m).kind = kd at *
  clear h
  by_cases hk : kd = 33
  · subst hk
    go_enter Try.func55, Try.ntmps55
    go_wp2_with (go_at_call 53; refine hc.mono ?_; rintro e w' ⟨rfl, k, rfl⟩)
    go_ret
    exact ⟨rfl, _, rfl⟩
  · have hk' : (kd == 33) = false := by simpa using hk
    go_enter Try.func55, Try.ntmps55
    go_wp2_with (go_at_call 53; refine hc.mono ?_; rintro e w' ⟨rfl, k, rfl⟩)
    go_ret
    exact ⟨by simp, _, rfl⟩

end Go.Proofs.Ytadhimimdmoodaa
