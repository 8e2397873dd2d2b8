import Derived.Test.YtadhimimdmoodaaRe
import Derived.Deep.RegionLaw
namespace Go

theorem step_append_own {P : Program} {ops : Array Oper} {o : Oper} {a : Act} {w : World} {K : Act → World → Prop} {Q : Exit → Act → World → Prop} {E : Prop}
    (hg : o.guard = none) (s x : Operand) (t : TypeId) (hop : o.op = Op.call { callee := Callee.builtin Builtin.append, args := #[s, x], argTypes := #[t, t] })
    (base : Nat) (e : TypeId) (i : TypeInfo) (z : Value) (size bytes : Nat) (h1 : P.underlying t = some (.slice e)) (h2 : P.info? e = some i) (h3 : i.zero = some z) (h4 : i.size = size) (h5 : i.bytes = bytes) (h6 : z.cells.size = size) (h7 : 0 < size)
    (v : Value) (n : Nat) (xs : List Value) (hs : a.eval s = v) (hown : w.ownsRow base e size v n xs)
    (ad : Addr) (m c : Nat) (news : List Value) (hx : a.eval x = .slice (some ad) m c) (hn : news.length = m * size) (hc : ∀ j u, news[j]? = some u → w.cell? (ad.add j) = some u) (h1c : ∀ u ∈ news, u.oneCell' = true)
    (b1 : n + m ≤ maxLen) (b2 : (n + m) * bytes ≤ 140737488355328) (hbase : base ≤ w.heap.size)
    (hK : ∀ v' w', w'.ownsRow base e size v' (n + m) (xs ++ news) → w.grownBy w' v.ownBlock → K (a.put o.dst v') w') :
    if Region.wanted o (yielded ops a.tmps) = true then Oper.wp P o a w K Q else E := by
  have hw : Region.wanted o (yielded ops a.tmps) = true := by simp [Region.wanted, hg]
  rw [if_pos hw]
  exact wp_append_own w s x t hop base e i z size bytes h1 h2 h3 h4 h5 h6 h7 v n xs hs hown ad m c news hx hn hc h1c b1 b2 hbase fun v' w' h2 h3 _ => hK v' w' h2 h3

end Go
namespace Go.Proofs.Ytadhimimdmoodaa
open Go.RowKit
variable {B : Nat} {w w' : World} {r : Nat} {m : Rd} {vs vo : Value} {P Q O : Nat → Nat}

/-- A function of the index, with one more. -/
def upd (f : Nat → Nat) (n x : Nat) : Nat → Nat := fun i => if i = n then x else f i
theorem upd_at (f : Nat → Nat) (n x : Nat) : upd f n x n = x := by simp [upd]
theorem upd_lt (f : Nat → Nat) {n x i : Nat} (h : i < n) : upd f n x i = f i := by unfold upd; rw [if_neg (by omega)]
theorem map_upd (f : Nat → Nat) (n x : Nat) : (List.range (n + 1)).map (fun i => ptr (upd f n x i)) = (List.range n).map (fun i => ptr (f i)) ++ [ptr x] := by
  rw [List.range_succ, List.map_append]
  congr 1
  · apply List.map_congr_left; intro i hi; rw [upd_lt f (by simpa using hi)]
  · simp [upd_at]

/-- All blocks of the reader lie in the heap. -/
theorem Rep.lts (h : Rep B w r m vs vo P Q O) : r < w.heap.size ∧ (∀ i, i < m.st.length → P i < w.heap.size ∧ Q i < w.heap.size) ∧ (∀ i, i < m.op.length → O i < w.heap.size) := by
  refine ⟨h.rd.lt, fun i hi => ?_, fun i hi => ?_⟩
  · obtain ⟨a, b⟩ := h.st i _ (List.getElem?_eq_getElem hi)
    exact ⟨a.lt, b.lt⟩
  · exact (h.op i _ (List.getElem?_eq_getElem hi)).lt

/-- Behind an append to the row of the open blocks: one more. -/
theorem Rep.pushOp (h : Rep B w r m vs vo P Q O) (b : Bk) (v' : Value) (w1 w2 : World) (hlt : w.heap.size < w1.heap.size) (hw1 : ∀ k, k < w.heap.size → w1.heap[k]? = w.heap[k]?)
    (hnew : At w1 w.heap.size (bkCells b) tB) (hg : w1.grownBy w2 vo.ownBlock) (hown : w2.ownsRow B tPB 1 v' (m.op.length + 1) (((List.range m.op.length).map fun i => ptr (O i)) ++ [ptr w.heap.size])) (hB : B ≤ w.heap.size) :
    Rep B (w2.setCell ⟨r, 2, none⟩ v') r { m with op := m.op ++ [b] } vs v' P Q (upd O m.op.length w.heap.size) := by
  obtain ⟨lr, lp, lo⟩ := h.lts
  have same : ∀ k, k < w.heap.size → vo.ownBlock ≠ some k → w2.heap[k]? = w.heap[k]? := fun k hk hn => (hg.block k (by omega) (fun e => hn e.symm)).trans (hw1 k hk)
  have keep : ∀ {k c t}, At w k c t → tPB ≠ t → At w2 k c t := fun {k c t} ha hn => ha.same (same k ha.lt (ownsRow_type h.ro ha hn))
  have rd2 := keep h.rd (by decide)
  have new2 : At w2 w.heap.size (bkCells b) tB := hnew.same (hg.block _ hlt (by
    intro e
    obtain ⟨_, h2⟩ := h.ro.lt _ e.symm
    omega))
  exact {
    rd := rd2.put 2 v'
    rs := by
      refine ownsRow_put ?_ rd2 (by decide) 2 v'
      refine ownsRow_same h.rs fun g hg' => same g (h.rs.lt g hg').2 ?_
      obtain ⟨h1, h2⟩ := h.rs
      rcases h2 with ⟨e, _⟩ | ⟨g', cap, c, e, _, hh, _⟩
      · subst e; simp [Value.ownBlock] at hg'
      · subst e; simp [Value.ownBlock] at hg'; subst hg'; exact ownsRow_type h.ro (show At w g' c tPS from hh) (by decide)
    ro := by
      simp only [List.length_append, List.length_singleton]
      rw [map_upd]
      exact ownsRow_put hown rd2 (by decide) 2 v'
    st := by
      intro i s hi
      obtain ⟨a, b⟩ := h.st i s hi
      exact ⟨(keep a (by decide)).other _ _ (a.ne h.rd (by decide)), (keep b (by decide)).other _ _ (b.ne h.rd (by decide))⟩
    op := by
      intro i x hi
      by_cases e : i = m.op.length
      · subst e
        rw [upd_at]
        simp at hi
        subst hi
        exact new2.other _ _ (by omega)
      · have hil : i < m.op.length := by
          have : i < (m.op ++ [b]).length := by
            rcases Nat.lt_or_ge i (m.op ++ [b]).length with h' | h'
            · exact h'
            · simp [List.getElem?_eq_none h'] at hi
          simp at this; omega
        rw [upd_lt O hil]
        rw [List.getElem?_append_left hil] at hi
        have a := h.op i x hi
        exact (keep a (by decide)).other _ _ (a.ne h.rd (by decide))
    injP := h.injP
    injQ := h.injQ
    injO := by
      intro i j hi hj
      simp only [List.length_append, List.length_singleton] at hi hj
      by_cases ei : i = m.op.length <;> by_cases ej : j = m.op.length
      · intro _; omega
      · have hj' : j < m.op.length := by omega
        subst ei; rw [upd_at, upd_lt O hj']; intro e; have := lo j hj'; omega
      · have hi' : i < m.op.length := by omega
        subst ej; rw [upd_at, upd_lt O hi']; intro e; have := lo i hi'; omega
      · have hi' : i < m.op.length := by omega
        have hj' : j < m.op.length := by omega
        rw [upd_lt O hi', upd_lt O hj']; exact h.injO i j hi' hj'
    geR := h.geR
    geP := h.geP
    geO := by
      intro i hi
      simp only [List.length_append, List.length_singleton] at hi
      by_cases ei : i = m.op.length
      · subst ei; rw [upd_at]; exact hB
      · have hi' : i < m.op.length := by omega
        rw [upd_lt O hi']; exact h.geO i hi' }

/-- Behind an append to the row of the statements: one more. -/
theorem Rep.pushSt (h : Rep B w r m vs vo P Q O) (s : St) (v' : Value) (p q : Nat) (w1 w2 : World) (hq : w.heap.size ≤ q) (hp : w.heap.size ≤ p) (hlq : q < w1.heap.size) (hlp : p < w1.heap.size) (hw1 : ∀ k, k < w.heap.size → w1.heap[k]? = w.heap[k]?)
    (hnp : At w1 p (stCells q s) tS) (hnq : At w1 q (sgCells s.sg) tI) (hg : w1.grownBy w2 vs.ownBlock) (hown : w2.ownsRow B tPS 1 v' (m.st.length + 1) (((List.range m.st.length).map fun i => ptr (P i)) ++ [ptr p])) (hB : B ≤ w.heap.size) :
    Rep B (w2.setCell ⟨r, 1, none⟩ v') r { m with st := m.st ++ [s] } v' vo (upd P m.st.length p) (upd Q m.st.length q) O := by
  obtain ⟨lr, lp, lo⟩ := h.lts
  have same : ∀ k, k < w.heap.size → vs.ownBlock ≠ some k → w2.heap[k]? = w.heap[k]? := fun k hk hn => (hg.block k (by omega) (fun e => hn e.symm)).trans (hw1 k hk)
  have keep : ∀ {k c t}, At w k c t → tPS ≠ t → At w2 k c t := fun {k c t} ha hn => ha.same (same k ha.lt (ownsRow_type h.rs ha hn))
  have rd2 := keep h.rd (by decide)
  have notrow : ∀ k, w.heap.size ≤ k → some k ≠ vs.ownBlock := fun k hk e => by
    obtain ⟨_, h2⟩ := h.rs.lt _ e.symm
    omega
  have newp : At w2 p (stCells q s) tS := hnp.same (hg.block _ hlp (notrow p hp))
  have newq : At w2 q (sgCells s.sg) tI := hnq.same (hg.block _ hlq (notrow q hq))
  exact {
    rd := rd2.put 1 v'
    ro := by
      refine ownsRow_put ?_ rd2 (by decide) 1 v'
      refine ownsRow_same h.ro fun g hg' => same g (h.ro.lt g hg').2 ?_
      obtain ⟨h1, h2⟩ := h.ro
      rcases h2 with ⟨e, _⟩ | ⟨g', cap, c, e, _, hh, _⟩
      · subst e; simp [Value.ownBlock] at hg'
      · subst e; simp [Value.ownBlock] at hg'; subst hg'; exact ownsRow_type h.rs (show At w g' c tPB from hh) (by decide)
    rs := by
      simp only [List.length_append, List.length_singleton]
      rw [map_upd]
      exact ownsRow_put hown rd2 (by decide) 1 v'
    op := by
      intro i b hi
      have a := h.op i b hi
      exact (keep a (by decide)).other _ _ (a.ne h.rd (by decide))
    st := by
      intro i x hi
      by_cases e : i = m.st.length
      · subst e
        rw [upd_at, upd_at]
        simp at hi
        subst hi
        exact ⟨newp.other _ _ (by omega), newq.other _ _ (by omega)⟩
      · have hil : i < m.st.length := by
          have : i < (m.st ++ [s]).length := by
            rcases Nat.lt_or_ge i (m.st ++ [s]).length with h' | h'
            · exact h'
            · simp [List.getElem?_eq_none h'] at hi
          simp at this; omega
        rw [upd_lt P hil, upd_lt Q hil]
        rw [List.getElem?_append_left hil] at hi
        obtain ⟨a, b⟩ := h.st i x hi
        exact ⟨(keep a (by decide)).other _ _ (a.ne h.rd (by decide)), (keep b (by decide)).other _ _ (b.ne h.rd (by decide))⟩
    injP := by
      intro i j hi hj
      simp only [List.length_append, List.length_singleton] at hi hj
      by_cases ei : i = m.st.length <;> by_cases ej : j = m.st.length
      · intro _; omega
      · have hj' : j < m.st.length := by omega
        subst ei; rw [upd_at, upd_lt P hj']; intro e; have := (lp j hj').1; omega
      · have hi' : i < m.st.length := by omega
        subst ej; rw [upd_at, upd_lt P hi']; intro e; have := (lp i hi').1; omega
      · have hi' : i < m.st.length := by omega
        have hj' : j < m.st.length := by omega
        rw [upd_lt P hi', upd_lt P hj']; exact h.injP i j hi' hj'
    injQ := by
      intro i j hi hj
      simp only [List.length_append, List.length_singleton] at hi hj
      by_cases ei : i = m.st.length <;> by_cases ej : j = m.st.length
      · intro _; omega
      · have hj' : j < m.st.length := by omega
        subst ei; rw [upd_at, upd_lt Q hj']; intro e; have := (lp j hj').2; omega
      · have hi' : i < m.st.length := by omega
        subst ej; rw [upd_at, upd_lt Q hi']; intro e; have := (lp i hi').2; omega
      · have hi' : i < m.st.length := by omega
        have hj' : j < m.st.length := by omega
        rw [upd_lt Q hi', upd_lt Q hj']; exact h.injQ i j hi' hj'
    injO := h.injO
    geR := h.geR
    geO := h.geO
    geP := by
      intro i hi
      simp only [List.length_append, List.length_singleton] at hi
      by_cases ei : i = m.st.length
      · subst ei; rw [upd_at, upd_at]; exact ⟨by omega, by omega⟩
      · have hi' : i < m.st.length := by omega
        rw [upd_lt P hi', upd_lt Q hi']; exact h.geP i hi' }

/-- The row of the open blocks becomes shorter by one. -/
theorem Rep.popOp {g n cap : Nat} (h : Rep B w r m vs (.slice (some ⟨g, 0, none⟩) n cap) P Q O) (hn : 0 < m.op.length) (hnn : n = m.op.length) :
    Rep B (w.setCell ⟨r, 2, none⟩ (.slice (some ⟨g, 0, none⟩) (n - 1) cap)) r { m with op := m.op.take (m.op.length - 1) } vs (.slice (some ⟨g, 0, none⟩) (n - 1) cap) P Q O := by
  have hl : (m.op.take (m.op.length - 1)).length = m.op.length - 1 := by simp
  exact {
    rd := h.rd.put 2 _
    rs := ownsRow_put h.rs h.rd (by decide) 2 _
    ro := by
      rw [hl]
      refine ownsRow_put ?_ h.rd (by decide) 2 _
      obtain ⟨h1, h2⟩ := h.ro
      rcases h2 with ⟨e, _⟩ | ⟨g', cap', c, e, hg, hh, hc, hm, hs, ht⟩
      · simp at e
      · simp at e
        obtain ⟨rfl, _, rfl⟩ := e
        refine ⟨by simp, .inr ⟨g, cap, c, by rw [hnn], hg, hh, by omega, hm, hs, ?_⟩⟩
        have e2 : (c.toList.take (m.op.length * 1)).take ((m.op.length - 1) * 1) = c.toList.take ((m.op.length - 1) * 1) := by rw [List.take_take]; congr 1; omega
        rw [← e2, ht, ← List.map_take, List.take_range]
        congr 2; omega
    st := by
      intro i s hi
      obtain ⟨a, b⟩ := h.st i s hi
      exact ⟨a.other _ _ (a.ne h.rd (by decide)), b.other _ _ (b.ne h.rd (by decide))⟩
    op := by
      intro i b hi
      have hi' : m.op[i]? = some b := by
        rw [List.getElem?_take] at hi
        split at hi
        · exact hi
        · cases hi
      have a := h.op i b hi'
      exact a.other _ _ (a.ne h.rd (by decide))
    injP := h.injP
    injQ := h.injQ
    injO := by rw [hl]; intro i j hi hj; exact h.injO i j (by omega) (by omega)
    geR := h.geR
    geP := h.geP
    geO := by rw [hl]; intro i hi; exact h.geO i (by omega) }

end Go.Proofs.Ytadhimimdmoodaa
