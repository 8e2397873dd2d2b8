import Derived.Test.YtadhimimdmoodaaRi
namespace Go.Proofs.Ytadhimimdmoodaa
open Go.RowKit
variable {B : Nat} {w w' : World} {r : Nat} {m : Rd} {vs vo : Value} {P Q O : Nat → Nat}

set_option maxHeartbeats 400000 in
theorem Rep.beginFull (h : Rep B w r m vs vo P Q O) (hl : m.st.length = 20) (kd v : Int) :
    Calls Try.prog 51 #[.pointer (some ⟨r, 0, none⟩), .int .u8 kd, .int .i64 v] w fun e w' => e = .returned (.bool false) ∧ w' = w := by
  obtain ⟨ao, cap, hv⟩ := h.slen
  obtain ⟨r0, r1, r2, r3, r4, r5, rf⟩ := h.rdc
  rw [hv, hl] at r1
  clear h hl hv
  go_enter Try.func51, Try.ntmps51
  go_wp2
  go_ret
  exact ⟨rfl, rfl⟩

/-- The row of the open blocks. -/
theorem Rep.rowO (h : Rep B w r m vs vo P Q O) (hn : 0 < m.op.length) : ∃ g cap, vo = .slice (some ⟨g, 0, none⟩) m.op.length cap ∧ (∀ i, i < m.op.length → w.cell? ⟨g, i, none⟩ = some (ptr (O i))) ∧ g ≠ r ∧ m.op.length ≤ cap ∧ (∀ k s, m.st[k]? = some s → g ≠ P k ∧ g ≠ Q k) ∧ (∀ k, k < m.op.length → g ≠ O k) := by
  obtain ⟨g, cap, c, hv, hg, ha, hc⟩ := ownsRow_at h.ro hn
  refine ⟨g, cap, hv, ?_, ha.ne h.rd (by decide), hc, fun k s hk => ?_, fun k hk => ?_⟩
  · intro i hi
    have := h.ro
    rw [hv] at this
    rw [this.cellAt i (by omega)]
    simp [hi]
  · obtain ⟨a, b⟩ := h.st k s hk
    exact ⟨ha.ne a (by decide), ha.ne b (by decide)⟩
  · exact ha.ne (h.op k _ (List.getElem?_eq_getElem hk)) (by decide)

theorem tops (hn : 0 < m.op.length) : m.op[m.op.length - 1]? = some (top m) := by
  unfold top
  rw [List.getD_eq_getElem?_getD, List.getElem?_eq_getElem (by omega)]; rfl

theorem Rep.opc (h : Rep B w r m vs vo P Q O) (k : Nat) (b : Bk) (hk : m.op[k]? = some b) : w.cell? ⟨O k, 0, none⟩ = some (.int .i64 b.of_) ∧ w.cell? ⟨O k, 1, none⟩ = some (.bool b.second) ∧ (∀ i, w.frozen? ⟨O k, i, none⟩ = false) ∧ O k ≠ r ∧ ∀ j s, m.st[j]? = some s → O k ≠ P j := by
  have a := h.op k b hk
  exact ⟨a.cell 0, a.cell 1, a.free, a.ne h.rd (by decide), fun j s hj => a.ne (h.st j s hj).1 (by decide)⟩

theorem rep_shut1 (h : Rep B w r m vs vo P Q O) (k : Nat) (s : St) (hk : m.st[k]? = some s) (hof : k < m.st.length) (a b : Nat) :
    Rep B (((((w.drewN a).setCell ⟨P k, 6, none⟩ (.int .i64 m.st.length)).drewN b).setCell ⟨P k, 5, none⟩ (.int .i64 m.st.length)).setCell ⟨r, 0, none⟩ (.int .u8 125)) r
      { m with st := m.st.set k { s with fin := m.st.length, mid := m.st.length }, state := 125 } vs vo P Q O := by
  have e1 := ((h.drewN a).setSt k s { s with fin := m.st.length } hk 6 (.int .i64 m.st.length) _ rfl rfl rfl).drewN b
  have hm1 : ({ m with st := m.st.set k { s with fin := m.st.length } } : Rd).st[k]? = some { s with fin := m.st.length } := by simp [hof]
  have e2 := e1.setSt k _ { s with fin := m.st.length, mid := m.st.length } hm1 5 (.int .i64 m.st.length) { m with st := m.st.set k { s with fin := m.st.length, mid := m.st.length } } rfl rfl (by simp)
  exact e2.setRd 0 (.int .u8 125) _ rfl rfl rfl
theorem rep_shut2 {go cap : Nat} (h : Rep B w r m vs (.slice (some ⟨go, 0, none⟩) m.op.length cap) P Q O) (k : Nat) (s : St) (hk : m.st[k]? = some s) (hn : 0 < m.op.length) (a b : Nat) :
    Rep B ((((w.drewN a).setCell ⟨P k, 6, none⟩ (.int .i64 m.st.length)).drewN b).setCell ⟨r, 2, none⟩ (.slice (some ⟨go, 0, none⟩) (m.op.length - 1) cap)) r
      { m with st := m.st.set k { s with fin := m.st.length }, op := m.op.take (m.op.length - 1) } vs (.slice (some ⟨go, 0, none⟩) (m.op.length - 1) cap) P Q O := by
  have e1 := ((h.drewN a).setSt k s { s with fin := m.st.length } hk 6 (.int .i64 m.st.length) _ rfl rfl rfl).drewN b
  exact e1.popOp hn rfl
set_option maxRecDepth 100000 in
set_option maxHeartbeats 1600000 in
theorem Rep.shut (h : Rep B w r m vs vo P Q O) (ok : Ok m) (hn : 0 < m.op.length) :
    Calls Try.prog 52 #[.pointer (some ⟨r, 0, none⟩)] w (Post B w r (shutStep m)) := by
  have ht := tops hn
  have hof : (top m).of_ < m.st.length := ok.ofs _ (List.mem_of_getElem? ht)
  have hs : m.st[(top m).of_]? = some (m.st.getD (top m).of_ noSt) := by rw [List.getD_eq_getElem?_getD, List.getElem?_eq_getElem hof]; rfl
  obtain ⟨g, cap, hvs, hrow, ngr, hcap, ngp⟩ := h.row (by omega)
  obtain ⟨go, capo, hvo, hrowo, ngor, hcapo, ngop, ngo⟩ := h.rowO hn
  obtain ⟨o0, o1, of, nor, nop⟩ := h.opc _ _ ht
  obtain ⟨c0, c1, c2, c3, c4, c5, c6, f7, f8, n9, n10, n11⟩ := h.stc _ _ hs
  have noP := nop _ _ hs
  obtain ⟨r0, r1, r2, r3, r4, r5, rf⟩ := h.rdc
  have geR := h.geR
  obtain ⟨geP, geQ⟩ := h.geP _ hof
  have hg1 := hrow _ hof
  have hg2 := hrowo (m.op.length - 1) (by omega)
  have ngp1 := (ngp _ _ hs).1
  have ngop1 := (ngop _ _ hs).1
  unfold ptr at hg1 hg2
  have hl := ok.len
  have ho := ok.oplen
  have HS : Hid (shutStep m = if (m.st.getD (top m).of_ noSt).kind = 63 ∧ (top m).second = false then some { m with st := m.st.set (top m).of_ { m.st.getD (top m).of_ noSt with fin := m.st.length, mid := m.st.length }, state := 125 }
    else some { m with st := m.st.set (top m).of_ { m.st.getD (top m).of_ noSt with fin := m.st.length }, op := m.op.take (m.op.length - 1) }) := rfl
  generalize hb : top m = b at *
  generalize hss : m.st.getD b.of_ noSt = s at *
  have HT : Hid (m.op[m.op.length - 1]? = some b) := ht
  have HM : Hid (m.st[b.of_]? = some s) := hs
  subst hvs
  subst hvo
  have HR : Hid (Rep _ _ _ _ _ _ _ _ _) := h
  have OK : Hid (Ok m) := ok
  clear h ok ht hs hrow hrowo hb hss ngp ngop ngo nop
  generalize hp : P b.of_ = p at *
  generalize O (m.op.length - 1) = q at *
  have nrp : r ≠ p := fun e => n9 e.symm
  have nrq : r ≠ q := fun e => nor e.symm
  have npq : p ≠ q := fun e => noP e.symm
  have npg : p ≠ g := fun e => ngp1 e.symm
  have hofi : ((b.of_ : Nat) : Int) < (m.st.length : Int) := by omega
  have hof0 : (0 : Int) ≤ ((b.of_ : Nat) : Int) := by omega
  have NP : Hid (P b.of_ = p) := hp
  clear hp
  by_cases hk : s.kind = 63
  · rw [hk] at c0
    cases hsec : b.second
    · rw [hsec] at o1
      have HY : Hid (shutStep m = some { m with st := m.st.set b.of_ { s with fin := m.st.length, mid := m.st.length }, state := 125 }) := HS.out.trans (if_pos ⟨hk, hsec⟩)
      clear hk hsec HS
      go_enter Try.func52, Try.ntmps52
      go_wp2
      go_quiet (fail)
      go_wp2
      go_region
      go_wp2
      go_quiet (fail)
      go_wp2
      go_region
      go_wp2
      go_ret
      rw [← NP.out]
      exact post_yes HY.out (Below.setCell (Below.setCell (below_drewN (Below.setCell (below_drewN (Below.refl _ _) _) (by rw [NP.out]; exact geP) _) _) (by rw [NP.out]; exact geP) _) geR _) (rep_shut1 HR.out b.of_ s HM.out hof _ _)
    · rw [hsec] at o1
      have HY : Hid (shutStep m = some { m with st := m.st.set b.of_ { s with fin := m.st.length }, op := m.op.take (m.op.length - 1) }) := HS.out.trans (if_neg (by rintro ⟨_, e⟩; rw [hsec] at e; cases e))
      clear hk hsec HS
      go_enter Try.func52, Try.ntmps52
      go_wp2
      go_quiet (fail)
      go_wp2
      go_region
      go_wp2
      go_quiet (fail)
      go_wp2
      go_region
      go_wp2
      go_ret
      rw [← NP.out]
      exact post_yes HY.out (Below.setCell (below_drewN (Below.setCell (below_drewN (Below.refl _ _) _) (by rw [NP.out]; exact geP) _) _) geR _) (rep_shut2 HR.out b.of_ s HM.out hn _ _)
  · have bk : (s.kind == 63) = false := by simpa using hk
    have HY : Hid (shutStep m = some { m with st := m.st.set b.of_ { s with fin := m.st.length }, op := m.op.take (m.op.length - 1) }) := HS.out.trans (if_neg (fun e => hk e.1))
    clear hk HS
    go_enter Try.func52, Try.ntmps52
    go_wp2
    go_quiet (fail)
    go_wp2
    go_region
    go_wp2
    go_quiet (fail)
    go_wp2
    go_region
    go_wp2
    go_ret
    rw [← NP.out]
    exact post_yes HY.out (Below.setCell (below_drewN (Below.setCell (below_drewN (Below.refl _ _) _) (by rw [NP.out]; exact geP) _) _) geR _) (rep_shut2 HR.out b.of_ s HM.out hn _ _)

end Go.Proofs.Ytadhimimdmoodaa
