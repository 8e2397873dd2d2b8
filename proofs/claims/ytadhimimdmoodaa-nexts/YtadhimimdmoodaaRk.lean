import Derived.Test.YtadhimimdmoodaaRh
import Derived.Test.YtadhimimdmoodaaRi
import Derived.BigRegion
namespace Go.Proofs.Ytadhimimdmoodaa
open Go.RowKit
variable {B : Nat} {w w' : World} {r : Nat} {m : Rd} {vs vo : Value} {P Q O : Nat → Nat}

theorem IntKind_wrap_small (x : Int) (h0 : 0 ≤ x) (h1 : x ≤ 1000) : IntKind.i64.wrap x = x := by
  rw [IntKind.wrap_i64]; omega

/-- The world in which an open block has been laid, ahead of the append. -/
def opened (w : World) (x : Int) : World :=
  ((w.alloc (.cells #[.int .i64 x, .bool false] tB)).alloc (.cells #[.pointer (some ⟨w.heap.size, 0, none⟩)] tPB)).drew
theorem opened_old (w : World) (x : Int) (k : Nat) (hk : k < w.heap.size) : (opened w x).heap[k]? = w.heap[k]? := by
  show (((w.heap.push _).push _))[k]? = _
  rw [Array.getElem?_push, if_neg (by simp; omega), Array.getElem?_push, if_neg (by omega)]
theorem opened_size (w : World) (x : Int) : (opened w x).heap.size = w.heap.size + 2 := by
  show (((w.heap.push _).push _)).size = _
  simp
theorem opened_p (w : World) (x : Int) : At (opened w x) w.heap.size #[.int .i64 x, .bool false] tB := by
  show (((w.heap.push _).push _))[w.heap.size]? = _
  rw [Array.getElem?_push, if_neg (by simp), Array.getElem?_push, if_pos rfl]
theorem opened_lit (w : World) (x : Int) : ∀ (j : Nat) (u : Value), [Value.pointer (some ⟨w.heap.size, 0, none⟩)][j]? = some u → (opened w x).cell? ((⟨w.heap.size + 1, 0, none⟩ : Addr).add j) = some u := by
  intro j u hj
  match j, hj with
  | 0, hj =>
    simp at hj; subst hj
    simp only [opened, World.cell?_drew]
    simp [Addr.add]
theorem open_same {x : Int} {w2 : World} (h : Rep B w r m vs vo P Q O) (hg : (opened w x).grownBy w2 vo.ownBlock) : w2.heap[r]? = w.heap[r]? :=
  (hg.block r (by rw [opened_size]; have := h.rd.lt; omega) (fun e => ownsRow_type h.ro h.rd (by decide) e.symm)).trans (opened_old w x r h.rd.lt)
theorem open_below {x : Int} {w2 : World} {u : Value} (h : Rep B w r m vs vo P Q O) (hg : (opened w x).grownBy w2 vo.ownBlock) (hB : B ≤ w.heap.size) : Below B w ((w2.setCell ⟨r, 2, none⟩ u).setCell ⟨r, 0, none⟩ (.int .u8 115)) := by
  refine Below.setCell (Below.setCell ?_ h.geR _) h.geR _
  have hb : Below B w (opened w x) := ((((Below.refl B w).alloc hB _).alloc (by simp; omega) _)).drew
  exact hb.grown hg (by rw [opened_size]; omega) (fun k e => (h.ro.lt k e).1)
theorem open_rep (h : Rep B w r m vs vo P Q O) (hn : 0 < m.st.length) {w2 : World} {u : Value} (hg : (opened w ((m.st.length : Int) - 1)).grownBy w2 vo.ownBlock)
    (hown : w2.ownsRow B tPB 1 u (m.op.length + 1) (((List.range m.op.length).map fun i => ptr (O i)) ++ [.pointer (some ⟨w.heap.size, 0, none⟩)])) (hB : B ≤ w.heap.size) :
    Rep B ((w2.setCell ⟨r, 2, none⟩ u).setCell ⟨r, 0, none⟩ (.int .u8 115)) r { m with op := m.op ++ [⟨m.st.length - 1, false⟩], state := 115 } vs u P Q (upd O m.op.length w.heap.size) := by
  have hp := opened_p w ((m.st.length : Int) - 1)
  have e : (m.st.length : Int) - 1 = ((m.st.length - 1 : Nat) : Int) := by omega
  refine (h.pushOp ⟨m.st.length - 1, false⟩ u (opened w ((m.st.length : Int) - 1)) w2 (by rw [opened_size]; omega) (opened_old w _) ?_ hg hown hB).setRd 0 (.int .u8 115) _ rfl rfl rfl
  rw [e] at hp ⊢
  exact hp

set_option maxRecDepth 100000 in
set_option maxHeartbeats 1600000 in
theorem Rep.bytePlain (h : Rep B w r m vs vo P Q O) (hsl : m.st.length ≤ 20) (hol : m.op.length ≤ 4) (hn : 0 < m.st.length) (hB : B ≤ w.heap.size) (c : Int) (h0 : 0 ≤ c) (h1 : c ≤ 255) (hx : m.state = 59 ∨ m.state = 123) :
    Calls Try.prog 26 #[.pointer (some ⟨r, 0, none⟩), .int .u8 c] w (Post B w r (plainStep m c)) := by
  obtain ⟨r0, r1, r2, r3, r4, r5, rf⟩ := h.rdc
  have geR := h.geR
  rcases hx with hx | hx
  · rw [hx] at r0
    by_cases hc : c = 59
    · subst hc
      have HY : Hid (plainStep m 59 = some { m with state := 115 }) := by show plainStep m 59 = _; unfold plainStep; rw [if_pos hx, if_pos rfl]
      have HR : Hid (Rep _ _ _ _ _ _ _ _ _) := h
      clear h hx
      go_enter Try.func26, Try.ntmps26
      go_wp2_with fail
      go_ret
      exact post_yes HY.out (Below.setCell (Below.refl _ _) geR _) (HR.out.setRd 0 (.int .u8 115) _ rfl rfl rfl)
    · have bc : (c == 59) = false := by simpa using hc
      have HY : Hid (plainStep m c = none) := by show plainStep m c = _; unfold plainStep; rw [if_pos hx, if_neg hc]
      have HR : Hid (Rep _ _ _ _ _ _ _ _ _) := h
      clear h hx hc
      go_enter Try.func26, Try.ntmps26
      go_wp2_with fail
      go_ret
      exact post_no HY.out (Below.setCell (Below.refl _ _) geR _)
  · rw [hx] at r0
    by_cases hc : c = 123
    · subst hc
      obtain ⟨ao, cap, hvo⟩ := h.olen
      obtain ⟨so, scap, hvs⟩ := h.slen
      by_cases h4 : m.op.length = 4
      · have HY : Hid (plainStep m 123 = none) := by show plainStep m 123 = _; unfold plainStep; rw [hx, if_neg (by decide), if_pos (.inr h4)]
        rw [hvo, h4] at r2
        clear h hx h4 hvo hvs
        go_enter Try.func26, Try.ntmps26
        go_wp2_with fail
        go_ret
        exact post_no HY.out (Below.refl _ _)
      · have b4 : (((m.op.length : Nat) : Int) == 4) = false := by simp; omega
        have HY : Hid (plainStep m 123 = some { m with op := m.op ++ [⟨m.st.length - 1, false⟩], state := 115 }) := by
          show plainStep m 123 = _; unfold plainStep; rw [hx, if_neg (by decide), if_neg (fun e => e.elim (fun e => e rfl) h4)]
        have hown := h.ro
        subst hvo
        subst hvs
        have hlt := h.rd.lt
        obtain ⟨i0, hi, hz0, hz1, hz2⟩ := info_parts Try.infoPB
        have HR : Hid (Rep _ _ _ _ _ _ _ _ _) := h
        have HO : Hid (World.ownsRow _ _ _ _ _ _ _) := hown
        clear h hx h4 hown
        go_enter Try.func26, Try.ntmps26
        go_wp2_with fail
        have hwr : IntKind.i64.wrap ((m.st.length : Int) - 1) = (m.st.length : Int) - 1 := by have := IntKind_wrap_small ((m.st.length : Int) - 1) (by omega) (by omega); exact this
        go_region_law (refine step_append_own rfl (.tmp 53) (.tmp 62) 45 rfl B tPB i0 (.pointer none) 1 8 Try.underlying45 hi hz0 hz1 hz2 rfl (by decide) _ _ _ rfl (((HO.out.alloc _).alloc _).drew) ⟨w.heap.size + 1, 0, none⟩ 1 1 [.pointer (some ⟨w.heap.size, 0, none⟩)] rfl rfl (opened_lit w ((m.st.length : Int) - 1)) (by intro u hu; simp at hu; subst hu; rfl) (by unfold maxLen; omega) (by omega) (by simp; omega) ?_; intro v' w2 hown' hgrow; obtain ⟨g', cap', c', rfl, hg', ha', hc'⟩ := ownsRow_at hown' (by omega); have hsame : w2.heap[r]? = w.heap[r]? := open_same HR.out hgrow; have k1 : ∀ i, w2.cell? ⟨r, i, none⟩ = w.cell? ⟨r, i, none⟩ := fun i => World.cell?_of_block (a := ⟨r, i, none⟩) hsame; have k2 : ∀ i, w2.frozen? ⟨r, i, none⟩ = w.frozen? ⟨r, i, none⟩ := fun i => World.frozen?_of_block (a := ⟨r, i, none⟩) hsame; have HW : Hid (World.ownsRow _ _ _ _ _ _ _) := hown'; have HG : Hid (World.grownBy _ _ _) := hgrow; clear hown' hgrow hsame ha')
        all_goals
          go_wp2_with fail
          go_ret
          exact post_yes HY.out (open_below HR.out HG.out hB) (open_rep HR.out hn HG.out HW.out hB)
    · have bc : (c == 123) = false := by simpa using hc
      have bn : (c != 123) = true := by simpa using hc
      have HY : Hid (plainStep m c = none) := by show plainStep m c = _; unfold plainStep; rw [hx, if_neg (by decide), if_pos (.inl hc)]
      have HR : Hid (Rep _ _ _ _ _ _ _ _ _) := h
      clear h hx hc
      go_enter Try.func26, Try.ntmps26
      go_wp2_with fail
      go_ret
      exact post_no HY.out (Below.refl _ _)

end Go.Proofs.Ytadhimimdmoodaa
