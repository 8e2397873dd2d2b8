import Derived.Test.YtadhimimdmoodaaRh
import Derived.BigRegion
namespace Go.Proofs.Ytadhimimdmoodaa
open Go.RowKit
variable {B : Nat} {w w' : World} {r : Nat} {m : Rd} {vs vo : Value} {P Q O : Nat → Nat}

theorem Try.infoPS : (Try.prog.info? tPS).map (fun i => (i.zero, i.size, i.bytes)) = some (some (.pointer none), 1, 8) := by kernel_rfl
theorem Try.infoPB : (Try.prog.info? tPB).map (fun i => (i.zero, i.size, i.bytes)) = some (some (.pointer none), 1, 8) := by kernel_rfl

theorem Rep.slen (h : Rep B w r m vs vo P Q O) : ∃ ao cap, vs = .slice ao m.st.length cap := by
  obtain ⟨_, h2⟩ := h.rs
  rcases h2 with ⟨rfl, e⟩ | ⟨g, cap, c, rfl, _⟩
  · exact ⟨none, 0, by rw [e]⟩
  · exact ⟨_, cap, rfl⟩
theorem Rep.olen (h : Rep B w r m vs vo P Q O) : ∃ ao cap, vo = .slice ao m.op.length cap := by
  obtain ⟨_, h2⟩ := h.ro
  rcases h2 with ⟨rfl, e⟩ | ⟨g, cap, c, rfl, _⟩
  · exact ⟨none, 0, by rw [e]⟩
  · exact ⟨_, cap, rfl⟩

/-- The world in which a statement has been laid, ahead of the append. -/
def begun (w : World) (kd v : Int) (n : Nat) : World :=
  (((w.alloc (.cells #[.int .i64 0, .int .i64 0, .int .i64 0, .int .i64 0] tI)).alloc (.cells #[.int .u8 kd, .int .i64 v, .bool false, .slice (some ⟨w.heap.size, 0, none⟩) 4 4, .int .i64 0, .int .i64 0, .int .i64 ((n : Int) + 1)] tS)).alloc (.cells #[.pointer (some ⟨w.heap.size + 1, 0, none⟩)] tPS)).drew

theorem begun_old (w : World) (kd v : Int) (n : Nat) (k : Nat) (hk : k < w.heap.size) : (begun w kd v n).heap[k]? = w.heap[k]? := by
  show ((((w.heap.push _).push _).push _))[k]? = _
  rw [Array.getElem?_push, if_neg (by simp; omega), Array.getElem?_push, if_neg (by simp; omega), Array.getElem?_push, if_neg (by omega)]
theorem begun_size (w : World) (kd v : Int) (n : Nat) : (begun w kd v n).heap.size = w.heap.size + 3 := by
  show ((((w.heap.push _).push _).push _)).size = _
  simp
theorem begun_q (w : World) (kd v : Int) (n : Nat) : At (begun w kd v n) w.heap.size #[.int .i64 0, .int .i64 0, .int .i64 0, .int .i64 0] tI := by
  show ((((w.heap.push _).push _).push _))[w.heap.size]? = _
  rw [Array.getElem?_push, if_neg (by simp; omega), Array.getElem?_push, if_neg (by simp), Array.getElem?_push, if_pos rfl]
theorem begun_p (w : World) (kd v : Int) (n : Nat) : At (begun w kd v n) (w.heap.size + 1) #[.int .u8 kd, .int .i64 v, .bool false, .slice (some ⟨w.heap.size, 0, none⟩) 4 4, .int .i64 0, .int .i64 0, .int .i64 ((n : Int) + 1)] tS := by
  show ((((w.heap.push _).push _).push _))[w.heap.size + 1]? = _
  rw [Array.getElem?_push, if_neg (by simp), Array.getElem?_push, if_pos (by simp)]

theorem begin_same {kd v : Int} {n : Nat} {w2 : World} (h : Rep B w r m vs vo P Q O) (hg : (begun w kd v n).grownBy w2 vs.ownBlock) : w2.heap[r]? = w.heap[r]? :=
  (hg.block r (by rw [begun_size]; have := h.rd.lt; omega) (fun e => ownsRow_type h.rs h.rd (by decide) e.symm)).trans (begun_old w kd v n r h.rd.lt)

theorem begin_below {kd v : Int} {n : Nat} {w2 : World} {u : Value} (h : Rep B w r m vs vo P Q O) (hg : (begun w kd v n).grownBy w2 vs.ownBlock) (hB : B ≤ w.heap.size) : Below B w (w2.setCell ⟨r, 1, none⟩ u) := by
  refine Below.setCell ?_ h.geR _
  have hb : Below B w (begun w kd v n) := (((((Below.refl B w).alloc hB _).alloc (by simp; omega) _).alloc (by simp; omega) _)).drew
  exact hb.grown hg (by rw [begun_size]; omega) (fun k e => (h.rs.lt k e).1)

theorem begin_rep (h : Rep B w r m vs vo P Q O) (kd v : Int) {w2 : World} {u : Value} (hg : (begun w kd v m.st.length).grownBy w2 vs.ownBlock)
    (hown : w2.ownsRow B tPS 1 u (m.st.length + 1) (((List.range m.st.length).map fun i => ptr (P i)) ++ [.pointer (some ⟨w.heap.size + 1, 0, none⟩)])) (hB : B ≤ w.heap.size) :
    Rep B (w2.setCell ⟨r, 1, none⟩ u) r { m with st := m.st ++ [⟨kd, v, false, [0, 0, 0, 0], 0, 0, m.st.length + 1⟩] } u vo (upd P m.st.length (w.heap.size + 1)) (upd Q m.st.length w.heap.size) O :=
  h.pushSt ⟨kd, v, false, [0, 0, 0, 0], 0, 0, m.st.length + 1⟩ u (w.heap.size + 1) w.heap.size (begun w kd v m.st.length) w2 (by omega) (by omega) (by rw [begun_size]; omega) (by rw [begun_size]; omega) (begun_old w kd v _)
    (begun_p w kd v _) (begun_q w kd v _) hg hown hB

set_option maxRecDepth 100000 in
set_option maxHeartbeats 1600000 in
theorem Rep.begin_ (h : Rep B w r m vs vo P Q O) (hl : m.st.length < 20) (kd v : Int) (hB : B ≤ w.heap.size) :
    Calls Try.prog 51 #[.pointer (some ⟨r, 0, none⟩), .int .u8 kd, .int .i64 v] w fun e w' => e = .returned (.bool true) ∧ Below B w w' ∧
      ∃ vs' P' Q', Rep B w' r { m with st := m.st ++ [⟨kd, v, false, [0, 0, 0, 0], 0, 0, m.st.length + 1⟩] } vs' vo P' Q' O := by
  obtain ⟨ao, cap, rfl⟩ := h.slen
  obtain ⟨r0, r1, r2, r3, r4, r5, rf⟩ := h.rdc
  have geR := h.geR
  have hlt := h.rd.lt
  have hown := h.rs
  obtain ⟨i0, hi, hz0, hz1, hz2⟩ := info_parts Try.infoPS
  have b20 : (((m.st.length : Nat) : Int) == 20) = false := by simp; omega
  have hmk : ∀ w, (Instr.makeSlice 29 (.int .i64 4) (.int .i64 4)).run Try.prog w = .ok (.slice (some ⟨w.heap.size, 0, none⟩) 4 4) (w.alloc (.cells #[.int .i64 0, .int .i64 0, .int .i64 0, .int .i64 0] 3)) := fun _ => by kernel_rfl
  have HR : Hid (Rep _ _ _ _ _ _ _ _ _) := h
  have HO : Hid (World.ownsRow _ _ _ _ _ _ _) := hown
  clear h hown
  go_enter Try.func51, Try.ntmps51
  go_wp2
  go_region
  go_wp2_with (at_builtin; refine wpList_append_own _ rfl (.tmp 29) (.tmp 31) 44 rfl B tPS i0 (.pointer none) 1 8 Try.underlying44 hi hz0 hz1 hz2 rfl (by decide) _ _ _ rfl ((((HO.out.alloc _).alloc _).alloc _).drew) ⟨w.heap.size + 1 + 1, 0, none⟩ 1 1 [.pointer (some ⟨w.heap.size + 1, 0, none⟩)] rfl rfl ?c1 ?c2 ?c3 ?c4 ?c5 ?_)
  case c1 =>
    intro j u hj
    match j, hj with
    | 0, hj => simp at hj; subst hj; simp [Addr.add]; rw [World.cell?_alloc_at]; · rfl
               · simp
  case c2 => intro u hu; simp at hu; subst hu; rfl
  case c3 => unfold maxLen; omega
  case c4 => omega
  case c5 => simp; omega
  intro v' w2 hown' hgrow _
  obtain ⟨g', cap', c', rfl, hg', ha', hc'⟩ := ownsRow_at hown' (by omega)
  have hsame : w2.heap[r]? = w.heap[r]? := begin_same HR.out hgrow
  have k1 : ∀ i, w2.cell? ⟨r, i, none⟩ = w.cell? ⟨r, i, none⟩ := fun i => World.cell?_of_block (a := ⟨r, i, none⟩) hsame
  have k2 : ∀ i, w2.frozen? ⟨r, i, none⟩ = w.frozen? ⟨r, i, none⟩ := fun i => World.frozen?_of_block (a := ⟨r, i, none⟩) hsame
  have HW : Hid (World.ownsRow _ _ _ _ _ _ _) := hown'
  have HG : Hid (World.grownBy _ _ _) := hgrow
  clear hown' hgrow hsame ha'
  go_wp2
  go_ret
  refine ⟨rfl, begin_below HR.out HG.out hB, _, _, _, begin_rep HR.out kd v HG.out HW.out hB⟩

end Go.Proofs.Ytadhimimdmoodaa
