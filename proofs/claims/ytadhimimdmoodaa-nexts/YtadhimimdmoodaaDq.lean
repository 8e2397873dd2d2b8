import Derived.Test.YtadhimimdmoodaaDp
import Derived.Test.YtadhimimdmoodaaEg
import Derived.Test.YtadhimimdmoodaaGc
import Derived.Test.YtadhimimdmoodaaRx
namespace Go.Proofs.Ytadhimimdmoodaa
open Go.RowKit

/-- A text that is a program: both readers have the same statements. -/
theorem prog_whole (s : ByteArray) (h160 : s.size ≤ 160) : (readGood s = false ∧ progOf (bytesOf s) = none) ∨ ∃ m, readGood s = true ∧ progOf (bytesOf s) = some m ∧ Whole (readZ s).2 m.st := by
  have hl := bytesOf_len s
  have hsame := scan_same s
  rcases read_says s with hd | ⟨m, ho, hf, hpk⟩
  · left
    have hg : readGood s = false := by unfold readGood; rw [hd.st]; rfl
    refine ⟨hg, ?_⟩
    cases hp : progOf (bytesOf s) with
    | none => rfl
    | some m =>
      exfalso
      have e := (progOf_some hp).2.2.2
      rw [← hsame] at e
      unfold scanD at e
      rw [if_neg (by omega), hg] at e
      simp at e
  · by_cases hlt : (readZ s).1.1 < s.size
    · left
      have hg : readGood s = false := by unfold readGood; rw [ho.sync.ns]; simp; omega
      refine ⟨hg, ?_⟩
      cases hp : progOf (bytesOf s) with
      | none => rfl
      | some m =>
        exfalso
        have e := (progOf_some hp).2.2.2
        rw [← hsame] at e
        unfold scanD at e
        rw [if_neg (by omega), hg] at e
        simp at e
    · right
      have hg : readGood s = true := by unfold readGood; rw [ho.sync.ns]; simp; omega
      have hfd := ho.sync.fd
      have he : (readZ s).1.1 = s.size := by have := ho.sync.le; omega
      rw [he, take_all] at hfd
      refine ⟨m, hg, ?_, ho.cor, hf⟩
      have hop : m.op = [] := ho.op
      unfold progOf
      rw [if_neg (by omega), readFrom_some (n := 0) hfd]
      have hdn : isDone m = true := by unfold isDone; rw [ho.st, hop]; rfl
      simp [hdn]

set_option maxRecDepth 100000 in
set_option maxHeartbeats 800000 in
theorem d_wnext (s : ByteArray) (p way : Int) (w : World) (hm : s.size ≤ maxLen) :
    Calls Try.prog 8 #[.string s, .int .i64 p, .int .i64 way] w fun e w' => e = two (nextOf (bytesOf s) p way) ∧ Below w.heap.size w w' := by
  have hr := d_read s w hm
  have hl := bytesOf_len s
  have bad : progOf (bytesOf s) = none → (∀ e w', DReadPost w s e w' → ∃ c : Int, e = .returned (.tuple #[.agg #[.slice none 0 0], .int .i64 1, .int .i64 c]) ∧ Below w.heap.size w w') →
      Calls Try.prog 8 #[.string s, .int .i64 p, .int .i64 way] w fun e w' => e = two (nextOf (bytesOf s) p way) ∧ Below w.heap.size w w' := by
    intro hp hq
    have HE : Hid (nextOf (bytesOf s) p way = (0, 1)) := by show nextOf _ _ _ = _; unfold nextOf; rw [hp]
    have hr' := hr.mono hq
    clear hr hp hq hm hl
    go_enter Try.func8, Try.ntmps8
    go_wp2_with fail
    refine hr'.mono ?_
    rintro e w1 ⟨c, rfl, hb⟩
    go_wp2_with fail
    go_ret2
    exact ⟨by rw [HE.out]; rfl, hb.alloc hb.size _⟩
  by_cases h160 : 160 < s.size
  · refine bad (by unfold progOf; rw [if_pos (by omega)]) ?_
    rintro e w' ⟨hb, h | h | h⟩
    · exact ⟨0, h.2, hb⟩
    · exact absurd h.1 (by omega)
    · exact absurd h.1 (by omega)
  rcases prog_whole s (by omega) with ⟨hg, hp⟩ | ⟨m, hg, hp, hW⟩
  · refine bad hp ?_
    rintro e w' ⟨hb, h | h | h⟩
    · exact absurd h.1 h160
    · exact ⟨_, h.2.2, hb⟩
    · exact absurd h.2.1 (by rw [hg]; decide)
  clear bad
  have hlen : (readZ s).2.length ≤ 20 := (rStmts_goes s 22 (-1) 0 0 ((0, false), []) ⟨Nat.zero_le _, Nat.zero_le _⟩).ok.len
  have hSl : (readZ s).2.length = m.st.length := hW.1.len
  have hr' := hr.mono (R' := fun e w' => ∃ v, e = .returned (.tuple #[.agg #[v], .int .i64 0, .int .i64 0]) ∧ Below w.heap.size w w' ∧ w'.ownsRow w.heap.size tDs 10 v (readZ s).2.length (flat (readZ s).2)) (by
    rintro e w' ⟨hb, h | h | h⟩
    · exact absurd h.1 h160
    · exact absurd h.2.1 (by rw [hg]; decide)
    · obtain ⟨_, _, v, he, hrow⟩ := h
      exact ⟨v, he, hb, hrow⟩)
  have HE : Hid (nextOf (bytesOf s) p way = if way < 0 ∨ waysAt m p ≤ way then (0, 2) else (nextR m.st p.toNat way, 0)) := by show nextOf _ _ _ = _; unfold nextOf; rw [hp]
  have HW : Hid (Whole (readZ s).2 m.st) := hW
  have HSl : Hid ((readZ s).2.length = m.st.length) := hSl
  clear hr hm hl h160 hg hp hW hSl
  generalize (readZ s).2 = F at *
  by_cases hout : p < 0 ∨ (F.length : Int) ≤ p
  · have hwa : waysAt m p = 0 := by have := HSl.out; unfold waysAt; rw [if_pos (by omega)]
    have HE2 : Hid (nextOf (bytesOf s) p way = (0, 2)) := HE.out.trans (by rw [hwa, if_pos (by omega)])
    clear HE hwa
    go_enter Try.func8, Try.ntmps8
    go_wp2_with fail
    refine hr'.mono ?_
    rintro e w1 ⟨v, rfl, hb, hrow⟩
    obtain ⟨ao, cap, rfl⟩ : ∃ ao cap, v = .slice ao F.length cap := by
      obtain ⟨_, h2⟩ := hrow
      rcases h2 with ⟨rfl, e⟩ | ⟨g, cap, c, rfl, _⟩
      · exact ⟨none, 0, by rw [e]⟩
      · exact ⟨_, cap, rfl⟩
    clear hrow
    go_wp2_with fail
    refine (d_next_out ao F.length hlen p way hout _).mono ?_
    rintro e w2 ⟨rfl, hb2⟩
    simp only [twoD]
    go_wp2_with fail
    go_ret2
    exact ⟨by rw [HE2.out]; rfl, (hb.alloc hb.size _).trans (hb2.mono (by have := hb.size; simp; omega))⟩
  · obtain ⟨k, rfl⟩ : ∃ k : Nat, p = k := ⟨p.toNat, by omega⟩
    have hk : k < F.length := by omega
    have hns := next_same HW.out hlen k hk way
    have HE2 : Hid (nextOf (bytesOf s) k way = nextP F k way) := by
      show nextOf _ _ _ = _
      rw [HE.out, hns]
      have hwa : waysAt m k = waysR (m.st.getD k noSt) := by have := HSl.out; unfold waysAt; rw [if_neg (by omega), Int.toNat_natCast]
      rw [hwa, Int.toNat_natCast]
    have HNI : Hid (∀ (w2 : World) (g cap : Nat), PRow w2 g F → Calls Try.prog 18 #[.agg #[.slice (some ⟨g, 0, none⟩) F.length cap], .int .i64 (k : Int), .int .i64 way] w2 fun e w' => e = twoD (nextP F k way) ∧ Below w2.heap.size w2 w') := fun w2 g cap hP => d_next_in hP hlen HW.out.par k hk way
    clear HE hns hout
    generalize nextP F k way = nx at *
    obtain ⟨n1, n2⟩ := nx
    go_enter Try.func8, Try.ntmps8
    go_wp2_with fail
    refine hr'.mono ?_
    rintro e w1 ⟨v, rfl, hb, hrow⟩
    obtain ⟨g, cap, rfl⟩ : ∃ g cap, v = .slice (some ⟨g, 0, none⟩) F.length cap := by
      obtain ⟨_, h2⟩ := hrow
      rcases h2 with ⟨_, e⟩ | ⟨g, cap, c, rfl, _⟩
      · omega
      · exact ⟨g, cap, rfl⟩
    have HPr : Hid (PRow w1 g F) := prow_of hrow rfl (hrow.lt g rfl).2
    clear hrow
    go_wp2_with fail
    refine (HNI.out _ g cap (HPr.out.keep ((Below.refl _ _).alloc (Nat.le_refl _) _))).mono ?_
    rintro e w2 ⟨rfl, hb2⟩
    simp only [twoD]
    go_wp2_with fail
    go_ret2
    exact ⟨by rw [HE2.out]; rfl, (hb.alloc hb.size _).trans (hb2.mono (by have := hb.size; simp; omega))⟩

end Go.Proofs.Ytadhimimdmoodaa
