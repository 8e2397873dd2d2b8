import Derived.Test.YtadhimimdmoodaaRv
namespace Go.Proofs.Ytadhimimdmoodaa
open Go.RowKit
variable {B : Nat} {w w' : World} {r : Nat} {m : Rd} {vs vo : Value} {P Q O : Nat → Nat}

theorem Rep.slen' (h : Rep B w r m vs vo P Q O) : ∃ ao cap, vs = .slice ao m.st.length cap := by
  obtain ⟨_, h2⟩ := h.rs
  rcases h2 with ⟨rfl, e⟩ | ⟨g, cap, c, rfl, _⟩
  · exact ⟨none, 0, by rw [e]⟩
  · exact ⟨_, cap, rfl⟩


set_option maxRecDepth 100000 in
set_option maxHeartbeats 1600000 in
theorem Rep.next (h : Rep B w r m vs vo P Q O) (hl : m.st.length ≤ 20) (p : Nat) (hp : p < m.st.length) (way : Int) :
    Calls Try.prog 20 #[.pointer (some ⟨r, 0, none⟩), .int .i64 (p : Int), .int .i64 way] w fun e w' => e = .returned (.int .i64 (nextR m.st p way)) ∧ ∃ k, w' = w.drewN k := by
  have hfo := h.follows hl 21 p hp (by omega)
  obtain ⟨g, cap, hvs, hrow, _⟩ := h.row (by omega)
  obtain ⟨r0, r1, r2, r3, r4, r5, rf⟩ := h.rdc
  rw [hvs] at r1
  have hc : w.cell? ⟨g, p, none⟩ = some (.pointer (some ⟨P p, 0, none⟩)) := hrow p hp
  obtain ⟨c0, c1, c2, c3, c4, c5, c6, -⟩ := h.stc p _ (Rep.gets hp)
  have hpi : (p : Int) < (m.st.length : Int) := by omega
  have HN : Hid (nextR m.st p way = if (m.st.getD p noSt).kind = 61 ∨ (m.st.getD p noSt).kind = 33 ∨ ((m.st.getD p noSt).kind = 64 ∧ way = 1) then followR m.st 21 p
    else if (m.st.getD p noSt).kind = 64 ∧ (m.st.getD p noSt).fin = p + 1 then (p : Int)
    else if (m.st.getD p noSt).kind = 64 then (p : Int) + 1
    else if way = 0 ∧ p + 1 < (m.st.getD p noSt).mid then (p : Int) + 1
    else if way = 1 ∧ (m.st.getD p noSt).mid < (m.st.getD p noSt).fin then ((m.st.getD p noSt).mid : Int)
    else followR m.st 21 p) := rfl
  clear h hrow hvs r0 r2 r3 r4 r5 rf c1 c2 c3 c4
  generalize m.st.getD p noSt = u at *
  generalize followR m.st 21 p = fo at *
  generalize P p = q at *
  by_cases k61 : u.kind = 61
  · have HE : Hid (_ = _) := HN.out.trans (if_pos (.inl k61))
    rw [k61] at c0
    clear HN k61
    go_enter Try.func20, Try.ntmps20
    go_wp2_with fail
    refine hfo.mono ?_
    rintro e w1 ⟨rfl, rfl⟩
    go_wp2_with fail
    go_ret
    exact ⟨by rw [HE.out]; rfl, 0, rfl⟩
  have b61 : (u.kind == 61) = false := by simpa using k61
  by_cases k33 : u.kind = 33
  · have HE : Hid (_ = _) := HN.out.trans (if_pos (.inr (.inl k33)))
    rw [k33] at c0
    clear HN k61 b61 k33
    go_enter Try.func20, Try.ntmps20
    go_wp2_with fail
    refine hfo.mono ?_
    rintro e w1 ⟨rfl, rfl⟩
    go_wp2_with fail
    go_ret
    exact ⟨by rw [HE.out]; rfl, 0, rfl⟩
  have b33 : (u.kind == 33) = false := by simpa using k33
  by_cases k64 : u.kind = 64
  · by_cases w1 : way = 1
    · have HE : Hid (_ = _) := HN.out.trans (if_pos (.inr (.inr ⟨k64, w1⟩)))
      rw [k64] at c0
      subst w1
      clear HN k61 b61 k33 b33 k64
      go_enter Try.func20, Try.ntmps20
      go_wp2_with fail
      refine hfo.mono ?_
      rintro e w1 ⟨rfl, rfl⟩
      go_wp2_with fail
      go_ret
      exact ⟨by rw [HE.out]; rfl, 0, rfl⟩
    · have bw : (way == 1) = false := by simpa using w1
      have HN2 : Hid (_ = _) := HN.out.trans (if_neg (fun e => e.elim k61 (fun e => e.elim k33 (fun e => w1 e.2))))
      by_cases hf : u.fin = p + 1
      · have HE : Hid (_ = _) := HN2.out.trans (if_pos ⟨k64, hf⟩)
        have hfb : (((u.fin : Nat) : Int) == (p : Int) + 1) = true := by rw [beq_iff_eq]; omega
        rw [k64] at c0
        clear HN HN2 k61 b61 k33 b33 k64 w1 hf
        go_enter Try.func20, Try.ntmps20
        go_wp2_with fail
        refine hfo.mono ?_
        rintro e w1 ⟨rfl, rfl⟩
        go_wp2_with fail
        go_ret
        exact ⟨by rw [HE.out]; rfl, 0, rfl⟩
      · have HE : Hid (_ = _) := (HN2.out.trans (if_neg (fun e => hf e.2))).trans (if_pos k64)
        have hfb : (((u.fin : Nat) : Int) == (p : Int) + 1) = false := by rw [beq_eq_false_iff_ne]; omega
        rw [k64] at c0
        clear HN HN2 k61 b61 k33 b33 k64 w1 hf
        go_enter Try.func20, Try.ntmps20
        go_wp2_with fail
        refine hfo.mono ?_
        rintro e w1 ⟨rfl, rfl⟩
        go_wp2_with fail
        go_ret
        exact ⟨by rw [HE.out]; rfl, 0, rfl⟩
  have b64 : (u.kind == 64) = false := by simpa using k64
  have HN2 : Hid (_ = _) := ((HN.out.trans (if_neg (fun e => e.elim k61 (fun e => e.elim k33 (fun e => k64 e.1))))).trans (if_neg (fun e => k64 e.1))).trans (if_neg k64)
  clear HN k61 k33 k64
  by_cases w0 : way = 0
  · subst w0
    by_cases hm : p + 1 < u.mid
    · have HE : Hid (_ = _) := HN2.out.trans (if_pos ⟨rfl, hm⟩)
      have hmi : (p : Int) + 1 < (u.mid : Int) := by omega
      clear HN2
      go_enter Try.func20, Try.ntmps20
      go_wp2_with fail
      refine hfo.mono ?_
      rintro e w1 ⟨rfl, rfl⟩
      go_wp2_with fail
      go_ret
      exact ⟨by rw [HE.out]; rfl, 0, rfl⟩
    · have HE : Hid (_ = _) := (HN2.out.trans (if_neg (fun e => hm e.2))).trans (if_neg (fun e => absurd e.1 (by decide)))
      have hmi : ¬ (p : Int) + 1 < (u.mid : Int) := by omega
      clear HN2
      go_enter Try.func20, Try.ntmps20
      go_wp2_with fail
      refine hfo.mono ?_
      rintro e w1 ⟨rfl, rfl⟩
      go_wp2_with fail
      go_quiet (fail)
      go_wp2_with fail
      go_ret
      exact ⟨by rw [HE.out]; rfl, _, rfl⟩
  · have bw0 : (way == 0) = false := by simpa using w0
    by_cases w1 : way = 1
    · subst w1
      clear w0 bw0
      by_cases hm : u.mid < u.fin
      · have HE : Hid (_ = _) := (HN2.out.trans (if_neg (fun e => absurd e.1 (by decide)))).trans (if_pos ⟨rfl, hm⟩)
        have hmi : (u.mid : Int) < (u.fin : Int) := by omega
        clear HN2
        go_enter Try.func20, Try.ntmps20
        go_wp2_with fail
        refine hfo.mono ?_
        rintro e w1 ⟨rfl, rfl⟩
        go_wp2_with fail
        go_quiet (fail)
        go_wp2_with fail
        go_ret
        exact ⟨by rw [HE.out]; rfl, _, rfl⟩
      · have HE : Hid (_ = _) := (HN2.out.trans (if_neg (fun e => absurd e.1 (by decide)))).trans (if_neg (fun e => hm e.2))
        have hmi : ¬ (u.mid : Int) < (u.fin : Int) := by omega
        clear HN2
        go_enter Try.func20, Try.ntmps20
        go_wp2_with fail
        refine hfo.mono ?_
        rintro e w1 ⟨rfl, rfl⟩
        go_wp2_with fail
        go_quiet (fail)
        go_wp2_with fail
        go_ret
        exact ⟨by rw [HE.out]; rfl, _, rfl⟩
    · have bw1 : (way == 1) = false := by simpa using w1
      have HE : Hid (_ = _) := (HN2.out.trans (if_neg (fun e => w0 e.1))).trans (if_neg (fun e => w1 e.1))
      clear HN2 w0 w1
      go_enter Try.func20, Try.ntmps20
      go_wp2_with fail
      refine hfo.mono ?_
      rintro e w1 ⟨rfl, rfl⟩
      go_wp2_with fail
      go_quiet (fail)
      go_wp2_with fail
      go_ret
      exact ⟨by rw [HE.out]; rfl, _, rfl⟩

set_option maxRecDepth 100000 in
set_option maxHeartbeats 800000 in
theorem Rep.ways (h : Rep B w r m vs vo P Q O) (p : Int) :
    Calls Try.prog 31 #[.pointer (some ⟨r, 0, none⟩), .int .i64 p] w fun e w' => e = .returned (.int .i64 (if p < 0 ∨ (m.st.length : Int) ≤ p then 0 else waysR (m.st.getD p.toNat noSt))) ∧ w' = w := by
  obtain ⟨ao, cap, hvs⟩ := h.slen'
  obtain ⟨r0, r1, r2, r3, r4, r5, rf⟩ := h.rdc
  by_cases h0 : p < 0
  · rw [if_pos (.inl h0)]
    clear h r0 r2 r3 r4 r5 rf
    go_enter Try.func31, Try.ntmps31
    go_wp2_with fail
    go_ret
    exact ⟨rfl, rfl⟩
  by_cases h1 : (m.st.length : Int) ≤ p
  · rw [if_pos (.inr h1)]
    rw [hvs] at r1
    clear h r0 r2 r3 r4 r5 rf
    go_enter Try.func31, Try.ntmps31
    go_wp2_with fail
    go_ret
    exact ⟨rfl, rfl⟩
  rw [if_neg (fun e => e.elim h0 h1)]
  obtain ⟨k, rfl⟩ : ∃ k : Nat, p = k := ⟨p.toNat, by omega⟩
  rw [Int.toNat_natCast]
  have hk : k < m.st.length := by omega
  obtain ⟨g, cap', hvs', hrow, _⟩ := h.row (by omega)
  rw [hvs'] at r1
  have hc : w.cell? ⟨g, k, none⟩ = some (.pointer (some ⟨P k, 0, none⟩)) := hrow k hk
  obtain ⟨c0, -⟩ := h.stc k _ (Rep.gets hk)
  have hki : (k : Int) < (m.st.length : Int) := by omega
  unfold waysR
  clear h hrow hvs hvs' r0 r2 r3 r4 r5 rf h1
  generalize m.st.getD k noSt = u at *
  generalize P k = q at *
  by_cases k61 : u.kind = 61
  · rw [if_pos (.inl k61)]
    rw [k61] at c0
    clear k61
    go_enter Try.func31, Try.ntmps31
    go_wp2_with fail
    go_ret
    exact ⟨rfl, rfl⟩
  have b61 : (u.kind == 61) = false := by simpa using k61
  by_cases k33 : u.kind = 33
  · rw [if_pos (.inr k33)]
    rw [k33] at c0
    clear k33 k61 b61
    go_enter Try.func31, Try.ntmps31
    go_wp2_with fail
    go_ret
    exact ⟨rfl, rfl⟩
  have b33 : (u.kind == 33) = false := by simpa using k33
  rw [if_neg (fun e => e.elim k61 k33)]
  clear k33 k61
  go_enter Try.func31, Try.ntmps31
  go_wp2_with fail
  go_ret
  exact ⟨rfl, rfl⟩

end Go.Proofs.Ytadhimimdmoodaa
