import Derived.Test.YtjbpfbgemidleaaJ2
namespace Go.Proofs.Ytjbpfbgemidleaa
open Go.RowKit
variable {B : Nat} {w w' : World} {r : Nat} {m : Rd} {vs vo : Value} {P Q O : Nat → Nat}

set_option maxRecDepth 100000 in
set_option maxHeartbeats 1600000 in
theorem Rep.start (h : Rep B w r m vs vo P Q O) (ok : Ok m) (hB : B ≤ w.heap.size) (c : Int) (h0 : 0 ≤ c) (h1 : c ≤ 255) :
    Calls Try.prog 41 #[.pointer (some ⟨r, 0, none⟩), .int .u8 c] w (Post B w r (startStep m c)) := by
  obtain ⟨r0, r1, r2, r3, r4, r5, rf⟩ := h.rdc
  have geR := h.geR
  have hlen := ok.len
  have holen := ok.oplen
  obtain ⟨ao, cap, hvo⟩ := h.olen
  by_cases hv : 97 ≤ c ∧ c ≤ 100
  · obtain ⟨hva, hvb⟩ := hv
    by_cases h20 : m.st.length = 20
    · have HY : Hid (startStep m c = none) := by show startStep m c = _; unfold startStep beginStep; rw [if_pos ⟨hva, hvb⟩, if_pos h20]
      have HR : Hid (Rep _ _ _ _ _ _ _ _ _) := h
      have OK : Hid (Ok m) := ok
      clear h ok
      go_enter Try.func41, Try.ntmps41
      go_wp2_with (first | (go_at_call 50; refine (variable_yes c _ hva hvb).mono ?_; rintro e w' ⟨rfl, rfl⟩) | (go_at_call 51; refine (HR.out.beginFull h20 _ _).mono ?_; rintro e w' ⟨rfl, rfl⟩))
      go_ret
      exact post_no HY.out (Below.setCell (Below.refl _ _) geR _)
    · have HY : Hid (startStep m c = some { m with st := m.st ++ [⟨61, c - 97, false, [0, 0, 0, 0], 0, 0, m.st.length + 1⟩], state := 61 }) := by
        show startStep m c = _; unfold startStep beginStep; rw [if_pos ⟨hva, hvb⟩, if_neg h20]
      replace h20 : m.st.length < 20 := by omega
      have HR : Hid (Rep _ _ _ _ _ _ _ _ _) := h
      have OK : Hid (Ok m) := ok
      clear h ok
      go_enter Try.func41, Try.ntmps41
      go_wp2_with (first | (go_at_call 50; refine (variable_yes c _ hva hvb).mono ?_; rintro e w' ⟨rfl, rfl⟩) | (go_at_call 51; refine (HR.out.begin_ h20 _ _ hB).mono ?_; rintro e w' ⟨rfl, hb, vs', P', Q', hr⟩; have hr0 := hr.rdc.1; have hr2 := hr.rdc.2.2.1; have hrf := hr.rdc.2.2.2.2.2.2; have HQ : Hid (Rep _ _ _ _ _ _ _ _ _) := hr; clear hr))
      go_ret
      exact post_yes HY.out (Below.setCell hb geR _) (HQ.out.setRd 0 (.int .u8 61) _ rfl rfl rfl)
  by_cases hq : c = 63 ∨ c = 64
  · have b33 : (c == 33) = false := by rcases hq with rfl | rfl <;> rfl
    have hqb : ((c == 63) || (c == 64)) = true := by rcases hq with rfl | rfl <;> rfl
    by_cases h20 : m.st.length = 20
    · have HY : Hid (startStep m c = none) := by show startStep m c = _; unfold startStep beginStep; rw [if_neg hv, if_pos hq]; simp [h20]
      subst hvo
      clear hqb
      rcases hq with rfl | rfl
      · have HR : Hid (Rep _ _ _ _ _ _ _ _ _) := h
        have OK : Hid (Ok m) := ok
        clear h ok
        go_enter Try.func41, Try.ntmps41
        go_wp2_with (first | (go_at_call 50; refine (variable_no _ _ (by omega) (by omega) (by omega)).mono ?_; rintro e w' ⟨rfl, rfl⟩) | (go_at_call 51; refine (HR.out.beginFull h20 _ _).mono ?_; rintro e w' ⟨rfl, rfl⟩))
        go_ret
        exact post_no HY.out (Below.setCell (Below.refl _ _) geR _)
      · have HR : Hid (Rep _ _ _ _ _ _ _ _ _) := h
        have OK : Hid (Ok m) := ok
        clear h ok
        go_enter Try.func41, Try.ntmps41
        go_wp2_with (first | (go_at_call 50; refine (variable_no _ _ (by omega) (by omega) (by omega)).mono ?_; rintro e w' ⟨rfl, rfl⟩) | (go_at_call 51; refine (HR.out.beginFull h20 _ _).mono ?_; rintro e w' ⟨rfl, rfl⟩))
        go_ret
        exact post_no HY.out (Below.setCell (Below.refl _ _) geR _)
    · by_cases h4 : m.op.length < 4
      · have HY : Hid (startStep m c = some { m with st := m.st ++ [⟨c, 0, false, [0, 0, 0, 0], 0, 0, m.st.length + 1⟩], state := 99 }) := by
          show startStep m c = _; unfold startStep beginStep; rw [if_neg hv, if_pos hq, if_pos h4, if_neg h20]
        replace h20 : m.st.length < 20 := by omega
        have d4 : decide (((m.op.length : Nat) : Int) < 4) = true := by simp; omega
        subst hvo
        clear hqb
        rcases hq with rfl | rfl
        · have HR : Hid (Rep _ _ _ _ _ _ _ _ _) := h
          have OK : Hid (Ok m) := ok
          clear h ok
          go_enter Try.func41, Try.ntmps41
          go_wp2_with (first | (go_at_call 50; refine (variable_no _ _ (by omega) (by omega) (by omega)).mono ?_; rintro e w' ⟨rfl, rfl⟩) | (go_at_call 51; refine (HR.out.begin_ h20 _ _ hB).mono ?_; rintro e w' ⟨rfl, hb, vs', P', Q', hr⟩; have hr0 := hr.rdc.1; have hr2 := hr.rdc.2.2.1; have hrf := hr.rdc.2.2.2.2.2.2; have HQ : Hid (Rep _ _ _ _ _ _ _ _ _) := hr; clear hr))
          go_ret
          exact post_yes HY.out (Below.setCell hb geR _) (HQ.out.setRd 0 (.int .u8 99) _ rfl rfl rfl)
        · have HR : Hid (Rep _ _ _ _ _ _ _ _ _) := h
          have OK : Hid (Ok m) := ok
          clear h ok
          go_enter Try.func41, Try.ntmps41
          go_wp2_with (first | (go_at_call 50; refine (variable_no _ _ (by omega) (by omega) (by omega)).mono ?_; rintro e w' ⟨rfl, rfl⟩) | (go_at_call 51; refine (HR.out.begin_ h20 _ _ hB).mono ?_; rintro e w' ⟨rfl, hb, vs', P', Q', hr⟩; have hr0 := hr.rdc.1; have hr2 := hr.rdc.2.2.1; have hrf := hr.rdc.2.2.2.2.2.2; have HQ : Hid (Rep _ _ _ _ _ _ _ _ _) := hr; clear hr))
          go_ret
          exact post_yes HY.out (Below.setCell hb geR _) (HQ.out.setRd 0 (.int .u8 99) _ rfl rfl rfl)
      · have HY : Hid (startStep m c = none) := by show startStep m c = _; unfold startStep; rw [if_neg hv, if_pos hq, if_neg h4]
        replace h20 : m.st.length < 20 := by omega
        have d4 : decide (((m.op.length : Nat) : Int) < 4) = false := by simp; omega
        clear h4
        subst hvo
        clear hqb
        rcases hq with rfl | rfl
        · have HR : Hid (Rep _ _ _ _ _ _ _ _ _) := h
          have OK : Hid (Ok m) := ok
          clear h ok
          go_enter Try.func41, Try.ntmps41
          go_wp2_with (first | (go_at_call 50; refine (variable_no _ _ (by omega) (by omega) (by omega)).mono ?_; rintro e w' ⟨rfl, rfl⟩) | (go_at_call 51; refine (HR.out.begin_ h20 _ _ hB).mono ?_; rintro e w' ⟨rfl, hb, vs', P', Q', hr⟩; have hr0 := hr.rdc.1; have hr2 := hr.rdc.2.2.1; have hrf := hr.rdc.2.2.2.2.2.2; have HQ : Hid (Rep _ _ _ _ _ _ _ _ _) := hr; clear hr))
          go_ret
          exact post_no HY.out (Below.setCell hb geR _)
        · have HR : Hid (Rep _ _ _ _ _ _ _ _ _) := h
          have OK : Hid (Ok m) := ok
          clear h ok
          go_enter Try.func41, Try.ntmps41
          go_wp2_with (first | (go_at_call 50; refine (variable_no _ _ (by omega) (by omega) (by omega)).mono ?_; rintro e w' ⟨rfl, rfl⟩) | (go_at_call 51; refine (HR.out.begin_ h20 _ _ hB).mono ?_; rintro e w' ⟨rfl, hb, vs', P', Q', hr⟩; have hr0 := hr.rdc.1; have hr2 := hr.rdc.2.2.1; have hrf := hr.rdc.2.2.2.2.2.2; have HQ : Hid (Rep _ _ _ _ _ _ _ _ _) := hr; clear hr))
          go_ret
          exact post_no HY.out (Below.setCell hb geR _)
  have b63 : (c == 63) = false := by simp; omega
  have b64 : (c == 64) = false := by simp; omega
  by_cases h33 : c = 33
  · by_cases h20 : m.st.length = 20
    · have HY : Hid (startStep m c = none) := by show startStep m c = _; unfold startStep beginStep; rw [if_neg hv, if_neg hq, if_pos h33, if_pos h20]
      subst h33
      clear b63 b64
      have HR : Hid (Rep _ _ _ _ _ _ _ _ _) := h
      have OK : Hid (Ok m) := ok
      clear h ok
      go_enter Try.func41, Try.ntmps41
      go_wp2_with (first | (go_at_call 50; refine (variable_no _ _ (by omega) (by omega) (by omega)).mono ?_; rintro e w' ⟨rfl, rfl⟩) | (go_at_call 51; refine (HR.out.beginFull h20 _ _).mono ?_; rintro e w' ⟨rfl, rfl⟩))
      go_ret
      exact post_no HY.out (Below.setCell (Below.refl _ _) geR _)
    · have HY : Hid (startStep m c = some { m with st := m.st ++ [⟨c, 0, false, [0, 0, 0, 0], 0, 0, m.st.length + 1⟩], state := 99 }) := by
        show startStep m c = _; unfold startStep beginStep; rw [if_neg hv, if_neg hq, if_pos h33, if_neg h20]
      replace h20 : m.st.length < 20 := by omega
      subst h33
      clear b63 b64
      have HR : Hid (Rep _ _ _ _ _ _ _ _ _) := h
      have OK : Hid (Ok m) := ok
      clear h ok
      go_enter Try.func41, Try.ntmps41
      go_wp2_with (first | (go_at_call 50; refine (variable_no _ _ (by omega) (by omega) (by omega)).mono ?_; rintro e w' ⟨rfl, rfl⟩) | (go_at_call 51; refine (HR.out.begin_ h20 _ _ hB).mono ?_; rintro e w' ⟨rfl, hb, vs', P', Q', hr⟩; have hr0 := hr.rdc.1; have hr2 := hr.rdc.2.2.1; have hrf := hr.rdc.2.2.2.2.2.2; have HQ : Hid (Rep _ _ _ _ _ _ _ _ _) := hr; clear hr))
      go_ret
      exact post_yes HY.out (Below.setCell hb geR _) (HQ.out.setRd 0 (.int .u8 99) _ rfl rfl rfl)
  have b33 : (c == 33) = false := by simpa using h33
  by_cases h125 : c = 125
  · by_cases ho : 0 < m.op.length
    · have HY : Hid (startStep m c = shutStep m) := by show startStep m c = _; unfold startStep; rw [if_neg hv, if_neg hq, if_neg h33, if_pos ⟨h125, ho⟩]
      subst h125
      subst hvo
      clear b63 b64 b33
      have HR : Hid (Rep _ _ _ _ _ _ _ _ _) := h
      have OK : Hid (Ok m) := ok
      clear h ok
      go_enter Try.func41, Try.ntmps41
      go_wp2_with (first | (go_at_call 50; refine (variable_no _ _ (by omega) (by omega) (by omega)).mono ?_; rintro e w' ⟨rfl, rfl⟩) | (go_at_call 52; refine (HR.out.shut OK.out ho).mono ?_; rintro e w' ⟨rfl, hb, hr⟩))
      go_ret
      exact post_via HY.out (Below.refl _ _) hb hr
    · have HY : Hid (startStep m c = none) := by show startStep m c = _; unfold startStep; rw [if_neg hv, if_neg hq, if_neg h33, if_neg (fun e => ho e.2)]
      have ho0 : m.op.length = 0 := by omega
      rw [hvo, ho0] at r2
      subst h125
      clear b63 b64 b33 hvo ho ho0
      have HR : Hid (Rep _ _ _ _ _ _ _ _ _) := h
      have OK : Hid (Ok m) := ok
      clear h ok
      go_enter Try.func41, Try.ntmps41
      go_wp2_with (go_at_call 50; refine (variable_no _ _ (by omega) (by omega) (by omega)).mono ?_; rintro e w' ⟨rfl, rfl⟩)
      go_ret
      exact post_no HY.out (Below.refl _ _)
  · have b125 : (c == 125) = false := by simpa using h125
    have HY : Hid (startStep m c = none) := by show startStep m c = _; unfold startStep; rw [if_neg hv, if_neg hq, if_neg h33, if_neg (fun e => h125 e.1)]
    clear h125 h33 hq
    have HR : Hid (Rep _ _ _ _ _ _ _ _ _) := h
    have OK : Hid (Ok m) := ok
    clear h ok
    go_enter Try.func41, Try.ntmps41
    go_wp2_with (go_at_call 50; refine (variable_no _ _ (by omega) (by omega) hv).mono ?_; rintro e w' ⟨rfl, rfl⟩)
    go_ret
    exact post_no HY.out (Below.refl _ _)

end Go.Proofs.Ytjbpfbgemidleaa

/- What the machine keeps to. No Go in here. -/
namespace Go.Proofs.Ytjbpfbgemidleaa
variable {m m' : Rd}

theorem setCur_len (m : Rd) (s : St) : (setCur m s).st.length = m.st.length := by simp [setCur]
theorem mem_setCur {s t : St} (h : t ∈ (setCur m s).st) : t ∈ m.st ∨ t = s := List.mem_or_eq_of_mem_set h
theorem curs' (hn : 0 < m.st.length) : m.st[m.st.length - 1]? = some (cur m) := by
  unfold cur
  rw [List.getD_eq_getElem?_getD, List.getElem?_eq_getElem (by omega)]; rfl
theorem cur_mem (hn : 0 < m.st.length) : cur m ∈ m.st := List.mem_of_getElem? (curs' hn)
theorem cur_setCur' (hn : 0 < m.st.length) (s : St) : cur (setCur m s) = s := by
  have h : (setCur m s).st[m.st.length - 1]? = some s := by simp [setCur, List.getElem?_set]; omega
  unfold cur
  rw [List.getD_eq_getElem?_getD, setCur_len, h]; rfl

/-- The states in which a statement is being read and a block is not yet awaited. -/
def inSt (x : Int) : Prop := x = 115 ∨ x = 61 ∨ (x = 118 ∨ x = 86 ∨ x = 120 ∨ x = 121 ∨ x = 110) ∨ (x = 59 ∨ x = 123) ∨ (x = 99 ∨ x = 67 ∨ x = 100 ∨ x = 101 ∨ x = 102 ∨ x = 60 ∨ x = 98 ∨ x = 66 ∨ x = 109)

theorem Ok.fields (ok : Ok m) (hn : 0 < m.st.length) (x sg : Int) (ng : Bool) (d : Int) (hs : inSt x) (h1 : -1 ≤ sg ∧ sg ≤ 1) (h2 : 0 ≤ d ∧ d ≤ 2)
    (h5 : x = 110 ∨ x = 109 → (d = 1 ∧ 0 ≤ (cur m).num ∧ (cur m).num ≤ 9) ∨ (d = 2 ∧ 0 ≤ (cur m).num ∧ (cur m).num ≤ 99)) : Ok { m with state := x, sign := sg, neg := ng, dig := d } where
  states := by unfold inSt at hs; show x = _ ∨ _; simp only; omega
  some_ := fun _ => hn
  len := ok.len
  oplen := ok.oplen
  ofs := ok.ofs
  sgn := h1
  digs := h2
  nums := ok.nums
  sgl := ok.sgl
  inNum := h5
  open_ := fun h => by exfalso; have h' : x = 125 := h; unfold inSt at hs; omega

theorem Ok.setC (ok : Ok m) (hn : 0 < m.st.length) (hx : m.state ≠ 110 ∧ m.state ≠ 109) (s : St) (h3 : -99 ≤ s.num ∧ s.num ≤ 99) (h4 : s.sg.length = 4) : Ok (setCur m s) where
  states := ok.states
  some_ := fun _ => by rw [setCur_len]; exact hn
  len := by rw [setCur_len]; exact ok.len
  oplen := ok.oplen
  ofs := fun b hb => by rw [setCur_len]; exact ok.ofs b hb
  sgn := ok.sgn
  digs := ok.digs
  nums := fun t ht => (mem_setCur ht).elim (fun h => ok.nums t h) (fun h => by rw [h]; exact h3)
  sgl := fun t ht => (mem_setCur ht).elim (fun h => ok.sgl t h) (fun h => by rw [h]; exact h4)
  inNum := fun h => by exfalso; have h' : m.state = 110 ∨ m.state = 109 := h; omega
  open_ := ok.open_

/-- The same, whatever the state was: it becomes x. -/
theorem Ok.put (ok : Ok m) (hn : 0 < m.st.length) (s : St) (x sg : Int) (ng : Bool) (d : Int) (hs : inSt x) (h1 : -1 ≤ sg ∧ sg ≤ 1) (h2 : 0 ≤ d ∧ d ≤ 2) (h3 : -99 ≤ s.num ∧ s.num ≤ 99) (h4 : s.sg.length = 4)
    (h5 : x = 110 ∨ x = 109 → (d = 1 ∧ 0 ≤ s.num ∧ s.num ≤ 9) ∨ (d = 2 ∧ 0 ≤ s.num ∧ s.num ≤ 99)) : Ok { setCur m s with state := x, sign := sg, neg := ng, dig := d } := by
  have o1 : Ok { m with state := 115 } := ok.fields hn 115 m.sign m.neg m.dig (.inl rfl) ok.sgn ok.digs (fun h => by omega)
  have o2 := o1.setC hn ⟨(by decide : (115 : Int) ≠ 110), (by decide : (115 : Int) ≠ 109)⟩ s h3 h4
  have hl : 0 < (setCur { m with state := 115 } s).st.length := by rw [setCur_len]; exact hn
  exact o2.fields hl x sg ng d hs h1 h2 (by rw [cur_setCur' (m := { m with state := 115 }) hn]; exact h5)

theorem Ok.push (ok : Ok m) (hl : m.st.length ≠ 20) (s : St) (x : Int) (hx : x = 61 ∨ x = 99) (h3 : -99 ≤ s.num ∧ s.num ≤ 99) (h4 : s.sg.length = 4) : Ok { m with st := m.st ++ [s], state := x } where
  states := by show x = _ ∨ _; simp only; omega
  some_ := fun _ => by simp
  len := by have := ok.len; simp; omega
  oplen := ok.oplen
  ofs := fun b hb => by have := ok.ofs b hb; simp; omega
  sgn := ok.sgn
  digs := ok.digs
  nums := fun t ht => by
    rcases List.mem_append.1 ht with h | h
    · exact ok.nums t h
    · rw [List.mem_singleton.1 h]; exact h3
  sgl := fun t ht => by
    rcases List.mem_append.1 ht with h | h
    · exact ok.sgl t h
    · rw [List.mem_singleton.1 h]; exact h4
  inNum := fun h => by exfalso; have h' : x = 110 ∨ x = 109 := h; omega
  open_ := fun h => by exfalso; have h' : x = 125 := h; omega

theorem Ok.begin_ (ok : Ok m) {k v x : Int} (hx : x = 61 ∨ x = 99) (h : beginStep m k v x = some m') : Ok m' := by
  unfold beginStep at h
  split at h
  · cases h
  · rename_i hl
    cases h
    exact ok.push hl _ x hx ⟨(by decide : (-99 : Int) ≤ 0), (by decide : (0 : Int) ≤ 99)⟩ rfl

theorem digit_inv {c x : Int} {pos : Bool} (h : digitStep m c pos x = some m') : ∃ d u, ((m.state = x ∧ d = m.dig ∧ u = (cur m).num) ∨ (m.state ≠ x ∧ d = 0 ∧ u = 0)) ∧
    ¬ (c < 48 ∨ 57 < c ∨ d = 2 ∨ (d = 1 ∧ u = 0) ∨ (pos = true ∧ c = 48)) ∧ m' = { setCur m { cur m with num := 10 * u + (c - 48) } with dig := d + 1, state := x } := by
  simp only [digitStep] at h
  by_cases e : m.state = x
  · rw [if_pos e, if_pos e] at h
    by_cases hc : c < 48 ∨ 57 < c ∨ m.dig = 2 ∨ (m.dig = 1 ∧ (cur m).num = 0) ∨ (pos = true ∧ c = 48)
    · rw [if_pos hc] at h; cases h
    · rw [if_neg hc] at h
      exact ⟨_, _, .inl ⟨e, rfl, rfl⟩, hc, (Option.some.inj h).symm⟩
  · rw [if_neg e, if_neg e] at h
    by_cases hc : c < 48 ∨ 57 < c ∨ (0 : Int) = 2 ∨ ((0 : Int) = 1 ∧ (0 : Int) = 0) ∨ (pos = true ∧ c = 48)
    · rw [if_pos hc] at h; cases h
    · rw [if_neg hc] at h
      exact ⟨_, _, .inr ⟨e, rfl, rfl⟩, hc, (Option.some.inj h).symm⟩

theorem Ok.digit (ok : Ok m) (hn : 0 < m.st.length) {c x : Int} {pos : Bool} (hx : x = 110 ∨ x = 109) (h : digitStep m c pos x = some m') : Ok m' := by
  obtain ⟨d, u, hdu, hc, rfl⟩ := digit_inv h
  have hin := ok.inNum
  have hnum := ok.nums (Go.Proofs.Ytjbpfbgemidleaa.cur m) (cur_mem hn)
  have hsg := ok.sgl (Go.Proofs.Ytjbpfbgemidleaa.cur m) (cur_mem hn)
  have hd := ok.digs
  have key : 0 ≤ d ∧ d ≤ 1 ∧ 0 ≤ u ∧ (d = 0 → u = 0) ∧ u ≤ 9 := by
    rcases hdu with ⟨e, rfl, rfl⟩ | ⟨_, rfl, rfl⟩
    · have := hin (by omega); omega
    · omega
  refine ok.put hn _ x m.sign m.neg (d + 1) (by unfold inSt; omega) ok.sgn (by omega) ?_ hsg ?_
  · show -99 ≤ 10 * u + (c - 48) ∧ 10 * u + (c - 48) ≤ 99
    omega
  · intro _
    show (d + 1 = 1 ∧ 0 ≤ 10 * u + (c - 48) ∧ 10 * u + (c - 48) ≤ 9) ∨ (d + 1 = 2 ∧ 0 ≤ 10 * u + (c - 48) ∧ 10 * u + (c - 48) ≤ 99)
    omega

theorem Ok.shut (ok : Ok m) (hs : m.state = 115) (ho : 0 < m.op.length) (h : shutStep m = some m') : Ok m' := by
  have htop : m.op[m.op.length - 1]? = some (top m) := by
    unfold top
    rw [List.getD_eq_getElem?_getD, List.getElem?_eq_getElem (by omega)]; rfl
  have hof : (top m).of_ < m.st.length := ok.ofs _ (List.mem_of_getElem? htop)
  have hmem : m.st.getD (top m).of_ noSt ∈ m.st := by rw [List.getD_eq_getElem?_getD, List.getElem?_eq_getElem hof]; exact List.getElem_mem hof
  have hn := ok.nums _ hmem
  have hg := ok.sgl _ hmem
  simp only [shutStep] at h
  split at h
  · cases h
    exact {
      states := .inr (.inr (.inr (.inr (.inr (.inr (.inr (.inr (.inr (.inr (.inr (.inr (.inr rfl))))))))))))
      some_ := fun _ => by show 0 < (m.st.set _ _).length; rw [List.length_set]; omega
      len := by show (m.st.set _ _).length ≤ 20; rw [List.length_set]; exact ok.len
      oplen := ok.oplen
      ofs := fun b hb => by show b.of_ < (m.st.set _ _).length; rw [List.length_set]; exact ok.ofs b hb
      sgn := ok.sgn
      digs := ok.digs
      nums := fun t ht => (List.mem_or_eq_of_mem_set ht).elim (fun h => ok.nums t h) (fun h => by rw [h]; exact hn)
      sgl := fun t ht => (List.mem_or_eq_of_mem_set ht).elim (fun h => ok.sgl t h) (fun h => by rw [h]; exact hg)
      inNum := fun h => by exfalso; have h' : (125 : Int) = 110 ∨ (125 : Int) = 109 := h; omega
      open_ := fun _ => ho }
  · cases h
    exact {
      states := .inl hs
      some_ := fun h => absurd hs h
      len := by show (m.st.set _ _).length ≤ 20; rw [List.length_set]; exact ok.len
      oplen := by show (m.op.take _).length ≤ 4; have := ok.oplen; simp; omega
      ofs := fun b hb => by show b.of_ < (m.st.set _ _).length; rw [List.length_set]; exact ok.ofs b (List.mem_of_mem_take hb)
      sgn := ok.sgn
      digs := ok.digs
      nums := fun t ht => (List.mem_or_eq_of_mem_set ht).elim (fun h => ok.nums t h) (fun h => by rw [h]; exact hn)
      sgl := fun t ht => (List.mem_or_eq_of_mem_set ht).elim (fun h => ok.sgl t h) (fun h => by rw [h]; exact hg)
      inNum := fun h => by exfalso; have h' : m.state = 110 ∨ m.state = 109 := h; omega
      open_ := fun h => by exfalso; have h' : m.state = 125 := h; omega }

theorem Ok.plain (ok : Ok m) (hn : 0 < m.st.length) {c : Int} (h : plainStep m c = some m') : Ok m' := by
  unfold plainStep at h
  split at h
  · split at h
    · cases h; exact ok.fields hn 115 m.sign m.neg m.dig (.inl rfl) ok.sgn ok.digs (fun h => by omega)
    · cases h
  · split at h
    · cases h
    · rename_i hc
      cases h
      have o := ok.fields hn 115 m.sign m.neg m.dig (.inl rfl) ok.sgn ok.digs (fun h => by omega)
      exact { o with
        oplen := by have := ok.oplen; simp; omega
        ofs := fun b hb => by
          rcases List.mem_append.1 hb with h | h
          · exact ok.ofs b h
          · rw [List.mem_singleton.1 h]; show m.st.length - 1 < m.st.length; omega
        open_ := fun h => by exfalso; have h' : (115 : Int) = 125 := h; omega }

theorem Ok.signTo (ok : Ok m) (hn : 0 < m.st.length) (v : Nat) (y x : Int) (hy : -1 ≤ y ∧ y ≤ 1) (hx : inSt x) (h5 : x ≠ 110 ∧ x ≠ 109) : Ok (signTo m v y x) :=
  ok.put hn _ x y m.neg m.dig hx hy ok.digs (ok.nums (Go.Proofs.Ytjbpfbgemidleaa.cur m) (cur_mem hn)) (by show ((cur m).sg.set v y).length = 4; rw [List.length_set]; exact ok.sgl _ (cur_mem hn)) (fun h => by omega)

theorem Ok.value (ok : Ok m) (hn : 0 < m.st.length) {c : Int} (_hx : m.state = 118 ∨ m.state = 86 ∨ m.state = 120 ∨ m.state = 121 ∨ m.state = 110) (h : valueStep m c = some m') : Ok m' := by
  have hnum := ok.nums _ (cur_mem hn)
  have hsg := ok.sgl _ (cur_mem hn)
  have hs := ok.sgn
  have hd := ok.digs
  have ve : Ok (valueEnd m) := by
    refine ok.put hn _ 115 m.sign m.neg m.dig (.inl rfl) hs hd ?_ hsg (fun h => by omega)
    show -99 ≤ m.sign * (Go.Proofs.Ytjbpfbgemidleaa.cur m).num ∧ m.sign * (Go.Proofs.Ytjbpfbgemidleaa.cur m).num ≤ 99
    generalize (Go.Proofs.Ytjbpfbgemidleaa.cur m).num = u at *
    rcases (show m.sign = -1 ∨ m.sign = 0 ∨ m.sign = 1 by omega) with e | e | e <;> rw [e] <;> omega
  unfold valueStep at h
  split at h
  · split at h
    · cases h; exact ok.put hn _ 59 m.sign m.neg m.dig (by unfold inSt; omega) hs hd hnum hsg (fun h => by omega)
    split at h
    · cases h; exact ok.fields hn 86 (-1) m.neg m.dig (by unfold inSt; omega) (by omega) hd (fun h => by omega)
    split at h
    · cases h; exact ok.signTo hn _ 1 120 (by omega) (by unfold inSt; omega) (by omega)
    · rename_i e _ _ _
      exact Ok.digit (ok.fields hn m.state 1 m.neg m.dig (by unfold inSt; omega) (by omega) hd (fun h => by omega)) hn (.inl rfl) h
  split at h
  · split at h
    · cases h; exact ok.signTo hn _ m.sign 120 hs (by unfold inSt; omega) (by omega)
    · exact ok.digit hn (.inl rfl) h
  split at h
  · split at h
    · cases h; exact ok.fields hn 121 1 m.neg m.dig (by unfold inSt; omega) (by omega) hd (fun h => by omega)
    split at h
    · cases h; exact ok.fields hn 121 (-1) m.neg m.dig (by unfold inSt; omega) (by omega) hd (fun h => by omega)
    split at h
    · cases h; exact ve
    · cases h
  split at h
  · exact ok.digit hn (.inl rfl) h
  · split at h
    · cases h; exact ve
    · exact ok.digit hn (.inl rfl) h

theorem behind_in (m : Rd) : inSt (behindOf m) ∧ behindOf m ≠ 110 ∧ behindOf m ≠ 109 := by
  unfold behindOf inSt
  split <;> omega

theorem Ok.cond (ok : Ok m) (hn : 0 < m.st.length) {c : Int} (h : condStep m c = some m') (hx : m.state = 99 ∨ m.state = 67 ∨ m.state = 100 ∨ m.state = 101 ∨ m.state = 102 ∨ m.state = 60 ∨ m.state = 98 ∨ m.state = 66 ∨ m.state = 109 ∨ m.state = 125) : Ok m' := by
  have hnum := ok.nums _ (cur_mem hn)
  have hsg := ok.sgl _ (cur_mem hn)
  have hs := ok.sgn
  have hd := ok.digs
  have hbi := behind_in m
  unfold condStep at h
  rcases hx with hx | hx | hx | hx | hx | hx | hx | hx | hx | hx
  · rw [hx, if_pos rfl] at h
    split at h
    · cases h; exact ok.put hn _ (behindOf m) m.sign m.neg m.dig hbi.1 hs hd hnum hsg (fun h => by omega)
    split at h
    · cases h; exact ok.fields hn 67 (-1) m.neg m.dig (by unfold inSt; omega) (by omega) hd (fun h => by omega)
    split at h
    · cases h; exact ok.signTo hn _ 1 100 (by omega) (by unfold inSt; omega) (by omega)
    · cases h
  · rw [hx, if_neg (by decide), if_pos rfl] at h
    split at h
    · cases h; exact ok.signTo hn _ m.sign 100 hs (by unfold inSt; omega) (by omega)
    · cases h
  · rw [hx, if_neg (by decide), if_neg (by decide), if_pos rfl] at h
    split at h
    · cases h; exact ok.fields hn 101 1 m.neg m.dig (by unfold inSt; omega) (by omega) hd (fun h => by omega)
    split at h
    · cases h; exact ok.fields hn 101 (-1) m.neg m.dig (by unfold inSt; omega) (by omega) hd (fun h => by omega)
    split at h
    · cases h; exact ok.fields hn 60 m.sign m.neg m.dig (by unfold inSt; omega) hs hd (fun h => by omega)
    · cases h
  · rw [hx, if_neg (by decide), if_neg (by decide), if_neg (by decide), if_pos rfl] at h
    split at h
    · split at h
      · cases h; exact ok.signTo hn _ m.sign 102 hs (by unfold inSt; omega) (by omega)
      · cases h
    · cases h
  · rw [hx, if_neg (by decide), if_neg (by decide), if_neg (by decide), if_neg (by decide), if_pos rfl] at h
    split at h
    · cases h; exact ok.fields hn 60 m.sign m.neg m.dig (by unfold inSt; omega) hs hd (fun h => by omega)
    · cases h
  · rw [hx, if_neg (by decide), if_neg (by decide), if_neg (by decide), if_neg (by decide), if_neg (by decide), if_pos rfl] at h
    split at h
    · cases h; exact ok.fields hn 98 m.sign false m.dig (by unfold inSt; omega) hs hd (fun h => by omega)
    · cases h
  · rw [hx, if_neg (by decide), if_neg (by decide), if_neg (by decide), if_neg (by decide), if_neg (by decide), if_neg (by decide), if_pos rfl] at h
    split at h
    · cases h; exact ok.fields hn 66 m.sign true m.dig (by unfold inSt; omega) hs hd (fun h => by omega)
    · exact ok.digit hn (.inr rfl) h
  · rw [hx, if_neg (by decide), if_neg (by decide), if_neg (by decide), if_neg (by decide), if_neg (by decide), if_neg (by decide), if_neg (by decide), if_pos rfl] at h
    exact ok.digit hn (.inr rfl) h
  · rw [hx, if_neg (by decide), if_neg (by decide), if_neg (by decide), if_neg (by decide), if_neg (by decide), if_neg (by decide), if_neg (by decide), if_neg (by decide), if_pos rfl] at h
    split at h
    · refine Ok.plain (m := { setCur m { Go.Proofs.Ytjbpfbgemidleaa.cur m with num := if m.neg then -(Go.Proofs.Ytjbpfbgemidleaa.cur m).num else (Go.Proofs.Ytjbpfbgemidleaa.cur m).num } with state := behindOf m }) ?_ (by show 0 < (setCur _ _).st.length; rw [setCur_len]; exact hn) h
      refine ok.put hn _ (behindOf m) m.sign m.neg m.dig hbi.1 hs hd ?_ hsg (fun h => by omega)
      show -99 ≤ (if m.neg then _ else _) ∧ (if m.neg then _ else _) ≤ 99
      split <;> omega
    · exact ok.digit hn (.inr rfl) h
  · rw [hx, if_neg (by decide), if_neg (by decide), if_neg (by decide), if_neg (by decide), if_neg (by decide), if_neg (by decide), if_neg (by decide), if_neg (by decide), if_neg (by decide)] at h
    split at h
    · cases h
      have o := ok.fields hn 115 m.sign m.neg m.dig (.inl rfl) hs hd (fun h => by omega)
      have hop : 0 < m.op.length := ok.open_ hx
      have htop : m.op[m.op.length - 1]? = some (top m) := by
        unfold top
        rw [List.getD_eq_getElem?_getD, List.getElem?_eq_getElem (by omega)]; rfl
      exact { o with
        oplen := by show (m.op.set _ _).length ≤ 4; rw [List.length_set]; exact ok.oplen
        ofs := fun b hb => by
          rcases List.mem_or_eq_of_mem_set hb with h | h
          · exact ok.ofs b h
          · rw [h]; exact ok.ofs (top m) (List.mem_of_getElem? htop)
        open_ := fun h => by exfalso; have h' : (115 : Int) = 125 := h; omega }
    · cases h

theorem Ok.byte (ok : Ok m) {c : Int} (h : byteStep m c = some m') : Ok m' := by
  have hst := ok.states
  unfold byteStep at h
  split at h
  · rename_i hs
    unfold startStep at h
    split at h
    · exact ok.begin_ (.inl rfl) h
    split at h
    · split at h
      · exact ok.begin_ (.inr rfl) h
      · cases h
    split at h
    · exact ok.begin_ (.inr rfl) h
    split at h
    · rename_i ho
      exact ok.shut hs ho.2 h
    · cases h
  rename_i h115
  have hn := ok.some_ h115
  split at h
  · split at h
    · cases h; exact ok.fields hn 118 m.sign m.neg m.dig (by unfold inSt; omega) ok.sgn ok.digs (fun h => by omega)
    · cases h
  split at h
  · rename_i hv
    exact ok.value hn hv h
  split at h
  · exact ok.plain hn h
  · exact ok.cond hn h (by omega)

def init : Rd := ⟨115, [], [], 0, false, 0⟩
theorem Ok.init : Ok init where
  states := .inl rfl
  some_ := fun h => absurd rfl h
  len := by decide
  oplen := by decide
  ofs := fun b hb => by cases hb
  sgn := ⟨by decide, by decide⟩
  digs := ⟨by decide, by decide⟩
  nums := fun b hb => by cases hb
  sgl := fun b hb => by cases hb
  inNum := fun h => by exfalso; have h' : (115 : Int) = 110 ∨ (115 : Int) = 109 := h; omega
  open_ := fun h => by exfalso; have h' : (115 : Int) = 125 := h; omega

/-- All bytes of a list, one behind the other. -/
def feed : Rd → List Int → Option Rd
  | m, [] => some m
  | m, c :: l => match byteStep m c with
    | none => none
    | some m' => feed m' l

theorem feed_snoc (m : Rd) (l : List Int) (c : Int) : feed m (l ++ [c]) = (feed m l).bind fun m' => byteStep m' c := by
  induction l generalizing m with
  | nil =>
    simp only [List.nil_append, feed, Option.bind_some]
    cases h : byteStep m c <;> simp
  | cons a l ih =>
    simp only [List.cons_append, feed]
    cases h : byteStep m a with
    | none => simp
    | some m' => simpa using ih m'

theorem Ok.feed (ok : Ok m) {l : List Int} (h : Go.Proofs.Ytjbpfbgemidleaa.feed m l = some m') : Ok m' := by
  induction l generalizing m with
  | nil => simp only [Go.Proofs.Ytjbpfbgemidleaa.feed] at h; cases h; exact ok
  | cons a l ih =>
    simp only [Go.Proofs.Ytjbpfbgemidleaa.feed] at h
    split at h
    · cases h
    · rename_i m1 e
      exact ih (ok.byte e) h

end Go.Proofs.Ytjbpfbgemidleaa

namespace Go.Proofs.Ytjbpfbgemidleaa
variable {m m' : Rd}

def bytesOf (s : ByteArray) : List Int := s.data.toList.map fun b => (b.toNat : Int)
theorem bytesOf_len (s : ByteArray) : (bytesOf s).length = s.size := by simp [bytesOf]
theorem bytesOf_take (s : ByteArray) (k : Nat) (h : k < s.size) : (bytesOf s).take (k + 1) = (bytesOf s).take k ++ [((s[k]).toNat : Int)] := by
  rw [List.take_succ_eq_append_getElem (by rw [bytesOf_len]; exact h)]
  simp [bytesOf]; rfl
theorem bytesOf_get (s : ByteArray) (k : Nat) (h : k < s.size) : (bytesOf s)[k]? = some ((s[k]).toNat : Int) := by
  rw [List.getElem?_eq_getElem (by rw [bytesOf_len]; exact h)]
  simp [bytesOf]; rfl

/-- How many bytes can be read, and what the reader is behind them (none: it met one that cannot stand there). -/
def readFrom : Rd → List Int → Nat → Nat × Option Rd
  | m, [], n => (n, some m)
  | m, c :: l, n => match byteStep m c with
    | none => (n, none)
    | some m' => readFrom m' l (n + 1)

theorem readFrom_none {m0 m : Rd} {l : List Int} {k n : Nat} {c : Int} (h : feed m0 (l.take k) = some m) (hc : l[k]? = some c) (hb : byteStep m c = none) : readFrom m0 l n = (n + k, none) := by
  induction l generalizing m0 k n with
  | nil => simp at hc
  | cons a l ih =>
    cases k with
    | zero =>
      simp [feed] at h hc
      subst h; subst hc
      simp [readFrom, hb]
    | succ k =>
      simp only [List.take_succ_cons, feed] at h
      simp only [List.getElem?_cons_succ] at hc
      simp only [readFrom]
      split at h
      · cases h
      · rename_i m1 e
        try rw [e]
        try simp only
        rw [ih h hc]; congr 1; omega

theorem readFrom_some {m0 m : Rd} {l : List Int} {n : Nat} (h : feed m0 l = some m) : readFrom m0 l n = (n + l.length, some m) := by
  induction l generalizing m0 n with
  | nil => simp only [feed] at h; cases h; rfl
  | cons a l ih =>
    simp only [feed] at h
    simp only [readFrom]
    split at h
    · cases h
    · rename_i m1 e
      try rw [e]
      try simp only
      rw [ih h]; simp only [List.length_cons]; congr 1; omega

def isDone (m : Rd) : Bool := decide (m.state = 115) && decide (m.op.length = 0)

/-- The document's Scan, as numbers. -/
def scanOf (l : List Int) : Int × Int × Int :=
  if 160 < l.length then (0, 1, 0) else match readFrom init l 0 with
    | (n, none) => (0, 1, n)
    | (n, some m) => if isDone m then ((m.st.length : Int) + 1, 0, 0) else (0, 1, n)

theorem byte_value (hx : m.state = 118 ∨ m.state = 86 ∨ m.state = 120 ∨ m.state = 121 ∨ m.state = 110) (c : Int) : byteStep m c = valueStep m c := by
  unfold byteStep; rw [if_neg (by omega), if_neg (by omega), if_pos hx]
theorem byte_plain (hx : m.state = 59 ∨ m.state = 123) (c : Int) : byteStep m c = plainStep m c := by
  unfold byteStep; rw [if_neg (by omega), if_neg (by omega), if_neg (by omega), if_pos hx]
theorem byte_cond (hx : m.state = 99 ∨ m.state = 67 ∨ m.state = 100 ∨ m.state = 101 ∨ m.state = 102 ∨ m.state = 60 ∨ m.state = 98 ∨ m.state = 66 ∨ m.state = 109 ∨ m.state = 125) (c : Int) : byteStep m c = condStep m c := by
  unfold byteStep; rw [if_neg (by omega), if_neg (by omega), if_neg (by omega), if_neg (by omega)]

theorem behind_or (m : Rd) : behindOf m = 59 ∨ behindOf m = 123 := by
  unfold behindOf
  split
  · exact .inl rfl
  · exact .inr rfl

theorem setCur_cur (hn : 0 < m.st.length) : setCur m (cur m) = m := by
  have h := curs' hn
  unfold setCur
  have : m.st.set (m.st.length - 1) (cur m) = m.st := by
    apply List.ext_getElem?
    intro i
    rw [List.getElem?_set]
    split
    · rename_i e; subst e; rw [if_pos (by omega), h]
    · rfl
  rw [this]


end Go.Proofs.Ytjbpfbgemidleaa

namespace Go.Proofs.Ytjbpfbgemidleaa
open Go.RowKit
variable {B : Nat} {w w' : World} {r : Nat} {m : Rd} {vs vo : Value} {P Q O : Nat → Nat}


set_option maxRecDepth 100000 in
set_option maxHeartbeats 1600000 in
theorem Rep.condM (h : Rep B w r m vs vo P Q O) (ok : Ok m) (hn : 0 < m.st.length) (hB : B ≤ w.heap.size) (c : Int) (h0 : 0 ≤ c) (h1 : c ≤ 255) (hx : m.state = 109) :
    Calls Try.prog 43 #[.pointer (some ⟨r, 0, none⟩), .int .u8 c] w (Post B w r (condStep m c)) := by
  have hc := h.now hn ok.len
  have hcur := Rep.curs hn
  obtain ⟨c0, c1, c2, c3, c4, c5, c6, f7, f8, n9, n10, n11⟩ := h.stc _ _ hcur
  obtain ⟨r0, r1, r2, r3, r4, r5, rf⟩ := h.rdc
  have geR := h.geR
  obtain ⟨geP, geQ⟩ := h.geC hn
  obtain ⟨sg0, sg1⟩ := ok.sgn
  obtain ⟨nu0, nu1⟩ := ok.nums (cur m) (List.mem_of_getElem? hcur)
  have HC : Hid (_ = _) := hcur
  clear hcur
  rw [hx] at r0
  have HX : Hid (_ = _) := hx
  clear hx
  have nrp : r ≠ P (m.st.length - 1) := fun e => n9 e.symm
  have nrq : r ≠ Q (m.st.length - 1) := fun e => n10 e.symm
  have npq : P (m.st.length - 1) ≠ Q (m.st.length - 1) := fun e => n11 e.symm
  by_cases h59 : c = 59
  · subst h59
    have HY : Hid (condStep m 59 = plainStep { setCur m { cur m with num := if m.neg then -(cur m).num else (cur m).num } with state := behindOf m } 59) := by show condStep m 59 = _; unfold condStep; rw [HX.out, if_neg (by decide), if_neg (by decide), if_neg (by decide), if_neg (by decide), if_neg (by decide), if_neg (by decide), if_neg (by decide), if_neg (by decide), if_pos rfl, if_pos (by decide)]
    cases hneg : m.neg
    · rw [hneg] at r4
      have HZ : Hid (condStep m 59 = plainStep { m with state := behindOf m } 59) := HY.out.trans (by
        have e : ({ cur m with num := if m.neg then -(cur m).num else (cur m).num } : St) = cur m := by rw [hneg]; rfl
        rw [e, setCur_cur hn])
      clear hneg HY
      have HR : Hid (Rep _ _ _ _ _ _ _ _ _) := h
      have OK : Hid (Ok m) := ok
      clear h ok
      go_enter Try.func43, Try.ntmps43
      go_wp2_with (first | (go_at_call 53; refine hc.mono ?_; rintro e w' ⟨rfl, k, rfl⟩) | (go_at_call 50; refine (variable_no _ _ (by omega) (by omega) (by omega)).mono ?_; rintro e w' ⟨rfl, rfl⟩))
      have e1 := HR.out.drewN k
      refine (e1.behind (by first | exact hn | (rw [len_setCur]; exact hn)) (by first | exact OK.out.len | (rw [len_setCur]; exact OK.out.len))).mono ?_
      rintro e w' ⟨rfl, k2, rfl⟩
      have e2 := (HR.out.drewN (k + k2)).setRd 0 (.int .u8 (behindOf m)) { m with state := behindOf m } rfl rfl rfl
      have HE : Hid (Rep _ _ _ _ _ _ _ _ _) := e2
      clear e1 e2
      go_wp2_with fail
      refine (HE.out.bytePlain (by first | exact OK.out.len | (show (setCur _ _).st.length ≤ 20; rw [len_setCur]; exact OK.out.len)) OK.out.oplen (by first | exact hn | (show 0 < (setCur _ _).st.length; rw [len_setCur]; exact hn)) (by simpa using hB) _ (by omega) (by omega) (by show behindOf _ = 59 ∨ behindOf _ = 123; exact behind_or _)).mono ?_
      rintro e w' ⟨rfl, hb, hr⟩
      go_wp2
      go_ret
      exact post_via HZ.out (Below.setCell (below_drewN (Below.refl _ _) _) geR _) hb hr
    · rw [hneg] at r4
      have HZ : Hid (condStep m 59 = plainStep { setCur m { cur m with num := -(cur m).num } with state := behindOf m } 59) := HY.out.trans (by rw [hneg]; rfl)
      have HBe : Hid (behindOf (setCur m { cur m with num := -(cur m).num }) = behindOf m) := by show behindOf _ = _; unfold behindOf; rw [cur_setCur hn]
      clear hneg HY
      have HR : Hid (Rep _ _ _ _ _ _ _ _ _) := h
      have OK : Hid (Ok m) := ok
      clear h ok
      go_enter Try.func43, Try.ntmps43
      go_wp2_with (first | (go_at_call 53; refine hc.mono ?_; rintro e w' ⟨rfl, k, rfl⟩) | (go_at_call 50; refine (variable_no _ _ (by omega) (by omega) (by omega)).mono ?_; rintro e w' ⟨rfl, rfl⟩))
      have e1 := (HR.out.drewN k).setC hn { cur m with num := -(cur m).num } 4 (.int .i64 (-(cur m).num)) rfl rfl
      refine (e1.behind (by first | exact hn | (rw [len_setCur]; exact hn)) (by first | exact OK.out.len | (rw [len_setCur]; exact OK.out.len))).mono ?_
      rintro e w' ⟨rfl, k2, rfl⟩
      have e2 := (e1.drewN k2).setRd 0 (.int .u8 (behindOf (setCur m { cur m with num := -(cur m).num }))) { (setCur m { cur m with num := -(cur m).num }) with state := behindOf (setCur m { cur m with num := -(cur m).num }) } rfl rfl rfl
      have HE : Hid (Rep _ _ _ _ _ _ _ _ _) := e2
      clear e1 e2
      go_wp2_with fail
      refine (HE.out.bytePlain (by first | exact OK.out.len | (show (setCur _ _).st.length ≤ 20; rw [len_setCur]; exact OK.out.len)) OK.out.oplen (by first | exact hn | (show 0 < (setCur _ _).st.length; rw [len_setCur]; exact hn)) (by simpa using hB) _ (by omega) (by omega) (by show behindOf _ = 59 ∨ behindOf _ = 123; exact behind_or _)).mono ?_
      rintro e w' ⟨rfl, hb, hr⟩
      go_wp2
      go_ret
      refine post_via (HZ.out.trans ?_) (Below.setCell (below_drewN (Below.setCell (below_drewN (Below.refl _ _) _) geP _) _) geR _) hb hr
      rw [HBe.out]

  by_cases h123 : c = 123
  · subst h123
    clear h59
    have HY : Hid (condStep m 123 = plainStep { setCur m { cur m with num := if m.neg then -(cur m).num else (cur m).num } with state := behindOf m } 123) := by show condStep m 123 = _; unfold condStep; rw [HX.out, if_neg (by decide), if_neg (by decide), if_neg (by decide), if_neg (by decide), if_neg (by decide), if_neg (by decide), if_neg (by decide), if_neg (by decide), if_pos rfl, if_pos (by decide)]
    cases hneg : m.neg
    · rw [hneg] at r4
      have HZ : Hid (condStep m 123 = plainStep { m with state := behindOf m } 123) := HY.out.trans (by
        have e : ({ cur m with num := if m.neg then -(cur m).num else (cur m).num } : St) = cur m := by rw [hneg]; rfl
        rw [e, setCur_cur hn])
      clear hneg HY
      have HR : Hid (Rep _ _ _ _ _ _ _ _ _) := h
      have OK : Hid (Ok m) := ok
      clear h ok
      go_enter Try.func43, Try.ntmps43
      go_wp2_with (first | (go_at_call 53; refine hc.mono ?_; rintro e w' ⟨rfl, k, rfl⟩) | (go_at_call 50; refine (variable_no _ _ (by omega) (by omega) (by omega)).mono ?_; rintro e w' ⟨rfl, rfl⟩))
      have e1 := HR.out.drewN k
      refine (e1.behind (by first | exact hn | (rw [len_setCur]; exact hn)) (by first | exact OK.out.len | (rw [len_setCur]; exact OK.out.len))).mono ?_
      rintro e w' ⟨rfl, k2, rfl⟩
      have e2 := (HR.out.drewN (k + k2)).setRd 0 (.int .u8 (behindOf m)) { m with state := behindOf m } rfl rfl rfl
      have HE : Hid (Rep _ _ _ _ _ _ _ _ _) := e2
      clear e1 e2
      go_wp2_with fail
      refine (HE.out.bytePlain (by first | exact OK.out.len | (show (setCur _ _).st.length ≤ 20; rw [len_setCur]; exact OK.out.len)) OK.out.oplen (by first | exact hn | (show 0 < (setCur _ _).st.length; rw [len_setCur]; exact hn)) (by simpa using hB) _ (by omega) (by omega) (by show behindOf _ = 59 ∨ behindOf _ = 123; exact behind_or _)).mono ?_
      rintro e w' ⟨rfl, hb, hr⟩
      go_wp2
      go_ret
      exact post_via HZ.out (Below.setCell (below_drewN (Below.refl _ _) _) geR _) hb hr
    · rw [hneg] at r4
      have HZ : Hid (condStep m 123 = plainStep { setCur m { cur m with num := -(cur m).num } with state := behindOf m } 123) := HY.out.trans (by rw [hneg]; rfl)
      have HBe : Hid (behindOf (setCur m { cur m with num := -(cur m).num }) = behindOf m) := by show behindOf _ = _; unfold behindOf; rw [cur_setCur hn]
      clear hneg HY
      have HR : Hid (Rep _ _ _ _ _ _ _ _ _) := h
      have OK : Hid (Ok m) := ok
      clear h ok
      go_enter Try.func43, Try.ntmps43
      go_wp2_with (first | (go_at_call 53; refine hc.mono ?_; rintro e w' ⟨rfl, k, rfl⟩) | (go_at_call 50; refine (variable_no _ _ (by omega) (by omega) (by omega)).mono ?_; rintro e w' ⟨rfl, rfl⟩))
      have e1 := (HR.out.drewN k).setC hn { cur m with num := -(cur m).num } 4 (.int .i64 (-(cur m).num)) rfl rfl
      refine (e1.behind (by first | exact hn | (rw [len_setCur]; exact hn)) (by first | exact OK.out.len | (rw [len_setCur]; exact OK.out.len))).mono ?_
      rintro e w' ⟨rfl, k2, rfl⟩
      have e2 := (e1.drewN k2).setRd 0 (.int .u8 (behindOf (setCur m { cur m with num := -(cur m).num }))) { (setCur m { cur m with num := -(cur m).num }) with state := behindOf (setCur m { cur m with num := -(cur m).num }) } rfl rfl rfl
      have HE : Hid (Rep _ _ _ _ _ _ _ _ _) := e2
      clear e1 e2
      go_wp2_with fail
      refine (HE.out.bytePlain (by first | exact OK.out.len | (show (setCur _ _).st.length ≤ 20; rw [len_setCur]; exact OK.out.len)) OK.out.oplen (by first | exact hn | (show 0 < (setCur _ _).st.length; rw [len_setCur]; exact hn)) (by simpa using hB) _ (by omega) (by omega) (by show behindOf _ = 59 ∨ behindOf _ = 123; exact behind_or _)).mono ?_
      rintro e w' ⟨rfl, hb, hr⟩
      go_wp2
      go_ret
      refine post_via (HZ.out.trans ?_) (Below.setCell (below_drewN (Below.setCell (below_drewN (Below.refl _ _) _) geP _) _) geR _) hb hr
      rw [HBe.out]

  have b59 : (c == 59) = false := by simpa using h59
  have b123 : (c == 123) = false := by simpa using h123
  have HY : Hid (condStep m c = digitStep m c false 109) := by show condStep m c = _; unfold condStep; rw [HX.out, if_neg (by decide), if_neg (by decide), if_neg (by decide), if_neg (by decide), if_neg (by decide), if_neg (by decide), if_neg (by decide), if_neg (by decide), if_pos rfl, if_neg (fun e => e.elim h59 h123)]
  clear h59 h123
  by_cases hv : 97 ≤ c ∧ c ≤ 100
  · obtain ⟨hva, hvb⟩ := hv
    have HR : Hid (Rep _ _ _ _ _ _ _ _ _) := h
    have OK : Hid (Ok m) := ok
    clear h ok
    go_enter Try.func43, Try.ntmps43
    go_wp2_with (first | (go_at_call 53; refine hc.mono ?_; rintro e w' ⟨rfl, k, rfl⟩) | (go_at_call 50; refine (variable_yes c _ hva hvb).mono ?_; rintro e w' ⟨rfl, rfl⟩))
    refine ((HR.out.drewN k).digit OK.out hn c false h0 h1 109).mono ?_
    rintro e w' ⟨rfl, hb, hr⟩
    go_wp2
    go_ret
    exact post_via HY.out (below_drewN (Below.refl _ _) _) hb hr
  · have HR : Hid (Rep _ _ _ _ _ _ _ _ _) := h
    have OK : Hid (Ok m) := ok
    clear h ok
    go_enter Try.func43, Try.ntmps43
    go_wp2_with (first | (go_at_call 53; refine hc.mono ?_; rintro e w' ⟨rfl, k, rfl⟩) | (go_at_call 50; refine (variable_no _ _ (by omega) (by omega) (by omega)).mono ?_; rintro e w' ⟨rfl, rfl⟩))
    refine ((HR.out.drewN k).digit OK.out hn c false h0 h1 109).mono ?_
    rintro e w' ⟨rfl, hb, hr⟩
    go_wp2
    go_ret
    exact post_via HY.out (below_drewN (Below.refl _ _) _) hb hr

end Go.Proofs.Ytjbpfbgemidleaa

