import Derived.Test.YtffjklakdnfeiaaDoorJ16
namespace Go.Proofs.YtffjklakdnfeiaaDoor
open Go.RowKit
variable {w : World}

theorem ovS {l : List Int} (ho : okL l) : Sm (ovM l) := ah_sm (lay_range l 32 ho.2) 64 (Nat.le_refl _)
theorem rdsOk {v : Value} {l : List Int} (hG : Glob w) (hl : okL l) (hv : Reads w v l) : RdS w v (ovE l) (ovM l) 0 := fun _ hb => o_read_ok (hG.keep hb hG.size) v l hl (hv.keep hb)
theorem rdsNo {v : Value} {l : List Int} (hG : Glob w) (hl : ¬ okL l) (hv : Reads w v l) : RdS w v false (fun _ => 0) 3 := fun w1 hb => (o_read (hG.keep hb hG.size) v l (hv.keep hb)).mono fun e w' h => ⟨by
  rcases h.2 with ⟨h', _⟩ | ⟨_, h'⟩
  · exact absurd h' hl
  · exact h', h.1⟩
theorem Reads.isSlice {v : Value} {l : List Int} (h : Reads w v l) : ∃ a n k, v = .slice a n k := by
  obtain ⟨ao, cap, rfl, -, -⟩ := h
  exact ⟨_, _, _, rfl⟩
theorem Reads.lent {l : List Int} {g : Nat} (h : At w g (lentCells l) tN) : Reads w (.slice (some ⟨g, 0, none⟩) l.length (l.length + 2)) l := by
  have := h.lt
  refine ⟨_, _, rfl, by omega, fun _ => ⟨g, 0, rfl, this, fun i hi => ?_⟩⟩
  rw [Nat.zero_add, h.cell]
  unfold lentCells
  rw [ic_get _ _ (by simp; omega)]
  simp [List.getD, List.getElem?_append_left hi]

set_option maxRecDepth 100000 in
set_option maxHeartbeats 1600000 in
theorem w_close_no (u : Value) (M : Nat → Int) (e1 : Bool) (c : Int) (hc : c ≠ 0) (hr : RdS w u e1 M c) (hu : ∃ a n k, u = .slice a n k) :
    Calls Tryd.prog 9 #[u] w fun x w' => Below w.heap.size w w' ∧ x = .returned (.tuple #[.slice none 0 0, .int .i64 c]) := by
  have hz := o_zero
  have hr1 := hr w (Below.refl _ _)
  have hcb : (c != 0) = true := by rw [bne_iff_ne]; exact hc
  obtain ⟨au, nu, cu, rfl⟩ := hu
  clear hr hc
  go_enter Tryd.func9, Tryd.ntmps9
  go_wp2_with fail
  refine hr1.mono ?_
  rintro e w1 ⟨rfl, hb1⟩
  obtain ⟨w2, hst2, hat2, hb2, hs2⟩ := o_fresh w1 e1 M
  have H2 : Hid (Below w.heap.size w w2) := hb1.trans (hb2.mono hb1.size)
  clear hb1 hat2 hb2
  go_wp2_with fail
  go_ret2
  exact ⟨H2.out, rfl⟩

/-- What the program's Close says. -/
theorem w_close_any (hG : Glob w) (u : Value) (l : List Int) (hu : Reads w u l) : Calls Tryd.prog 9 #[u] w (DClose w l) := by
  by_cases hok : okL l
  · exact (w_close hG u (rdsOk hG hok hu) (ovS hok) hu.isSlice).mono fun e w' h => .inl ⟨hok, h⟩
  · exact (w_close_no u _ _ 3 (by decide) (rdsNo hG hok hu) hu.isSlice).mono fun e w' h => .inr ⟨hok, h⟩

/-- Two answers of one kind: what 'result' says of them. -/
theorem bdL_len (M : Nat → Int) : (bdL M).length = 32 := by simp [bdL]
theorem l_result_two {w1 w2 w3 : World} {e : Bool} {M : Nat → Int} {y z : Value} (h1 : LSays w1 e M (.returned y) w2) (h2 : LSays w2 e M (.returned z) w3) :
    Calls Tryd.prog 11 #[y, z] w3 fun x w' => x = .returned (.bool true) ∧ Below w1.heap.size w3 w' := by
  obtain ⟨hb1, h1⟩ := h1
  obtain ⟨hb2, h2⟩ := h2
  rcases h1 with ⟨e1, h1⟩ | ⟨e1, g, h1, hg, ha⟩
  · rcases h2 with ⟨e2, h2⟩ | ⟨e2, _⟩
    · cases h1
      cases h2
      refine (l_result_nil w3).mono ?_
      rintro x w' ⟨rfl, k, rfl⟩
      exact ⟨rfl, below_drewN (Below.refl _ _) k⟩
    · rw [e1] at e2; cases e2
  · rcases h2 with ⟨e2, h2⟩ | ⟨e2, q, h2, hq, hqa⟩
    · rw [e1] at e2; cases e2
    · cases h1
      cases h2
      have hl := bdL_len M
      have := l_result w3 g 32 (.slice (some ⟨q, 0, none⟩) 32 32) (bdL M) (ic (bdL M)) (ha.keep hb2 ha.lt) (by rw [ic_size, hl]) (by omega) (by omega) (fun i hi => ic_get _ _ hi) (Reads.at_ hqa hl (Nat.le_refl _) (fun i hi => ic_get _ _ (by omega))) (by intro n k e; cases e)
      rw [hl] at this
      exact this.mono fun x w' h => ⟨h.1, h.2.mono hg⟩

set_option maxRecDepth 100000 in
set_option maxHeartbeats 1600000 in
theorem closes_walk (hG : Glob w) (v : Value) (L : List Int) (hL : L.length ≤ maxLen) (hv : Reads w v L) :
    Calls Tryd.prog 3 #[v] w fun e w' => e = .returned (.bool true) ∧ Below w.heap.size w w' := by
  unfold maxLen at hL
  by_cases hbig : 1073741824 < L.length
  · obtain ⟨ao, cap, rfl, -, -⟩ := hv
    have hb' : (1073741824 : Int) < (L.length : Int) := by omega
    clear hG
    go_enter Tryd.func3, Tryd.ntmps3
    go_wp2_with fail
    go_ret
    exact ⟨rfl, Below.refl _ _⟩
  have hL2 : L.length ≤ 1073741824 := by omega
  have hb' : ¬ (1073741824 : Int) < (L.length : Int) := by omega
  have hlent := l_lent w v L hL2 hv
  have HV : Hid (Reads w v L) := hv
  have HCl : Hid (∀ w1, Below w.heap.size w w1 → At w1 w.heap.size (lentCells L) tN → Calls Tryd.prog 9 #[.slice (some ⟨w.heap.size, 0, none⟩) L.length (L.length + 2)] w1 (DClose w1 L)) := fun w1 hb1 hat => w_close_any (hG.keep hb1 hG.size) _ L (Reads.lent hat)
  have HRef : Hid (∀ w1, Below w.heap.size w w1 → Calls Tryd.prog 10 #[v] w1 (DClose w1 L)) := fun w1 hb1 => r_close v L hL2 (HV.out.keep hb1)
  obtain ⟨ao, cap, rfl, -, -⟩ := id hv
  clear hv hL hbig hG
  go_enter Tryd.func3, Tryd.ntmps3
  go_wp2_with fail
  refine hlent.mono ?_
  rintro e w1 ⟨rfl, hb1, hat1, hs1⟩
  have HB1 : Hid (Below w.heap.size w w1) := hb1
  have HA1 : Hid (At w1 w.heap.size (lentCells L) tN) := hat1
  clear hb1 hat1 hlent
  go_wp2_with fail
  refine (HCl.out w1 HB1.out HA1.out).mono ?_
  rintro e w2 (⟨hok, y, hy, rfl⟩ | ⟨hno, hb2, rfl⟩)
  · have HK : Hid (okL L) := hok
    have HB2 : Hid (Below w.heap.size w w2) := HB1.out.trans (hy.1.mono (by omega))
    have HA2 : Hid (At w2 w.heap.size (lentCells L) tN) := HA1.out.keep hy.1 hs1
    have hs2 : w1.heap.size ≤ w2.heap.size := hy.1.size
    obtain ⟨y', e', a, n, c, rfl⟩ := hy.val
    cases e'
    have HY : Hid (LSays w1 (ovE L) (ovM L) (.returned (.slice a n c)) w2) := hy
    clear hy hok
    go_wp2_with fail
    refine (HRef.out w2 HB2.out).mono ?_
    rintro e w3 (⟨-, z, hz, rfl⟩ | ⟨hno, -, -⟩)
    · have HB3 : Hid (Below w.heap.size w w3) := HB2.out.trans (hz.1.mono (by omega))
      have HA3 : Hid (At w3 w.heap.size (lentCells L) tN) := HA2.out.keep hz.1 (by omega)
      have hres := l_result_two HY.out hz
      obtain ⟨z', e', a', n', c', rfl⟩ := hz.val
      cases e'
      clear hz
      go_wp2_with fail
      refine hres.mono ?_
      rintro e w4 ⟨rfl, hb4⟩
      have HB4 : Hid (Below w.heap.size w w4) := HB3.out.trans (hb4.mono (by omega))
      have hwh := l_whole w4 w.heap.size (.slice ao L.length cap) L hL2 (HA3.out.keep hb4 (by omega)) (HV.out.keep HB4.out)
      clear hb4 hres
      go_wp2_with fail
      refine hwh.mono ?_
      rintro e w5 ⟨rfl, k', rfl⟩
      go_wp2_with fail
      go_ret
      exact ⟨rfl, below_drewN HB4.out k'⟩
    · exact absurd HK.out hno
  · have HK : Hid (¬ okL L) := hno
    have HB2 : Hid (Below w.heap.size w w2) := HB1.out.trans (hb2.mono (by omega))
    have HA2 : Hid (At w2 w.heap.size (lentCells L) tN) := HA1.out.keep hb2 hs1
    have hs2 : w1.heap.size ≤ w2.heap.size := hb2.size
    clear hb2 hno
    go_wp2_with fail
    refine (HRef.out w2 HB2.out).mono ?_
    rintro e w3 (⟨hok, -⟩ | ⟨-, hb3, rfl⟩)
    · exact absurd hok HK.out
    · have HB3 : Hid (Below w.heap.size w w3) := HB2.out.trans (hb3.mono (by omega))
      have HA3 : Hid (At w3 w.heap.size (lentCells L) tN) := HA2.out.keep hb3 (by omega)
      clear hb3
      go_wp2_with fail
      refine (l_result_nil w3).mono ?_
      rintro e w4 ⟨rfl, k, rfl⟩
      have hwh := l_whole (w3.drewN k) w.heap.size (.slice ao L.length cap) L hL2 (HA3.out.drewN k) (HV.out.keep (below_drewN HB3.out k))
      go_wp2_with fail
      refine hwh.mono ?_
      rintro e w5 ⟨rfl, k', rfl⟩
      go_wp2_with fail
      go_ret
      exact ⟨rfl, below_drewN HB3.out (k + k')⟩

end Go.Proofs.YtffjklakdnfeiaaDoor

namespace Go.Proofs.YtffjklakdnfeiaaDoor
open Go.RowKit
variable {w : World}

/-- What the program's Safe answers. -/
def safeP (s : ByteArray) (p : Int) (o : List Int) : Bool × Int :=
  match progOf (bytesOf s) with
  | none => (false, 1)
  | some m => if p < 0 ∨ (m.st.length : Int) ≤ p then (false, 2) else if gdB o = true then (sfP (ovE o) (ovM o) ((readZ s).2.getD p.toNat (newDs 0 0)), 0) else (false, 3)
def bi (x : Bool × Int) : Ending := .returned (.tuple #[.bool x.1, .int .i64 x.2])

/-- What a statement of the document's keeps to. -/
structure StG (u : St) : Prop where
  len : u.sg.length = 4
  sg : ∀ i, -1 ≤ gAt u.sg i ∧ gAt u.sg i ≤ 1
  num : -99 ≤ u.num ∧ u.num ≤ 99
  nz : nz u.sg ≤ 2
theorem stg_no : StG noSt := ⟨rfl, fun i => by
  rcases (show i = 0 ∨ i = 1 ∨ i = 2 ∨ i = 3 ∨ 4 ≤ i by omega) with rfl | rfl | rfl | rfl | h4
  · exact ⟨by decide, by decide⟩
  · exact ⟨by decide, by decide⟩
  · exact ⟨by decide, by decide⟩
  · exact ⟨by decide, by decide⟩
  · have : gAt noSt.sg i = 0 := by unfold gAt noSt; rw [List.getD_eq_getElem?_getD, List.getElem?_eq_none (by simp; omega)]; rfl
    omega, by decide, by decide⟩
theorem stg_of {l : List Int} {m : Rd} (hp : progOf l = some m) (k : Nat) : StG (m.st.getD k noSt) := by
  obtain ⟨_, ⟨n, hr⟩, _, _⟩ := progOf_some hp
  obtain ⟨hg, ok⟩ := gd_from (m := init) (m' := m) (fun s hs => absurd hs (by simp [init])) Ok.init hr
  have hc := cn_from (m := init) (m' := m) ⟨fun s hs => absurd hs (by simp [init]), by decide⟩ Ok.init hr
  rw [List.getD_eq_getElem?_getD]
  cases e : m.st[k]? with
  | none => exact stg_no
  | some u =>
    have hu := List.mem_of_getElem? e
    have hl := ok.sgl u hu
    refine ⟨hl, fun i => ?_, ok.nums u hu, hc.all u hu⟩
    show -1 ≤ gAt u.sg i ∧ gAt u.sg i ≤ 1
    unfold gAt
    rw [List.getD_eq_getElem?_getD]
    cases e2 : u.sg[i]? with
    | none => exact ⟨by decide, by decide⟩
    | some x => exact (hg u hu).2.2 x (List.mem_of_getElem? e2)

theorem dsg_of {l : List Int} {m : Rd} {F : List Ds} (hp : progOf l = some m) (hW : Whole F m.st) {k : Nat} (hk : k < F.length) : DsG (F.getD k (newDs 0 0)) ∧ Cor (F.getD k (newDs 0 0)) (m.st.getD k noSt) := by
  have hl := hW.1.len
  have hx := gets' hk
  have hu : m.st[k]? = some (m.st.getD k noSt) := by rw [List.getD_eq_getElem?_getD, List.getElem?_eq_getElem (by omega)]; rfl
  have hc := hW.1.cor k _ _ hx hu
  have hg := stg_of hp k
  obtain ⟨_, _, _, c3, c4⟩ := id hc
  exact ⟨⟨by rw [← c3]; exact hg.sg, by rw [← c4]; exact hg.num⟩, hc⟩

set_option maxRecDepth 100000 in
set_option maxHeartbeats 3200000 in
theorem w_safe (hG : Glob w) (s : ByteArray) (p : Int) (u : Value) (o : List Int) (hm : s.size ≤ maxLen) (hu : Reads w u o) :
    Calls Tryd.prog 19 #[.string s, .int .i64 p, u] w fun e w' => e = bi (safeP s p o) ∧ Below w.heap.size w w' := by
  have hr := d_read s w hm
  have hl := bytesOf_len s
  have hz := o_zero
  have bad : progOf (bytesOf s) = none → (∀ e w', DReadPost w s e w' → ∃ c : Int, e = .returned (.tuple #[.agg #[.slice none 0 0], .int .i64 1, .int .i64 c]) ∧ Below w.heap.size w w') →
      Calls Tryd.prog 19 #[.string s, .int .i64 p, u] w fun e w' => e = bi (safeP s p o) ∧ Below w.heap.size w w' := by
    intro hp hq
    have HE : Hid (safeP s p o = (false, 1)) := by show safeP _ _ _ = _; unfold safeP; rw [hp]
    have hr' := hr.mono hq
    obtain ⟨au, cu, rfl, -, -⟩ := hu
    clear hr hp hq hm hl hG
    go_enter Tryd.func19, Tryd.ntmps19
    go_wp2_with fail
    refine hr'.mono ?_
    rintro e w1 ⟨c, rfl, hb⟩
    go_wp2_with fail
    go_ret2
    exact ⟨by rw [HE.out]; rfl, hb.alloc hb.size _⟩
  by_cases h160 : 160 < s.size
  · refine bad (by unfold progOf; rw [if_pos (by omega)]) ?_
    rintro e w' ⟨hb, h | h | h⟩
    · exact ⟨0, h.2, hb⟩
    · exact absurd h.1 (by omega)
    · exact absurd h.1 (by omega)
  rcases prog_whole s (by omega) with ⟨hg, hp⟩ | ⟨m, hg, hp, hW⟩
  · refine bad hp ?_
    rintro e w' ⟨hb, h | h | h⟩
    · exact absurd h.1 h160
    · exact ⟨_, h.2.2, hb⟩
    · exact absurd h.2.1 (by rw [hg]; decide)
  clear bad
  have hlen : (readZ s).2.length ≤ 20 := (rStmts_goes s 22 (-1) 0 0 ((0, false), []) ⟨Nat.zero_le _, Nat.zero_le _⟩).ok.len
  have hSl : (readZ s).2.length = m.st.length := hW.1.len
  have hr' := hr.mono (R' := fun e w' => ∃ v, e = .returned (.tuple #[.agg #[v], .int .i64 0, .int .i64 0]) ∧ Below w.heap.size w w' ∧ w'.ownsRow w.heap.size tDs 10 v (readZ s).2.length (flat (readZ s).2)) (by
    rintro e w' ⟨hb, h | h | h⟩
    · exact absurd h.1 h160
    · exact absurd h.2.1 (by rw [hg]; decide)
    · obtain ⟨_, _, v, he, hrow⟩ := h
      exact ⟨v, he, hb, hrow⟩)
  have HE : Hid (safeP s p o = if p < 0 ∨ (m.st.length : Int) ≤ p then (false, 2) else if gdB o = true then (sfP (ovE o) (ovM o) ((readZ s).2.getD p.toNat (newDs 0 0)), 0) else (false, 3)) := by show safeP _ _ _ = _; unfold safeP; rw [hp]
  have HW : Hid (Whole (readZ s).2 m.st ∧ progOf (bytesOf s) = some m) := ⟨hW, hp⟩
  have HSl : Hid ((readZ s).2.length = m.st.length) := hSl
  have HG : Hid (Glob w) := hG
  have HU : Hid (Reads w u o) := hu
  obtain ⟨au, cu, rfl, -, -⟩ := id hu
  clear hr hm hl h160 hg hp hW hSl hG hu
  generalize (readZ s).2 = F at *
  by_cases hout : p < 0 ∨ (F.length : Int) ≤ p
  · have HE2 : Hid (safeP s p o = (false, 2)) := HE.out.trans (if_pos (by have := HSl.out; omega))
    have HAt : Hid (∀ w1 ao cap, Calls Tryd.prog 39 #[.agg #[.slice ao F.length cap], .int .i64 p] w1 fun e w' => e = .returned (.tuple #[dsv zDs, .int .i64 2]) ∧ Below w1.heap.size w1 w') := fun w1 ao cap => d_at_out ao _ hlen p hout
    unfold dsv zDs newDs at HAt
    clear HE
    go_enter Tryd.func19, Tryd.ntmps19
    go_wp2_with fail
    refine hr'.mono ?_
    rintro e w1 ⟨v, rfl, hb, hrow⟩
    obtain ⟨ao, cap, rfl⟩ : ∃ ao cap, v = .slice ao F.length cap := by
      obtain ⟨_, h2⟩ := hrow
      rcases h2 with ⟨rfl, e⟩ | ⟨g, cap, c, rfl, _⟩
      · exact ⟨none, 0, by rw [e]⟩
      · exact ⟨_, cap, rfl⟩
    clear hrow
    go_wp2_with fail
    refine (HAt.out _ ao cap).mono ?_
    rintro e w2 ⟨rfl, hb2⟩
    have H2 : Hid (Below w.heap.size w w2) := (hb.alloc hb.size _).trans (hb2.mono (by have := hb.size; simp; omega))
    clear hb hb2 hr'
    go_wp2_with fail
    go_ret2
    exact ⟨by rw [HE2.out]; rfl, H2.out.alloc H2.out.size _⟩
  · obtain ⟨k, rfl⟩ : ∃ k : Nat, p = k := ⟨p.toNat, by omega⟩
    have hk : k < F.length := by omega
    have HD := dsg_of HW.out.2 HW.out.1 hk
    have HDg : Hid (DsG (F.getD k (newDs 0 0))) := HD.1
    have HAt : Hid (∀ w1 g cap, PRow w1 g F → Calls Tryd.prog 39 #[.agg #[.slice (some ⟨g, 0, none⟩) F.length cap], .int .i64 (k : Int)] w1 fun e w' => e = .returned (.tuple #[dsv (F.getD k (newDs 0 0)), .int .i64 0]) ∧ Below w1.heap.size w1 w') := fun w1 g cap hP => d_at_in hP k hk
    have HE2 : Hid (safeP s k o = if gdB o = true then (sfP (ovE o) (ovM o) (F.getD k (newDs 0 0)), 0) else (false, 3)) := HE.out.trans (if_neg (by have := HSl.out; omega))
    clear HE hout HD
    generalize F.getD k (newDs 0 0) = x at *
    by_cases hok : okL o
    · have HE3 : Hid (safeP s k o = (sfP (ovE o) (ovM o) x, 0)) := HE2.out.trans (if_pos (gdB_ok.2 hok))
      have HRd : Hid (∀ w1, Below w.heap.size w w1 → Calls Tryd.prog 23 #[.slice au o.length cu] w1 fun e w' => e = .returned (.tuple #[.agg (oc (ovE o) (ovM o)), .int .i64 0]) ∧ Below w1.heap.size w1 w') := fun w1 hb => o_read_ok (HG.out.keep hb HG.out.size) _ o hok (HU.out.keep hb)
      have HSf : Hid (∀ w1, Calls Tryd.prog 40 #[dsv x, .agg (oc (ovE o) (ovM o))] w1 fun e w' => e = .returned (.bool (sfP (ovE o) (ovM o) x)) ∧ Below w1.heap.size w1 w') := fun w1 => e_safe x HDg.out (ovS hok)
      clear HE2 hok
      generalize sfP (ovE o) (ovM o) x = sf at *
      generalize ovE o = e1 at *
      generalize ovM o = M at *
      unfold dsv at HAt HSf
      go_enter Tryd.func19, Tryd.ntmps19
      go_wp2_with fail
      refine hr'.mono ?_
      rintro e w1 ⟨v, rfl, hb, hrow⟩
      obtain ⟨g, cap, rfl⟩ : ∃ g cap, v = .slice (some ⟨g, 0, none⟩) F.length cap := by
        obtain ⟨_, h2⟩ := hrow
        rcases h2 with ⟨_, e⟩ | ⟨g, cap, c, rfl, _⟩
        · omega
        · exact ⟨g, cap, rfl⟩
      have HPr : Hid (PRow w1 g F) := prow_of hrow rfl (hrow.lt g rfl).2
      clear hrow
      go_wp2_with fail
      refine (HAt.out _ g cap (HPr.out.keep ((Below.refl _ _).alloc (Nat.le_refl _) _))).mono ?_
      rintro e w2 ⟨rfl, hb2⟩
      have H2 : Hid (Below w.heap.size w w2) := (hb.alloc hb.size _).trans (hb2.mono (by have := hb.size; simp; omega))
      have hrd := fun ob => HRd.out (w2.alloc ob) (H2.out.alloc H2.out.size _)
      have HRd2 : Hid (∀ ob, Calls Tryd.prog 23 #[.slice au o.length cu] (w2.alloc ob) fun e w' => e = .returned (.tuple #[.agg (oc e1 M), .int .i64 0]) ∧ Below (w2.alloc ob).heap.size (w2.alloc ob) w') := hrd
      clear hb hb2 hr' hrd
      go_wp2_with fail
      refine (HRd2.out _).mono ?_
      rintro e w3 ⟨rfl, hb3⟩
      obtain ⟨w4, hst4, hat4, hb4, hs4⟩ := o_fresh w3 e1 M
      have hs3 : w2.heap.size + 1 ≤ w3.heap.size := by have := hb3.size; simpa using this
      have hA3 : At w3 w2.heap.size (dsCells x) tDs := At.keep (At.new w2 (dsCells x) tDs) hb3 (by simp)
      have H4 : Hid (OAt w4 w3.heap.size e1 M ∧ At w4 w2.heap.size (dsCells x) tDs ∧ Below w.heap.size w w4) := ⟨hat4, hA3.keep hb4 hA3.lt, ((H2.out.alloc H2.out.size _).trans (hb3.mono (by have := H2.out.size; simp; omega))).trans (hb4.mono (by have := H2.out.size; omega))⟩
      clear hb3 hat4 hb4 hA3
      have y0 : w4.cell? ⟨w2.heap.size, 0, none⟩ = some (.int .i64 x.kind) := H4.out.2.1.cell 0
      have y1 : w4.cell? ⟨w2.heap.size, 1, none⟩ = some (.int .i64 x.target) := H4.out.2.1.cell 1
      have y2 : w4.cell? ⟨w2.heap.size, 2, none⟩ = some (.bool x.any) := H4.out.2.1.cell 2
      have y3 : w4.cell? ⟨w2.heap.size, 3, none⟩ = some (.int .i64 (sgAt x.sg 0)) := H4.out.2.1.cell 3
      have y4 : w4.cell? ⟨w2.heap.size, 4, none⟩ = some (.int .i64 (sgAt x.sg 1)) := H4.out.2.1.cell 4
      have y5 : w4.cell? ⟨w2.heap.size, 5, none⟩ = some (.int .i64 (sgAt x.sg 2)) := H4.out.2.1.cell 5
      have y6 : w4.cell? ⟨w2.heap.size, 6, none⟩ = some (.int .i64 (sgAt x.sg 3)) := H4.out.2.1.cell 6
      have y7 : w4.cell? ⟨w2.heap.size, 7, none⟩ = some (.int .i64 x.num) := H4.out.2.1.cell 7
      have y8 : w4.cell? ⟨w2.heap.size, 8, none⟩ = some (.int .i64 x.parent) := H4.out.2.1.cell 8
      have y9 : w4.cell? ⟨w2.heap.size, 9, none⟩ = some (.int .i64 x.block) := H4.out.2.1.cell 9
      go_wp2_with (refine wpList_load_o rfl (.tmp 12) rfl rfl H4.out.1 ?_)
      refine (HSf.out w4).mono ?_
      rintro e w5 ⟨rfl, hb5⟩
      go_wp2_with fail
      go_ret2
      exact ⟨by rw [HE3.out]; rfl, H4.out.2.2.trans (hb5.mono H4.out.2.2.size)⟩
    · have HE3 : Hid (safeP s k o = (false, 3)) := HE2.out.trans (if_neg (fun z => hok (gdB_ok.1 z)))
      have HRd : Hid (∀ w1, Below w.heap.size w w1 → Calls Tryd.prog 23 #[.slice au o.length cu] w1 fun e w' => e = .returned (.tuple #[.agg (oc false fun _ => 0), .int .i64 3]) ∧ Below w1.heap.size w1 w') := fun w1 hb => rdsNo HG.out hok HU.out w1 hb
      clear HE2 hok
      unfold dsv at HAt
      go_enter Tryd.func19, Tryd.ntmps19
      go_wp2_with fail
      refine hr'.mono ?_
      rintro e w1 ⟨v, rfl, hb, hrow⟩
      obtain ⟨g, cap, rfl⟩ : ∃ g cap, v = .slice (some ⟨g, 0, none⟩) F.length cap := by
        obtain ⟨_, h2⟩ := hrow
        rcases h2 with ⟨_, e⟩ | ⟨g, cap, c, rfl, _⟩
        · omega
        · exact ⟨g, cap, rfl⟩
      have HPr : Hid (PRow w1 g F) := prow_of hrow rfl (hrow.lt g rfl).2
      clear hrow
      go_wp2_with fail
      refine (HAt.out _ g cap (HPr.out.keep ((Below.refl _ _).alloc (Nat.le_refl _) _))).mono ?_
      rintro e w2 ⟨rfl, hb2⟩
      have H2 : Hid (Below w.heap.size w w2) := (hb.alloc hb.size _).trans (hb2.mono (by have := hb.size; simp; omega))
      have HRd2 : Hid (∀ ob, Calls Tryd.prog 23 #[.slice au o.length cu] (w2.alloc ob) fun e w' => e = .returned (.tuple #[.agg (oc false fun _ => 0), .int .i64 3]) ∧ Below (w2.alloc ob).heap.size (w2.alloc ob) w') := fun ob => HRd.out (w2.alloc ob) (H2.out.alloc H2.out.size _)
      clear hb hb2 hr'
      go_wp2_with fail
      refine (HRd2.out _).mono ?_
      rintro e w3 ⟨rfl, hb3⟩
      obtain ⟨w4, hst4, hat4, hb4, hs4⟩ := o_fresh w3 false (fun _ => 0)
      have hs3 : w2.heap.size + 1 ≤ w3.heap.size := by have := hb3.size; simpa using this
      have H4 : Hid (Below w.heap.size w w4) := ((H2.out.alloc H2.out.size _).trans (hb3.mono (by have := H2.out.size; simp; omega))).trans (hb4.mono (by have := H2.out.size; omega))
      clear hb3 hat4 hb4
      go_wp2_with fail
      go_ret2
      exact ⟨by rw [HE3.out]; rfl, H4.out⟩

end Go.Proofs.YtffjklakdnfeiaaDoor

namespace Go.Proofs.YtffjklakdnfeiaaDoor
open Go.RowKit
variable {B : Nat} {w : World} {r : Nat} {m : Rd} {vs vo : Value} {P Q O : Nat → Nat}

/-- Is it safe: the document. -/
def sfD (e : Bool) (C : Nat → Int) (u : St) : Bool :=
  if e = true then true else if u.kind = 61 then u.star || decide (grD C u.sg ≠ NB ∧ grD C (ngL u.sg) ≠ NB ∧ grD C u.sg + u.num ≤ 999 ∧ grD C (ngL u.sg) - u.num ≤ 999)
  else if u.kind = 33 then !u.star && decide (grD C u.sg ≤ u.num) else true
theorem bd_rng {M : Nat → Int} (hS : Sm M) {f : Nat} (hf : f < 32) : -1000000000000 ≤ bd M f ∧ bd M f ≤ 1000000000000 := mo_rng hS (fs_lt f hf) (ss_lt f hf)
theorem grD_rng {M : Nat → Int} (hS : Sm M) (hC : M (0 * 8 + 1) = 0) {l : List Int} (hl : l.length = 4) (h : ∀ i, -1 ≤ gAt l i ∧ gAt l i ≤ 1) (h2 : nz l ≤ 2) : -1000000000000 ≤ grD M l ∧ grD M l ≤ 1000000000000 := by
  rw [← (grP_grD hC hl h h2).1]
  exact grP_rng hS l
def pnL (l : List Int) : Nat → List Int
  | 0 => [0, 0, 0, 0]
  | j + 1 => (pnL l j).set j (-gAt l j)
theorem pnL_4 (l : List Int) : pnL l 4 = ngL l := rfl
theorem pnL_at (l : List Int) {j : Nat} (hj : j < 4) : (pnL l j).length = 4 ∧ (pnL l j).getD j 0 = 0 := by
  rcases (show j = 0 ∨ j = 1 ∨ j = 2 ∨ j = 3 by omega) with rfl | rfl | rfl | rfl <;> exact ⟨rfl, rfl⟩
theorem ngL_len (l : List Int) : (ngL l).length = 4 := rfl

/-- What the walk needs of the statement. -/
structure StW (w : World) (r k : Nat) (u : St) (len : Nat) : Prop where
  ex : ∃ g cap p q, w.cell? ⟨r, 1, none⟩ = some (.slice (some ⟨g, 0, none⟩) len cap) ∧ w.cell? ⟨g, k, none⟩ = some (.pointer (some ⟨p, 0, none⟩)) ∧ w.cell? ⟨p, 0, none⟩ = some (.int .u8 u.kind) ∧ w.cell? ⟨p, 2, none⟩ = some (.bool u.star) ∧
    w.cell? ⟨p, 3, none⟩ = some (.slice (some ⟨q, 0, none⟩) 4 4) ∧ w.cell? ⟨p, 4, none⟩ = some (.int .i64 u.num) ∧ At w q (ic u.sg) tNk ∧ p < w.heap.size ∧ g < w.heap.size ∧ r < w.heap.size
theorem Rep.stw (h : Rep B w r m vs vo P Q O) {k : Nat} (hk : k < m.st.length) : StW w r k (m.st.getD k noSt) m.st.length := by
  obtain ⟨g, cap, hvs, hrow, _⟩ := h.row (by omega)
  obtain ⟨r0, r1, _⟩ := h.rdc
  have hg := Rep.gets hk
  obtain ⟨c0, _, c2, c3, c4, _⟩ := h.stc k _ hg
  obtain ⟨a, b⟩ := h.st k _ hg
  rw [hvs] at r1
  have hgl := World.block_lt_of_cell? w _ (hrow k hk)
  exact ⟨g, cap, P k, Q k, r1, hrow k hk, c0, c2, c3, c4, b, a.lt, hgl, h.rd.lt⟩

set_option maxRecDepth 100000 in
set_option maxHeartbeats 3200000 in
theorem r_safe (h : Rep B w r m vs vo P Q O) (k : Nat) (hk : k < m.st.length) (hu : StG (m.st.getD k noSt)) (v : Value) (o : List Int) (ho : okL o) (hv : Reads w v o) :
    Calls Tryd.prog 41 #[.pointer (some ⟨r, 0, none⟩), .int .i64 (k : Int), v] w fun e w' => e = .returned (.bool (sfD (ovE o) (ovM o) (m.st.getD k noSt))) ∧ Below w.heap.size w w' := by
  have hq1 : ∀ (w : World) (a : Option Addr) (n c : Nat), (binOp .eql 22 (.slice a n c) (.slice none 0 0)).run Tryd.prog w = .ok (.bool a.isNone) w := fun w a n c => Lib.run_eql_slice_nil w 22 tN a n c 0 0 Tryd.underlying22
  have hmk : ∀ w, (Instr.makeSlice 22 (.int .i64 4) (.int .i64 4)).run Tryd.prog w = .ok (.slice (some ⟨w.heap.size, 0, none⟩) 4 4) (w.alloc (.cells #[.int .i64 0, .int .i64 0, .int .i64 0, .int .i64 0] tNk)) := fun _ => by kernel_rfl
  have hcl := r_closed_ok v o ho hv
  have StK : Hid (∀ w1, Below w.heap.size w w1 → StW w1 r k (m.st.getD k noSt) m.st.length) := fun w1 hb => (h.keep hb).stw hk
  have hki : (k : Int) < (m.st.length : Int) := by omega
  have hS := ovS ho
  have HTC : Hid (ovE o = false → ovM o (0 * 8 + 1) = 0) := fun he => ((raw_lay ho).tc he).zero 0 (by omega)
  obtain ⟨ao, ca, rfl, -, -⟩ := hv
  clear h ho
  generalize m.st.getD k noSt = u at *
  generalize ovM o = C at *
  generalize hE : ovE o = e0 at *
  clear hE
  cases e0 with
  | true =>
    have HE : Hid (sfD true C u = true) := rfl
    clear HTC hS
    go_enter Tryd.func41, Tryd.ntmps41
    go_wp2_with fail
    refine hcl.mono ?_
    rintro e w1 ⟨hb1, ⟨-, rfl⟩ | ⟨he, -⟩⟩
    · have hrw := StK.out w1 hb1
      obtain ⟨g, cap, p, q, x1, x2, x3, x4, x5, x6, hq, hpl, hgl, hrl⟩ := hrw.ex
      have HQ : Hid (At w1 q (ic u.sg) tNk ∧ Below w.heap.size w w1) := ⟨hq, hb1⟩
      clear hrw hq
      clear hb1 hcl
      go_wp2_with fail
      go_ret
      exact ⟨ret_b' HE.out, HQ.out.2⟩
    · cases he
  | false =>
  have hC0 := HTC.out rfl
  have HGr : Hid (∀ w1 gq vv (l : List Int), At w1 gq (ic (bdL C)) tNo → Reads w1 vv l → l.length = 4 → (∀ i, -1 ≤ gAt l i ∧ gAt l i ≤ 1) → nz l ≤ 2 → Calls Tryd.prog 65 #[.slice (some ⟨gq, 0, none⟩) 32 32, vv] w1 fun e w' => e = .returned (.int .i64 (grD C l)) ∧ Below w1.heap.size w1 w') := fun w1 gq vv l ha hr h4 hs h2 => r_greatest C _ vv l h4 hs h2 hC0 (Reads.at_ ha (by simp [bdL]) (Nat.le_refl _) (fun i hi => ic_get _ _ (by simpa [bdL] using hi))) hr
  obtain ⟨r1, r2⟩ := grD_rng hS hC0 hu.len hu.sg hu.nz
  obtain ⟨r3, r4⟩ := grD_rng hS hC0 (ngL_len u.sg) (ngL_rng hu.sg) (by rw [nz_ngL hu.len]; exact hu.nz)
  obtain ⟨n1, n2⟩ := hu.num
  have HU : Hid (StG u) := hu
  clear hS HTC hu hC0
  by_cases k61 : u.kind = 61
  · have HE0 : Hid (sfD false C u = (u.star || decide (grD C u.sg ≠ NB ∧ grD C (ngL u.sg) ≠ NB ∧ grD C u.sg + u.num ≤ 999 ∧ grD C (ngL u.sg) - u.num ≤ 999))) := by show sfD false C u = _; unfold sfD; rw [if_neg (by decide), if_pos k61]
    cases hst : u.star with
    | true =>
      have HE : Hid (sfD false C u = true) := by show _ = true; rw [HE0.out, hst]; rfl
      clear HE0
      go_enter Tryd.func41, Tryd.ntmps41
      go_wp2_with fail
      refine hcl.mono ?_
      rintro e w1 ⟨hb1, ⟨he, -⟩ | ⟨-, gq, rfl, hgq, ha⟩⟩
      · cases he
      · have hrw := StK.out w1 hb1
        obtain ⟨g, cap, p, q, x1, x2, x3, x4, x5, x6, hq, hpl, hgl, hrl⟩ := hrw.ex
        have HQ : Hid (At w1 q (ic u.sg) tNk ∧ Below w.heap.size w w1) := ⟨hq, hb1⟩
        clear hrw hq
        rw [k61] at x3
        rw [hst] at x4
        clear hb1 hcl ha k61
        go_wp2_with fail
        go_ret
        exact ⟨ret_b' HE.out, HQ.out.2⟩
    | false =>
      have HE1 : Hid (sfD false C u = decide (grD C u.sg ≠ NB ∧ grD C (ngL u.sg) ≠ NB ∧ grD C u.sg + u.num ≤ 999 ∧ grD C (ngL u.sg) - u.num ≤ 999)) := by show _ = decide _; rw [HE0.out, hst]; rfl
      clear HE0
      go_enter Tryd.func41, Tryd.ntmps41
      go_wp2_with fail
      refine hcl.mono ?_
      rintro e w1 ⟨hb1, ⟨he, -⟩ | ⟨-, gq, rfl, hgq, ha⟩⟩
      · cases he
      · have hrw := StK.out w1 hb1
        obtain ⟨g, cap, p, q, x1, x2, x3, x4, x5, x6, hq, hpl, hgl, hrl⟩ := hrw.ex
        have HQ : Hid (At w1 q (ic u.sg) tNk ∧ Below w.heap.size w w1) := ⟨hq, hb1⟩
        clear hrw hq
        rw [k61] at x3
        rw [hst] at x4
        have HA : Hid (At (w1.alloc (.cells #[.int .i64 0, .int .i64 0, .int .i64 0, .int .i64 0] tNk)) w1.heap.size (ic (pnL u.sg 0)) tNk ∧ Below w1.heap.size w1 (w1.alloc (.cells #[.int .i64 0, .int .i64 0, .int .i64 0, .int .i64 0] tNk))) := ⟨At.new _ _ _, (Below.refl _ _).alloc (Nat.le_refl _) _⟩
        have HGa : Hid (At w1 gq (ic (bdL C)) tNo) := ha
        have hqlt : q < w1.heap.size := HQ.out.1.lt
        clear hb1 hcl ha k61
        go_wp2_with fail
        go_loopw [10] (fun iv wr => ∃ (j : Nat), j ≤ 4 ∧ iv = .int .i64 j ∧ Hid (At wr w1.heap.size (ic (pnL u.sg j)) tNk ∧ Below w1.heap.size w1 wr)) (fun iv _ => 4 - (intOf iv).toNat)
        case atStart => exact ⟨0, by omega, rfl, HA.out⟩
        case round =>
          obtain ⟨j, hj, rfl, HR⟩ := hrel
          have y5 : wr.cell? ⟨p, 3, none⟩ = some (.slice (some ⟨q, 0, none⟩) 4 4) := (HR.out.2.cell (p := ⟨p, 3, none⟩) hpl).trans x5
          by_cases hlt : j < 4
          · have hji : (j : Int) < 4 := by omega
            have hpn := pnL_at u.sg hlt
            have ca : wr.cell? ⟨q, j, none⟩ = some (.int .i64 (gAt u.sg j)) := by
              rw [HR.out.2.cell (p := ⟨q, j, none⟩) hqlt, HQ.out.1.cell, ic_get _ _ (by rw [HU.out.len]; exact hlt)]; rfl
            have cb : wr.cell? ⟨w1.heap.size, j, none⟩ = some (.int .i64 0) := by
              rw [HR.out.1.cell, ic_get _ _ (by omega), hpn.2]
            have cf := HR.out.1.free
            have hbl := HR.out.1.lt
            have hx := HU.out.sg j
            have HP : Hid (pnL u.sg (j + 1) = (pnL u.sg j).set j (-gAt u.sg j)) := rfl
            clear hpn
            generalize gAt u.sg j = x at *
            go_wp2_with fail
            go_roundw
            case rel =>
              refine ⟨j + 1, by omega, by go_num, ?_, HR.out.2.setCell (Nat.le_refl _) _⟩
              rw [HP.out, ← ic_set]
              exact HR.out.1.put j _
            case measure => simp [intOf]; omega
          · have hj4 : j = 4 := by omega
            subst hj4
            have hgr := HGr.out wr gq (.slice (some ⟨q, 0, none⟩) 4 4) u.sg (HGa.out.keep HR.out.2 HGa.out.lt) (Reads.at_ (HQ.out.1.keep HR.out.2 HQ.out.1.lt) HU.out.len (Nat.le_refl _) (fun i hi => ic_get _ _ (by rw [HU.out.len]; exact hi))) HU.out.len HU.out.sg HU.out.nz
            have HGr2 : Hid (∀ w3, Below wr.heap.size wr w3 → Calls Tryd.prog 65 #[.slice (some ⟨gq, 0, none⟩) 32 32, .slice (some ⟨w1.heap.size, 0, none⟩) 4 4] w3 fun e w' => e = .returned (.int .i64 (grD C (ngL u.sg))) ∧ Below w3.heap.size w3 w') := by
              intro w3 hb3
              have a1 := (HGa.out.keep HR.out.2 HGa.out.lt)
              have a2 : At w3 w1.heap.size (ic (ngL u.sg)) tNk := HR.out.1.keep hb3 HR.out.1.lt
              exact HGr.out w3 gq _ (ngL u.sg) (a1.keep hb3 a1.lt) (Reads.at_ a2 (ngL_len _) (Nat.le_refl _) (fun i hi => ic_get _ _ (by rw [ngL_len]; exact hi))) (ngL_len _) (ngL_rng HU.out.sg) (by rw [nz_ngL HU.out.len]; exact HU.out.nz)
            have HBr : Hid (Below w.heap.size w wr) := HQ.out.2.trans (HR.out.2.mono HQ.out.2.size)
            have z6 : wr.cell? ⟨p, 4, none⟩ = some (.int .i64 u.num) := (HR.out.2.cell (p := ⟨p, 4, none⟩) hpl).trans x6
            have hplr : p < wr.heap.size := Nat.lt_of_lt_of_le hpl HR.out.2.size
            clear HGr HA HQ
            generalize grD C u.sg = hi at *
            generalize grD C (ngL u.sg) = lo at *
            generalize u.num = n at *
            go_wp2_with fail
            refine hgr.mono ?_
            rintro e w3 ⟨rfl, hb3⟩
            have hg2 := HGr2.out w3 hb3
            have H3 : Hid (Below w.heap.size w w3) := HBr.out.trans (hb3.mono HBr.out.size)
            have t6 : w3.cell? ⟨p, 4, none⟩ = some (.int .i64 n) := (hb3.cell (p := ⟨p, 4, none⟩) hplr).trans z6
            have hpl3 : p < w3.heap.size := Nat.lt_of_lt_of_le hplr hb3.size
            clear hb3 hgr HGr2
            go_wp2_with fail
            refine hg2.mono ?_
            rintro e w4 ⟨rfl, hb4⟩
            have H4 : Hid (Below w.heap.size w w4) := H3.out.trans (hb4.mono H3.out.size)
            have s6 : w4.cell? ⟨p, 4, none⟩ = some (.int .i64 n) := (hb4.cell (p := ⟨p, 4, none⟩) hpl3).trans t6
            clear hb4 hg2
            by_cases q1 : hi = NB
            · have HE : Hid (sfD false C u = false) := HE1.out.trans (decide_eq_false (fun z => z.1 q1))
              have b1 : (hi != 1000000) = false := by rw [q1]; rfl
              clear HE1 q1
              go_wp2_with fail
              go_ret
              exact ⟨ret_b' HE.out, H4.out⟩
            have b1 : (hi != 1000000) = true := by rw [bne_iff_ne]; exact q1
            by_cases q2 : lo = NB
            · have HE : Hid (sfD false C u = false) := HE1.out.trans (decide_eq_false (fun z => z.2.1 q2))
              have b2 : (lo != 1000000) = false := by rw [q2]; rfl
              clear HE1 q1 q2
              go_wp2_with fail
              go_ret
              exact ⟨ret_b' HE.out, H4.out⟩
            have b2 : (lo != 1000000) = true := by rw [bne_iff_ne]; exact q2
            by_cases q3 : hi + n ≤ 999
            · have HE : Hid (sfD false C u = decide (lo - n ≤ 999)) := HE1.out.trans (decide_eq_decide.2 ⟨fun z => z.2.2.2, fun z => ⟨q1, q2, q3, z⟩⟩)
              clear HE1 q1 q2
              go_wp2_with fail
              go_ret
              exact ⟨ret_b' HE.out, H4.out⟩
            · have HE : Hid (sfD false C u = false) := HE1.out.trans (decide_eq_false (fun z => q3 z.2.2.1))
              clear HE1 q1 q2
              go_wp2_with fail
              go_ret
              exact ⟨ret_b' HE.out, H4.out⟩
  by_cases k33 : u.kind = 33
  · have HE0 : Hid (sfD false C u = (!u.star && decide (grD C u.sg ≤ u.num))) := by show sfD false C u = _; unfold sfD; rw [if_neg (by decide), if_neg k61, if_pos k33]
    cases hst : u.star with
    | true =>
      have HE : Hid (sfD false C u = false) := by show _ = false; rw [HE0.out, hst]; rfl
      clear HE0
      go_enter Tryd.func41, Tryd.ntmps41
      go_wp2_with fail
      refine hcl.mono ?_
      rintro e w1 ⟨hb1, ⟨he, -⟩ | ⟨-, gq, rfl, hgq, ha⟩⟩
      · cases he
      · have hrw := StK.out w1 hb1
        obtain ⟨g, cap, p, q, x1, x2, x3, x4, x5, x6, hq, hpl, hgl, hrl⟩ := hrw.ex
        have HQ : Hid (At w1 q (ic u.sg) tNk ∧ Below w.heap.size w w1) := ⟨hq, hb1⟩
        clear hrw hq
        rw [k33] at x3
        rw [hst] at x4
        clear hb1 hcl ha k33 k61
        go_wp2_with fail
        go_ret
        exact ⟨ret_b' HE.out, HQ.out.2⟩
    | false =>
      have HE : Hid (sfD false C u = decide (grD C u.sg ≤ u.num)) := by show _ = decide (grD C u.sg ≤ u.num); rw [HE0.out, hst]; rfl
      clear HE0
      go_enter Tryd.func41, Tryd.ntmps41
      go_wp2_with fail
      refine hcl.mono ?_
      rintro e w1 ⟨hb1, ⟨he, -⟩ | ⟨-, gq, rfl, hgq, ha⟩⟩
      · cases he
      · have hrw := StK.out w1 hb1
        obtain ⟨g, cap, p, q, x1, x2, x3, x4, x5, x6, hq, hpl, hgl, hrl⟩ := hrw.ex
        have HQ : Hid (At w1 q (ic u.sg) tNk ∧ Below w.heap.size w w1) := ⟨hq, hb1⟩
        clear hrw hq
        have hgr := HGr.out w1 gq (.slice (some ⟨q, 0, none⟩) 4 4) u.sg ha (Reads.at_ HQ.out.1 HU.out.len (Nat.le_refl _) (fun i hi => ic_get _ _ (by rw [HU.out.len]; exact hi))) HU.out.len HU.out.sg HU.out.nz
        rw [k33] at x3
        rw [hst] at x4
        clear hb1 hcl ha k33 k61
        generalize grD C u.sg = gr at *
        go_wp2_with fail
        refine hgr.mono ?_
        rintro e w2 ⟨rfl, hb2⟩
        have y6 : w2.cell? ⟨p, 4, none⟩ = some (.int .i64 u.num) := (hb2.cell (p := ⟨p, 4, none⟩) hpl).trans x6
        have H2 : Hid (Below w.heap.size w w2) := HQ.out.2.trans (hb2.mono HQ.out.2.size)
        clear hb2 hgr
        go_wp2_with fail
        go_ret
        exact ⟨ret_b' HE.out, H2.out⟩
  · have HE : Hid (sfD false C u = true) := by show sfD false C u = _; unfold sfD; rw [if_neg (by decide), if_neg k61, if_neg k33]
    have b61 : (u.kind == 61) = false := by simpa using k61
    have b33 : (u.kind == 33) = false := by simpa using k33
    go_enter Tryd.func41, Tryd.ntmps41
    go_wp2_with fail
    refine hcl.mono ?_
    rintro e w1 ⟨hb1, ⟨he, -⟩ | ⟨-, gq, rfl, hgq, ha⟩⟩
    · cases he
    · have hrw := StK.out w1 hb1
      obtain ⟨g, cap, p, q, x1, x2, x3, x4, x5, x6, hq, hpl, hgl, hrl⟩ := hrw.ex
      have HQ : Hid (At w1 q (ic u.sg) tNk ∧ Below w.heap.size w w1) := ⟨hq, hb1⟩
      clear hrw hq
      clear hb1 hcl ha k33 k61
      go_wp2_with fail
      go_ret
      exact ⟨ret_b' HE.out, HQ.out.2⟩

end Go.Proofs.YtffjklakdnfeiaaDoor

/- Within and Join: what the document says against what the program says. No Go in here. -/
namespace Go.Proofs.YtffjklakdnfeiaaDoor

/-- Bounds from which nothing follows, below others: they stay below whatever follows from those. -/
theorem TC.below_rd {C T : Nat → Int} (hC : TC C) (h : Le C T) (hi : ∀ a, a < 64 → T a ≤ NB) : Le C (rdF T 8) := by
  intro a ha
  rw [rdF_at]
  have h1 := h a ha
  split
  · rename_i q
    have e : a = a / 9 * 8 + a / 9 := by omega
    have h3 := hi a ha
    rcases hC.even (a / 9) q.2.1 with z | z
    · rw [← e] at z
      have := q.2.2
      omega
    · rw [← e] at z
      omega
  · exact h1
theorem TC.below_ah {C T : Nat → Int} (hC : TC C) (h : Le C T) (hi : ∀ a, a < 64 → T a ≤ NB) : ∀ k, k ≤ 64 → Le C (ahF T k) := by
  intro k
  induction k with
  | zero => intro _; exact h
  | succ k ih =>
    intro hk
    have h1 := ih (by omega)
    have hi1 : ∀ a, a < 64 → ahF T k a ≤ NB := fun a ha => Int.le_trans (ahF_le T k a) (hi a ha)
    rw [ahF]
    generalize ahF T k = S at h1 hi1
    intro a ha
    unfold ah1
    split
    · rename_i q
      unfold upd
      split
      · rename_i e
        obtain ⟨q1, q2, q3⟩ := pl_fin q.1
        have i8 : k / 8 < 8 := by omega
        have j8 : k % 8 < 8 := by omega
        have l1 := h1 (k / 8 * 8 + k / 8) (by omega)
        have l2 := h1 (k % 8 * 8 + k % 8) (by omega)
        have u1 := hi1 (k / 8 * 8 + k / 8) (by omega)
        have u2 := hi1 (k % 8 * 8 + k % 8) (by omega)
        have hh := (hC.half (k / 8) (k % 8) i8 j8 (by omega) (by omega)).2
        rw [show k / 8 * 8 + k % 8 = k by omega] at hh
        rw [e, q3]
        have t := tdiv2 (S (k / 8 * 8 + k / 8) + S (k % 8 * 8 + k % 8))
        rcases Int.lt_or_le (S (k / 8 * 8 + k / 8) + S (k % 8 * 8 + k % 8)) 0 with c | c
        · rw [t.2 c]; omega
        · rw [t.1 c]; omega
      · exact h1 a ha
    · exact h1 a ha
theorem TC.below_sharp {C M : Nat → Int} (hC : TC C) (h : Le C M) (hi : ∀ a, a < 64 → M a ≤ NB) : Le C (sharp M) := by
  have h1 := below_fw hC.tri h hi 8 (Nat.le_refl _)
  have i1 : ∀ a, a < 64 → fw M 8 a ≤ NB := fun a ha => Int.le_trans (fw_le M 8 a) (hi a ha)
  have h2 := hC.below_rd h1 i1
  exact hC.below_ah h2 (fun a ha => Int.le_trans (rdF_le _ 8 a) (i1 a ha)) 64 (Nat.le_refl _)

theorem leF_iff {M N : Nat → Int} : ∀ {n : Nat}, leF M N n = true ↔ ∀ k, k < n → M k ≤ N k := by
  intro n
  induction n with
  | zero => exact ⟨fun _ k hk => absurd hk (by omega), fun _ => rfl⟩
  | succ n ih =>
    show (leF M N n && decide (M n ≤ N n)) = true ↔ _
    rw [Bool.and_eq_true, ih, decide_eq_true_eq]
    constructor
    · rintro ⟨h1, h2⟩ k hk
      rcases Nat.lt_or_eq_of_le (Nat.lt_succ_iff.1 hk) with e | e
      · exact h1 k e
      · rw [e]; exact h2
    · intro h
      exact ⟨fun k hk => h k (by omega), h n (by omega)⟩
theorem conF_no {M : Nat → Int} : ∀ {n : Nat}, (∀ i, i < n → 0 ≤ M (i * 8 + opp i)) → conF M n = false := by
  intro n
  induction n with
  | zero => intro _; rfl
  | succ n ih =>
    intro h
    rw [conF, ih (fun i hi => h i (by omega))]
    have := h n (by omega)
    rw [decide_eq_false (by omega)]
    rfl
/-- The document's bounds below those of a list. -/
theorem lay_above {C : Nat → Int} {p : List Int} (hC : TC C) (hp : okL p) (h : ∀ f, f < 32 → bd C f ≤ p.getD f 0) : Le C (lay p 32) := by
  intro a ha
  have e : a = a / 8 * 8 + a % 8 := by omega
  have hi : a / 8 < 8 := by omega
  have hj : a % 8 < 8 := by omega
  rw [e]
  generalize a / 8 = i at hi
  generalize a % 8 = j at hj
  by_cases e1 : j = opp i
  · rw [e1, lay_opp p i hi, hC.zero i hi]; exact Int.le_refl _
  · rw [lay_nf p hi hj e1]
    have top : ∀ k, k < 64 → C k ≤ NB := fun k hk => by
      rcases hC.top k hk with q | q
      · omega
      · unfold NB; omega
    by_cases e2 : i = j
    · subst e2
      rw [nf_self]
      have b := bv_lo p hi
      by_cases q : p.getD i 0 = NB
      · rw [b.1 q]; exact top _ (by omega)
      · rw [b.2 q]
        have h1 := h i (by omega)
        have h2 := (isB_or (hp.2 i (by omega))).resolve_left q
        by_cases z : C (i * 8 + i) = NB
        · rw [(hC.lo hi).1 z] at h1
          unfold NB at h1
          omega
        · have := ((hC.lo hi).2 z).1
          omega
    · rw [bv_hi p hi hj e2 e1]
      have h1 := h (nf i j) (nf_ok i hi j hj e1).1
      rw [bd_nf hC.sym hi hj e2 e1] at h1
      exact h1
theorem lay_top {p : List Int} (hp : okL p) : ∀ a, a < 64 → lay p 32 a ≤ NB := fun a _ => (lay_range p 32 hp.2 a).2
theorem bd_below {C : Nat → Int} {p : List Int} (hp : okL p) (h : Le C (lay p 32)) : ∀ f, f < 32 → bd C f ≤ p.getD f 0 := by
  intro f hf
  have a := fs_lt f hf
  have b := ss_lt f hf
  have := bd_le (o := p) (M := fun k => if k < 64 then C k else lay p 32 k) hp.2 (fun k => by
    show (if k < 64 then C k else lay p 32 k) ≤ _
    split
    · rename_i hk; exact h k hk
    · exact Int.le_refl _) f hf
  have e : bd (fun k => if k < 64 then C k else lay p 32 k) f = bd C f := by
    unfold bd
    simp only [if_pos (show fs f * 8 + ss f < 64 by omega)]
  rw [e] at this
  exact this
/-- Within, by the document. -/
def dWi (o p : List Int) : Bool := ovE o || leF (bd (ovM o)) (fun f => p.getD f 0) 32
theorem wi_same {o p : List Int} (ho : okL o) (hp : okL p) : wiB (ovE o) (ovE p) (ovM o) (ovM p) = dWi o p := by
  unfold wiB dWi
  cases he : ovE o with
  | true => rfl
  | false =>
    have hC : TC (ovM o) := (raw_lay ho).tc he
    have up : leF (bd (ovM o)) (fun f => p.getD f 0) 32 = true → Le (ovM o) (ovM p) := fun h => hC.below_sharp (lay_above hC hp (leF_iff.1 h)) (lay_top hp)
    have dn : Le (ovM o) (ovM p) → leF (bd (ovM o)) (fun f => p.getD f 0) 32 = true := fun h => leF_iff.2 (bd_below hp (fun a ha => Int.le_trans (h a ha) (sharp_le _ a)))
    cases hq : ovE p with
    | true =>
      show false = (false || leF (bd (ovM o)) (fun f => p.getD f 0) 32)
      cases hl : leF (bd (ovM o)) (fun f => p.getD f 0) 32 with
      | false => rfl
      | true =>
        exfalso
        have h := up hl
        have : conF (ovM p) 8 = false := conF_no (fun i hi => by
          have a := h (i * 8 + opp i) (by have := opp_lt hi; omega)
          rw [hC.zero i hi] at a
          exact a)
        rw [show conF (ovM p) 8 = ovE p from rfl, hq] at this
        cases this
    | false =>
      show leF (ovM o) (ovM p) 64 = (false || leF (bd (ovM o)) (fun f => p.getD f 0) 32)
      cases hl : leF (bd (ovM o)) (fun f => p.getD f 0) 32 with
      | true => exact leF_iff.2 (up hl)
      | false =>
        cases hm : leF (ovM o) (ovM p) 64 with
        | false => rfl
        | true => rw [dn (leF_iff.1 hm)] at hl; cases hl

/-- Join, by the document. -/
def mxR (R S : Nat → Int) (f : Nat) : Int := if R f < S f then S f else R f
theorem jF_eq (M N : Nat → Int) : ∀ k a, jF M N k a = if a < k ∧ M a < N a then N a else M a := by
  intro k
  induction k with
  | zero => intro a; rw [if_neg (by omega)]; rfl
  | succ k ih =>
    intro a
    rw [jF]
    have hk : jF M N k k = M k := by rw [ih, if_neg (by omega)]
    rw [hk]
    by_cases e : a = k
    · subst e
      by_cases c : M a < N a
      · rw [if_pos c, upd_same, if_pos ⟨by omega, c⟩]
      · rw [if_neg c, ih, if_neg (by omega), if_neg (fun z => c z.2)]
    · have : (if M k < N k then upd (jF M N k) k (N k) else jF M N k) a = jF M N k a := by
        split
        · exact upd_other _ _ e
        · rfl
      rw [this, ih]
      by_cases q : a < k ∧ M a < N a
      · rw [if_pos q, if_pos ⟨by omega, q.2⟩]
      · rw [if_neg q, if_neg (fun z => q ⟨by omega, z.2⟩)]
theorem bd_mono {M N : Nat → Int} {f : Nat} (hM : M (fs f * 8 + ss f) ≤ NB) (hN : N (fs f * 8 + ss f) ≤ NB) (h : M (fs f * 8 + ss f) ≤ N (fs f * 8 + ss f)) : bd M f ≤ bd N f := by
  unfold bd
  generalize M (fs f * 8 + ss f) = x at *
  generalize N (fs f * 8 + ss f) = y at *
  have tx := tdiv2 x
  have ty := tdiv2 y
  have hx := Int.lt_or_le x 0
  have hy := Int.lt_or_le y 0
  unfold NB at *
  by_cases e : fs f = ss f
  · by_cases qy : y = 1000000
    · rw [if_neg (show ¬ (fs f = ss f ∧ y ≠ 1000000) from fun z => z.2 qy)]
      split
      · rcases hx with c | c
        · rw [tx.2 c]; omega
        · rw [tx.1 c]; omega
      · omega
    · rw [if_pos (show fs f = ss f ∧ y ≠ 1000000 from ⟨e, qy⟩), if_pos (show fs f = ss f ∧ x ≠ 1000000 from ⟨e, by omega⟩)]
      rcases hx with c | c
      · rw [tx.2 c]
        rcases hy with d | d
        · rw [ty.2 d]; omega
        · rw [ty.1 d]; omega
      · rw [tx.1 c, ty.1 (by omega)]; omega
  · rw [if_neg (show ¬ (fs f = ss f ∧ y ≠ 1000000) from fun z => e z.1), if_neg (show ¬ (fs f = ss f ∧ x ≠ 1000000) from fun z => e z.1)]
    exact h
theorem jo_bd {M N : Nat → Int} (hM : ∀ a, a < 64 → M a ≤ NB) (hN : ∀ a, a < 64 → N a ≤ NB) {f : Nat} (hf : f < 32) : bd (jF M N 64) f = mxR (bd M) (bd N) f := by
  have k : fs f * 8 + ss f < 64 := by have := fs_lt f hf; have := ss_lt f hf; omega
  have e := jF_eq M N 64 (fs f * 8 + ss f)
  unfold mxR
  by_cases c : M (fs f * 8 + ss f) < N (fs f * 8 + ss f)
  · rw [if_pos ⟨k, c⟩] at e
    have h1 : bd (jF M N 64) f = bd N f := by unfold bd; rw [e]
    have h2 := bd_mono (hM _ k) (hN _ k) (Int.le_of_lt c)
    rw [h1]
    split <;> omega
  · rw [if_neg (fun z => c z.2)] at e
    have h1 : bd (jF M N 64) f = bd M f := by unfold bd; rw [e]
    have h2 := bd_mono (f := f) (hN _ k) (hM _ k) (by omega)
    rw [h1, if_neg (by omega)]

end Go.Proofs.YtffjklakdnfeiaaDoor

namespace Go.Proofs.YtffjklakdnfeiaaDoor
open Go.RowKit
variable {w : World}

theorem ret_b {a b : Bool} (h : a = b) : Ending.returned (.bool b) = .returned (.bool a) := by rw [h]

set_option maxRecDepth 100000 in
set_option maxHeartbeats 1600000 in
theorem r_least (a b : Value) (la lb : List Int) (hla : la.length = 32) (hlb : lb.length = 32) (ha : Reads w a la) (hb : Reads w b lb) :
    Calls Tryd.prog 54 #[a, b] w fun e w' => e = .returned (.bool (leF (fun f => la.getD f 0) (fun f => lb.getD f 0) 32)) ∧ Below w.heap.size w w' := by
  obtain ⟨ao, ca, rfl, -, h0⟩ := ha
  obtain ⟨p, off, rfl, hp, hcell⟩ := h0 (by omega)
  obtain ⟨bo, cb, rfl, -, h1⟩ := hb
  obtain ⟨q, ofg, rfl, hq, hcelq⟩ := h1 (by omega)
  have HC : Hid (∀ i, i < 32 → w.cell? ⟨p, off + i, none⟩ = some (.int .i64 (la.getD i 0))) := fun i hi => hcell i (by omega)
  have HD : Hid (∀ i, i < 32 → w.cell? ⟨q, ofg + i, none⟩ = some (.int .i64 (lb.getD i 0))) := fun i hi => hcelq i (by omega)
  rw [hla, hlb]
  obtain ⟨A, hA⟩ : ∃ A : Nat → Int, A = fun f => la.getD f 0 := ⟨_, rfl⟩
  obtain ⟨B, hB⟩ : ∃ B : Nat → Int, B = fun f => lb.getD f 0 := ⟨_, rfl⟩
  have HC' : Hid (∀ i, i < 32 → w.cell? ⟨p, off + i, none⟩ = some (.int .i64 (A i))) := by rw [hA]; exact HC.out
  have HD' : Hid (∀ i, i < 32 → w.cell? ⟨q, ofg + i, none⟩ = some (.int .i64 (B i))) := by rw [hB]; exact HD.out
  rw [← hA, ← hB]
  clear HC HD hA hB hcell hcelq h0 h1 hla hlb
  go_enter Tryd.func54, Tryd.ntmps54
  go_wp2_with fail
  go_loopw [5] (fun i wr => ∃ (f k : Nat), f ≤ 32 ∧ i = .int .i64 f ∧ Hid (wr = w.drewN k ∧ leF A B f = true)) (fun i _ => 32 - (intOf i).toNat)
  case atStart => exact ⟨0, 0, by omega, rfl, rfl, rfl⟩
  case round =>
    obtain ⟨f, k, hf, rfl, HR⟩ := hrel
    by_cases hlt : f < 32
    · have hfi : (f : Int) < 32 := by omega
      have ca : wr.cell? ⟨p, off + f, none⟩ = some (.int .i64 (A f)) := by rw [HR.out.1]; exact HC'.out f hlt
      have cb : wr.cell? ⟨q, ofg + f, none⟩ = some (.int .i64 (B f)) := by rw [HR.out.1]; exact HD'.out f hlt
      have HN : Hid (¬ A f ≤ B f → leF A B 32 = false) := fun h => by
        cases e : leF A B 32 with
        | false => rfl
        | true => exact absurd (leF_iff.1 e f hlt) h
      have HY : Hid (leF A B (f + 1) = (leF A B f && decide (A f ≤ B f))) := rfl
      generalize A f = x at *
      generalize B f = y at *
      by_cases hxy : y < x
      · have HF : Hid (leF A B 32 = false) := HN.out (by omega)
        go_wp2_with fail
        go_quiet (fail)
        go_wp2_with fail
        go_ret
        exact ⟨ret_b HF.out, below_drewN (by rw [HR.out.1]; exact below_drewN (Below.refl _ _) _) _⟩
      · have HF : Hid (leF A B (f + 1) = true) := by show _ = true; rw [HY.out, HR.out.2, decide_eq_true (by omega)]; rfl
        go_wp2_with fail
        go_quiet (fail)
        go_wp2_with fail
        go_roundw
        case rel => exact ⟨f + 1, _, by omega, by go_num, by rw [HR.out.1]; exact drewN_two _ _ _, HF.out⟩
        case measure => simp [intOf]; omega
    · have hf32 : f = 32 := by omega
      subst hf32
      go_wp2_with fail
      go_ret
      exact ⟨ret_b HR.out.2, by rw [HR.out.1]; exact below_drewN (Below.refl _ _) _⟩

theorem leF_congr {A A' B : Nat → Int} : ∀ n, (∀ f, f < n → A f = A' f) → leF A B n = leF A' B n
  | 0, _ => rfl
  | n + 1, h => by
    show (leF A B n && decide (A n ≤ B n)) = (leF A' B n && decide (A' n ≤ B n))
    rw [leF_congr n (fun f hf => h f (by omega)), h n (by omega)]

set_option maxRecDepth 100000 in
set_option maxHeartbeats 1600000 in
theorem r_inside (u v : Value) (o p : List Int) (ho : okL o) (hp : p.length = 32) (hu : Reads w u o) (hv : Reads w v p) :
    Calls Tryd.prog 31 #[u, v] w fun e w' => e = .returned (.bool (dWi o p)) ∧ Below w.heap.size w w' := by
  have hq1 : ∀ (w : World) (a : Option Addr) (n c : Nat), (binOp .eql 22 (.slice a n c) (.slice none 0 0)).run Tryd.prog w = .ok (.bool a.isNone) w := fun w a n c => Lib.run_eql_slice_nil w 22 tN a n c 0 0 Tryd.underlying22
  have hcl := r_closed_ok u o ho hu
  have HL : Hid (∀ w1 g, Below w.heap.size w w1 → At w1 g (ic (bdL (ovM o))) tNo → Calls Tryd.prog 54 #[.slice (some ⟨g, 0, none⟩) 32 32, v] w1 fun e w' => e = .returned (.bool (leF (bd (ovM o)) (fun f => p.getD f 0) 32)) ∧ Below w1.heap.size w1 w') := by
    intro w1 g hb ha
    have hl : (bdL (ovM o)).length = 32 := by simp [bdL]
    have h := r_least (w := w1) (.slice (some ⟨g, 0, none⟩) 32 32) v (bdL (ovM o)) p hl hp (Reads.at_ ha hl (Nat.le_refl _) (fun i hi => ic_get _ _ (by omega))) (hv.keep hb)
    rw [leF_congr (A := fun f => (bdL (ovM o)).getD f 0) (A' := bd (ovM o)) 32 (fun f hf => bdL_get (ovM o) f hf)] at h
    exact h
  have HE : Hid (dWi o p = (ovE o || leF (bd (ovM o)) (fun f => p.getD f 0) 32)) := rfl
  have hol := ho.1
  obtain ⟨ao, ca, rfl, -, h0⟩ := hu
  obtain ⟨bp, off, rfl, -, -⟩ := h0 (by omega)
  obtain ⟨bo, cb, rfl, -, h1⟩ := hv
  obtain ⟨bq, ofg, rfl, -, -⟩ := h1 (by omega)
  generalize leF (bd (ovM o)) (fun f => p.getD f 0) 32 = r at *
  rw [hol] at hcl ⊢
  rw [hp] at HL ⊢
  clear h0 h1 ho hol
  go_enter Tryd.func31, Tryd.ntmps31
  go_wp2_with fail
  refine hcl.mono ?_
  rintro e w1 ⟨hb1, ⟨he, rfl⟩ | ⟨he, g, rfl, hg, ha⟩⟩
  · have HF : Hid (dWi o p = true) := by show _ = true; rw [HE.out, he]; rfl
    have HB1 : Hid (Below w.heap.size w w1) := hb1
    clear hb1 he hcl
    go_wp2_with fail
    go_ret
    exact ⟨ret_b HF.out, HB1.out⟩
  · have HF : Hid (dWi o p = r) := by show _ = r; rw [HE.out, he]; rfl
    have hls := HL.out w1 g hb1 ha
    have HB1 : Hid (Below w.heap.size w w1) := hb1
    clear hb1 he hcl ha
    go_wp2_with fail
    refine hls.mono ?_
    rintro e w2 ⟨rfl, hb2⟩
    go_wp2_with fail
    go_ret
    exact ⟨ret_b HF.out, HB1.out.trans (hb2.mono HB1.out.size)⟩

theorem gdB_no {l : List Int} (h : ¬ okL l) : gdB l = false := by
  cases e : gdB l with
  | false => rfl
  | true => exact absurd (gdB_ok.1 e) h
/-- What both say of Within. -/
def DWithin (w : World) (o p : List Int) : Ending → World → Prop := fun x w' => Below w.heap.size w w' ∧ ((okL o ∧ okL p ∧ x = .returned (.tuple #[.bool (dWi o p), .int .i64 0])) ∨ (¬ (okL o ∧ okL p) ∧ x = .returned (.tuple #[.bool false, .int .i64 3])))
set_option maxRecDepth 100000 in
set_option maxHeartbeats 1600000 in
theorem r_within (u v : Value) (o p : List Int) (ho : o.length ≤ 1073741824) (hp : p.length ≤ 1073741824) (hu : Reads w u o) (hv : Reads w v p) :
    Calls Tryd.prog 14 #[u, v] w (DWithin w o p) := by
  have hg1 := r_good u o ho hu
  have hg2 := r_good v p hp hv
  by_cases k1 : okL o
  · rw [gdB_ok.2 k1] at hg1
    by_cases k2 : okL p
    · rw [gdB_ok.2 k2] at hg2
      have hin := r_inside u v o p k1 k2.1 hu hv
      have HK : Hid (okL o ∧ okL p) := ⟨k1, k2⟩
      obtain ⟨ao, ca, rfl, -, -⟩ := hu
      obtain ⟨bo, cb, rfl, -, -⟩ := hv
      clear k1 k2
      go_enter Tryd.func14, Tryd.ntmps14
      go_wp2_with fail
      refine hg1.mono ?_
      rintro e w1 ⟨rfl, rfl⟩
      go_wp2_with fail
      refine hg2.mono ?_
      rintro e w2 ⟨rfl, rfl⟩
      go_wp2_with fail
      refine hin.mono ?_
      rintro e w3 ⟨rfl, hb3⟩
      go_wp2_with fail
      go_ret2
      exact ⟨hb3, .inl ⟨HK.out.1, HK.out.2, rfl⟩⟩
    · rw [gdB_no k2] at hg2
      have HK : Hid (¬ (okL o ∧ okL p)) := fun h => k2 h.2
      obtain ⟨ao, ca, rfl, -, -⟩ := hu
      obtain ⟨bo, cb, rfl, -, -⟩ := hv
      clear k1 k2
      go_enter Tryd.func14, Tryd.ntmps14
      go_wp2_with fail
      refine hg1.mono ?_
      rintro e w1 ⟨rfl, rfl⟩
      go_wp2_with fail
      refine hg2.mono ?_
      rintro e w2 ⟨rfl, rfl⟩
      go_wp2_with fail
      go_ret2
      exact ⟨Below.refl _ _, .inr ⟨HK.out, rfl⟩⟩
  · rw [gdB_no k1] at hg1
    have HK : Hid (¬ (okL o ∧ okL p)) := fun h => k1 h.1
    obtain ⟨ao, ca, rfl, -, -⟩ := hu
    obtain ⟨bo, cb, rfl, -, -⟩ := hv
    clear k1
    go_enter Tryd.func14, Tryd.ntmps14
    go_wp2_with fail
    refine hg1.mono ?_
    rintro e w1 ⟨rfl, rfl⟩
    go_wp2_with fail
    refine hg2.mono ?_
    rintro e w2 ⟨rfl, rfl⟩
    go_wp2_with fail
    go_ret2
    exact ⟨Below.refl _ _, .inr ⟨HK.out, rfl⟩⟩

end Go.Proofs.YtffjklakdnfeiaaDoor

