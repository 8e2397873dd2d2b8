import Derived.Test.YtffajooegiempaaJ4
import Derived.Deep.RegionWith
namespace Go.Proofs.Ytffajooegiempaa
open Go.RowKit
variable {w : World} {s : ByteArray}

set_option maxRecDepth 100000 in
set_option maxHeartbeats 1600000 in
theorem w_decode (hs : s.size ≤ 9223372036854775807) : Calls Try.prog 21 #[.string s] w (DOut w s) := by
  have h1 := c_decode (w := w) hs
  go_enter Try.func21, Try.ntmps21
  go_wp2_with fail
  refine h1.mono ?_
  rintro e w1 ⟨hb, ⟨h2, rfl⟩ | ⟨L, g, X, h2, rfl, h3⟩⟩
  · have H : Hid (Below w.heap.size w w1 ∧ decF (bytesOf s) = none) := ⟨hb, h2⟩
    clear hb h2 h1
    go_wp2_with fail
    go_ret2
    exact ⟨H.out.1, .inl ⟨H.out.2, rfl⟩⟩
  · have H : Hid (Below w.heap.size w w1 ∧ decF (bytesOf s) = some L ∧ w.heap.size ≤ g ∧ w1.ownsRow w.heap.size 29 1 (.slice (some ⟨g, 0, none⟩) L.length 21) L.length X ∧ LLs w1 w.heap.size g X L) := ⟨hb, h2, h3⟩
    clear hb h2 h3 h1
    go_wp2_with fail
    go_ret2
    exact ⟨H.out.1, .inr ⟨L, g, X, H.out.2.1, rfl, H.out.2.2⟩⟩
theorem r_decode (hs : s.size ≤ 9223372036854775807) : Calls Try.prog 22 #[.string s] w (ROut w s) := by
  by_cases hbad : s.size < 1 ∨ (bytesOf s).getD 0 0 < 1 ∨ 21 < (bytesOf s).getD 0 0
  · exact r_decode_bad hs hbad
  · exact r_decode_ok hs (by omega) (by omega) (by omega)

/-- The same memory. -/
def SW (a b : World) : Prop := Onl 0 a b ∧ b.heap = a.heap
theorem SW.refl (a : World) : SW a a := ⟨Onl.refl _ _, rfl⟩
theorem SW.trans {a b c : World} (h : SW a b) (k : SW b c) : SW a c := ⟨h.1.trans k.1, k.2.trans h.2⟩
theorem SW.drewN {a b : World} (h : SW a b) (n : Nat) : SW a (b.drewN n) := ⟨h.1.drewN n, h.2⟩
theorem SW.cell {a b : World} (h : SW a b) (p i : Nat) : b.cell? ⟨p, i, none⟩ = a.cell? ⟨p, i, none⟩ := World.cell?_of_block (a := ⟨p, i, none⟩) (by rw [h.2])
theorem SW.reads {a b : World} (h : SW a b) {v : Value} {l : List Int} (hr : Reads a v l) : Reads b v l := by
  obtain ⟨ao, cap, hv, hc, h0⟩ := hr
  refine ⟨ao, cap, hv, hc, fun hn => ?_⟩
  obtain ⟨p, off, ha, hlt, hcell⟩ := h0 hn
  exact ⟨p, off, ha, by rw [h.2]; exact hlt, fun i hi => (h.cell p (off + i)).trans (hcell i hi)⟩
theorem SW.below {a b : World} (h : SW a b) (B : Nat) : Below B a b := ⟨h.1.os, h.1.tape, h.1.output, by rw [h.2]; exact Nat.le_refl _, fun k hk => by rw [h.2]⟩
theorem reads_nil (w : World) : Reads w (.slice none 0 0) [] := ⟨none, 0, rfl, Nat.le_refl _, fun h => absurd rfl h⟩

set_option maxRecDepth 100000 in
set_option maxHeartbeats 800000 in
theorem l_markO (w : World) (g n cap : Nat) (c : Array Value) (v : Int) (h : At w g c tN) (hs : c.size = cap) (_hn : n ≤ cap) (hm : cap ≤ 1073741824) (hv0 : 0 ≤ v) (hv1 : v ≤ 4398046511104) :
    Calls Try.prog 24 #[.slice (some ⟨g, 0, none⟩) n cap, .int .i64 v] w fun e w' => e = .returned (.tuple #[]) ∧ Onl g w w' ∧ ∃ c', At w' g c' tN ∧ c'.size = cap ∧ ∀ i, i < cap → c'[i]? = some (.int .i64 (v + i)) := by
  have HA : Hid (At w g c tN) := h
  have HS : Hid (c.size = cap) := hs
  have hg := h.lt
  clear h hs
  go_enter Try.func24, Try.ntmps24
  go_wp2_with fail
  go_loopw [5] (fun i wr => ∃ (j : Nat) (c' : Array Value), j ≤ cap ∧ i = .int .i64 j ∧ At wr g c' tN ∧ c'.size = cap ∧ (∀ i, i < j → c'[i]? = some (.int .i64 (v + i))) ∧ Onl g w wr) (fun i _ => cap - (intOf i).toNat)
  case atStart => exact ⟨0, c, Nat.zero_le _, rfl, HA.out, HS.out, fun i hi => absurd hi (by omega), Onl.refl _ _⟩
  case round =>
    obtain ⟨j, c', hj, rfl, hat, hsz, hall, hbel⟩ := hrel
    have HA' : Hid (At wr g c' tN) := hat
    have HS' : Hid (c'.size = cap) := hsz
    have HL : Hid (∀ i, i < j → c'[i]? = some (.int .i64 (v + i))) := hall
    have HB : Hid (Onl g w wr) := hbel
    by_cases hlt : j < cap
    · have hji : (j : Int) < (cap : Int) := by omega
      obtain ⟨x, c1⟩ : ∃ x, wr.cell? ⟨g, j, none⟩ = some x := ⟨c'[j]'(by omega), by rw [hat.cell]; simp [hsz, hlt]⟩
      have f1 : wr.frozen? ⟨g, j, none⟩ = false := hat.free j
      clear hat hsz hall hbel
      go_wp2_with fail
      go_roundw
      case rel =>
        refine ⟨j + 1, _, by omega, by go_num, HA'.out.put j (.int .i64 (v + j)), by simp [HS'.out], fun i hi => ?_, HB.out.setCell _ _⟩
        have := HS'.out
        by_cases e : i = j
        · subst e; simp [this, hlt]
        · simp [Ne.symm e]; exact HL.out i (by omega)
      case measure => simp [intOf]; omega
    · have hji : ¬ (j : Int) < (cap : Int) := by omega
      have hje : j = cap := by omega
      clear hat hsz hall hbel
      go_wp2_with fail
      go_end0
      exact ⟨rfl, HB.out, c', HA'.out, HS'.out, by rw [← hje]; exact HL.out⟩
set_option maxRecDepth 100000 in
set_option maxHeartbeats 800000 in
theorem l_mark_nil (w : World) (v : Int) : Calls Try.prog 24 #[.slice none 0 0, .int .i64 v] w fun e w' => e = .returned (.tuple #[]) ∧ w' = w := by
  go_enter Try.func24, Try.ntmps24
  go_wp2_with fail
  go_loop [5] (fun i => i = .int .i64 0) (fun _ => 0)
  case atStart => rfl
  case round =>
    subst hrel
    go_wp2_with fail
    go_end0
    exact ⟨rfl, rfl⟩
set_option maxRecDepth 100000 in
set_option maxHeartbeats 800000 in
theorem l_marked_nil (w : World) (v : Int) : Calls Try.prog 25 #[.slice none 0 0, .int .i64 v] w fun e w' => e = .returned (.bool true) ∧ w' = w := by
  go_enter Try.func25, Try.ntmps25
  go_wp2_with fail
  go_loop [6] (fun i => i = .int .i64 0) (fun _ => 0)
  case atStart => rfl
  case round =>
    subst hrel
    go_wp2_with fail
    go_ret
    exact ⟨rfl, rfl⟩

/-- A list that came out: is it marked yet? -/
def MK (w : World) (x : Value) (j : Nat) (done : Prop) : Prop :=
  x = .slice none 0 0 ∨ ∃ a c, x = .slice (some ⟨a, 0, none⟩) 32 32 ∧ At w a c tN ∧ c.size = 32 ∧ (done → ∀ t : Nat, t < 32 → c[t]? = some (.int .i64 (((j : Int) + 1) * 1073741824 + t)))
/-- The lists while they are marked. -/
structure MKs (w : World) (g n i : Nat) (F : Nat → Value) : Prop where
  row : ∀ j, j < n → w.cell? ⟨g, j, none⟩ = some (F j)
  lt : g < w.heap.size
  each : ∀ j, j < n → MK w (F j) j (j < i)
  away : ∀ j, j < n → (F j).ownBlock ≠ some g
  apart : ∀ j k a, j < n → k < n → j ≠ k → (F j).ownBlock = some a → (F k).ownBlock ≠ some a
theorem MK.mono {w : World} {x : Value} {j : Nat} {P Q : Prop} (h : MK w x j P) (hq : Q → P) : MK w x j Q := by
  rcases h with h | ⟨a, c, h1, h2, h3, h4⟩
  · exact .inl h
  · exact .inr ⟨a, c, h1, h2, h3, fun q => h4 (hq q)⟩
theorem MKs.step {w w' : World} {g n i a : Nat} {F : Nat → Value} (h : MKs w g n i F) (ho : Onl a w w') (hi : i < n) (ha : (F i).ownBlock = some a) (hn : MK w' (F i) i True) : MKs w' g n (i + 1) F := by
  refine ⟨fun j hj => ?_, Nat.lt_of_lt_of_le h.lt ho.size, fun j hj => ?_, h.away, h.apart⟩
  · rw [ho.cell h.lt (fun e => h.away i hi (by rw [ha, e]))]; exact h.row j hj
  · by_cases e : j = i
    · subst e; exact hn.mono (fun _ => trivial)
    · rcases h.each j hj with q | ⟨b, c, h1, h2, h3, h4⟩
      · exact .inl q
      · have hb : b ≠ a := fun z => h.apart j i b hj hi e (by rw [h1]; rfl) (by rw [ha, z])
        exact .inr ⟨b, c, h1, ho.at_ h2 hb, h3, fun q => h4 (by omega)⟩
theorem MKs.skip {w : World} {g n i : Nat} {F : Nat → Value} (h : MKs w g n i F) (hn : F i = .slice none 0 0) : MKs w g n (i + 1) F := by
  refine ⟨h.row, h.lt, fun j hj => ?_, h.away, h.apart⟩
  by_cases e : j = i
  · subst e; exact .inl hn
  · exact (h.each j hj).mono (fun q => by omega)

set_option maxRecDepth 100000 in
set_option maxHeartbeats 6400000 in
theorem reads_walk (hs : s.size ≤ 9223372036854775807) : Calls Try.prog 7 #[.string s] w fun e w' => e = .returned (.bool true) ∧ Below w.heap.size w w' := by
  have h1 := w_decode (w := w) hs
  have h2 := fun w1 => r_decode (w := w1) hs
  have HQ : Hid (decR s = decF (bytesOf s)) := decR_eq s
  have hqn : ∀ (w : World) (a : Option Addr) (n c : Nat), (binOp .eql 39 (.slice a n c) (.slice none 0 0)).run Try.prog w = .ok (.bool a.isNone) w := fun w a n c => Lib.run_eql_slice_nil w 39 29 a n c 0 0 Try.underlying39
  have hq1 : ∀ (w : World) (a : Option Addr) (n c : Nat), (binOp .eql 29 (.slice a n c) (.slice none 0 0)).run Try.prog w = .ok (.bool a.isNone) w := fun w a n c => Lib.run_eql_slice_nil w 29 3 a n c 0 0 Try.underlying29
  go_enter Try.func7, Try.ntmps7
  go_wp2_with fail
  refine h1.mono ?_
  rintro e w1 ⟨hb1, ⟨e1, rfl⟩ | ⟨L, g, X, e1, rfl, hg, hrow, hls⟩⟩
  · -- no certificate
    have h2' := h2 w1
    have HB1 : Hid (Below w.heap.size w w1 ∧ decF (bytesOf s) = none) := ⟨hb1, e1⟩
    clear h1 h2 hb1 e1
    go_wp2_with fail
    refine h2'.mono ?_
    rintro e w2 ⟨hb2, ⟨e2, rfl⟩ | ⟨L, v, e2, rfl, h3⟩⟩
    · have HB2 : Hid (Below w.heap.size w w2) := HB1.out.1.trans (hb2.mono HB1.out.1.size)
      clear h2' hb2 e2
      go_wp2_with fail
      go_loop [7] (fun i => i = .int .i64 0) (fun _ => 0)
      case atStart => rfl
      case round =>
        subst hrel
        go_wp2_with fail
        go_loop [9] (fun i => i = .int .i64 0) (fun _ => 0)
        case atStart => rfl
        case round =>
          subst hrel
          go_wp2_with fail
          go_loop [10] (fun i => i = .int .i64 0) (fun _ => 0)
          case atStart => rfl
          case round =>
            subst hrel
            go_wp2_with fail
            go_ret
            exact ⟨rfl, HB2.out⟩
    · exfalso
      rw [HQ.out, HB1.out.2] at e2
      cases e2
  · have hk := dec_ok (bys s) e1
    have hn1 : 1 ≤ L.length := hk.2.1
    have hn2 : L.length ≤ 21 := hk.2.2.1
    have h2' := h2 w1
    have HB1 : Hid (Below w.heap.size w w1 ∧ decF (bytesOf s) = some L) := ⟨hb1, e1⟩
    have hgl : g < w1.heap.size := (hrow.lt g rfl).2
    have HX : Hid (∀ j, j < L.length → w1.cell? ⟨g, j, none⟩ = some (X.getD j (.bool false))) := by
      intro j hj
      have hc := hrow.cells (g := g) rfl j (X.getD j (.bool false)) (by simp [List.getD, show j < X.length by rw [hls.len]; exact hj])
      rwa [addr_add] at hc
    have HLs : Hid (LLs w1 w.heap.size g X L) := hls
    have HOk : Hid (∀ j l, L.getD j none = some l → l.length = 32) := by
      intro j l hl
      rcases Nat.lt_or_ge j L.length with c | c
      · have := HLs.out.each j c
        rw [hl] at this
        obtain ⟨_, _, _, _, h5⟩ := this
        exact h5
      · rw [List.getD_eq_getElem?_getD, List.getElem?_eq_none c] at hl; cases hl
    clear h1 h2 hb1 e1 hrow hls hk
    go_wp2_with fail
    refine h2'.mono ?_
    rintro e w2 ⟨hb2, ⟨e2, rfl⟩ | ⟨L2, v, e2, rfl, h3, a0, n0, c0, rfl⟩⟩
    · exfalso
      rw [HQ.out, HB1.out.2] at e2
      cases e2
    · have hLL : L2 = L := by rw [HQ.out, HB1.out.2] at e2; exact (Option.some.inj e2).symm
      subst hLL
      obtain ⟨ao, cap, hv, hcap, h0⟩ := h3
      injection hv with v1 v2 v3
      subst v1 v2 v3
      obtain ⟨b2, off2, ha, hb2l, hcell⟩ := h0 (by omega)
      injection ha with ha
      subst ha
      obtain ⟨n, hn⟩ : ∃ n, n = L2.length := ⟨_, rfl⟩
      have HB2 : Hid (Below w.heap.size w w2) := HB1.out.1.trans (hb2.mono HB1.out.1.size)
      have HC2 : Hid (∀ j, j < n → ∃ x, w2.cell? ⟨b2, off2 + j, none⟩ = some x ∧ RdL w2 x (L2.getD j none)) := by rw [hn]; exact hcell
      have HM : Hid (MKs w2 g n 0 (fun j => X.getD j (.bool false))) := by
        rw [hn]
        refine ⟨fun j hj => ?_, Nat.lt_of_lt_of_le hgl hb2.size, fun j hj => ?_, HLs.out.away, HLs.out.apart⟩
        · rw [hb2.cell (p := ⟨g, j, none⟩) hgl]; exact HX.out j hj
        · have hp := HLs.out.each j hj
          cases e : L2.getD j none with
          | none => rw [e] at hp; exact .inl hp
          | some l =>
            rw [e] at hp
            obtain ⟨a, _, h5, h6, h7⟩ := hp
            exact .inr ⟨a, ic l, h5, h6.keep hb2 h6.lt, by rw [ic_size]; exact h7, fun q => by omega⟩
      have HBs : Hid (∀ j k, j < n → (X.getD j (.bool false)).ownBlock = some k → w.heap.size ≤ k) := fun j k hj hk => ((HLs.out.each j (by omega)).lt k hk).1
      have HP : Hid (∀ j, j < n → PV w2 w.heap.size (X.getD j (.bool false)) (L2.getD j none)) := by
        intro j hj
        have hp := HLs.out.each j (by omega)
        exact hp.same (fun k hk => hb2.block k (hp.lt k hk).2)
      rw [← hn] at hn1 hn2 ⊢
      clear h2' hb2 e2 hcell h0 hcap HLs HX HB1 hgl HQ hn
      generalize hF : (fun j => X.getD j (.bool false)) = F at *
      have HF : Hid (∀ j, X.getD j (.bool false) = F j) := fun j => by rw [← hF]
      have hni : (n : Int) ≤ 21 := by omega
      replace HBs : Hid (∀ j k, j < n → (F j).ownBlock = some k → w.heap.size ≤ k) := fun j k hj hk => HBs.out j k hj (by rw [HF.out]; exact hk)
      clear hF
      go_wp2_with fail
      go_loopw [7] (fun i wr => ∃ (j : Nat), j ≤ n ∧ i = .int .i64 j ∧ Hid (SW w2 wr)) (fun i _ => n - (intOf i).toNat)
      case atStart => exact ⟨0, by omega, rfl, SW.refl _⟩
      case round =>
        obtain ⟨j, hj, rfl, HW⟩ := hrel
        by_cases hlt : j < n
        · have hji : (j : Int) < (n : Int) := by omega
          obtain ⟨x2, hx2, hr2⟩ := HC2.out j hlt
          have c1 : wr.cell? ⟨g, j, none⟩ = some (F j) := (HW.out.cell _ _).trans (HM.out.row j hlt)
          have c2 : wr.cell? ⟨b2, off2 + j, none⟩ = some x2 := (HW.out.cell _ _).trans hx2
          have hp := HP.out j hlt
          rw [HF.out j] at hp
          cases hL : L2.getD j none with
          | none =>
            rw [hL] at hp hr2
            have e1 : F j = .slice none 0 0 := hp
            have e2 : x2 = .slice none 0 0 := hr2
            subst e2
            rw [e1] at c1
            have HS : Hid (∀ w3, SW wr w3 → Calls Try.prog 23 #[.slice none 0 0, .slice none 0 0] w3 fun e w' => e = .returned (.bool true) ∧ Hid (SW wr w')) := by
              intro w3 h3
              refine (l_same w3 _ _ [] (by simp) (reads_nil w3) (reads_nil w3)).mono ?_
              rintro e w4 ⟨rfl, k, rfl⟩
              exact ⟨rfl, h3.drewN k⟩
            clear hx2 hr2 hp e1 hL
            go_wp2_with fail
            go_region_with (go_at_call 23; refine (HS.out _ (by first | exact SW.refl _ | exact (SW.refl _).drewN 1 | exact (SW.refl _).drewN 2)).mono ?_; rintro e w4 ⟨rfl, H4⟩)
            all_goals
              have c14 := (H4.out.cell g j).trans c1
              have c24 := (H4.out.cell b2 (off2 + j)).trans c2
              have hs4 : w4.heap.size = wr.heap.size := by rw [H4.out.2]
              go_wp2_with fail
              go_quiet (fail)
              go_wp2_with fail
              go_roundw
              case rel => exact ⟨j + 1, by omega, by go_num, (HW.out.trans H4.out).drewN _⟩
              case measure => simp [intOf]; omega
          | some l =>
            rw [hL] at hp hr2
            obtain ⟨a, _, e1, hat, hl32⟩ := hp
            obtain ⟨hrd2, a3, n3, c3, rfl⟩ := hr2
            have hrd1 : Reads w2 (.slice (some ⟨a, 0, none⟩) 32 32) l := Reads.at_ hat hl32 (Nat.le_refl _) (fun i hi => ic_get _ _ (by omega))
            rw [e1] at c1
            have HS : Hid (∀ w3, SW wr w3 → Calls Try.prog 23 #[.slice (some ⟨a, 0, none⟩) 32 32, .slice (some a3) n3 c3] w3 fun e w' => e = .returned (.bool true) ∧ Hid (SW wr w')) := by
              intro w3 h3
              refine (l_same w3 _ _ l (by omega) ((HW.out.trans h3).reads hrd1) ((HW.out.trans h3).reads hrd2)).mono ?_
              rintro e w4 ⟨rfl, k, rfl⟩
              exact ⟨rfl, h3.drewN k⟩
            clear hx2 hrd1 hrd2 e1 hL hat hl32
            go_wp2_with fail
            go_region_with (go_at_call 23; refine (HS.out _ (by first | exact SW.refl _ | exact (SW.refl _).drewN 1 | exact (SW.refl _).drewN 2)).mono ?_; rintro e w4 ⟨rfl, H4⟩)
            all_goals
              have c14 := (H4.out.cell g j).trans c1
              have c24 := (H4.out.cell b2 (off2 + j)).trans c2
              have hs4 : w4.heap.size = wr.heap.size := by rw [H4.out.2]
              go_wp2_with fail
              go_quiet (fail)
              go_wp2_with fail
              go_roundw
              case rel => exact ⟨j + 1, by omega, by go_num, (HW.out.trans H4.out).drewN _⟩
              case measure => simp [intOf]; omega
        · have hjn : j = n := by omega
          subst hjn
          have HM3 : Hid (MKs wr g j 0 F ∧ Below w.heap.size w wr) := by
            refine ⟨⟨fun k hk => (HW.out.cell _ _).trans (HM.out.row k hk), by rw [HW.out.2]; exact HM.out.lt, fun k hk => ?_, HM.out.away, HM.out.apart⟩, HB2.out.trans (HW.out.below _)⟩
            rcases HM.out.each k hk with q | ⟨a, c, h1, h2, h3, h4⟩
            · exact .inl q
            · exact .inr ⟨a, c, h1, h2.same (by rw [HW.out.2]), h3, fun q => by omega⟩
          obtain ⟨w5, hw5⟩ : ∃ w5, w5 = wr := ⟨_, rfl⟩
          rw [← hw5] at HM3 ⊢
          have hwg : g < w5.heap.size := HM3.out.1.lt
          clear hw5 HW HM HP HC2 HF
          clear hlt
          go_wp2_with fail
          go_loopw [9] (fun i wr => ∃ (k : Nat), k ≤ j ∧ i = .int .i64 k ∧ Hid (MKs wr g j k F ∧ Below w.heap.size w wr)) (fun i _ => j - (intOf i).toNat)
          case atStart => exact ⟨0, by omega, rfl, HM3.out⟩
          case round =>
            obtain ⟨i, hi, rfl, HR⟩ := hrel
            have hgr : g < wr.heap.size := HR.out.1.lt
            by_cases hlt : i < j
            · have hii : (i : Int) < (j : Int) := by omega
              have c1 := HR.out.1.row i hlt
              have w1e : wrap64 ((i : Int) + 1) = (i : Int) + 1 := by unfold wrap64; omega
              have w2e : wrap64 (((i : Int) + 1) * 1073741824) = ((i : Int) + 1) * 1073741824 := by unfold wrap64; omega
              rcases HR.out.1.each i hlt with q | ⟨a, c, q1, q2, q3, q4⟩
              · have hmk := l_mark_nil wr (((i : Int) + 1) * 1073741824)
                have HN : Hid (F i = .slice none 0 0) := q
                rw [q] at c1
                clear q
                go_wp2_with fail
                refine hmk.mono ?_
                rintro e w6 ⟨rfl, rfl⟩
                go_wp2_with fail
                go_roundw
                case rel => exact ⟨i + 1, by omega, by go_num, HR.out.1.skip HN.out, HR.out.2⟩
                case measure => simp [intOf]; omega
              · have hmk := l_markO wr a 32 32 c (((i : Int) + 1) * 1073741824) q2 q3 (Nat.le_refl _) (by omega) (by omega) (by omega)
                have HN : Hid (F i = .slice (some ⟨a, 0, none⟩) 32 32) := q1
                have HAb : Hid (w.heap.size ≤ a) := HBs.out i a hlt (by rw [q1]; rfl)
                rw [q1] at c1
                clear q1 q2 q3 q4
                go_wp2_with fail
                refine hmk.mono ?_
                rintro e w6 ⟨rfl, ho, c', hc1, hc2, hc3⟩
                have H6 : Hid (MKs w6 g j (i + 1) F ∧ Below w.heap.size w w6) := ⟨HR.out.1.step ho hlt (by rw [HN.out]; rfl) (.inr ⟨a, c', HN.out, hc1, hc2, fun _ => hc3⟩), HR.out.2.trans (ho.below HAb.out HR.out.2.size)⟩
                clear hmk ho hc1 hc2 hc3
                go_wp2_with fail
                go_roundw
                case rel => exact ⟨i + 1, by omega, by go_num, H6.out⟩
                case measure => simp [intOf]; omega
            · have hij : i = j := by omega
              subst hij
              obtain ⟨w6, hw6⟩ : ∃ w6, w6 = wr := ⟨_, rfl⟩
              have HM6 : Hid (MKs w6 g i i F ∧ Below w.heap.size w w6) := by rw [hw6]; exact HR.out
              have hg6 : g < w6.heap.size := HM6.out.1.lt
              rw [← hw6]
              clear hw6 HR hlt hgr HM3
              go_wp2_with fail
              go_loop [10, 11] (fun k _ => ∃ (m : Nat), m ≤ i ∧ k = .int .i64 m) (fun k _ => i - (intOf k).toNat)
              case atStart => exact ⟨0, by omega, rfl⟩
              case round =>
                obtain ⟨m, hm, rfl⟩ := hrel
                by_cases hlt : m < i
                · have hii : (m : Int) < (i : Int) := by omega
                  have c1 := HM6.out.1.row m hlt
                  have w1e : wrap64 ((m : Int) + 1) = (m : Int) + 1 := by unfold wrap64; omega
                  have w2e : wrap64 (((m : Int) + 1) * 1073741824) = ((m : Int) + 1) * 1073741824 := by unfold wrap64; omega
                  rcases HM6.out.1.each m hlt with q | ⟨a, c, q1, q2, q3, q4⟩
                  · have hmk := l_marked_nil w6 (((m : Int) + 1) * 1073741824)
                    rw [q] at c1
                    clear q
                    go_wp2_with fail
                    refine hmk.mono ?_
                    rintro e w7 ⟨rfl, rfl⟩
                    go_wp2_with fail
                    go_round
                    case rel => exact ⟨m + 1, by omega, by go_num⟩
                    case measure => simp [intOf]; omega
                  · have hmk := l_marked w6 a 32 32 (((m : Int) + 1) * 1073741824) q2.lt (Nat.le_refl _) (by omega) (by omega) (by omega) (fun t ht => by rw [q2.cell]; exact q4 hlt t ht)
                    rw [q1] at c1
                    clear q1 q2 q3 q4
                    go_wp2_with fail
                    refine hmk.mono ?_
                    rintro e w7 ⟨rfl, rfl⟩
                    go_wp2_with fail
                    go_round
                    case rel => exact ⟨m + 1, by omega, by go_num⟩
                    case measure => simp [intOf]; omega
                · have hii : ¬ (m : Int) < (i : Int) := by omega
                  go_wp2_with fail
                  go_ret
                  exact ⟨rfl, HM6.out.2⟩

end Go.Proofs.Ytffajooegiempaa

