import Derived.Test.YtjbpfbgemidleaaJ8
namespace Go.Proofs.Ytjbpfbgemidleaa
open Go.RowKit
variable {B B2 : Nat} {w w' : World} {r : Nat} {m : Rd} {vs vo : Value} {P Q O : Nat → Nat}

theorem Rep.keep (h : Rep B w r m vs vo P Q O) (hb : Below w.heap.size w w') : Rep B w' r m vs vo P Q O where
  rd := h.rd.keep hb h.rd.lt
  rs := ownsRow_same h.rs (fun g hg => hb.block g (h.rs.lt g hg).2)
  ro := ownsRow_same h.ro (fun g hg => hb.block g (h.ro.lt g hg).2)
  st := fun i s hi => by
    obtain ⟨a, b⟩ := h.st i s hi
    exact ⟨a.keep hb a.lt, b.keep hb b.lt⟩
  op := fun i b hi => (h.op i b hi).keep hb (h.op i b hi).lt
  injP := h.injP
  injQ := h.injQ
  injO := h.injO
  geR := h.geR
  geP := h.geP
  geO := h.geO

/-- The document's reader, below a block. -/
def RAt (B2 : Nat) (w : World) (r : Nat) (m : Rd) : Prop := ∃ B w0 vs vo P Q O, Rep B w0 r m vs vo P Q O ∧ w0.heap.size ≤ B2 ∧ Below w0.heap.size w0 w
theorem RAt.keep (h : RAt B2 w r m) (hb : Below B2 w w') : RAt B2 w' r m := by
  obtain ⟨B, w0, vs, vo, P, Q, O, h1, h2, h3⟩ := h
  exact ⟨B, w0, vs, vo, P, Q, O, h1, h2, h3.trans (hb.mono h2)⟩
theorem RAt.rep (h : RAt B2 w r m) : ∃ B vs vo P Q O, Rep B w r m vs vo P Q O ∧ r < B2 := by
  obtain ⟨B, w0, vs, vo, P, Q, O, h1, h2, h3⟩ := h
  exact ⟨B, vs, vo, P, Q, O, h1.keep h3, Nat.lt_of_lt_of_le h1.rd.lt h2⟩

/-- A run of the document's. -/
structure Wk where
  st : Int
  pt : Int
  v : List Int
  inp : List Int
abbrev tW : TypeId := 56
def wCells (q : Nat) (iv : Value) (k : Wk) : Array Value := #[.int .i64 k.st, .int .i64 k.pt, .slice (some ⟨q, 0, none⟩) 4 4, iv]

/-- A run of the document's, as it lies in memory: its blocks lie from B2 on, all else below. -/
structure WRep (B2 : Nat) (w : World) (r b q : Nat) (m : Rd) (iv : Value) (k : Wk) : Prop where
  rd : RAt B2 w r m
  at_ : At w b (wCells q iv k) tW
  vt : At w q (ic k.v) tN
  inp : Inp w B2 iv k.inp
  len : k.v.length = 4
  v : ∀ i, -999 ≤ sgAt k.v i ∧ sgAt k.v i ≤ 999
  gb : B2 ≤ b
  gq : B2 ≤ q

theorem WRep.cells {b q : Nat} {iv : Value} {k : Wk} (h : WRep B2 w r b q m iv k) : w.cell? ⟨b, 0, none⟩ = some (.int .i64 k.st) ∧ w.cell? ⟨b, 1, none⟩ = some (.int .i64 k.pt) ∧ w.cell? ⟨b, 2, none⟩ = some (.slice (some ⟨q, 0, none⟩) 4 4) ∧ w.cell? ⟨b, 3, none⟩ = some iv ∧ ∀ i, w.frozen? ⟨b, i, none⟩ = false :=
  ⟨h.at_.cell 0, h.at_.cell 1, h.at_.cell 2, h.at_.cell 3, h.at_.free⟩

set_option maxRecDepth 100000 in
set_option maxHeartbeats 1600000 in
theorem r_sum (a l : List Int) (p q : Nat) (hx : ∀ i, -1 ≤ sgAt a i ∧ sgAt a i ≤ 1) (hv : ∀ i, -999 ≤ sgAt l i ∧ sgAt l i ≤ 999) (w : World) (ha : At w p (ic a) tN) (hl : At w q (ic l) tN) (la : a.length = 4) (ll : l.length = 4) :
    Calls Try.prog 35 #[.slice (some ⟨p, 0, none⟩) 4 4, .slice (some ⟨q, 0, none⟩) 4 4] w fun e w' => e = .returned (.int .i64 (sumTo a l 4)) ∧ ∃ n, w' = w.drewN n := by
  have HP : Hid (∀ i, i < 4 → w.cell? ⟨p, i, none⟩ = some (.int .i64 (sgAt a i))) := fun i hi => by rw [ha.cell, ic_get _ _ (by omega)]; rfl
  have HQ : Hid (∀ i, i < 4 → w.cell? ⟨q, i, none⟩ = some (.int .i64 (sgAt l i))) := fun i hi => by rw [hl.cell, ic_get _ _ (by omega)]; rfl
  clear ha hl la ll
  go_enter Try.func35, Try.ntmps35
  go_wp2_with fail
  go_loopw [5, 6] (fun sm i wr => ∃ (j k : Nat), j ≤ 4 ∧ i = .int .i64 j ∧ sm = .int .i64 (sumTo a l j) ∧ wr = w.drewN k) (fun _ i _ => 4 - (intOf i).toNat)
  case atStart => exact ⟨0, 0, by omega, rfl, rfl, rfl⟩
  case round =>
    obtain ⟨j, k, hj, rfl, rfl, hwr⟩ := hrel
    have HW : Hid (∃ k, wr = w.drewN k) := ⟨k, hwr⟩
    have k1 : ∀ a, wr.cell? a = w.cell? a := fun a => by rw [hwr]; rfl
    have a0 := (k1 _).trans (HP.out 0 (by omega))
    have a1 := (k1 _).trans (HP.out 1 (by omega))
    have a2 := (k1 _).trans (HP.out 2 (by omega))
    have a3 := (k1 _).trans (HP.out 3 (by omega))
    have b0 := (k1 _).trans (HQ.out 0 (by omega))
    have b1 := (k1 _).trans (HQ.out 1 (by omega))
    have b2 := (k1 _).trans (HQ.out 2 (by omega))
    have b3 := (k1 _).trans (HQ.out 3 (by omega))
    clear hwr k1
    rcases (show j = 0 ∨ j = 1 ∨ j = 2 ∨ j = 3 ∨ j = 4 by omega) with rfl | rfl | rfl | rfl | rfl
    · have hp := mul_sg (sgAt a 0) (sgAt l 0) (hx 0).1 (hx 0).2 (hv 0).1 (hv 0).2
      have hs := sumTo_le hx hv 0
      have hmw : wrap64 (sgAt a 0 * sgAt l 0) = sgAt a 0 * sgAt l 0 := by unfold wrap64; omega
      have hL : Hid (sumTo a l (0 + 1) = sumTo a l 0 + sgAt a 0 * sgAt l 0) := rfl
      have hlo : -4000 ≤ sumTo a l 0 := by omega
      have hhi : sumTo a l 0 ≤ 4000 := by omega
      clear hs
      generalize sumTo a l 0 = sm at *
      go_wp2_with fail
      go_quiet (fail)
      go_wp2_with fail
      go_roundw
      case rel => obtain ⟨k', e⟩ := HW.out; exact ⟨0 + 1, _, by omega, rfl, by rw [hL.out], by rw [e]; exact drewN_two _ _ _⟩
      case measure => simp [intOf]
    · have hp := mul_sg (sgAt a 1) (sgAt l 1) (hx 1).1 (hx 1).2 (hv 1).1 (hv 1).2
      have hs := sumTo_le hx hv 1
      have hmw : wrap64 (sgAt a 1 * sgAt l 1) = sgAt a 1 * sgAt l 1 := by unfold wrap64; omega
      have hL : Hid (sumTo a l (1 + 1) = sumTo a l 1 + sgAt a 1 * sgAt l 1) := rfl
      have hlo : -4000 ≤ sumTo a l 1 := by omega
      have hhi : sumTo a l 1 ≤ 4000 := by omega
      clear hs
      generalize sumTo a l 1 = sm at *
      go_wp2_with fail
      go_quiet (fail)
      go_wp2_with fail
      go_roundw
      case rel => obtain ⟨k', e⟩ := HW.out; exact ⟨1 + 1, _, by omega, rfl, by rw [hL.out], by rw [e]; exact drewN_two _ _ _⟩
      case measure => simp [intOf]
    · have hp := mul_sg (sgAt a 2) (sgAt l 2) (hx 2).1 (hx 2).2 (hv 2).1 (hv 2).2
      have hs := sumTo_le hx hv 2
      have hmw : wrap64 (sgAt a 2 * sgAt l 2) = sgAt a 2 * sgAt l 2 := by unfold wrap64; omega
      have hL : Hid (sumTo a l (2 + 1) = sumTo a l 2 + sgAt a 2 * sgAt l 2) := rfl
      have hlo : -4000 ≤ sumTo a l 2 := by omega
      have hhi : sumTo a l 2 ≤ 4000 := by omega
      clear hs
      generalize sumTo a l 2 = sm at *
      go_wp2_with fail
      go_quiet (fail)
      go_wp2_with fail
      go_roundw
      case rel => obtain ⟨k', e⟩ := HW.out; exact ⟨2 + 1, _, by omega, rfl, by rw [hL.out], by rw [e]; exact drewN_two _ _ _⟩
      case measure => simp [intOf]
    · have hp := mul_sg (sgAt a 3) (sgAt l 3) (hx 3).1 (hx 3).2 (hv 3).1 (hv 3).2
      have hs := sumTo_le hx hv 3
      have hmw : wrap64 (sgAt a 3 * sgAt l 3) = sgAt a 3 * sgAt l 3 := by unfold wrap64; omega
      have hL : Hid (sumTo a l (3 + 1) = sumTo a l 3 + sgAt a 3 * sgAt l 3) := rfl
      have hlo : -4000 ≤ sumTo a l 3 := by omega
      have hhi : sumTo a l 3 ≤ 4000 := by omega
      clear hs
      generalize sumTo a l 3 = sm at *
      go_wp2_with fail
      go_quiet (fail)
      go_wp2_with fail
      go_roundw
      case rel => obtain ⟨k', e⟩ := HW.out; exact ⟨3 + 1, _, by omega, rfl, by rw [hL.out], by rw [e]; exact drewN_two _ _ _⟩
      case measure => simp [intOf]
    · go_wp2_with fail
      go_ret
      exact ⟨rfl, HW.out⟩

theorem WRep.below {b q : Nat} {iv : Value} {k : Wk} (h : WRep B2 w r b q m iv k) (o : Nat) (u : Value) : Below B2 w (w.setCell ⟨b, o, none⟩ u) := (Below.refl B2 w).setCell h.gb _
/-- A field of the run is written. -/
theorem WRep.set {b q : Nat} {iv iv' : Value} {k k' : Wk} (h : WRep B2 w r b q m iv k) (o : Nat) (u : Value) (hc : (wCells q iv k).setIfInBounds o u = wCells q iv' k') (hv : k'.v = k.v) (hi : Inp w B2 iv' k'.inp) : WRep B2 (w.setCell ⟨b, o, none⟩ u) r b q m iv' k' where
  rd := h.rd.keep (h.below o u)
  at_ := by rw [← hc]; exact h.at_.put o u
  vt := by rw [hv]; exact h.vt.other o u (h.vt.ne h.at_ (by decide))
  inp := hi.keep (h.below o u)
  len := by rw [hv]; exact h.len
  v := by rw [hv]; exact h.v
  gb := h.gb
  gq := h.gq
theorem WRep.drewN {b q : Nat} {iv : Value} {k : Wk} (h : WRep B2 w r b q m iv k) (n : Nat) : WRep B2 (w.drewN n) r b q m iv k :=
  ⟨h.rd.keep (below_drewN (Below.refl _ _) n), h.at_, h.vt, h.inp.keep (below_drewN (Below.refl _ _) n), h.len, h.v, h.gb, h.gq⟩

/-- What a step of the run leaves. -/
def WStep (B2 : Nat) (w : World) (r b q : Nat) (m : Rd) (k : Wk) (w' : World) : Prop := ∃ iv', WRep B2 w' r b q m iv' k ∧ Below B2 w w'

theorem Inp.tail {B : Nat} {ao : Option Addr} {cap : Nat} {x : Int} {L : List Int} (h : Inp w B (.slice ao (L.length + 1) cap) (x :: L)) : ∃ b off, ao = some ⟨b, off, none⟩ ∧ b < B ∧ L.length + 1 ≤ cap ∧ w.cell? ⟨b, off, none⟩ = some (.int .i64 x) ∧
    ∀ ao' cap', (L.length ≠ 0 → ao' = some ⟨b, off + 1, none⟩) → L.length ≤ cap' → Inp w B (.slice ao' L.length cap') L := by
  obtain ⟨ao', cap', hv, hc, h0⟩ := h
  cases hv
  obtain ⟨b, off, ha, hb, hcell⟩ := h0 (by simp)
  refine ⟨b, off, ha, hb, by simpa using hc, by simpa [List.getD] using hcell 0 (by simp), fun a2 c2 h2 hc2 => ⟨a2, c2, rfl, hc2, fun hn => ⟨b, off + 1, h2 hn, hb, fun i hi => ?_⟩⟩⟩
  have := hcell (i + 1) (by simp; omega)
  rw [show off + 1 + i = off + (i + 1) by omega, this]
  simp [List.getD]

set_option maxRecDepth 100000 in
set_option maxHeartbeats 1600000 in
theorem r_take {b q : Nat} {iv : Value} {k : Wk} (h : WRep B2 w r b q m iv k) (hL : k.inp.length ≤ 1073741824) :
    Calls Try.prog 36 #[.pointer (some ⟨b, 0, none⟩)] w fun e w' => e = .returned (.int .i64 (k.inp.headD 0)) ∧ WStep B2 w r b q m ⟨k.st, k.pt, k.v, k.inp.tail⟩ w' := by
  obtain ⟨c0, c1, c2, c3, cf⟩ := h.cells
  have hlt := h.at_.lt
  have HW : Hid (WRep B2 w r b q m iv k) := h
  obtain ⟨ao, cap, rfl, hcap, h0⟩ := h.inp
  obtain ⟨st, pt, v, inp⟩ := k
  cases inp with
  | nil =>
    simp at c3
    clear h h0
    go_enter Try.func36, Try.ntmps36
    go_wp2_with fail
    go_ret
    exact ⟨rfl, _, HW.out, Below.refl _ _⟩
  | cons x L =>
    simp only [List.length_cons] at *
    obtain ⟨p, off, rfl, hp, hc, hx, HT⟩ := Inp.tail h.inp
    have HTl : Hid (∀ ao' cap', (L.length ≠ 0 → ao' = some ⟨p, off + 1, none⟩) → L.length ≤ cap' → Inp w B2 (.slice ao' L.length cap') L) := HT
    have hl0 : (((L.length : Nat) : Int) + 1 == 0) = false := by rw [beq_eq_false_iff_ne]; omega
    clear h h0 HT
    go_enter Try.func36, Try.ntmps36
    go_wp2_with fail
    all_goals
      go_ret
      refine ⟨rfl, _, HW.out.set (k' := ⟨st, pt, v, L⟩) 3 _ rfl rfl (HTl.out _ _ ?_ ?_), HW.out.below 3 _⟩
      · intro hn; first | rfl | (exfalso; omega)
      · omega

end Go.Proofs.Ytjbpfbgemidleaa

/- What every statement of a program keeps to: its variable, its signs. No Go in here. -/
namespace Go.Proofs.Ytjbpfbgemidleaa
variable {m m' : Rd}

def Gd (s : St) : Prop := 0 ≤ s.var ∧ s.var ≤ 3 ∧ ∀ x, x ∈ s.sg → -1 ≤ x ∧ x ≤ 1
def AllGd (m : Rd) : Prop := ∀ s, s ∈ m.st → Gd s
theorem gd_no : Gd noSt := ⟨by decide, by decide, fun x hx => by simp [noSt] at hx; omega⟩
theorem AllGd.get (h : AllGd m) (k : Nat) : Gd (m.st.getD k noSt) := by
  rw [List.getD_eq_getElem?_getD]
  cases e : m.st[k]? with
  | none => exact gd_no
  | some s => exact h s (List.mem_of_getElem? e)
theorem AllGd.cur (h : AllGd m) : Gd (cur m) := h.get _
theorem AllGd.setC (h : AllGd m) {s : St} (hs : Gd s) : AllGd (setCur m s) := fun t ht => (mem_setCur ht).elim (h t) (fun e => e ▸ hs)
theorem AllGd.of {m1 : Rd} (h : AllGd m1) (e : m'.st = m1.st) : AllGd m' := fun s hs => h s (e ▸ hs)

theorem AllGd.begin_ (h : AllGd m) {k v x : Int} (h0 : 0 ≤ v) (h3 : v ≤ 3) (e : beginStep m k v x = some m') : AllGd m' := by
  unfold beginStep at e
  split at e
  · cases e
  · cases e
    intro s hs
    rcases List.mem_append.1 hs with hs | hs
    · exact h s hs
    · rw [List.mem_singleton.1 hs]
      exact ⟨h0, h3, fun x hx => by simp at hx; omega⟩
theorem AllGd.shut (h : AllGd m) (e : shutStep m = some m') : AllGd m' := by
  have hg := h.get (top m).of_
  simp only [shutStep] at e
  split at e
  · cases e; exact fun t ht => (List.mem_or_eq_of_mem_set ht).elim (h t) (fun e => e ▸ hg)
  · cases e; exact fun t ht => (List.mem_or_eq_of_mem_set ht).elim (h t) (fun e => e ▸ hg)
theorem AllGd.digit (h : AllGd m) {c x : Int} {pos : Bool} (e : digitStep m c pos x = some m') : AllGd m' := by
  obtain ⟨d, u, _, _, rfl⟩ := digit_inv e
  exact (h.setC (s := { Go.Proofs.Ytjbpfbgemidleaa.cur m with num := 10 * u + (c - 48) }) h.cur).of rfl
theorem AllGd.signTo (h : AllGd m) (v : Nat) (y x : Int) (hy : -1 ≤ y ∧ y ≤ 1) : AllGd (signTo m v y x) := by
  have hc := h.cur
  refine (h.setC (s := { Go.Proofs.Ytjbpfbgemidleaa.cur m with sg := (Go.Proofs.Ytjbpfbgemidleaa.cur m).sg.set v y }) ⟨hc.1, hc.2.1, fun z hz => ?_⟩).of rfl
  rcases List.mem_or_eq_of_mem_set hz with hz | hz
  · exact hc.2.2 z hz
  · rw [hz]; exact hy
theorem AllGd.plain (h : AllGd m) {c : Int} (e : plainStep m c = some m') : AllGd m' := by
  unfold plainStep at e
  split at e
  · split at e
    · cases e; exact h.of rfl
    · cases e
  · split at e
    · cases e
    · cases e; exact h.of rfl

theorem AllGd.value (h : AllGd m) (ok : Ok m) {c : Int} (e : valueStep m c = some m') : AllGd m' := by
  have hs := ok.sgn
  have ve : AllGd (valueEnd m) := (h.setC (s := { Go.Proofs.Ytjbpfbgemidleaa.cur m with num := m.sign * (Go.Proofs.Ytjbpfbgemidleaa.cur m).num }) h.cur).of rfl
  unfold valueStep at e
  split at e
  · split at e
    · cases e; exact (h.setC (s := { Go.Proofs.Ytjbpfbgemidleaa.cur m with star := true }) h.cur).of rfl
    split at e
    · cases e; exact h.of rfl
    split at e
    · cases e; exact h.signTo _ 1 120 (by omega)
    · exact AllGd.digit (m := { m with sign := 1 }) (h.of rfl) e
  split at e
  · split at e
    · cases e; exact h.signTo _ m.sign 120 hs
    · exact h.digit e
  split at e
  · split at e
    · cases e; exact h.of rfl
    split at e
    · cases e; exact h.of rfl
    split at e
    · cases e; exact ve
    · cases e
  split at e
  · exact h.digit e
  · split at e
    · cases e; exact ve
    · exact h.digit e

theorem AllGd.cond (h : AllGd m) (ok : Ok m) {c : Int} (e : condStep m c = some m') : AllGd m' := by
  have hs := ok.sgn
  unfold condStep at e
  by_cases x1 : m.state = 99
  · rw [if_pos x1] at e
    split at e
    · cases e; exact (h.setC (s := { Go.Proofs.Ytjbpfbgemidleaa.cur m with star := true }) h.cur).of rfl
    split at e
    · cases e; exact h.of rfl
    split at e
    · cases e; exact h.signTo _ 1 100 (by omega)
    · cases e
  rw [if_neg x1] at e
  by_cases x2 : m.state = 67
  · rw [if_pos x2] at e
    split at e
    · cases e; exact h.signTo _ m.sign 100 hs
    · cases e
  rw [if_neg x2] at e
  by_cases x3 : m.state = 100
  · rw [if_pos x3] at e
    split at e
    · cases e; exact h.of rfl
    split at e
    · cases e; exact h.of rfl
    split at e
    · cases e; exact h.of rfl
    · cases e
  rw [if_neg x3] at e
  by_cases x4 : m.state = 101
  · rw [if_pos x4] at e
    split at e
    · split at e
      · cases e; exact h.signTo _ m.sign 102 hs
      · cases e
    · cases e
  rw [if_neg x4] at e
  by_cases x5 : m.state = 102
  · rw [if_pos x5] at e
    split at e
    · cases e; exact h.of rfl
    · cases e
  rw [if_neg x5] at e
  by_cases x6 : m.state = 60
  · rw [if_pos x6] at e
    split at e
    · cases e; exact h.of rfl
    · cases e
  rw [if_neg x6] at e
  by_cases x7 : m.state = 98
  · rw [if_pos x7] at e
    split at e
    · cases e; exact h.of rfl
    · exact h.digit e
  rw [if_neg x7] at e
  by_cases x8 : m.state = 66
  · rw [if_pos x8] at e
    exact h.digit e
  rw [if_neg x8] at e
  by_cases x9 : m.state = 109
  · rw [if_pos x9] at e
    split at e
    · exact AllGd.plain (m := { setCur m { Go.Proofs.Ytjbpfbgemidleaa.cur m with num := if m.neg then -(Go.Proofs.Ytjbpfbgemidleaa.cur m).num else (Go.Proofs.Ytjbpfbgemidleaa.cur m).num } with state := behindOf m }) ((h.setC (s := { Go.Proofs.Ytjbpfbgemidleaa.cur m with num := if m.neg then -(Go.Proofs.Ytjbpfbgemidleaa.cur m).num else (Go.Proofs.Ytjbpfbgemidleaa.cur m).num }) h.cur).of rfl) e
    · exact h.digit e
  rw [if_neg x9] at e
  split at e
  · cases e; exact h.of rfl
  · cases e

theorem AllGd.byte (h : AllGd m) (ok : Ok m) {c : Int} (e : byteStep m c = some m') : AllGd m' := by
  unfold byteStep at e
  split at e
  · unfold startStep at e
    split at e
    · exact h.begin_ (by omega) (by omega) e
    split at e
    · split at e
      · exact h.begin_ (by omega) (by omega) e
      · cases e
    split at e
    · exact h.begin_ (by omega) (by omega) e
    split at e
    · exact h.shut e
    · cases e
  split at e
  · split at e
    · cases e; exact h.of rfl
    · cases e
  split at e
  · exact h.value ok e
  split at e
  · exact h.plain e
  · exact h.cond ok e

theorem gd_from {l : List Int} : ∀ {m : Rd} {n k : Nat}, AllGd m → Ok m → readFrom m l n = (k, some m') → AllGd m' ∧ Ok m' := by
  induction l with
  | nil => intro m n k h ok e; simp [readFrom] at e; rw [← e.2]; exact ⟨h, ok⟩
  | cons c l ih =>
    intro m n k h ok e
    simp only [readFrom] at e
    split at e
    · cases e
    · rename_i m1 e1
      exact ih (h.byte ok e1) (ok.byte e1) e

end Go.Proofs.Ytjbpfbgemidleaa

namespace Go.Proofs.Ytjbpfbgemidleaa
open Go.RowKit
variable {B B2 : Nat} {w w' : World} {r : Nat} {m : Rd}

/-- A statement of the document's reader, as it lies in memory. -/
structure SAt (w : World) (B2 r p len : Nat) (u : St) (g cap X Y : Nat) : Prop where
  r1 : w.cell? ⟨r, 1, none⟩ = some (.slice (some ⟨g, 0, none⟩) len cap)
  gp : w.cell? ⟨g, p, none⟩ = some (.pointer (some ⟨X, 0, none⟩))
  c0 : w.cell? ⟨X, 0, none⟩ = some (.int .u8 u.kind)
  c1 : w.cell? ⟨X, 1, none⟩ = some (.int .i64 u.var)
  c2 : w.cell? ⟨X, 2, none⟩ = some (.bool u.star)
  c3 : w.cell? ⟨X, 3, none⟩ = some (.slice (some ⟨Y, 0, none⟩) 4 4)
  c4 : w.cell? ⟨X, 4, none⟩ = some (.int .i64 u.num)
  sg : At w Y (ic u.sg) tN
  lr : r < B2
  lg : g < B2
  lX : X < B2
  lY : Y < B2
theorem SAt.keep {p len : Nat} {u : St} {g cap X Y : Nat} (h : SAt w B2 r p len u g cap X Y) (hb : Below B2 w w') : SAt w' B2 r p len u g cap X Y where
  r1 := (hb.cell (by exact h.lr)).trans h.r1
  gp := (hb.cell (by exact h.lg)).trans h.gp
  c0 := (hb.cell (by exact h.lX)).trans h.c0
  c1 := (hb.cell (by exact h.lX)).trans h.c1
  c2 := (hb.cell (by exact h.lX)).trans h.c2
  c3 := (hb.cell (by exact h.lX)).trans h.c3
  c4 := (hb.cell (by exact h.lX)).trans h.c4
  sg := h.sg.keep hb h.lY
  lr := h.lr
  lg := h.lg
  lX := h.lX
  lY := h.lY
theorem RAt.stmt (h : RAt B2 w r m) (p : Nat) (hp : p < m.st.length) : ∃ g cap X Y, SAt w B2 r p m.st.length (m.st.getD p noSt) g cap X Y := by
  obtain ⟨B, w0, vs, vo, P, Q, O, h1, h2, h3⟩ := h
  obtain ⟨g, cap, hvs, hrow, _⟩ := h1.row (by omega)
  obtain ⟨r0, r1, -⟩ := h1.rdc
  rw [hvs] at r1
  obtain ⟨c0, c1, c2, c3, c4, -⟩ := h1.stc p _ (Rep.gets hp)
  obtain ⟨a, b⟩ := h1.st p _ (Rep.gets hp)
  have hs := h1.rs
  rw [hvs] at hs
  have hg := (hs.lt g rfl).2
  have hr := h1.rd.lt
  have ha := a.lt
  have hb := b.lt
  exact ⟨g, cap, P p, Q p, (⟨r1, hrow p hp, c0, c1, c2, c3, c4, b, hr, hg, ha, hb⟩ : SAt w0 w0.heap.size r p m.st.length (m.st.getD p noSt) g cap (P p) (Q p)).keep h3 |> fun s => ⟨s.r1, s.gp, s.c0, s.c1, s.c2, s.c3, s.c4, s.sg, by omega, by omega, by omega, by omega⟩⟩

/-- One step of the document's run, at a statement. -/
def stpRu (S : List St) (p : Nat) (u : St) (k : Wk) : Wk :=
  if u.kind = 61 then
    if u.star = true then ⟨k.st, nextR S p 0, k.v.set u.var.toNat (clampI (k.inp.headD 0)), k.inp.tail⟩
    else if 999 < sumTo u.sg k.v 4 + u.num ∨ sumTo u.sg k.v 4 + u.num < -999 then ⟨2, k.pt, k.v, k.inp⟩
    else ⟨k.st, nextR S p 0, k.v.set u.var.toNat (sumTo u.sg k.v 4 + u.num), k.inp⟩
  else if u.star = true then
    if k.inp.headD 0 ≠ 0 then ⟨k.st, nextR S p 0, k.v, k.inp.tail⟩
    else if u.kind = 33 then ⟨3, k.pt, k.v, k.inp.tail⟩ else ⟨k.st, nextR S p 1, k.v, k.inp.tail⟩
  else
    if sumTo u.sg k.v 4 ≤ u.num then ⟨k.st, nextR S p 0, k.v, k.inp⟩
    else if u.kind = 33 then ⟨3, k.pt, k.v, k.inp⟩ else ⟨k.st, nextR S p 1, k.v, k.inp⟩
def stpR (S : List St) (k : Wk) : Wk := stpRu S k.pt.toNat (S.getD k.pt.toNat noSt) k

theorem WRep.setV {b q : Nat} {iv : Value} {k : Wk} (h : WRep B2 w r b q m iv k) (t : Nat) (ht : t < 4) (y : Int) (h0 : -999 ≤ y) (h1 : y ≤ 999) : WRep B2 (w.setCell ⟨q, t, none⟩ (.int .i64 y)) r b q m iv ⟨k.st, k.pt, k.v.set t y, k.inp⟩ :=
  have hb : Below B2 w (w.setCell ⟨q, t, none⟩ (.int .i64 y)) := (Below.refl B2 w).setCell h.gq _
  have hl := h.len
  { rd := h.rd.keep hb
    at_ := h.at_.other t _ (h.at_.ne h.vt (by decide))
    vt := by rw [← ic_set]; exact h.vt.put t _
    inp := h.inp.keep hb
    len := by simpa using hl
    v := fun i => by
      show -999 ≤ sgAt (k.v.set t y) i ∧ sgAt (k.v.set t y) i ≤ 999
      rw [sgAt_set _ _ _ _ (by omega)]
      split
      · omega
      · exact h.v i
    gb := h.gb
    gq := h.gq }

theorem sgAt_mem' (l : List Int) (i : Nat) (h : ∀ x, x ∈ l → -1 ≤ x ∧ x ≤ 1) : -1 ≤ sgAt l i ∧ sgAt l i ≤ 1 := by
  unfold sgAt
  rw [List.getD_eq_getElem?_getD]
  cases e : l[i]? with
  | none => simp
  | some x => exact h x (List.mem_of_getElem? e)

/-- What the statements keep to. -/
structure SOk (S : List St) : Prop where
  len : S.length ≤ 20
  sgl : ∀ s, s ∈ S → s.sg.length = 4
  num : ∀ s, s ∈ S → -99 ≤ s.num ∧ s.num ≤ 99
  gd : ∀ s, s ∈ S → Gd s

theorem next_of {b q : Nat} {iv : Value} {k : Wk} (h : WRep B2 w r b q m iv k) (hl : m.st.length ≤ 20) (p : Nat) (hp : p < m.st.length) (way : Int) :
    Calls Try.prog 20 #[.pointer (some ⟨r, 0, none⟩), .int .i64 (p : Int), .int .i64 way] w fun e w' => e = .returned (.int .i64 (nextR m.st p way)) ∧ ∃ j, w' = w.drewN j := by
  obtain ⟨B, vs, vo, P, Q, O, h1, _⟩ := h.rd.rep
  exact h1.next hl p hp way

end Go.Proofs.Ytjbpfbgemidleaa

