import Derived.Test.YtffajooegiempaaDoorJ8
import Derived.Test.YtffajooegiempaaDoorTie
import Derived.Test.YtffajooegiempaaDoorCards
import Derived.ProofKit
import Derived.LaidMore
import Derived.OpenShut
import Derived.Stop.Joined
import Derived.ChangeSlices
import Derived.Carry
namespace Go.Proofs.YtffajooegiempaaDoor
open Go.RowKit
variable {w : World} {b : Nat} {e0 e1 e2 : Bool} {M N : Nat → Int}

theorem LSays.from_ {w w1 : World} {x : Ending} {w' : World} (h : LSays w1 e0 M x w') (hb : Below w.heap.size w w1) : LSays w e0 M x w' := by
  have hs := hb.size
  obtain ⟨h1, h2⟩ := h
  refine ⟨hb.trans (h1.mono hs), ?_⟩
  rcases h2 with h2 | ⟨he, g, hx, hg, hat⟩
  · exact .inl h2
  · exact .inr ⟨he, g, hx, by omega, hat⟩
/-- What comes out with an error's number. -/
def LSaysE (w : World) (e : Bool) (M : Nat → Int) : Ending → World → Prop := fun x w' => ∃ y, LSays w e M (.returned y) w' ∧ x = .returned (.tuple #[y, .int .i64 0])
theorem LSays.val {x : Ending} {w' : World} (h : LSays w e0 M x w') : ∃ y, x = .returned y ∧ ∃ a n c, y = .slice a n c := by
  obtain ⟨_, ⟨_, h⟩ | ⟨_, g, h, _⟩⟩ := h
  · exact ⟨_, h, _, _, _, rfl⟩
  · exact ⟨_, h, _, _, _, rfl⟩

set_option maxRecDepth 100000 in
set_option maxHeartbeats 1600000 in
theorem w_close (hG : Glob w) (u : Value) (hr : RdS w u e1 M 0) (hS : Sm M) (hu : ∃ a n k, u = .slice a n k) :
    Calls Tryd.prog 9 #[u] w (LSaysE w e1 M) := by
  have hz := o_zero
  have hgs := hG.size
  have hr1 := hr w (Below.refl _ _)
  have HL : Hid (∀ w1, Below w.heap.size w w1 → Calls Tryd.prog 24 #[.agg (oc e1 M)] w1 (LSays w e1 M)) := fun w1 hb => (o_list (hG.keep hb hgs) hS).mono fun x w' h => h.from_ hb
  obtain ⟨au, nu, cu, rfl⟩ := hu
  clear hG hr hS
  go_enter Tryd.func9, Tryd.ntmps9
  go_wp2_with fail
  refine hr1.mono ?_
  rintro e w1 ⟨rfl, hb1⟩
  obtain ⟨w2, hst2, hat2, hb2, hs2⟩ := o_fresh w1 e1 M
  have H2 : Hid (OAt w2 w1.heap.size e1 M ∧ Below w.heap.size w w2) := ⟨hat2, hb1.trans (hb2.mono hb1.size)⟩
  have hl := HL.out w2 H2.out.2
  clear hb1 hat2 hb2
  go_wp2_with (refine wpList_load_o rfl (.tmp 4) rfl rfl H2.out.1 ?_)
  refine hl.mono ?_
  intro x w3 hx
  obtain ⟨y, rfl, a, n, c, rfl⟩ := hx.val
  have HX : Hid (LSays w e1 M (.returned (.slice a n c)) w3) := hx
  clear hx
  go_wp2_with fail
  go_ret2
  exact ⟨_, HX.out, rfl⟩

set_option maxRecDepth 100000 in
set_option maxHeartbeats 1600000 in
theorem w_within (u v : Value) (hr1 : RdS w u e1 M 0) (hr2 : RdS w v e2 N 0) (hu : ∃ a n k, u = .slice a n k) (hv : ∃ a n k, v = .slice a n k) :
    Calls Tryd.prog 13 #[u, v] w fun e w' => e = .returned (.tuple #[.bool (wiB e1 e2 M N), .int .i64 0]) ∧ Below w.heap.size w w' := by
  have hz := o_zero
  have hb := w_readBoth u v hr1 0 hr2 hu hv
  obtain ⟨au, nu, cu, rfl⟩ := hu
  obtain ⟨av, nv, cv, rfl⟩ := hv
  clear hr1 hr2
  go_enter Tryd.func13, Tryd.ntmps13
  go_wp2_with fail
  refine hb.mono ?_
  rintro e w1 ⟨rfl, hb1⟩
  obtain ⟨w2, hw2⟩ : ∃ w2, w2 = (w1.alloc (.cells (oc false fun _ => 0) tO)).alloc (.cells (oc false fun _ => 0) tO) := ⟨_, rfl⟩
  have ha0 : OAt w2 w1.heap.size false (fun _ => 0) := by rw [hw2]; exact At.allocH (At.new _ _ _) _
  have ha1 : OAt w2 (w1.heap.size + 1) false (fun _ => 0) := by
    have := At.new (w1.alloc (.cells (oc false fun _ => 0) tO)) (oc false fun _ => 0) tO
    rw [show (w1.alloc (.cells (oc false fun _ => 0) tO)).heap.size = w1.heap.size + 1 by simp] at this
    rw [hw2]; exact this
  have hb2 : Below w1.heap.size w1 w2 := by rw [hw2]; exact ((Below.refl _ _).alloc (Nat.le_refl _) _).alloc (by simp) _
  obtain ⟨w3, hst3, hat3, ho3⟩ := o_store ha0 e1 M
  obtain ⟨w4, hst4, hat4, ho4⟩ := o_store (ho3.at_ ha1 (by omega)) e2 N
  have hs2 : w2.heap.size = w1.heap.size + 2 := by rw [hw2]; simp
  have H4 : Hid (OAt w4 w1.heap.size e1 M ∧ OAt w4 (w1.heap.size + 1) e2 N ∧ Below w.heap.size w w4) := by
    have q1 := hb1.size
    have q3 := ho3.size
    exact ⟨ho4.at_ hat3 (by omega), hat4, ((hb1.trans (hb2.mono q1)).trans (ho3.below q1 (by omega))).trans (ho4.below (by omega) (by omega))⟩
  rw [hw2] at hst3
  clear ha0 ha1 hb2 hat3 ho3 hat4 ho4 hw2 hb1 hb hs2
  have hwi := o_within (w := w4) (e1 := e1) (e2 := e2) (M := M) (N := N)
  go_wp2_with (first | refine wpList_load_o rfl (.tmp 6) rfl rfl H4.out.1 ?_ | refine wpList_load_o rfl (.tmp 7) rfl rfl H4.out.2.1 ?_)
  refine hwi.mono ?_
  rintro e w5 ⟨rfl, hb5⟩
  go_wp2_with fail
  go_ret2
  exact ⟨rfl, H4.out.2.2.trans (hb5.mono H4.out.2.2.size)⟩

set_option maxRecDepth 100000 in
set_option maxHeartbeats 1600000 in
theorem w_join (hG : Glob w) (u v : Value) (hr1 : RdS w u e1 M 0) (hr2 : RdS w v e2 N 0) (hS : Sm (joM e1 e2 M N)) (hu : ∃ a n k, u = .slice a n k) (hv : ∃ a n k, v = .slice a n k) :
    Calls Tryd.prog 15 #[u, v] w (LSaysE w (joE e1 e2) (joM e1 e2 M N)) := by
  have hz := o_zero
  have hgs := hG.size
  have hb := w_readBoth u v hr1 0 hr2 hu hv
  have HL : Hid (∀ w1, Below w.heap.size w w1 → Calls Tryd.prog 24 #[.agg (oc (joE e1 e2) (joM e1 e2 M N))] w1 (LSays w (joE e1 e2) (joM e1 e2 M N))) := fun w1 hb => (o_list (hG.keep hb hgs) hS).mono fun x w' h => h.from_ hb
  obtain ⟨au, nu, cu, rfl⟩ := hu
  obtain ⟨av, nv, cv, rfl⟩ := hv
  clear hr1 hr2 hG hS
  go_enter Tryd.func15, Tryd.ntmps15
  go_wp2_with fail
  refine hb.mono ?_
  rintro e w1 ⟨rfl, hb1⟩
  obtain ⟨w2, hw2⟩ : ∃ w2, w2 = (w1.alloc (.cells (oc false fun _ => 0) tO)).alloc (.cells (oc false fun _ => 0) tO) := ⟨_, rfl⟩
  have ha0 : OAt w2 w1.heap.size false (fun _ => 0) := by rw [hw2]; exact At.allocH (At.new _ _ _) _
  have ha1 : OAt w2 (w1.heap.size + 1) false (fun _ => 0) := by
    have := At.new (w1.alloc (.cells (oc false fun _ => 0) tO)) (oc false fun _ => 0) tO
    rw [show (w1.alloc (.cells (oc false fun _ => 0) tO)).heap.size = w1.heap.size + 1 by simp] at this
    rw [hw2]; exact this
  have hb2 : Below w1.heap.size w1 w2 := by rw [hw2]; exact ((Below.refl _ _).alloc (Nat.le_refl _) _).alloc (by simp) _
  obtain ⟨w3, hst3, hat3, ho3⟩ := o_store ha0 e1 M
  obtain ⟨w4, hst4, hat4, ho4⟩ := o_store (ho3.at_ ha1 (by omega)) e2 N
  have hs2 : w2.heap.size = w1.heap.size + 2 := by rw [hw2]; simp
  have H4 : Hid (OAt w4 w1.heap.size e1 M ∧ OAt w4 (w1.heap.size + 1) e2 N ∧ Below w.heap.size w w4) := by
    have q1 := hb1.size
    have q3 := ho3.size
    exact ⟨ho4.at_ hat3 (by omega), hat4, ((hb1.trans (hb2.mono q1)).trans (ho3.below q1 (by omega))).trans (ho4.below (by omega) (by omega))⟩
  rw [hw2] at hst3
  clear ha0 ha1 hb2 hat3 ho3 hat4 ho4 hw2 hb1 hb hs2
  have hjo := o_join (w := w4) (e1 := e1) (e2 := e2) (M := M) (N := N)
  generalize joE e1 e2 = e3 at *
  generalize joM e1 e2 M N = J at *
  go_wp2_with (first | refine wpList_load_o rfl (.tmp 6) rfl rfl H4.out.1 ?_ | refine wpList_load_o rfl (.tmp 7) rfl rfl H4.out.2.1 ?_)
  refine hjo.mono ?_
  rintro e w5 ⟨rfl, hb5⟩
  obtain ⟨w6, hst6, hat6, hb6, hs6⟩ := o_fresh w5 e3 J
  have H6 : Hid (OAt w6 w5.heap.size e3 J ∧ Below w.heap.size w w6) := by
    have q4 := H4.out.2.2.size
    have q5 := hb5.size
    exact ⟨hat6, (H4.out.2.2.trans (hb5.mono q4)).trans (hb6.mono (by omega))⟩
  have hl := HL.out w6 H6.out.2
  clear hb5 hat6 hb6
  go_wp2_with (refine wpList_load_o rfl (.tmp 9) rfl rfl H6.out.1 ?_)
  refine hl.mono ?_
  intro x w7 hx
  obtain ⟨y, rfl, a, n, c, rfl⟩ := hx.val
  have HX : Hid (LSays w e3 J (.returned (.slice a n c)) w7) := hx
  clear hx
  go_wp2_with fail
  go_ret2
  exact ⟨_, HX.out, rfl⟩

end Go.Proofs.YtffajooegiempaaDoor

namespace Go.Proofs.YtffajooegiempaaDoor
open Go.RowKit
variable {w : World}

/-- The sum of the bounds, which each round lowers. -/
def smF (R : Nat → Int) : Nat → Int
  | 0 => 0
  | k + 1 => smF R k + R k
def ci (w : World) (p i : Nat) : Int := match w.cell? ⟨p, i, none⟩ with
  | some (.int _ x) => x
  | _ => 0
theorem smF_congr {R S : Nat → Int} : ∀ n, (∀ f, f < n → R f = S f) → smF R n = smF S n
  | 0, _ => rfl
  | n + 1, h => by rw [smF, smF, smF_congr n (fun f hf => h f (by omega)), h n (by omega)]
theorem smF_le {R S : Nat → Int} : ∀ n, (∀ f, f < n → R f ≤ S f) → smF R n ≤ smF S n
  | 0, _ => Int.le_refl _
  | n + 1, h => by
    have a := smF_le n (fun f hf => h f (by omega))
    have b := h n (by omega)
    rw [smF, smF]
    omega
theorem smF_lt {R S : Nat → Int} : ∀ n, (∀ f, f < n → R f ≤ S f) → (∃ f, f < n ∧ R f < S f) → smF R n < smF S n
  | 0, _, ⟨f, hf, _⟩ => absurd hf (by omega)
  | n + 1, h, ⟨f, hf, q⟩ => by
    have b := h n (by omega)
    rw [smF, smF]
    by_cases e : f = n
    · subst e
      have a := smF_le f (fun g hg => h g (by omega))
      omega
    · have a := smF_lt n (fun f hf => h f (by omega)) ⟨f, by omega, q⟩
      omega
theorem smF_lo {R : Nat → Int} {L : Int} : ∀ n : Nat, (∀ f, f < n → -L ≤ R f) → -(L * n) ≤ smF R n
  | 0, _ => by show -(L * 0) ≤ (0 : Int); omega
  | n + 1, h => by
    have a := smF_lo n (fun f hf => h f (by omega))
    have b := h n (by omega)
    rw [smF, show ((n + 1 : Nat) : Int) = (n : Int) + 1 from rfl, Int.mul_add, Int.mul_one]
    omega
theorem ci_at {p : Nat} {R : Nat → Int} (h : At w p (ic (rl R)) tNk) : smF (ci w p) 32 = smF R 32 :=
  smF_congr 32 fun f hf => by unfold ci; rw [rl_cell h hf]
def meas (p : Nat) (w : World) : Nat := (smF (ci w p) 32 + 100000000000000000000).toNat
theorem meas_lt {p : Nat} {w w' : World} {R R' : Nat → Int} {b : Bool} (h : At w p (ic (rl R)) tNk) (h' : At w' p (ic (rl R')) tNk) (hN : Nov R) (hN' : Nov R') (hr : rnd R = some (R', b)) (hb : b = true) : meas p w' < meas p w := by
  have hi : ∀ f, f < 32 → R f ≤ NB := fun f hf => (hN 0 (by omega) R false rfl f hf).2
  have I := rF_inv hi 1024 (Nat.le_refl _) R' b hr
  have s := smF_lt 32 I.le (I.more hb)
  have l := smF_lo (L := 2000000000000000000) 32 (fun f hf => (hN' 0 (by omega) R' false rfl f hf).1)
  unfold meas
  rw [ci_at h, ci_at h']
  omega

/-- What closing leaves. -/
def CPost (w : World) (R0 : Nat → Int) (e : Ending) (w' : World) : Prop :=
  Below w.heap.size w w' ∧ ((e = .returned (.slice none 0 0) ∧ ∃ n, itF R0 n = none) ∨
    ∃ g n R R', e = .returned (.slice (some ⟨g, 0, none⟩) 32 32) ∧ w.heap.size ≤ g ∧ At w' g (ic (rl R')) tNk ∧ itF R0 n = some R ∧ rnd R = some (R', false))

theorem rl_list {l : List Int} (h : l.length = 32) : rl (fun f => l.getD f 0) = l := by
  refine List.ext_getElem (by rw [rl_len, h]) fun i h1 h2 => ?_
  simp [rl, List.getD, h2]

set_option maxRecDepth 100000 in
set_option maxHeartbeats 1600000 in
theorem r_closed (u : Value) (l : List Int) (hl : l.length = 32) (hu : Reads w u l) (hnov : ∀ n R, itF (fun f => l.getD f 0) n = some R → Nov R) :
    Calls Tryd.prog 26 #[u] w (CPost w fun f => l.getD f 0) := by
  have hmk : ∀ w, (Instr.makeSlice 22 (.int .i64 32) (.int .i64 32)).run Tryd.prog w = .ok (.slice (some ⟨w.heap.size, 0, none⟩) 32 32) (w.alloc (.cells (List.replicate 32 (Value.int .i64 0)).toArray tNk)) := fun _ => by kernel_rfl
  obtain ⟨ao, cap, rfl, hcap, h0⟩ := hu
  obtain ⟨b, off, rfl, hlt, hc⟩ := h0 (by omega)
  obtain ⟨cur, hcur⟩ : ∃ cur, cur = List.replicate 32 (Value.int .i64 0) := ⟨_, rfl⟩
  have HBe : Hid (Below w.heap.size w (w.alloc (.cells cur.toArray tNk))) := (Below.refl _ _).alloc (Nat.le_refl _) _
  have HAl : Hid (At (w.alloc (.cells cur.toArray tNk)) w.heap.size cur.toArray tNk) := At.new _ _ _
  have hcl : cur.length = 32 := by rw [hcur]; simp
  rw [← hcur] at hmk
  obtain ⟨w1, hcp, hat, hb1⟩ : ∃ w1, (Builtin.copy_ #[22, 22] tNk #[.slice (some ⟨w.heap.size, 0, none⟩) 32 32, .slice (some ⟨b, off, none⟩) 32 cap]).run Tryd.prog (w.alloc (.cells cur.toArray tNk)) = .ok (.int .i64 32) w1 ∧ At w1 w.heap.size (ic l) tNk ∧ Below w.heap.size w w1 := by
    have hml : (l.map (Value.int .i64)).length = 32 := by rw [List.length_map]; exact hl
    have := run_copy_row (P := Tryd.prog) (w.alloc (.cells cur.toArray tNk)) 22 22 tNk tNk w.heap.size 0 32 32 ⟨b, off, none⟩ 32 cap cur.toArray tNk (l.map (Value.int .i64)) Tryd.underlying22 (by kernel_rfl) HAl.out (by rw [hml]; simp) (by
      intro j v hj
      have hjl : j < 32 := by
        rcases Nat.lt_or_ge j 32 with h' | h'
        · exact h'
        · rw [List.getElem?_eq_none (by omega)] at hj; cases hj
      have e1 : (⟨b, off, none⟩ : Addr).add j = ⟨b, off + j, none⟩ := by unfold Addr.add; split <;> simp_all
      rw [e1, HBe.out.cell (by exact hlt)]
      have := hc j (by omega)
      simp [List.getElem?_map, List.getElem?_eq_getElem (show j < l.length by omega)] at hj
      rw [← hj]
      simpa [List.getD, show j < l.length by omega] using this) (by simp only [List.size_toArray]; omega) (by
      intro u hu
      obtain ⟨x, _, rfl⟩ := List.mem_map.1 hu
      rfl)
    have e2 : goInt (l.map (Value.int .i64)).length = .int .i64 32 := by rw [hml]; rfl
    rw [e2] at this
    refine ⟨_, this, ?_, below_setRow HBe.out (Nat.le_refl _) _⟩
    have h2 := setRow_heap (w.alloc (.cells cur.toArray tNk)) w.heap.size cur.toArray (cur.toArray.toList.take 0 ++ l.map (Value.int .i64) ++ cur.toArray.toList.drop (0 + (l.map (Value.int .i64)).length)).toArray tNk (0, 0) HAl.out
    have e3 : (cur.toArray.toList.take 0 ++ l.map (Value.int .i64) ++ cur.toArray.toList.drop (0 + (l.map (Value.int .i64)).length)).toArray = ic l := by
      rw [hml]
      unfold ic
      rw [List.drop_of_length_le (by simp; omega)]
      simp
    rw [e3] at h2
    unfold At
    rw [← h2, e3]
  obtain ⟨R0, hR0⟩ : ∃ R0 : Nat → Int, R0 = fun f => l.getD f 0 := ⟨_, rfl⟩
  have HA1 : Hid (At w1 w.heap.size (ic (rl R0)) tNk ∧ Below w.heap.size w w1) := ⟨by rw [hR0, rl_list hl]; exact hat, hb1⟩
  rw [← hR0] at hnov ⊢
  have HN : Hid (∀ n R, itF R0 n = some R → Nov R) := hnov
  rw [hl]
  clear hnov hat hb1 hR0 h0 hc hcap HAl HBe hcl hcur
  go_enter Tryd.func26, Tryd.ntmps26
  go_wp2_with fail
  go_loopw [] (fun wr => ∃ (n : Nat) (R : Nat → Int), Hid (itF R0 n = some R ∧ At wr w.heap.size (ic (rl R)) tNk ∧ Below w.heap.size w wr)) (fun wr => meas w.heap.size wr)
  case atStart => exact ⟨0, R0, rfl, HA1.out⟩
  case round =>
    obtain ⟨n, R, HR⟩ := hrel
    obtain ⟨w4, rfl⟩ : ∃ w4, w4 = wr := ⟨_, rfl⟩
    have hro := r_round w.heap.size R HR.out.2.1 (HN.out n R HR.out.1)
    go_wp2_with fail
    refine hro.mono ?_
    rintro e w5 ⟨ho, hm⟩
    have HIt : Hid (itF R0 (n + 1) = (rnd R).map fun (x : (Nat → Int) × Bool) => x.1) := by
      show (match itF R0 n with | none => none | some R' => (rnd R').map fun (x : (Nat → Int) × Bool) => x.1) = _
      rw [HR.out.1]
    have HB5 : Hid (Below w.heap.size w w5) := HR.out.2.2.trans (ho.below (Nat.le_refl _) (Nat.le_of_lt HR.out.2.1.lt))
    cases hrn : rnd R with
    | none =>
      rw [hrn] at hm HIt
      obtain rfl : e = _ := hm
      have HI2 : Hid (itF R0 (n + 1) = none) := HIt.out
      clear HIt hrn ho
      go_wp2_with fail
      go_ret
      exact ⟨HB5.out, .inl ⟨rfl, n + 1, HI2.out⟩⟩
    | some x =>
      obtain ⟨R', b'⟩ := x
      rw [hrn] at hm HIt
      obtain ⟨rfl, ha⟩ := hm
      have HI2 : Hid (itF R0 (n + 1) = some R') := HIt.out
      have HA5 : Hid (At w5 w.heap.size (ic (rl R')) tNk) := ha
      have HRn : Hid (rnd R = some (R', b')) := hrn
      clear HIt hrn ho ha
      cases b' with
      | false =>
        go_wp2_with fail
        go_ret
        exact ⟨HB5.out, .inr ⟨w.heap.size, n, R, R', rfl, Nat.le_refl _, HA5.out, HR.out.1, HRn.out⟩⟩
      | true =>
        go_wp2_with fail
        go_roundw
        case rel => exact ⟨n + 1, R', HI2.out, HA5.out, HB5.out⟩
        case measure => exact meas_lt HR.out.2.1 HA5.out (HN.out n R HR.out.1) (HN.out (n + 1) R' HI2.out) HRn.out rfl

theorem bdL_of {R : Nat → Int} {M : Nat → Int} (h : ∀ f, f < 32 → R f = bd M f) : rl R = bdL M := by
  unfold rl bdL
  refine List.map_congr_left fun f hf => h f (by simpa using hf)
/-- Of a list that may be handed in: what the program says. -/
theorem r_closed_ok (u : Value) (l : List Int) (hl : okL l) (hu : Reads w u l) : Calls Tryd.prog 26 #[u] w (LSays w (ovE l) (ovM l)) := by
  refine (r_closed u l hl.1 hu (fun n R h => doc_nov hl h)).mono ?_
  rintro e w' ⟨hb, ⟨rfl, n, hn⟩ | ⟨g, n, R, R', rfl, hg, ha, h1, h2⟩⟩
  · refine ⟨hb, .inl ⟨?_, rfl⟩⟩
    cases he : ovE l with
    | true => rfl
    | false =>
      obtain ⟨R', e, _⟩ := doc_some hl he n
      rw [hn] at e
      cases e
  · obtain ⟨h3, h4⟩ := doc_done hl h1 h2
    refine ⟨hb, .inr ⟨h3, g, rfl, hg, ?_⟩⟩
    rw [← bdL_of h4]
    exact ha

/-- What the document's Close says. -/
def DClose (w : World) (l : List Int) : Ending → World → Prop := fun x w' => (okL l ∧ LSaysE w (ovE l) (ovM l) x w') ∨ (¬ okL l ∧ Below w.heap.size w w' ∧ x = .returned (.tuple #[.slice none 0 0, .int .i64 3]))
set_option maxRecDepth 100000 in
set_option maxHeartbeats 1600000 in
theorem r_close (u : Value) (l : List Int) (hm : l.length ≤ 1073741824) (hu : Reads w u l) : Calls Tryd.prog 10 #[u] w (DClose w l) := by
  have hgd := r_good u l hm hu
  by_cases hok : okL l
  · have hcl := r_closed_ok u l hok hu
    rw [gdB_ok.2 hok] at hgd
    have HK : Hid (okL l) := hok
    obtain ⟨ao, cap, rfl, -, -⟩ := hu
    clear hok hm
    go_enter Tryd.func10, Tryd.ntmps10
    go_wp2_with fail
    refine hgd.mono ?_
    rintro e w1 ⟨rfl, rfl⟩
    go_wp2_with fail
    refine hcl.mono ?_
    intro x w3 hx
    obtain ⟨y, rfl, a, n, c, rfl⟩ := hx.val
    have HX : Hid (LSays w1 (ovE l) (ovM l) (.returned (.slice a n c)) w3) := hx
    clear hx
    go_wp2_with fail
    go_ret2
    exact .inl ⟨HK.out, _, HX.out, rfl⟩
  · have hg : gdB l = false := by
      cases e : gdB l with
      | false => rfl
      | true => exact absurd (gdB_ok.1 e) hok
    rw [hg] at hgd
    have HK : Hid (¬ okL l) := hok
    obtain ⟨ao, cap, rfl, -, -⟩ := hu
    clear hok hm
    go_enter Tryd.func10, Tryd.ntmps10
    go_wp2_with fail
    refine hgd.mono ?_
    rintro e w1 ⟨rfl, rfl⟩
    go_wp2_with fail
    go_ret2
    exact .inr ⟨HK.out, Below.refl _ _, rfl⟩

end Go.Proofs.YtffajooegiempaaDoor

namespace Go.Proofs.YtffajooegiempaaDoor
open Go.RowKit
variable {w : World}

theorem ovS {l : List Int} (ho : okL l) : Sm (ovM l) := ah_sm (lay_rng l 32 ho.2) 64 (Nat.le_refl _)
theorem rdsOk {v : Value} {l : List Int} (hG : Glob w) (hl : okL l) (hv : Reads w v l) : RdS w v (ovE l) (ovM l) 0 := fun _ hb => o_read_ok (hG.keep hb hG.size) v l hl (hv.keep hb)
theorem rdsNo {v : Value} {l : List Int} (hG : Glob w) (hl : ¬ okL l) (hv : Reads w v l) : RdS w v false (fun _ => 0) 3 := fun w1 hb => (o_read (hG.keep hb hG.size) v l (hv.keep hb)).mono fun e w' h => ⟨by
  rcases h.2 with ⟨h', _⟩ | ⟨_, h'⟩
  · exact absurd h' hl
  · exact h', h.1⟩
theorem Reads.isSlice {v : Value} {l : List Int} (h : Reads w v l) : ∃ a n k, v = .slice a n k := by
  obtain ⟨ao, cap, rfl, -, -⟩ := h
  exact ⟨_, _, _, rfl⟩
theorem Reads.lent {l : List Int} {g : Nat} (h : At w g (lentCells l) tN) : Reads w (.slice (some ⟨g, 0, none⟩) l.length (l.length + 2)) l := by
  have := h.lt
  refine ⟨_, _, rfl, by omega, fun _ => ⟨g, 0, rfl, this, fun i hi => ?_⟩⟩
  rw [Nat.zero_add, h.cell]
  unfold lentCells
  rw [ic_get _ _ (by simp; omega)]
  simp [List.getD, List.getElem?_append_left hi]

set_option maxRecDepth 100000 in
set_option maxHeartbeats 1600000 in
theorem w_close_no (u : Value) (M : Nat → Int) (e1 : Bool) (c : Int) (hc : c ≠ 0) (hr : RdS w u e1 M c) (hu : ∃ a n k, u = .slice a n k) :
    Calls Tryd.prog 9 #[u] w fun x w' => Below w.heap.size w w' ∧ x = .returned (.tuple #[.slice none 0 0, .int .i64 c]) := by
  have hz := o_zero
  have hr1 := hr w (Below.refl _ _)
  have hcb : (c != 0) = true := by rw [bne_iff_ne]; exact hc
  obtain ⟨au, nu, cu, rfl⟩ := hu
  clear hr hc
  go_enter Tryd.func9, Tryd.ntmps9
  go_wp2_with fail
  refine hr1.mono ?_
  rintro e w1 ⟨rfl, hb1⟩
  obtain ⟨w2, hst2, hat2, hb2, hs2⟩ := o_fresh w1 e1 M
  have H2 : Hid (Below w.heap.size w w2) := hb1.trans (hb2.mono hb1.size)
  clear hb1 hat2 hb2
  go_wp2_with fail
  go_ret2
  exact ⟨H2.out, rfl⟩

/-- What the program's Close says. -/
theorem w_close_any (hG : Glob w) (u : Value) (l : List Int) (hu : Reads w u l) : Calls Tryd.prog 9 #[u] w (DClose w l) := by
  by_cases hok : okL l
  · exact (w_close hG u (rdsOk hG hok hu) (ovS hok) hu.isSlice).mono fun e w' h => .inl ⟨hok, h⟩
  · exact (w_close_no u _ _ 3 (by decide) (rdsNo hG hok hu) hu.isSlice).mono fun e w' h => .inr ⟨hok, h⟩

/-- Two answers of one kind: what 'result' says of them. -/
theorem bdL_len (M : Nat → Int) : (bdL M).length = 32 := by simp [bdL]
theorem l_result_two {w1 w2 w3 : World} {e : Bool} {M : Nat → Int} {y z : Value} (h1 : LSays w1 e M (.returned y) w2) (h2 : LSays w2 e M (.returned z) w3) :
    Calls Tryd.prog 11 #[y, z] w3 fun x w' => x = .returned (.bool true) ∧ Below w1.heap.size w3 w' := by
  obtain ⟨hb1, h1⟩ := h1
  obtain ⟨hb2, h2⟩ := h2
  rcases h1 with ⟨e1, h1⟩ | ⟨e1, g, h1, hg, ha⟩
  · rcases h2 with ⟨e2, h2⟩ | ⟨e2, _⟩
    · cases h1
      cases h2
      refine (l_result_nil w3).mono ?_
      rintro x w' ⟨rfl, k, rfl⟩
      exact ⟨rfl, below_drewN (Below.refl _ _) k⟩
    · rw [e1] at e2; cases e2
  · rcases h2 with ⟨e2, h2⟩ | ⟨e2, q, h2, hq, hqa⟩
    · rw [e1] at e2; cases e2
    · cases h1
      cases h2
      have hl := bdL_len M
      have := l_result w3 g 32 (.slice (some ⟨q, 0, none⟩) 32 32) (bdL M) (ic (bdL M)) (ha.keep hb2 ha.lt) (by rw [ic_size, hl]) (by omega) (by omega) (fun i hi => ic_get _ _ hi) (Reads.at_ hqa hl (Nat.le_refl _) (fun i hi => ic_get _ _ (by omega))) (by intro n k e; cases e)
      rw [hl] at this
      exact this.mono fun x w' h => ⟨h.1, h.2.mono hg⟩

set_option maxRecDepth 100000 in
set_option maxHeartbeats 1600000 in
theorem closes_walk (hG : Glob w) (v : Value) (L : List Int) (hL : L.length ≤ maxLen) (hv : Reads w v L) :
    Calls Tryd.prog 3 #[v] w fun e w' => e = .returned (.bool true) ∧ Below w.heap.size w w' := by
  unfold maxLen at hL
  by_cases hbig : 1073741824 < L.length
  · obtain ⟨ao, cap, rfl, -, -⟩ := hv
    have hb' : (1073741824 : Int) < (L.length : Int) := by omega
    clear hG
    go_enter Tryd.func3, Tryd.ntmps3
    go_wp2_with fail
    go_ret
    exact ⟨rfl, Below.refl _ _⟩
  have hL2 : L.length ≤ 1073741824 := by omega
  have hb' : ¬ (1073741824 : Int) < (L.length : Int) := by omega
  have hlent := l_lent w v L hL2 hv
  have HV : Hid (Reads w v L) := hv
  have HCl : Hid (∀ w1, Below w.heap.size w w1 → At w1 w.heap.size (lentCells L) tN → Calls Tryd.prog 9 #[.slice (some ⟨w.heap.size, 0, none⟩) L.length (L.length + 2)] w1 (DClose w1 L)) := fun w1 hb1 hat => w_close_any (hG.keep hb1 hG.size) _ L (Reads.lent hat)
  have HRef : Hid (∀ w1, Below w.heap.size w w1 → Calls Tryd.prog 10 #[v] w1 (DClose w1 L)) := fun w1 hb1 => r_close v L hL2 (HV.out.keep hb1)
  obtain ⟨ao, cap, rfl, -, -⟩ := id hv
  clear hv hL hbig hG
  go_enter Tryd.func3, Tryd.ntmps3
  go_wp2_with fail
  refine hlent.mono ?_
  rintro e w1 ⟨rfl, hb1, hat1, hs1⟩
  have HB1 : Hid (Below w.heap.size w w1) := hb1
  have HA1 : Hid (At w1 w.heap.size (lentCells L) tN) := hat1
  clear hb1 hat1 hlent
  go_wp2_with fail
  refine (HCl.out w1 HB1.out HA1.out).mono ?_
  rintro e w2 (⟨hok, y, hy, rfl⟩ | ⟨hno, hb2, rfl⟩)
  · have HK : Hid (okL L) := hok
    have HB2 : Hid (Below w.heap.size w w2) := HB1.out.trans (hy.1.mono (by omega))
    have HA2 : Hid (At w2 w.heap.size (lentCells L) tN) := HA1.out.keep hy.1 hs1
    have hs2 : w1.heap.size ≤ w2.heap.size := hy.1.size
    obtain ⟨y', e', a, n, c, rfl⟩ := hy.val
    cases e'
    have HY : Hid (LSays w1 (ovE L) (ovM L) (.returned (.slice a n c)) w2) := hy
    clear hy hok
    go_wp2_with fail
    refine (HRef.out w2 HB2.out).mono ?_
    rintro e w3 (⟨-, z, hz, rfl⟩ | ⟨hno, -, -⟩)
    · have HB3 : Hid (Below w.heap.size w w3) := HB2.out.trans (hz.1.mono (by omega))
      have HA3 : Hid (At w3 w.heap.size (lentCells L) tN) := HA2.out.keep hz.1 (by omega)
      have hres := l_result_two HY.out hz
      obtain ⟨z', e', a', n', c', rfl⟩ := hz.val
      cases e'
      clear hz
      go_wp2_with fail
      refine hres.mono ?_
      rintro e w4 ⟨rfl, hb4⟩
      have HB4 : Hid (Below w.heap.size w w4) := HB3.out.trans (hb4.mono (by omega))
      have hwh := l_whole w4 w.heap.size (.slice ao L.length cap) L hL2 (HA3.out.keep hb4 (by omega)) (HV.out.keep HB4.out)
      clear hb4 hres
      go_wp2_with fail
      refine hwh.mono ?_
      rintro e w5 ⟨rfl, k', rfl⟩
      go_wp2_with fail
      go_ret
      exact ⟨rfl, below_drewN HB4.out k'⟩
    · exact absurd HK.out hno
  · have HK : Hid (¬ okL L) := hno
    have HB2 : Hid (Below w.heap.size w w2) := HB1.out.trans (hb2.mono (by omega))
    have HA2 : Hid (At w2 w.heap.size (lentCells L) tN) := HA1.out.keep hb2 hs1
    have hs2 : w1.heap.size ≤ w2.heap.size := hb2.size
    clear hb2 hno
    go_wp2_with fail
    refine (HRef.out w2 HB2.out).mono ?_
    rintro e w3 (⟨hok, -⟩ | ⟨-, hb3, rfl⟩)
    · exact absurd hok HK.out
    · have HB3 : Hid (Below w.heap.size w w3) := HB2.out.trans (hb3.mono (by omega))
      have HA3 : Hid (At w3 w.heap.size (lentCells L) tN) := HA2.out.keep hb3 (by omega)
      clear hb3
      go_wp2_with fail
      refine (l_result_nil w3).mono ?_
      rintro e w4 ⟨rfl, k, rfl⟩
      have hwh := l_whole (w3.drewN k) w.heap.size (.slice ao L.length cap) L hL2 (HA3.out.drewN k) (HV.out.keep (below_drewN HB3.out k))
      go_wp2_with fail
      refine hwh.mono ?_
      rintro e w5 ⟨rfl, k', rfl⟩
      go_wp2_with fail
      go_ret
      exact ⟨rfl, below_drewN HB3.out (k + k')⟩

end Go.Proofs.YtffajooegiempaaDoor

namespace Go.Proofs.YtffajooegiempaaDoor
open Go.ChangeShapes Go.WideShapes Go.ChangeAt Go.WideMaps Go.WideElems Go.RowKit

theorem Tryd.ownD : ownKnob Tryd.prog.godebug = none := by kernel_rfl
theorem gFirst : Tryd.prog.globalNamed "witness/octagon.firstSide" = some 0 := by kernel_rfl
theorem gSecond : Tryd.prog.globalNamed "witness/octagon.secondSide" = some 1 := by kernel_rfl
theorem tFirst : (Tryd.prog.globals[0]?).map (·.type) = some 114 := by kernel_rfl
theorem tSecond : (Tryd.prog.globals[1]?).map (·.type) = some 114 := by kernel_rfl
def laid2 : List (String × DataW Unit) := [("witness/octagon.firstSide", Rows.laid_witness_octagon_firstSide), ("witness/octagon.secondSide", Rows.laid_witness_octagon_secondSide)]

/-- The door's own heap meets the condition. -/
theorem door_met (os : Os) (args : Array Value) : laidMetH Tryd.prog laid2 ((World.doorLaid Tryd.prog 4000 os).forCall (fun _ _ => 0) ⟨#[], args, []⟩).memory :=
  laidMetH_of_parts3 (fuel := 8) (laidMet_of_run' 8 (by kernel_rfl) (by kernel_rfl)) (by kernel_rfl) (by kernel_rfl)

/-- A table's cells, off its datum. -/
theorem tab_cells {H : Type} {enc : TypeId × Value → H} {w : World} {base : Nat} {sp : Nat → Bool} {held : Bool} {fuel : Nat} {cs : Array Value} {L : List Nat} {ps : List MemPlace}
    (hL : L.length = 32) (h : DataW.trod enc Tryd.prog w base sp held fuel 114 cs.toList = some (.agg (L.map fun n => .lit (.int .i64 ((n : Nat) : Int))), ps)) : ∀ i, i < 32 → cs[i]? = some (.int .i64 ((L.getD i 0 : Nat) : Int)) := by
  obtain ⟨xs, m1, rfl, hx1, hlen, hn3, hel⟩ := DataW.trod_array Tryd.underlying114 h
  have c3 : Tryd.prog.cellsOf 3 = 1 := by kernel_rfl
  simp only [Prod.mk.injEq, DataW.agg.injEq] at hx1
  intro i hi
  have h0 := hel i hi
  rw [c3, Nat.mul_one, List.getElem?_eq_getElem (by omega)] at h0
  obtain ⟨k, e1, e2, _⟩ := DataW.trod_int Tryd.underlying3 h0
  have e3 : (L.map fun n => (DataW.lit (.int .i64 ((n : Nat) : Int)) : DataW H))[i]? = (xs.map (·.1))[i]? := by rw [hx1.1]
  rw [List.getElem?_map, List.getElem?_map, List.getElem?_eq_getElem (by omega), List.getElem?_eq_getElem (show i < xs.length by omega)] at e3
  simp only [Option.map_some, Option.some.injEq] at e3
  rw [e2] at e3
  simp only [DataW.lit.injEq, Lit.int.injEq, true_and] at e3
  have e4 : cs.toList[i]? = some (.int .i64 k) := by
    have := congrArg (fun l : List Value => l[0]?) e1
    simpa [List.getElem?_take, List.getElem?_drop] using this
  rw [← Array.getElem?_toList, e4, ← e3]
  simp [List.getD, show i < L.length by omega]

/-- What the condition gives the walks: the two tables. -/
theorem of_laid {W : World} (h : laidMetH Tryd.prog laid2 W) : Glob W := by
  rw [MakeChecks.laidMetH_plain _ _ _ (by kernel_rfl)] at h
  obtain ⟨ps, ⟨g0, t0, cs0, f0, p0, q0, hg0, ht0, hv0, hd0, ⟨g1, t1, cs1, f1, p1, q1, hg1, ht1, hv1, hd1, _, _⟩, _⟩, _, _⟩ := h
  obtain rfl := Option.some.inj (gFirst.symm.trans hg0)
  obtain rfl := Option.some.inj (gSecond.symm.trans hg1)
  obtain rfl := Option.some.inj (tFirst.symm.trans ht0)
  obtain rfl := Option.some.inj (tSecond.symm.trans ht1)
  have a := tab_cells (L := fsL) rfl hd0
  have b := tab_cells (L := ssL) rfl hd1
  have c1 : ∀ f, f < 32 → W.cell? ⟨0, f, none⟩ = some (.int .i64 ((fs f : Nat) : Int)) := fun f hf => (World.var?_cell hg0 hv0 f).trans (a f hf)
  have c2 : ∀ f, f < 32 → W.cell? ⟨1, f, none⟩ = some (.int .i64 ((ss f : Nat) : Int)) := fun f hf => (World.var?_cell hg1 hv1 f).trans (b f hf)
  have := World.block_lt_of_cell? W _ (c2 0 (by omega))
  exact ⟨c1, c2, by have h' : 1 < W.heap.size := this; omega⟩

end Go.Proofs.YtffajooegiempaaDoor

namespace Go.Proofs.YtffajooegiempaaDoor
open Go.ChangeShapes Go.WideShapes Go.ChangeAt Go.WideMaps Go.WideElems Go.RowKit

theorem Tryd.laidOutD : laidOutB Tryd.prog = true := by kernel_rfl
theorem Tryd.cellsD : Tryd.prog.cellsOf 3 = 1 := by kernel_rfl

/-- A slice of numbers that came in. -/
theorem open_reads {H : Type} {enc : TypeId × Value → H} {W : World} {a0 : Option Addr} {len cap : Nat} {d : DataW H} {p : List MemPlace}
    (h : DataW.Trod enc Tryd.prog W 0 (fun _ => true) true 22 (.slice a0 len cap) d p) (hlt : ∀ x ∈ p, x.block < W.heap.size) : ∃ L : List Int, L.length ≤ maxLen ∧ Reads W (.slice a0 len cap) L := by
  obtain ⟨fuel, hf⟩ := h
  rcases open_ints Tryd.underlying22 Tryd.underlying3 Tryd.cellsD hf with ⟨hcs, hx⟩ | ⟨a, len', cap', zs, hcs, _, hl, hm, hz, hx, hcell, hwz⟩
  · simp [Value.cells] at hcs
    obtain ⟨rfl, rfl, rfl⟩ := hcs
    exact ⟨[], Nat.zero_le _, none, 0, rfl, Nat.le_refl _, fun h => absurd rfl h⟩
  · simp [Value.cells] at hcs
    obtain ⟨rfl, rfl, rfl⟩ := hcs
    simp only [Prod.mk.injEq] at hx
    obtain ⟨rfl, rfl⟩ := hx
    simp only [if_true] at hz
    have htl : (zs.take len).length = len := by simp; omega
    refine ⟨zs.take len, by rw [htl]; exact Nat.le_trans hl hm, some a, cap, by rw [htl], by rw [htl]; exact hl, fun hn => ?_⟩
    rw [htl] at hn
    obtain ⟨bb, off, spot⟩ := a
    have hspot : spot = none := by simpa [Addr.add] using World.cell?_spot (hcell 0 (by omega))
    subst hspot
    refine ⟨bb, off, rfl, hlt (.cell bb off) (MemPlace.mem_row.2 ⟨0, by omega, by simp⟩), fun i hi => ?_⟩
    rw [htl] at hi
    rw [← add_plain, hcell i (by omega)]
    congr 2
    simp [List.getD, hi]

end Go.Proofs.YtffajooegiempaaDoor

namespace Go.Proofs.YtffajooegiempaaDoor
open Go.ChangeShapes Go.WideShapes Go.ChangeAt Go.WideMaps Go.WideElems Go.RowKit

set_option maxRecDepth 100000 in
theorem closes_lifted (os : Os) (started : os.Started) (H : Type) (enc : TypeId × Value → H) :
    ReturnsInHanded {} Tryd.checked os 3 .any (fun w args => (Rows.closesSpec.pre enc Tryd.prog Tryd.f3 [] false w args ∧ laidMetH Tryd.prog laid2 w) ∧ sizedMet enc Tryd.prog Tryd.f3 (OpenSpec.ofChange Rows.closesSpec) false w args)
      (Rows.closesSpec.post enc Tryd.prog Tryd.f3 false true false false) := by
  refine returnsInHanded_of_change_and (C := Tryd.checked) (X := fun w _ => laidMetH Tryd.prog laid2 w) (fun _ _ _ hh h => h.of_heap hh) Tryd.ownD started (by kernel_rfl) Tryd.func3
    (ChangeSpec.witness_shaped (enc := enc) (C := Tryd.checked) (os := os) (X := fun w _ => laidMetH Tryd.prog laid2 w) false (World.doorLaid Tryd.prog 4000 os) #[.slice none 0 0] 8 rfl (World.shaped_of_RefB (by kernel_rfl) (by kernel_rfl)) (by kernel_rfl) (by kernel_rfl) (by kernel_rfl) (door_met os _)) ?_
  intro W base args ds gs before hval0 hW _ _ hL _
  have hval : ∀ (j : Nat) t v, Tryd.f3.params[j]? = some t → args[j]? = some v → Value.okWide Tryd.prog W .any base t v := hval0
  have hW' := hW
  obtain ⟨p, q, hA0, hV, rfl, hfz, hnd⟩ := hW
  have hA : DataW.TrodAll enc Tryd.prog W 0 (fun _ => true) true Tryd.f3.params.toList args.toList ds p := hA0
  rw [Tryd.params3] at hA hval
  obtain ⟨v0, vs0, d0, ds0, p0, q0, hargs0, rfl, rfl, h0, r0⟩ := trodAll_cons hA
  obtain ⟨rfl, rfl, rfl⟩ := trodAll_nil r0
  obtain rfl : args = #[v0] := by cases args; simp_all
  obtain ⟨rfl, rfl⟩ := trodVars_none hV
  obtain ⟨a0, l0, c0, rfl⟩ := okWide_slice Tryd.underlying22 (hval 0 22 v0 rfl rfl)
  clear hA0 hval0
  simp only [List.append_nil] at hW'
  have lt0 : ∀ x ∈ p0, x.block < W.heap.size := fun x hx => hW'.lt x (by simpa using hx)
  obtain ⟨L0, m0, R0⟩ := open_reads h0 lt0
  refine (closes_walk (of_laid hL) _ L0 m0 R0).mono fun e W' ⟨he, hb⟩ => ?_
  subst he
  have t0 := Below.trod Tryd.laidOutD (by kernel_rfl) (of_decide_eq_true (by kernel_rfl)) h0 hb lt0
  have hall := trodAll_cons_mk t0 trodAll_mk0
  simp only [List.append_nil] at hall
  exact ⟨_, rfl, _, _, _, [], p0, [], hW', trodAll_cons_mk (shut_bool Tryd.underlying4 _) trodAll_mk0, hall, rfl, hb.frame _, fun h => by cases h⟩

theorem closes_row : Rows.ClosesSaid :=
  OpenClaim.holds_of_wide 3 Tryd.f3 rfl rfl rfl rfl rfl rfl rfl ⟨rfl, rfl, rfl, rfl, rfl⟩ rfl rfl rfl rfl rfl (by kernel_rfl) Tryd.func3 (by kernel_rfl)
    (of_decide_eq_true (by kernel_rfl)) (by unfold Func.isWrapper; first | (rw [if_pos (by decide +kernel)]; kernel_rfl) | (rw [if_neg (by decide +kernel)]; exact ⟨rfl, rfl⟩))
    (fun os started H enc _ => closes_lifted os started H enc)

theorem closes_card : Rows.ClosesCardSaid :=
  Claim7.holds_tied_plain_at .later [] [.data, .data] true Rows.closesCard.stood.harness false
    closes_row (fun _ h => by cases h) (by kernel_rfl) (fun _ h => by cases h) closes_row_tie rfl ⟨rfl, rfl⟩ (by kernel_rfl) rfl
    (fun f fn hf hfn => by
      obtain rfl : f = 3 := Option.some.inj ((show Tryd.prog.funcNamed "witness/witnesslaw.Closes" = some 3 by kernel_rfl).symm.trans hf) |>.symm
      obtain rfl : fn = Tryd.f3 := (Option.some.inj (Tryd.func3.symm.trans hfn)).symm
      exact ⟨by kernel_rfl, fun j t ht => by
        rw [Tryd.params3] at ht
        have hm : t ∈ [22] := by simpa using Array.mem_of_getElem? ht
        have hall : ([22].all fun u => !Tryd.prog.wantsStandIn u) = true := by kernel_rfl
        exact (show Tryd.prog.wantsStandIn t = false by simpa using List.all_eq_true.1 hall t hm)⟩)
    (by kernel_rfl)

end Go.Proofs.YtffajooegiempaaDoor

