import Derived.Test.YtffajooegiempabDoorJ18
import Derived.Laws.AppendOwn
import Derived.Laws.BytesArg
import Derived.Laws.Concat
import Derived.Great.BuildSlice
import Derived.Deep.MidRow
/- States along a statement: what Safe and Post say of them. No Go in here. -/
namespace Go.Proofs.YtffajooegiempabDoor

/-- What a statement of a program keeps to. -/
structure DQ (x : Ds) : Prop where
  g : DsG x
  len : x.sg.length = 4
  tg : 0 ≤ x.target ∧ x.target < 4
  kd : x.kind = 0 ∨ x.kind = 1 ∨ x.kind = 2 ∨ x.kind = 3
  nz2 : nz x.sg ≤ 2
  fa : x.kind = 0 → nz x.sg ≤ 1
  fc : x.kind ≠ 0 → x.any = true ∨ 1 ≤ nz x.sg
theorem dq_of {l : List Int} {m : Rd} {F : List Ds} (hp : progOf l = some m) (hW : Whole F m.st) {k : Nat} (hk : k < F.length) : DQ (F.getD k (newDs 0 0)) := by
  have hD := dsg_of hp hW hk
  have hq := stq_of hp (show k < m.st.length by have := hW.1.len; omega)
  have hk0 := kind_0 hD.2
  obtain ⟨-, c1, c2, c3, c4⟩ := id hD.2
  refine ⟨hD.1, by rw [← c3]; exact hq.g.len, by rw [← c1]; exact ⟨hq.var.1, by have := hq.var.2; omega⟩, ?_, by rw [← c3]; exact hq.g.nz, fun h => by rw [← c3]; exact hq.fq.1 (hk0.1 h), fun h => by rw [← c3, ← c2]; exact hq.fq.2 (fun z => h (hk0.2 z))⟩
  obtain ⟨x, u, a0, c0, g, hx, hu, hcor, ha, hif, hfc, hC, hs, hr, hkk⟩ := hW.at_ k hk
  rw [getD_some hx]
  obtain ⟨x', u', hx', hu', _, _, _, _, hkd⟩ := hs
  rw [hx] at hx'
  cases hx'
  rcases hkd with ⟨hk01, _⟩ | ⟨hk3, _⟩ | ⟨hk2, _⟩
  · rcases hk01 with e | e
    · exact .inl e
    · exact .inr (.inl e)
  · exact .inr (.inr (.inr hk3))
  · exact .inr (.inr (.inl hk2))

/-- Which sides of which variables a sum has: a table of all sign lists. -/
def coS (s i : Nat) : Int := if s / 2 = i then (if s % 2 = 0 then 1 else -1) else 0
def tabC (l : List Int) : Bool := decide (2 < nz l) || ((List.range 4).all fun i => decide (gAt l i = if sd1 l = sd2 l then coS (sd1 l) i else coS (sd1 l) i + coS (sd2 l) i)) && (decide (1 < nz l) || decide (sd1 l = sd2 l) || decide (sd1 l = opp (sd2 l)))
theorem tabC_all : (sg3.all fun a => sg3.all fun b => sg3.all fun c => sg3.all fun d => tabC [a, b, c, d]) = true := by decide +kernel
theorem tabC_of {l : List Int} (hl : l.length = 4) (h : ∀ i, -1 ≤ gAt l i ∧ gAt l i ≤ 1) : tabC l = true := by
  obtain ⟨a, b, c, d, rfl⟩ := four_of hl
  have t := tabC_all
  simp only [List.all_eq_true] at t
  exact t a (mem_sg3 (h 0)) b (mem_sg3 (h 1)) c (mem_sg3 (h 2)) d (mem_sg3 (h 3))
theorem sd_co (V : Nat → Int) : ∀ s : Nat, s < 8 → sd V s = coS s 0 * V 0 + coS s 1 * V 1 + coS s 2 * V 2 + coS s 3 * V 3 := by
  intro s hs
  rcases (show s = 0 ∨ s = 1 ∨ s = 2 ∨ s = 3 ∨ s = 4 ∨ s = 5 ∨ s = 6 ∨ s = 7 by omega) with rfl | rfl | rfl | rfl | rfl | rfl | rfl | rfl <;> simp [sd, coS]
theorem sumTo_4 (l v : List Int) : sumTo l v 4 = gAt l 0 * gAt v 0 + gAt l 1 * gAt v 1 + gAt l 2 * gAt v 2 + gAt l 3 * gAt v 3 := by
  show 0 + sgAt l 0 * sgAt v 0 + sgAt l 1 * sgAt v 1 + sgAt l 2 * sgAt v 2 + sgAt l 3 * sgAt v 3 = _
  rw [Int.zero_add]
  rfl
theorem sum_sd {l : List Int} (hl : l.length = 4) (h : ∀ i, -1 ≤ gAt l i ∧ gAt l i ≤ 1) (h2 : nz l ≤ 2) (v : List Int) :
    sumTo l v 4 = if sd1 l = sd2 l then sd (gAt v) (sd1 l) else sd (gAt v) (sd1 l) + sd (gAt v) (sd2 l) := by
  have t := tabC_of hl h
  have a1 : sd1 l < 8 := (sdS_lt l 4 (Nat.le_refl _)).1
  have a2 : sd2 l < 8 := (sdS_lt l 4 (Nat.le_refl _)).2
  unfold tabC at t
  rw [decide_eq_false (by omega : ¬ 2 < nz l), Bool.false_or, Bool.and_eq_true] at t
  have t1 := List.all_eq_true.1 t.1
  have e : ∀ i, i < 4 → gAt l i = if sd1 l = sd2 l then coS (sd1 l) i else coS (sd1 l) i + coS (sd2 l) i := fun i hi => of_decide_eq_true (t1 i (by simpa using hi))
  rw [sumTo_4, e 0 (by omega), e 1 (by omega), e 2 (by omega), e 3 (by omega)]
  by_cases q : sd1 l = sd2 l
  · simp only [if_pos q]
    rw [sd_co _ _ a1]
  · simp only [if_neg q]
    rw [sd_co _ _ a1, sd_co _ _ a2]
    simp only [Int.add_mul]
    omega
theorem one_sd {l : List Int} (hl : l.length = 4) (h : ∀ i, -1 ≤ gAt l i ∧ gAt l i ≤ 1) (h1 : nz l ≤ 1) : sd1 l = sd2 l ∨ sd1 l = opp (sd2 l) := by
  have t := tabC_of hl h
  unfold tabC at t
  rw [decide_eq_false (by omega : ¬ 2 < nz l), Bool.false_or, Bool.and_eq_true, decide_eq_false (by omega : ¬ 1 < nz l), Bool.false_or, Bool.or_eq_true] at t
  exact t.2.imp of_decide_eq_true of_decide_eq_true

variable {M : Nat → Int} {v : List Int}

/-- A state's sum is at most its greatest. -/
theorem sum_gr (h : Sat (gAt v) M) {l : List Int} (hl : l.length = 4) (hs : ∀ i, -1 ≤ gAt l i ∧ gAt l i ≤ 1) (h2 : nz l ≤ 2) : grP M l = NB ∨ sumTo l v 4 ≤ grP M l := by
  have a1 : sd1 l < 8 := (sdS_lt l 4 (Nat.le_refl _)).1
  have a2 : sd2 l < 8 := (sdS_lt l 4 (Nat.le_refl _)).2
  have hq := h (sd1 l) (sd2 l) a1 a2
  rw [sum_sd hl hs h2]
  unfold grP mo
  by_cases q : sd1 l = sd2 l
  · rw [← q] at hq ⊢
    rw [if_pos rfl]
    by_cases n : M (sd1 l * 8 + sd1 l) = NB
    · rw [if_neg (fun z => z.2 n)]; exact .inl n
    · rw [if_pos ⟨rfl, n⟩]
      have hle := hq.resolve_left n
      have t := tdiv2 (M (sd1 l * 8 + sd1 l))
      right
      rcases Int.lt_or_le (M (sd1 l * 8 + sd1 l)) 0 with e | e
      · rw [t.2 e]; omega
      · rw [t.1 e]; omega
  · rw [if_neg q, if_neg (fun z => q z.1)]
    exact hq
theorem sum_ng {l : List Int} (v : List Int) : sumTo (ngL l) v 4 = -sumTo l v 4 := by
  rw [sumTo_4, sumTo_4]
  show -gAt l 0 * gAt v 0 + -gAt l 1 * gAt v 1 + -gAt l 2 * gAt v 2 + -gAt l 3 * gAt v 3 = _
  simp only [Int.neg_mul]
  omega
/-- The state behind a condition. -/
theorem sat_at (h : Sat (gAt v) M) (hT : TQ M) {l : List Int} (hl : l.length = 4) (hs : ∀ i, -1 ≤ gAt l i ∧ gAt l i ≤ 1) (h1 : 1 ≤ nz l) (h2 : nz l ≤ 2) {n : Int} (hn : n ≤ 1000) (hle : sumTo l v 4 ≤ n) :
    atE false M l n = false ∧ Sat (gAt v) (atM false M l n) := by
  obtain ⟨f, hf, hnf, hgr, hs1, hs2⟩ := grP_form hT.tc hl hs h1 h2
  unfold atE atM
  by_cases q : atS false M l n = true
  · rw [if_pos q, if_pos q]; exact ⟨rfl, h⟩
  · rw [if_neg q, if_neg q]
    have e : lm M (sd1 l) (sd2 l) n = sb M f n := by rw [hs1, hs2]; rfl
    rw [e]
    have hv : fval (gAt v) f ≤ n := by
      have s := sum_sd hl hs h2 v
      rw [hs1, hs2] at s
      unfold fval
      by_cases h8 : f < 8
      · obtain ⟨q1, q2⟩ := fs_lo f h8
        rw [if_pos (by rw [q1, q2]), q1] at s
        rw [if_pos h8]; omega
      · rw [if_neg (fs_hi f hf (by omega))] at s
        rw [if_neg h8]; omega
    have y := (sat_sb h hf hn hv).sharp
    exact ⟨y.some, y⟩
theorem gAt_set {l : List Int} {i : Nat} (hi : i < l.length) (j : Nat) (x : Int) : gAt (l.set i x) j = if j = i then x else gAt l j := sgAt_set l i j x hi
theorem sd_set {t : Nat} (hv : v.length = 4) (ht : t < 4) (c : Int) {i : Nat} (_hi : i < 8) : sd (gAt (v.set t c)) i = if i = 2 * t then c else if i = 2 * t + 1 then -c else sd (gAt v) i := by
  unfold sd
  rw [gAt_set (by omega)]
  by_cases e1 : i = 2 * t
  · rw [if_pos e1, if_pos (by omega), if_pos (by omega)]
  · by_cases e2 : i = 2 * t + 1
    · rw [if_neg e1, if_pos e2, if_neg (by omega), if_pos (by omega)]
    · rw [if_neg e1, if_neg e2, if_neg (by omega : ¬ i / 2 = t)]
theorem sat_bt (h : Sat (gAt v) M) (hv : v.length = 4) {t : Nat} (ht : t < 4) {lo hi c : Int} (hlo : -999 ≤ lo ∧ lo ≤ 999) (hhi : -999 ≤ hi ∧ hi ≤ 999) (h1 : lo ≤ c) (h2 : c ≤ hi) : Sat (gAt (v.set t c)) (sbT M t lo hi) := by
  intro i j hi' hj
  rw [sbT_at M ht hlo hhi hi' hj, sd_set hv ht c hi', sd_set hv ht c hj]
  have up : ∀ {i : Nat}, i < 8 → isT t i → (if i = 2 * t then c else if i = 2 * t + 1 then -c else sd (gAt v) i) ≤ uF M t lo hi i := fun {i} _ q => by
    unfold uF
    rcases q with q | q
    · rw [if_pos q, if_pos q]; exact h2
    · rw [if_neg (by omega), if_pos q, if_neg (by omega), if_pos q]; omega
  have no : ∀ {i : Nat}, ¬ isT t i → (if i = 2 * t then c else if i = 2 * t + 1 then -c else sd (gAt v) i) = sd (gAt v) i := fun {i} q => by
    rw [if_neg (fun z => q (.inl z)), if_neg (fun z => q (.inr z))]
  have mm : ∀ {j : Nat}, j < 8 → mo M j j = NB ∨ sd (gAt v) j ≤ mo M j j := fun {j} hj => by
    unfold mo
    by_cases n : M (j * 8 + j) = NB
    · rw [if_neg (fun z => z.2 n)]; exact .inl n
    · rw [if_pos ⟨rfl, n⟩]
      have hle := (h j j hj hj).resolve_left n
      have t := tdiv2 (M (j * 8 + j))
      right
      rcases Int.lt_or_le (M (j * 8 + j)) 0 with e | e
      · rw [t.2 e]; omega
      · rw [t.1 e]; omega
  have pls : ∀ {a b x y : Int}, x ≤ a → (b = NB ∨ y ≤ b) → pl a b = NB ∨ x + y ≤ pl a b := fun {a b x y} hx hy => by
    by_cases n : pl a b = NB
    · exact .inl n
    · obtain ⟨_, n2, e⟩ := pl_fin n
      have := hy.resolve_left n2
      right; omega
  unfold sbG
  by_cases ti : isT t i
  · rw [if_pos ti]
    by_cases tj : isT t j
    · rw [if_pos tj]
      by_cases e : i = j
      · rw [if_pos e]
        subst e
        right
        by_cases e2 : i = 2 * t
        · rw [if_pos e2, if_pos e2]; omega
        · have e3 : i = 2 * t + 1 := ti.resolve_left e2
          rw [if_neg e2, if_neg e2, if_pos e3]; omega
      · rw [if_neg e]
        have hq := h i j hi' hj
        have z : sd (gAt v) i + sd (gAt v) j = 0 := by
          have : j = opp i := (isT_eq ti tj).resolve_left (fun z => e z.symm)
          rw [this, sd_opp]; omega
        have z2 : (if i = 2 * t then c else if i = 2 * t + 1 then -c else sd (gAt v) i) + (if j = 2 * t then c else if j = 2 * t + 1 then -c else sd (gAt v) j) = 0 := by
          rcases ti with q | q <;> rcases tj with r | r
          · omega
          · rw [if_pos q, if_neg (by omega), if_pos r]; omega
          · rw [if_neg (by omega), if_pos q, if_pos r]; omega
          · omega
        rw [z2]
        rw [z] at hq
        exact hq
    · rw [if_neg tj, no tj]
      exact pls (up hi' ti) (mm hj)
  · rw [if_neg ti, no ti]
    by_cases tj : isT t j
    · rw [if_pos tj, Int.add_comm]
      exact pls (up hj tj) (mm hi')
    · rw [if_neg tj, no tj]
      exact h i j hi' hj
theorem sat_ss (h : Sat (gAt v) M) (hv : v.length = 4) {t f : Nat} (ht : t < 4) (hf : f < 8) {n : Int} : Sat (gAt (v.set t (sd (gAt v) f + n))) (ssF M t f n 64) := by
  intro i j hi hj
  rw [ss_at M t f n hi hj, sd_set hv ht _ hi, sd_set hv ht _ hj]
  have e : ∀ {i : Nat}, (if i = 2 * t then sd (gAt v) f + n else if i = 2 * t + 1 then -(sd (gAt v) f + n) else sd (gAt v) i) = sd (gAt v) (orgF t f i) + addF t n i := fun {i} => by
    unfold orgF addF
    by_cases e1 : i = 2 * t
    · rw [if_pos e1, if_pos e1, if_pos e1]
    · by_cases e2 : i = 2 * t + 1
      · rw [if_neg e1, if_pos e2, if_neg e1, if_pos e2, if_neg e1, if_pos e2, sd_opp]; omega
      · rw [if_neg e1, if_neg e2, if_neg e1, if_neg e2, if_neg e1, if_neg e2]; omega
  rw [e, e]
  by_cases q : pl (M (orgF t f i * 8 + orgF t f j)) (addF t n i + addF t n j) = NB
  · exact .inl q
  · obtain ⟨n1, _, e2⟩ := pl_fin q
    have := (h (orgF t f i) (orgF t f j) (org_lt hf hi) (org_lt hf hj)).resolve_left n1
    right
    omega
/-- The state behind an assignment. -/
theorem sat_as (h : Sat (gAt v) M) (hv : v.length = 4) {x : Ds} (hx : DQ x) (k0 : x.kind = 0) {c : Int} (hc : if x.any = true then -999 ≤ c ∧ c ≤ 999 else c = sumTo x.sg v 4 + x.num) : Sat (gAt (v.set x.target.toNat c)) (asM M x) := by
  have n := hx.g.num
  have ht := hx.tg
  unfold asM
  by_cases a : x.any = true
  · rw [if_pos a] at hc ⊢
    exact sat_bt h hv (by omega) ⟨by omega, by omega⟩ ⟨by omega, by omega⟩ hc.1 hc.2
  · rw [if_neg a] at hc ⊢
    have s := sum_sd hx.len hx.g.sg hx.nz2 v
    have o := one_sd hx.len hx.g.sg (hx.fa k0)
    by_cases q : sd1 x.sg = opp (sd2 x.sg)
    · rw [if_pos q]
      have ne : ¬ sd1 x.sg = sd2 x.sg := fun z => opp_ne (sd2 x.sg) (by rw [← q]; exact z)
      rw [if_neg ne, q, sd_opp] at s
      exact sat_bt h hv (by omega) ⟨by omega, by omega⟩ ⟨by omega, by omega⟩ (by omega) (by omega)
    · rw [if_neg q]
      have e := o.resolve_right q
      rw [if_pos e] at s
      rw [hc, s]
      exact sat_ss h hv (by omega) (sdS_lt x.sg 4 (Nat.le_refl _)).1

end Go.Proofs.YtffajooegiempabDoor

namespace Go.Proofs.YtffajooegiempabDoor
open Go.RowKit
/-- Three bytes of a bound. -/
def b3 (x : Nat × Int) : List Int := [(x.1 : Int), (x.2 + 4000) / 256, (x.2 + 4000) % 256]
/-! The program's reader. -/
abbrev CSt := Nat × Bool
variable {s : List Int}
/-! The other way: what is written is read. -/
/-! The document's reader: loose, held against what is written of it. -/
end Go.Proofs.YtffajooegiempabDoor

namespace Go.Proofs.YtffajooegiempabDoor
open Go.RowKit
variable {w : World}
end Go.Proofs.YtffajooegiempabDoor

namespace Go.Proofs.YtffajooegiempabDoor
open Go.RowKit
variable {w : World}
end Go.Proofs.YtffajooegiempabDoor

namespace Go.Proofs.YtffajooegiempabDoor
open Go.RowKit
variable {w : World}
end Go.Proofs.YtffajooegiempabDoor

namespace Go.Proofs.YtffajooegiempabDoor
open Go.RowKit
variable {w : World}
end Go.Proofs.YtffajooegiempabDoor

namespace Go.Proofs.YtffajooegiempabDoor
open Go.RowKit
variable {w : World} {r : Nat} {s : ByteArray} {d : CSt}
end Go.Proofs.YtffajooegiempabDoor

namespace Go.Proofs.YtffajooegiempabDoor
open Go.RowKit
variable {w : World} {r : Nat} {s : ByteArray} {d : CSt}
/-- Numbers in a fresh list with room for 32. -/
def iv (xs : List Int) : List Value := xs.map (Value.int .i64)
end Go.Proofs.YtffajooegiempabDoor

namespace Go.Proofs.YtffajooegiempabDoor
open Go.RowKit
variable {w : World} {r : Nat} {s : ByteArray} {d : CSt}
end Go.Proofs.YtffajooegiempabDoor

namespace Go.Proofs.YtffajooegiempabDoor
open Go.RowKit
variable {w : World} {s : ByteArray}
end Go.Proofs.YtffajooegiempabDoor

namespace Go.Proofs.YtffajooegiempabDoor
open Go.RowKit
variable {s : ByteArray}
end Go.Proofs.YtffajooegiempabDoor

namespace Go.Proofs.YtffajooegiempabDoor
open Go.RowKit
variable {w : World} {s : ByteArray}
end Go.Proofs.YtffajooegiempabDoor

namespace Go.Proofs.YtffajooegiempabDoor
open Go.RowKit
variable {w : World}
end Go.Proofs.YtffajooegiempabDoor

namespace Go.Proofs.YtffajooegiempabDoor
open Go.RowKit
variable {w : World} {s : ByteArray}
end Go.Proofs.YtffajooegiempabDoor

namespace Go.Proofs.YtffajooegiempabDoor
open Go.RowKit
variable {w : World} {s : ByteArray}
end Go.Proofs.YtffajooegiempabDoor

namespace Go.Proofs.YtffajooegiempabDoor
open Go.RowKit
variable {w w' : World} {g cap : Nat} {F : List Ds}

set_option maxRecDepth 100000 in
set_option maxHeartbeats 1600000 in
theorem d_isRepeat (h : PRow w g F) (hl : F.length ≤ 20) (p : Int) :
    Calls Tryd.prog 78 #[.agg #[.slice (some ⟨g, 0, none⟩) F.length cap], .int .i64 p] w fun e w' => e = .returned (.bool (isRepP F p)) ∧ Below w.heap.size w w' := by
  have hg := h.1
  have HP : Hid (PRow w g F) := h
  have HB : Hid (∀ o1, Below w.heap.size w (w.alloc o1)) := fun o1 => (Below.refl _ _).alloc (Nat.le_refl _) _
  by_cases hout : p < 0 ∨ (F.length : Int) ≤ p
  · have HE : Hid (isRepP F p = false) := by
      show isRepP F p = false
      unfold isRepP
      rcases hout with e | e
      · rw [decide_eq_false (by omega : ¬ 0 ≤ p)]; rfl
      · rw [decide_eq_false (by omega : ¬ p < F.length)]; simp
    have HAt : Hid (∀ w1, Calls Tryd.prog 32 #[.agg #[.slice (some ⟨g, 0, none⟩) F.length cap], .int .i64 p] w1 fun e w' => e = .returned (.tuple #[dsv zDs, .int .i64 2]) ∧ Below w1.heap.size w1 w') := fun w1 => d_at_out _ _ hl p hout
    clear h hout
    unfold dsv zDs at HAt
    go_enter Tryd.func78, Tryd.ntmps78
    go_wp2_with fail
    refine (HAt.out _).mono ?_
    rintro e w1 ⟨rfl, hb1⟩
    have H1 : Hid (Below w.heap.size w w1) := (HB.out _).trans (hb1.mono (by simp))
    have hs1 := H1.out.size
    clear hb1
    go_wp2_with fail
    go_ret
    exact ⟨by rw [HE.out]; rfl, H1.out.alloc hs1 _⟩
  · obtain ⟨k, rfl⟩ : ∃ k : Nat, p = k := ⟨p.toNat, by omega⟩
    have hk : k < F.length := by omega
    have HE : Hid (isRepP F k = ((F.getD k (newDs 0 0)).kind == 3)) := by
      show isRepP F k = _
      unfold isRepP
      rw [Int.toNat_natCast, decide_eq_true (by omega : (0 : Int) ≤ k), decide_eq_true (by omega : (k : Int) < F.length)]
      simp only [Bool.true_and]
      rfl
    have HAt : Hid (∀ w1, Below w.heap.size w w1 → Calls Tryd.prog 32 #[.agg #[.slice (some ⟨g, 0, none⟩) F.length cap], .int .i64 (k : Int)] w1 fun e w' => e = .returned (.tuple #[dsv (F.getD k (newDs 0 0)), .int .i64 0]) ∧ Below w1.heap.size w1 w') := fun w1 hb => d_at_in (HP.out.keep hb) k hk
    clear h hout
    generalize F.getD k (newDs 0 0) = x at *
    unfold dsv at HAt
    go_enter Tryd.func78, Tryd.ntmps78
    go_wp2_with fail
    refine (HAt.out _ (HB.out _)).mono ?_
    rintro e w1 ⟨rfl, hb1⟩
    have H1 : Hid (Below w.heap.size w w1) := (HB.out _).trans (hb1.mono (by simp))
    have hs1 := H1.out.size
    clear hb1
    go_wp2_with fail
    go_ret
    exact ⟨by rw [HE.out]; rfl, H1.out.alloc hs1 _⟩

end Go.Proofs.YtffajooegiempabDoor

namespace Go.Proofs.YtffajooegiempabDoor
open Go.RowKit
variable {w w' : World} {g cap : Nat} {F : List Ds}

set_option maxRecDepth 100000 in
set_option maxHeartbeats 1600000 in
theorem d_firstIn (h : PRow w g F) (hl : F.length ≤ 20) (p b fr : Int) :
    Calls Tryd.prog 50 #[.agg #[.slice (some ⟨g, 0, none⟩) F.length cap], .int .i64 p, .int .i64 b, .int .i64 fr] w fun e w' => e = .returned (.int .i64 (firstP F p b fr)) ∧ Below w.heap.size w w' := by
  have hg := h.1
  have HP : Hid (PRow w g F) := h
  clear h
  go_enter Tryd.func50, Tryd.ntmps50
  go_wp2_with fail
  go_loopw [14] (fun i wr => ∃ k : Nat, k ≤ F.length ∧ i = .int .i64 k ∧ Below w.heap.size w wr ∧ firstP F p b fr = firstGo p b fr (F.drop k) k) (fun i _ => F.length - (intOf i).toNat)
  case atStart => exact ⟨0, Nat.zero_le _, rfl, (Below.refl _ _).alloc (Nat.le_refl _) _, rfl⟩
  case round =>
    obtain ⟨k, hk, rfl, hbel, hfi⟩ := hrel
    have HF : Hid (_ = _) := hfi
    clear hfi
    by_cases hlt : k < F.length
    · have hki : (k : Int) < (F.length : Int) := by omega
      obtain ⟨c0, c1, c2, c3, c4, c5, c6, c7, c8, c9⟩ := (HP.out.keep hbel).2 k _ (gets' hlt)
      have HD : Hid (_ = _) := HF.out.trans (firstGo_drop hlt)
      have hsz := hbel.size
      have HB : Hid (Below _ _ _) := hbel
      clear HF hbel
      generalize F.getD k (newDs 0 0) = x at *
      by_cases hm : fr ≤ (k : Int)
      · by_cases hp : x.parent = p
        · have bp : (x.parent == p) = true := by simpa using hp
          by_cases hb : x.block = b
          · have bb : (x.block == b) = true := by simpa using hb
            have HE : Hid (_ = _) := HD.out.trans (if_pos ⟨hm, hp, hb⟩)
            clear HD hp hb
            go_wp2_with fail
            go_ret
            exact ⟨by rw [HE.out]; rfl, HB.out.alloc hsz _⟩
          · have bb : (x.block == b) = false := by simpa using hb
            have HE : Hid (_ = _) := HD.out.trans (if_neg (fun e => hb e.2.2))
            clear HD hp hb
            go_wp2_with fail
            go_roundw
            case rel => exact ⟨k + 1, by omega, by go_num, HB.out.alloc hsz _, HE.out⟩
            case measure => simp [intOf]; omega
        · have bp : (x.parent == p) = false := by simpa using hp
          have HE : Hid (_ = _) := HD.out.trans (if_neg (fun e => hp e.2.1))
          clear HD hp
          go_wp2_with fail
          go_roundw
          case rel => exact ⟨k + 1, by omega, by go_num, HB.out.alloc hsz _, HE.out⟩
          case measure => simp [intOf]; omega
      · have HE : Hid (_ = _) := HD.out.trans (if_neg (fun e => hm e.1))
        have hmd : decide (fr ≤ (k : Int)) = false := decide_eq_false hm
        clear HD
        go_wp2_with fail
        go_roundw
        case rel => exact ⟨k + 1, by omega, by go_num, HB.out.alloc hsz _, HE.out⟩
        case measure => simp [intOf]; omega
    · have hke : k = F.length := by omega
      have HE : Hid (firstP F p b fr = -1) := HF.out.trans (by rw [hke, List.drop_length]; rfl)
      have hnk : ¬ (k : Int) < (F.length : Int) := by omega
      clear HF hke
      go_wp2_with fail
      go_ret
      exact ⟨by rw [HE.out]; rfl, hbel⟩

end Go.Proofs.YtffajooegiempabDoor

namespace Go.Proofs.YtffajooegiempabDoor
open Go.RowKit

set_option maxHeartbeats 400000 in
theorem d_end (ao : Option Addr) (n cap : Nat) (w : World) (_hn : n ≤ 20) :
    Calls Tryd.prog 56 #[.agg #[.slice ao n cap]] w fun e w' => e = .returned (.int .i64 n) ∧ ∃ o, w' = w.alloc o := by
  go_enter Tryd.func56, Tryd.ntmps56
  go_wp2
  go_ret
  exact ⟨rfl, _, rfl⟩

end Go.Proofs.YtffajooegiempabDoor

namespace Go.Proofs.YtffajooegiempabDoor
open Go.RowKit
variable {w w' : World} {g cap : Nat} {F : List Ds}
def boxOf (g n cap : Nat) : Obj := .cells #[.slice (some ⟨g, 0, none⟩) n cap] 66

set_option maxRecDepth 100000 in
set_option maxHeartbeats 1600000 in
theorem d_following (h : PRow w g F) (hl : F.length ≤ 20) (hpar : ∀ (k : Nat) (x : Ds), F[k]? = some x → -1 ≤ x.parent ∧ x.parent < (k : Int)) (pt : Int) (hp0 : -1 ≤ pt) (hp1 : pt < 21) :
    Calls Tryd.prog 49 #[.agg #[.slice (some ⟨g, 0, none⟩) F.length cap], .int .i64 pt] w fun e w' => e = .returned (.int .i64 (followP F 21 pt)) ∧ Below w.heap.size w w' := by
  have hg := h.1
  have HP : Hid (PRow w g F) := h
  have HPar : Hid (∀ (k : Nat) (x : Ds), F[k]? = some x → -1 ≤ x.parent ∧ x.parent < (k : Int)) := hpar
  have HBox : Hid (Below w.heap.size w (w.alloc (boxOf g F.length cap))) := (Below.refl _ _).alloc (Nat.le_refl _) _
  clear h hpar
  go_enter Tryd.func49, Tryd.ntmps49
  go_wp2_with fail
  go_loopw [1] (fun q wr => ∃ (z : Int) (n : Nat), q = .int .i64 z ∧ -1 ≤ z ∧ z < n ∧ n ≤ 21 ∧ followP F 21 pt = followP F n z ∧ Below (w.heap.size + 1) (w.alloc (boxOf g F.length cap)) wr) (fun q _ => (intOf q + 1).toNat)
  case atStart => exact ⟨pt, 21, rfl, hp0, by omega, Nat.le_refl _, rfl, Below.refl _ _⟩
  case round =>
    obtain ⟨z, n, rfl, hz0, hzn, hn21, hfo, hbel⟩ := hrel
    have HF : Hid (_ = _) := hfo
    have hsz := hbel.size
    have hwsz : (w.alloc (boxOf g F.length cap)).heap.size = w.heap.size + 1 := by simp
    rw [hwsz] at hsz
    have hlt0 : w.heap.size < wr.heap.size := by omega
    have hbx : wr.cell? ⟨w.heap.size, 0, none⟩ = some (.slice (some ⟨g, 0, none⟩) F.length cap) := by
      rw [hbel.cell (p := ⟨w.heap.size, 0, none⟩) (by show w.heap.size < _; omega)]
      exact World.cell?_alloc_at (w := w) _ _ _ _ rfl
    have hbw : Below w.heap.size w wr := HBox.out.trans (hbel.mono (by omega))
    have HPr : Hid (PRow wr g F) := HP.out.keep hbw
    have HB : Hid (Below _ _ _) := hbel
    have HBW : Hid (Below _ _ _) := hbw
    clear hfo hbel hwsz hbw
    by_cases hneg : z < 0
    · have HE : Hid (followP F 21 pt = F.length) := HF.out.trans (by
        cases n with
        | zero => rfl
        | succ n => rw [followP, if_pos (.inl hneg)])
      go_wp2_with fail
      refine (d_end _ F.length cap _ hl).mono ?_
      rintro e w2 ⟨rfl, o, rfl⟩
      go_wp2_with fail
      go_ret
      exact ⟨by rw [HE.out]; rfl, HBW.out.alloc (by omega) _⟩
    obtain ⟨k, rfl⟩ : ∃ k : Nat, z = k := ⟨z.toNat, by omega⟩
    obtain ⟨n', rfl⟩ : ∃ n', n = n' + 1 := ⟨n - 1, by omega⟩
    by_cases hge : (F.length : Int) ≤ (k : Int)
    · have HE : Hid (followP F 21 pt = F.length) := HF.out.trans (by rw [followP, if_pos (.inr hge)])
      have hnk : ¬ (k : Int) < (F.length : Int) := by omega
      go_wp2_with fail
      refine (d_end _ F.length cap _ hl).mono ?_
      rintro e w2 ⟨rfl, o, rfl⟩
      go_wp2_with fail
      go_ret
      exact ⟨by rw [HE.out]; rfl, HBW.out.alloc (by omega) _⟩
    have hk : k < F.length := by omega
    have hki : (k : Int) < (F.length : Int) := by omega
    have HN : Hid (followP F 21 pt = if firstP F (F.getD k (newDs 0 0)).parent (F.getD k (newDs 0 0)).block ((k : Int) + 1) ≠ -1 then firstP F (F.getD k (newDs 0 0)).parent (F.getD k (newDs 0 0)).block ((k : Int) + 1) else if isRepP F (F.getD k (newDs 0 0)).parent = true then (F.getD k (newDs 0 0)).parent else followP F n' (F.getD k (newDs 0 0)).parent) := HF.out.trans (by
      rw [followP, if_neg (fun e => e.elim hneg hge), Int.toNat_natCast])
    obtain ⟨c0, c1, c2, c3, c4, c5, c6, c7, c8, c9⟩ := HPr.out.2 k _ (gets' hk)
    obtain ⟨q0, q1⟩ := HPar.out k _ (gets' hk)
    have hgr : g < wr.heap.size := by omega
    clear HF hneg hge
    generalize F.getD k (newDs 0 0) = x at *
    have hfi := fun (w2 : World) (hP : PRow w2 g F) => d_firstIn (cap := cap) hP hl x.parent x.block ((k : Int) + 1)
    have HFI : Hid (∀ (w2 : World) (hP : PRow w2 g F), Calls Tryd.prog 50 #[.agg #[.slice (some ⟨g, 0, none⟩) F.length cap], .int .i64 x.parent, .int .i64 x.block, .int .i64 ((k : Int) + 1)] w2 fun e w' => e = .returned (.int .i64 (firstP F x.parent x.block ((k : Int) + 1))) ∧ Below w2.heap.size w2 w') := hfi
    clear hfi
    generalize firstP F x.parent x.block ((k : Int) + 1) = fi at *
    go_wp2_with fail
    refine (HFI.out _ (HPr.out.keep ((Below.refl _ _).alloc (Nat.le_refl _) _))).mono ?_
    rintro e w2 ⟨rfl, hb2⟩
    have hsz2 := hb2.size
    simp at hsz2
    have hlt2 : w.heap.size < w2.heap.size := by omega
    have s8 : w2.cell? ⟨wr.heap.size, 8, none⟩ = some (.int .i64 x.parent) := by
      rw [hb2.cell (p := ⟨wr.heap.size, 8, none⟩) (by simp)]
      exact World.cell?_alloc_at (w := wr) _ _ _ _ rfl
    have hbx2 : w2.cell? ⟨w.heap.size, 0, none⟩ = some (.slice (some ⟨g, 0, none⟩) F.length cap) := by
      rw [hb2.cell (p := ⟨w.heap.size, 0, none⟩) (by simp; omega)]
      exact (World.cell?_alloc_past (w := wr) _ _ _ (by omega)).trans hbx
    have hch : Below wr.heap.size wr w2 := ((Below.refl _ _).alloc (Nat.le_refl _) _).trans (hb2.mono (by simp))
    have HCH : Hid (Below _ _ _) := hch
    clear hb2 hch c0 c1 c2 c3 c4 c5 c6 c7 c8 c9
    by_cases hf1 : fi = -1
    · subst hf1
      have HN2 : Hid (_ = _) := HN.out.trans (if_neg (by decide))
      have hre := d_isRepeat (cap := cap) (HPr.out.keep HCH.out) hl x.parent
      clear HN
      cases hrep : isRepP F x.parent
      · have HE : Hid (_ = _) := HN2.out.trans (if_neg (by rw [hrep]; decide))
        rw [hrep] at hre
        clear hrep HN2
        go_wp2_with fail
        refine hre.mono ?_
        rintro e w3 ⟨rfl, hb3⟩
        have s83 : w3.cell? ⟨wr.heap.size, 8, none⟩ = some (.int .i64 x.parent) := by
          rw [hb3.cell (p := ⟨wr.heap.size, 8, none⟩) (by show wr.heap.size < _; omega)]; exact s8
        have HB3 : Hid (Below _ _ _) := hb3
        clear hb3 hre
        go_wp2_with fail
        go_roundw
        case rel => exact ⟨x.parent, n', rfl, q0, by omega, by omega, HE.out, (HB.out.trans (HCH.out.mono hsz)).trans (HB3.out.mono (by omega))⟩
        case measure => simp [intOf]; omega
      · have HE : Hid (_ = _) := HN2.out.trans (if_pos hrep)
        rw [hrep] at hre
        clear hrep HN2
        go_wp2_with fail
        refine hre.mono ?_
        rintro e w3 ⟨rfl, hb3⟩
        have s83 : w3.cell? ⟨wr.heap.size, 8, none⟩ = some (.int .i64 x.parent) := by
          rw [hb3.cell (p := ⟨wr.heap.size, 8, none⟩) (by show wr.heap.size < _; omega)]; exact s8
        have HB3 : Hid (Below _ _ _) := hb3
        clear hb3 hre
        go_wp2_with fail
        go_ret
        exact ⟨by rw [HE.out]; rfl, (HBW.out.trans (HCH.out.mono (by omega))).trans (HB3.out.mono (by omega))⟩
    · have bf : (fi != -1) = true := by rw [bne_iff_ne]; exact hf1
      have HE : Hid (_ = _) := HN.out.trans (if_pos hf1)
      clear HN hf1
      go_wp2_with fail
      go_ret
      exact ⟨by rw [HE.out]; rfl, HBW.out.trans (HCH.out.mono (by omega))⟩

end Go.Proofs.YtffajooegiempabDoor

namespace Go.Proofs.YtffajooegiempabDoor
open Go.RowKit
variable {w w' : World} {g cap : Nat} {F : List Ds}

/-- Two numbers that come out. -/
def twoD (x : Int × Int) : Ending := .returned (.tuple #[.int .i64 x.1, .int .i64 x.2])

set_option maxRecDepth 100000 in
set_option maxHeartbeats 1600000 in
theorem d_next_out (ao : Option Addr) (n : Nat) (hn : n ≤ 20) (pt way : Int) (hp : pt < 0 ∨ (n : Int) ≤ pt) (w : World) :
    Calls Tryd.prog 34 #[.agg #[.slice ao n cap], .int .i64 pt, .int .i64 way] w fun e w' => e = twoD (0, 2) ∧ Below w.heap.size w w' := by
  have HB : Hid (∀ o1, Below w.heap.size w (w.alloc o1)) := fun o1 => (Below.refl _ _).alloc (Nat.le_refl _) _
  have HAt : Hid (∀ w1, Calls Tryd.prog 35 #[.agg #[.slice ao n cap], .int .i64 pt, .int .i64 way] w1 fun e w' => e = .returned (.tuple #[dsv zDs, .int .i64 2]) ∧ Below w1.heap.size w1 w') := fun w1 => d_with_out ao n hn pt way hp
  unfold dsv zDs newDs at HAt
  clear hp
  go_enter Tryd.func34, Tryd.ntmps34
  go_wp2_with fail
  refine (HAt.out _).mono ?_
  rintro e w1 ⟨rfl, hb1⟩
  have H1 : Hid (Below w.heap.size w w1) := (HB.out _).trans (hb1.mono (by simp))
  have hs1 := H1.out.size
  clear hb1
  go_wp2_with fail
  go_ret2
  exact ⟨rfl, H1.out.alloc hs1 _⟩

set_option maxRecDepth 100000 in
set_option maxHeartbeats 1600000 in
theorem d_next_in (h : PRow w g F) (hl : F.length ≤ 20) (hpar : ∀ (k : Nat) (x : Ds), F[k]? = some x → -1 ≤ x.parent ∧ x.parent < (k : Int)) (k : Nat) (hk : k < F.length) (way : Int) :
    Calls Tryd.prog 34 #[.agg #[.slice (some ⟨g, 0, none⟩) F.length cap], .int .i64 (k : Int), .int .i64 way] w fun e w' => e = twoD (nextP F k way) ∧ Below w.heap.size w w' := by
  have hg := h.1
  have hki : (k : Int) < (F.length : Int) := by omega
  have HP : Hid (PRow w g F) := h
  have HPar : Hid (∀ (k : Nat) (x : Ds), F[k]? = some x → -1 ≤ x.parent ∧ x.parent < (k : Int)) := hpar
  have HB : Hid (∀ o1, Below w.heap.size w (w.alloc o1)) := fun o1 => (Below.refl _ _).alloc (Nat.le_refl _) _
  have HN : Hid (nextP F k way = if way < 0 ∨ waysP (F.getD k (newDs 0 0)).kind ≤ way then (0, 2) else if blocksOf (F.getD k (newDs 0 0)).kind ≤ way then (followP F 21 k, 0) else if firstP F k way ((k : Int) + 1) ≠ -1 then (firstP F k way ((k : Int) + 1), 0) else if (F.getD k (newDs 0 0)).kind = 3 then ((k : Int), 0) else (followP F 21 k, 0)) := by
    show nextP F k way = _
    unfold nextP
    rw [if_neg (by omega), Int.toNat_natCast]
  have HAt : Hid (∀ w1, Below w.heap.size w w1 → Calls Tryd.prog 35 #[.agg #[.slice (some ⟨g, 0, none⟩) F.length cap], .int .i64 (k : Int), .int .i64 way] w1 fun e w' =>
      e = .returned (.tuple #[dsv (if way < 0 ∨ waysP (F.getD k (newDs 0 0)).kind ≤ way then zDs else F.getD k (newDs 0 0)), .int .i64 (if way < 0 ∨ waysP (F.getD k (newDs 0 0)).kind ≤ way then 2 else 0)]) ∧ Below w1.heap.size w1 w') := fun w1 hb => d_with_in (HP.out.keep hb) k hk way
  clear h hpar
  generalize F.getD k (newDs 0 0) = x at *
  by_cases hbad : way < 0 ∨ waysP x.kind ≤ way
  · have HE : Hid (_ = _) := HN.out.trans (if_pos hbad)
    rw [if_pos hbad, if_pos hbad] at HAt
    unfold dsv zDs newDs at HAt
    clear HN hbad
    go_enter Tryd.func34, Tryd.ntmps34
    go_wp2_with fail
    refine (HAt.out _ (HB.out _)).mono ?_
    rintro e w1 ⟨rfl, hb1⟩
    have p1 : w1.cell? ⟨w.heap.size, 0, none⟩ = some (.slice (some ⟨g, 0, none⟩) F.length cap) := by
      rw [hb1.cell (p := ⟨w.heap.size, 0, none⟩) (by simp)]
      exact World.cell?_alloc_at _ _ _ _ rfl
    have H1 : Hid (Below w.heap.size w w1) := (HB.out _).trans (hb1.mono (by simp))
    have hs1 : w.heap.size + 1 ≤ w1.heap.size := by have := hb1.size; simp at this; omega
    have hlt1 : w.heap.size < w1.heap.size := by omega
    have hB : Hid (∀ o1 o2 : Obj, Below w.heap.size w ((w1.alloc o1).alloc o2)) := fun o1 o2 => (H1.out.alloc (by omega) _).alloc (by simp; omega) _
    clear hb1
    go_wp2_with fail
    go_ret2
    exact ⟨by rw [HE.out]; rfl, H1.out.alloc (by omega) _⟩
  have HN2 : Hid (_ = _) := HN.out.trans (if_neg hbad)
  rw [if_neg hbad, if_neg hbad] at HAt
  unfold dsv at HAt
  clear HN hbad
  by_cases hb : blocksOf x.kind ≤ way
  · have HE : Hid (_ = _) := HN2.out.trans (if_pos hb)
    clear HN2
    go_enter Tryd.func34, Tryd.ntmps34
    go_wp2_with fail
    refine (HAt.out _ (HB.out _)).mono ?_
    rintro e w1 ⟨rfl, hb1⟩
    have p1 : w1.cell? ⟨w.heap.size, 0, none⟩ = some (.slice (some ⟨g, 0, none⟩) F.length cap) := by
      rw [hb1.cell (p := ⟨w.heap.size, 0, none⟩) (by simp)]
      exact World.cell?_alloc_at _ _ _ _ rfl
    have H1 : Hid (Below w.heap.size w w1) := (HB.out _).trans (hb1.mono (by simp))
    have hs1 : w.heap.size + 1 ≤ w1.heap.size := by have := hb1.size; simp at this; omega
    have hlt1 : w.heap.size < w1.heap.size := by omega
    have hB : Hid (∀ o1 o2 : Obj, Below w.heap.size w ((w1.alloc o1).alloc o2)) := fun o1 o2 => (H1.out.alloc (by omega) _).alloc (by simp; omega) _
    clear hb1
    go_wp2_with fail
    refine (d_blocks _ _ _ _ _ _ _ _ _ _ _).mono ?_
    rintro e w2 ⟨rfl, o2, rfl⟩
    go_wp2_with fail
    refine (d_following (HP.out.keep (hB.out _ _)) hl HPar.out (k : Int) (by omega) (by omega)).mono ?_
    rintro e w4 ⟨rfl, hb4⟩
    go_wp2_with fail
    go_ret2
    exact ⟨by rw [HE.out]; rfl, (hB.out _ _).trans (hb4.mono (by simp; omega))⟩
  have HN3 : Hid (_ = _) := HN2.out.trans (if_neg hb)
  clear HN2
  have HFI : Hid (∀ (w2 : World) (hP : PRow w2 g F), Calls Tryd.prog 50 #[.agg #[.slice (some ⟨g, 0, none⟩) F.length cap], .int .i64 (k : Int), .int .i64 way, .int .i64 ((k : Int) + 1)] w2 fun e w' => e = .returned (.int .i64 (firstP F k way ((k : Int) + 1))) ∧ Below w2.heap.size w2 w') := fun w2 hP => d_firstIn (cap := cap) hP hl k way ((k : Int) + 1)
  generalize firstP F k way ((k : Int) + 1) = fi at *
  by_cases hfi : fi = -1
  · subst hfi
    have HN4 : Hid (_ = _) := HN3.out.trans (if_neg (by decide))
    clear HN3
    by_cases h3 : x.kind = 3
    · have HE : Hid (_ = _) := HN4.out.trans (if_pos h3)
      clear HN4
      have HK : Hid (x.kind = 3) := h3
      clear h3
      go_enter Tryd.func34, Tryd.ntmps34
      go_wp2_with fail
      refine (HAt.out _ (HB.out _)).mono ?_
      rintro e w1 ⟨rfl, hb1⟩
      have p1 : w1.cell? ⟨w.heap.size, 0, none⟩ = some (.slice (some ⟨g, 0, none⟩) F.length cap) := by
        rw [hb1.cell (p := ⟨w.heap.size, 0, none⟩) (by simp)]
        exact World.cell?_alloc_at _ _ _ _ rfl
      have H1 : Hid (Below w.heap.size w w1) := (HB.out _).trans (hb1.mono (by simp))
      have hs1 : w.heap.size + 1 ≤ w1.heap.size := by have := hb1.size; simp at this; omega
      have hlt1 : w.heap.size < w1.heap.size := by omega
      have hB : Hid (∀ o1 o2 : Obj, Below w.heap.size w ((w1.alloc o1).alloc o2)) := fun o1 o2 => (H1.out.alloc (by omega) _).alloc (by simp; omega) _
      clear hb1
      go_wp2_with fail
      refine (d_blocks _ _ _ _ _ _ _ _ _ _ _).mono ?_
      rintro e w2 ⟨rfl, o2, rfl⟩
      go_wp2_with fail
      refine (HFI.out _ (HP.out.keep (hB.out _ _))).mono ?_
      rintro e w3 ⟨rfl, hb3⟩
      have hsz3 := hb3.size
      simp at hsz3
      have s0 : w3.cell? ⟨w1.heap.size, 0, none⟩ = some (.int .i64 x.kind) := by
        rw [hb3.cell (p := ⟨w1.heap.size, 0, none⟩) (by simp; omega), World.cell?_alloc_past _ _ _ (by simp)]
        exact World.cell?_alloc_at _ _ _ _ rfl
      have p0 : w3.cell? ⟨w.heap.size, 0, none⟩ = some (.slice (some ⟨g, 0, none⟩) F.length cap) := by
        rw [hb3.cell (p := ⟨w.heap.size, 0, none⟩) (by simp; omega), World.cell?_alloc_past _ _ _ (by simp; omega), World.cell?_alloc_past _ _ _ (by omega)]
        exact p1
      have HB3 : Hid (Below w.heap.size w w3) := (hB.out _ _).trans (hb3.mono (by simp; omega))
      clear hb3
      have s0' : w3.cell? ⟨w1.heap.size, 0, none⟩ = some (.int .i64 3) := by rw [s0, HK.out]
      clear s0
      go_wp2_with fail
      go_ret2
      exact ⟨by rw [HE.out]; rfl, HB3.out⟩
    · have HE : Hid (_ = _) := HN4.out.trans (if_neg h3)
      have b3 : (x.kind == 3) = false := by simpa using h3
      clear HN4 h3
      go_enter Tryd.func34, Tryd.ntmps34
      go_wp2_with fail
      refine (HAt.out _ (HB.out _)).mono ?_
      rintro e w1 ⟨rfl, hb1⟩
      have p1 : w1.cell? ⟨w.heap.size, 0, none⟩ = some (.slice (some ⟨g, 0, none⟩) F.length cap) := by
        rw [hb1.cell (p := ⟨w.heap.size, 0, none⟩) (by simp)]
        exact World.cell?_alloc_at _ _ _ _ rfl
      have H1 : Hid (Below w.heap.size w w1) := (HB.out _).trans (hb1.mono (by simp))
      have hs1 : w.heap.size + 1 ≤ w1.heap.size := by have := hb1.size; simp at this; omega
      have hlt1 : w.heap.size < w1.heap.size := by omega
      have hB : Hid (∀ o1 o2 : Obj, Below w.heap.size w ((w1.alloc o1).alloc o2)) := fun o1 o2 => (H1.out.alloc (by omega) _).alloc (by simp; omega) _
      clear hb1
      go_wp2_with fail
      refine (d_blocks _ _ _ _ _ _ _ _ _ _ _).mono ?_
      rintro e w2 ⟨rfl, o2, rfl⟩
      go_wp2_with fail
      refine (HFI.out _ (HP.out.keep (hB.out _ _))).mono ?_
      rintro e w3 ⟨rfl, hb3⟩
      have hsz3 := hb3.size
      simp at hsz3
      have s0 : w3.cell? ⟨w1.heap.size, 0, none⟩ = some (.int .i64 x.kind) := by
        rw [hb3.cell (p := ⟨w1.heap.size, 0, none⟩) (by simp; omega), World.cell?_alloc_past _ _ _ (by simp)]
        exact World.cell?_alloc_at _ _ _ _ rfl
      have p0 : w3.cell? ⟨w.heap.size, 0, none⟩ = some (.slice (some ⟨g, 0, none⟩) F.length cap) := by
        rw [hb3.cell (p := ⟨w.heap.size, 0, none⟩) (by simp; omega), World.cell?_alloc_past _ _ _ (by simp; omega), World.cell?_alloc_past _ _ _ (by omega)]
        exact p1
      have HB3 : Hid (Below w.heap.size w w3) := (hB.out _ _).trans (hb3.mono (by simp; omega))
      clear hb3
      go_wp2_with fail
      refine (d_following (HP.out.keep HB3.out) hl HPar.out (k : Int) (by omega) (by omega)).mono ?_
      rintro e w4 ⟨rfl, hb4⟩
      go_wp2_with fail
      go_ret2
      exact ⟨by rw [HE.out]; rfl, HB3.out.trans (hb4.mono HB3.out.size)⟩
  · have HE : Hid (_ = _) := HN3.out.trans (if_pos hfi)
    have bf : (fi != -1) = true := by rw [bne_iff_ne]; exact hfi
    clear HN3 hfi
    go_enter Tryd.func34, Tryd.ntmps34
    go_wp2_with fail
    refine (HAt.out _ (HB.out _)).mono ?_
    rintro e w1 ⟨rfl, hb1⟩
    have p1 : w1.cell? ⟨w.heap.size, 0, none⟩ = some (.slice (some ⟨g, 0, none⟩) F.length cap) := by
      rw [hb1.cell (p := ⟨w.heap.size, 0, none⟩) (by simp)]
      exact World.cell?_alloc_at _ _ _ _ rfl
    have H1 : Hid (Below w.heap.size w w1) := (HB.out _).trans (hb1.mono (by simp))
    have hs1 : w.heap.size + 1 ≤ w1.heap.size := by have := hb1.size; simp at this; omega
    have hlt1 : w.heap.size < w1.heap.size := by omega
    have hB : Hid (∀ o1 o2 : Obj, Below w.heap.size w ((w1.alloc o1).alloc o2)) := fun o1 o2 => (H1.out.alloc (by omega) _).alloc (by simp; omega) _
    clear hb1
    go_wp2_with fail
    refine (d_blocks _ _ _ _ _ _ _ _ _ _ _).mono ?_
    rintro e w2 ⟨rfl, o2, rfl⟩
    go_wp2_with fail
    refine (HFI.out _ (HP.out.keep (hB.out _ _))).mono ?_
    rintro e w3 ⟨rfl, hb3⟩
    have hsz3 := hb3.size
    simp at hsz3
    have s0 : w3.cell? ⟨w1.heap.size, 0, none⟩ = some (.int .i64 x.kind) := by
      rw [hb3.cell (p := ⟨w1.heap.size, 0, none⟩) (by simp; omega), World.cell?_alloc_past _ _ _ (by simp)]
      exact World.cell?_alloc_at _ _ _ _ rfl
    have p0 : w3.cell? ⟨w.heap.size, 0, none⟩ = some (.slice (some ⟨g, 0, none⟩) F.length cap) := by
      rw [hb3.cell (p := ⟨w.heap.size, 0, none⟩) (by simp; omega), World.cell?_alloc_past _ _ _ (by simp; omega), World.cell?_alloc_past _ _ _ (by omega)]
      exact p1
    have HB3 : Hid (Below w.heap.size w w3) := (hB.out _ _).trans (hb3.mono (by simp; omega))
    clear hb3
    clear s0
    go_wp2_with fail
    go_ret2
    exact ⟨by rw [HE.out]; rfl, HB3.out⟩

end Go.Proofs.YtffajooegiempabDoor

namespace Go.Proofs.YtffajooegiempabDoor
open Go.RowKit
variable {w : World} {s : ByteArray}
theorem next_z (F : List Ds) (k : Nat) (hk : k < F.length) (way : Nat) (h : (way : Int) < waysP (F.getD k (newDs 0 0)).kind) : (nextP F k way).2 = 0 := by
  unfold nextP
  rw [if_neg (by omega), if_neg (by rw [Int.toNat_natCast]; omega)]
  split
  · rfl
  · split
    · rfl
    · split <;> rfl
theorem ways_rng (x : Int) : 1 ≤ waysP x ∧ waysP x ≤ 2 := by
  unfold waysP
  split <;> omega

end Go.Proofs.YtffajooegiempabDoor

namespace Go.Proofs.YtffajooegiempabDoor
open Go.RowKit
variable {w : World} {s : ByteArray}
end Go.Proofs.YtffajooegiempabDoor

namespace Go.Proofs.YtffajooegiempabDoor
open Go.RowKit
variable {w : World} {s : ByteArray}
end Go.Proofs.YtffajooegiempabDoor

namespace Go.Proofs.YtffajooegiempabDoor
open Go.RowKit
variable {w : World} {C : Nat → Int}
end Go.Proofs.YtffajooegiempabDoor

