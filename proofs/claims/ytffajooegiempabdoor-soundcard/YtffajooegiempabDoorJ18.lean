import Derived.Test.YtffajooegiempabDoorJ17
import Derived.Laws.AppendOwn
import Derived.Laws.BytesArg
import Derived.Laws.Concat
namespace Go.Proofs.YtffajooegiempabDoor
open Go.RowKit

/-- The forms told among the first n, with their bounds. -/
def tpC (l : List Int) : Nat → List (Nat × Int)
  | 0 => []
  | n + 1 => tpC l n ++ (if l.getD n 0 = 1000000 then [] else [(n, l.getD n 0)])
/-- Three bytes of a bound. -/
def b3 (x : Nat × Int) : List Int := [(x.1 : Int), (x.2 + 4000) / 256, (x.2 + 4000) % 256]
def tl (l : List Int) (n : Nat) : List Int := (tpC l n).flatMap b3
def ct (l : List Int) (n : Nat) : Nat := (tpC l n).length
theorem tl_succ (l : List Int) (n : Nat) : tl l (n + 1) = tl l n ++ (if l.getD n 0 = 1000000 then [] else b3 (n, l.getD n 0)) := by
  unfold tl
  show (tpC l n ++ _).flatMap b3 = _
  split <;> simp
theorem ct_succ (l : List Int) (n : Nat) : ct l (n + 1) = ct l n + (if l.getD n 0 = 1000000 then 0 else 1) := by
  unfold ct
  show (tpC l n ++ _).length = _
  split <;> simp
/-- A point's part. -/
def enc1 : Option (List Int) → List Int
  | none => [0]
  | some l => 1 :: (ct l 32 : Int) :: tl l 32
/-- The parts of the first n. -/
def encs (L : List (Option (List Int))) : Nat → List Int
  | 0 => []
  | n + 1 => encs L n ++ enc1 (L.getD n none)
def encB (L : List (Option (List Int))) : List Int := (L.length : Int) :: encs L L.length

/-- Which numbers a bound may be. -/
def cBd (x : Int) : Prop := x = 1000000 ∨ (-4000 ≤ x ∧ x ≤ 4000)
def okp (r : Option (List Int)) : Prop := ∀ l, r = some l → l.length = 32 ∧ ∀ f, f < 32 → cBd (l.getD f 0)

/-! The program's reader. -/
abbrev CSt := Nat × Bool
def pkc (s : List Int) (d : CSt) : Int := if d.1 < s.length then s.getD d.1 0 else -1
def numF (s : List Int) (lo hi : Int) (d : CSt) : Int × CSt :=
  if pkc s d < lo ∨ hi < pkc s d then (0, (d.1, true)) else (pkc s d, (d.1 + 1, d.2))
def bdF (s : List Int) (d : CSt) : Int × CSt :=
  let h := numF s 0 255 d
  let k := numF s 0 255 h.2
  (h.1 * 256 + k.1 - 4000, (k.2.1, if 8000 < h.1 * 256 + k.1 then true else k.2.2))
/-- One form asked for. -/
def fmF (s : List Int) (f : Nat) (x : Nat × CSt × List Int) : Nat × CSt × List Int :=
  if 0 < x.1 ∧ pkc s x.2.1 = f then (x.1 - 1, (bdF s (x.2.1.1 + 1, x.2.1.2)).2, x.2.2 ++ [(bdF s (x.2.1.1 + 1, x.2.1.2)).1])
  else (x.1, x.2.1, x.2.2 ++ [1000000])
def fmsF (s : List Int) (x : Nat × CSt × List Int) : Nat → Nat × CSt × List Int
  | 0 => x
  | n + 1 => fmF s n (fmsF s x n)
def bsN (s : List Int) (N : Nat) (d : CSt) : List Int × CSt :=
  let t := numF s 0 32 d
  let y := fmsF s (t.1.toNat, t.2, []) N
  (y.2.2, (y.2.1.1, if 0 < y.1 then true else y.2.1.2))
def bsF (s : List Int) (d : CSt) : List Int × CSt := bsN s 32 d
def ptF (s : List Int) (d : CSt) : Option (List Int) × CSt :=
  let c := numF s 0 1 d
  if c.1 = 0 then (none, c.2) else (some (bsF s c.2).1, (bsF s c.2).2)
/-- i points; no more where something was wrong. -/
def ptsF (s : List Int) (x : CSt × List (Option (List Int))) : Nat → CSt × List (Option (List Int))
  | 0 => x
  | n + 1 => let y := ptsF s x n; if y.1.2 then y else ((ptF s y.1).2, y.2 ++ [(ptF s y.1).1])
def decF (s : List Int) : Option (List (Option (List Int))) :=
  let t := numF s 1 21 (0, false)
  let y := ptsF s (t.2, []) t.1.toNat
  if y.1.2 = true ∨ y.1.1 ≠ s.length then none else some y.2

/-- All are bytes. -/
def Bys (s : List Int) : Prop := ∀ i, i < s.length → 0 ≤ s.getD i 0 ∧ s.getD i 0 ≤ 255
variable {s : List Int}

theorem drop_cons (s : List Int) (i : Nat) (h : i < s.length) : s.drop i = s.getD i 0 :: s.drop (i + 1) := by
  rw [List.drop_eq_getElem_cons h]
  simp [List.getD, h]
theorem pkc_range (hB : Bys s) (d : CSt) : -1 ≤ pkc s d ∧ pkc s d ≤ 255 := by
  unfold pkc
  split
  · have := hB d.1 (by assumption); omega
  · omega
theorem num_range (hB : Bys s) (lo hi : Int) (h0 : 0 ≤ lo) (d : CSt) : 0 ≤ (numF s lo hi d).1 ∧ (numF s lo hi d).1 ≤ 255 ∧ ((numF s lo hi d).2.1 = d.1 ∨ ((numF s lo hi d).2.1 = d.1 + 1 ∧ d.1 < s.length)) := by
  have hp := pkc_range hB d
  unfold numF
  split
  · exact ⟨Int.le_refl _, by omega, .inl rfl⟩
  · refine ⟨by show 0 ≤ pkc s d; omega, hp.2, .inr ⟨rfl, ?_⟩⟩
    unfold pkc at *
    by_cases q : d.1 < s.length
    · exact q
    · rw [if_neg q] at *; omega
/-- Where nothing was wrong a byte was taken. -/
theorem num_ok {lo hi : Int} (h0 : 0 ≤ lo) {d : CSt} (h : (numF s lo hi d).2.2 = false) : d.2 = false ∧ d.1 < s.length ∧ (numF s lo hi d).1 = s.getD d.1 0 ∧ (numF s lo hi d).2.1 = d.1 + 1 ∧ lo ≤ s.getD d.1 0 ∧ s.getD d.1 0 ≤ hi := by
  unfold numF at *
  by_cases q : pkc s d < lo ∨ hi < pkc s d
  · rw [if_pos q] at h; cases h
  · rw [if_neg q] at h ⊢
    have q2 : d.1 < s.length := by
      rcases Nat.lt_or_ge d.1 s.length with q' | q'
      · exact q'
      · exfalso; unfold pkc at q; rw [if_neg (show ¬ d.1 < s.length by omega)] at q; omega
    have e : pkc s d = s.getD d.1 0 := by unfold pkc; rw [if_pos q2]
    rw [e] at q ⊢
    exact ⟨h, q2, rfl, rfl, by omega, by omega⟩
theorem num_wrong {lo hi : Int} {d : CSt} (h : d.2 = true) : (numF s lo hi d).2.2 = true := by
  unfold numF; split
  · rfl
  · exact h

theorem bd_ok {d : CSt} (h : (bdF s d).2.2 = false) : d.2 = false ∧ d.1 + 2 ≤ s.length ∧ (bdF s d).2.1 = d.1 + 2 ∧ -4000 ≤ (bdF s d).1 ∧ (bdF s d).1 ≤ 4000 ∧
    s.drop d.1 = ((bdF s d).1 + 4000) / 256 :: ((bdF s d).1 + 4000) % 256 :: s.drop (d.1 + 2) := by
  have h' : (if 8000 < (numF s 0 255 d).1 * 256 + (numF s 0 255 (numF s 0 255 d).2).1 then true else (numF s 0 255 (numF s 0 255 d).2).2.2) = false := h
  by_cases q : 8000 < (numF s 0 255 d).1 * 256 + (numF s 0 255 (numF s 0 255 d).2).1
  · rw [if_pos q] at h'; cases h'
  · rw [if_neg q] at h'
    obtain ⟨a1, a2, a3, a4, a5, a6⟩ := num_ok (Int.le_refl 0) h'
    obtain ⟨b1, b2, b3, b4, b5, b6⟩ := num_ok (Int.le_refl 0) a1
    rw [b4] at a2 a3 a4 a5 a6
    have e : (bdF s d).1 = s.getD d.1 0 * 256 + s.getD (d.1 + 1) 0 - 4000 := by
      show (numF s 0 255 d).1 * 256 + (numF s 0 255 (numF s 0 255 d).2).1 - 4000 = _
      rw [a3, b3]
    rw [a3, b3] at q
    refine ⟨b1, by omega, a4, by omega, by omega, ?_⟩
    rw [e, drop_cons s d.1 b2, drop_cons s (d.1 + 1) a2]
    congr 1
    · omega
    · congr 1
      omega
theorem bd_wrong {d : CSt} (h : d.2 = true) : (bdF s d).2.2 = true := by
  show (if _ then true else (numF s 0 255 (numF s 0 255 d).2).2.2) = true
  split
  · rfl
  · exact num_wrong (num_wrong h)

theorem fm_wrong {f : Nat} {x : Nat × CSt × List Int} (h : x.2.1.2 = true) : (fmF s f x).2.1.2 = true := by
  unfold fmF; split
  · exact bd_wrong h
  · exact h
theorem fms_wrong {x : Nat × CSt × List Int} (h : x.2.1.2 = true) : ∀ n, (fmsF s x n).2.1.2 = true
  | 0 => h
  | n + 1 => fm_wrong (fms_wrong h n)
theorem fms_len {x : Nat × CSt × List Int} (h : x.2.2 = []) : ∀ n, (fmsF s x n).2.2.length = n
  | 0 => by show x.2.2.length = 0; rw [h]; rfl
  | n + 1 => by
    have ih := fms_len h n
    show (fmF s n (fmsF s x n)).2.2.length = n + 1
    unfold fmF; split <;> simp [ih]
theorem tpC_app (l m : List Int) : ∀ n, n ≤ l.length → tpC (l ++ m) n = tpC l n
  | 0, _ => rfl
  | n + 1, h => by
    show tpC (l ++ m) n ++ _ = tpC l n ++ _
    rw [tpC_app l m n (by omega)]
    have e : (l ++ m).getD n 0 = l.getD n 0 := by simp [List.getD, List.getElem?_append_left (show n < l.length by omega)]
    rw [e]
theorem getD_snoc (l : List Int) (y : Int) (n : Nat) (h : l.length = n) : (l ++ [y]).getD n 0 = y := by simp [List.getD, ← h]
/-- What was read of the forms, where nothing was wrong. -/
theorem fms_ok (hB : Bys s) {i t : Nat} : ∀ n, (fmsF s (t, (i, false), []) n).2.1.2 = false →
    s.drop i = tl (fmsF s (t, (i, false), []) n).2.2 n ++ s.drop (fmsF s (t, (i, false), []) n).2.1.1 ∧ t = (fmsF s (t, (i, false), []) n).1 + ct (fmsF s (t, (i, false), []) n).2.2 n ∧ ∀ f, f < n → cBd ((fmsF s (t, (i, false), []) n).2.2.getD f 0)
  | 0, _ => ⟨rfl, rfl, fun f hf => absurd hf (by omega)⟩
  | n + 1, h => by
    have hl : (fmsF s (t, (i, false), []) n).2.2.length = n := fms_len rfl n
    have hf' : (fmsF s (t, (i, false), []) n).2.1.2 = false := by
      cases e : (fmsF s (t, (i, false), []) n).2.1.2 with
      | false => rfl
      | true => rw [show (fmsF s (t, (i, false), []) (n + 1)).2.1.2 = true from fm_wrong e] at h; cases h
    have ih := fms_ok hB n hf'
    have hd : fmsF s (t, (i, false), []) (n + 1) = fmF s n (fmsF s (t, (i, false), []) n) := rfl
    rw [hd] at h ⊢
    generalize fmsF s (t, (i, false), []) n = x at *
    obtain ⟨t', ⟨j, wr⟩, l⟩ := x
    simp only at ih hl hf' h ⊢
    obtain ⟨i1, i2, i3⟩ := ih
    unfold fmF at *
    by_cases q : 0 < t' ∧ pkc s (j, wr) = n
    · rw [if_pos q] at h ⊢
      simp only at h ⊢
      obtain ⟨b1, b2, b4, b5, b6, b7⟩ := bd_ok h
      simp only at b1 b2 b4 b7
      generalize (bdF s (j + 1, wr)).1 = y at *
      have hj : j < s.length := by omega
      have hpk : s.getD j 0 = n := by have := q.2; unfold pkc at this; rw [if_pos hj] at this; exact this
      refine ⟨?_, ?_, ?_⟩
      · rw [tl_succ, getD_snoc l y n hl, if_neg (by omega)]
        unfold tl
        rw [tpC_app l [y] n (by omega), i1, b4, drop_cons s j hj, hpk, b7]
        unfold tl b3
        simp
      · rw [ct_succ, getD_snoc l y n hl, if_neg (by omega)]
        unfold ct
        rw [tpC_app l [y] n (by omega), i2]
        unfold ct
        omega
      · intro f hf
        by_cases e : f = n
        · rw [e, getD_snoc l y n hl]; exact .inr ⟨b5, b6⟩
        · have := i3 f (by omega)
          simpa [List.getD, List.getElem?_append_left (show f < l.length by omega)] using this
    · rw [if_neg q] at h ⊢
      simp only at h ⊢
      refine ⟨?_, ?_, ?_⟩
      · rw [tl_succ, getD_snoc l _ n hl, if_pos rfl]
        unfold tl
        rw [tpC_app l _ n (by omega), i1]
        unfold tl
        simp
      · rw [ct_succ, getD_snoc l _ n hl, if_pos rfl]
        unfold ct
        rw [tpC_app l _ n (by omega), i2]
        unfold ct
        omega
      · intro f hf
        by_cases e : f = n
        · rw [e, getD_snoc l _ n hl]; exact .inl rfl
        · have := i3 f (by omega)
          simpa [List.getD, List.getElem?_append_left (show f < l.length by omega)] using this
theorem bsN_ok (hB : Bys s) {N : Nat} {d : CSt} (h : (bsN s N d).2.2 = false) : d.2 = false ∧ (bsN s N d).1.length = N ∧ (∀ f, f < N → cBd ((bsN s N d).1.getD f 0)) ∧ s.drop d.1 = ((ct (bsN s N d).1 N : Nat) : Int) :: tl (bsN s N d).1 N ++ s.drop (bsN s N d).2.1 := by
  have h' : (if 0 < (fmsF s ((numF s 0 32 d).1.toNat, (numF s 0 32 d).2, []) N).1 then true else (fmsF s ((numF s 0 32 d).1.toNat, (numF s 0 32 d).2, []) N).2.1.2) = false := h
  by_cases q : 0 < (fmsF s ((numF s 0 32 d).1.toNat, (numF s 0 32 d).2, []) N).1
  · rw [if_pos q] at h'; cases h'
  rw [if_neg q] at h'
  have hn : (numF s 0 32 d).2.2 = false := by
    cases e : (numF s 0 32 d).2.2 with
    | false => rfl
    | true => rw [fms_wrong (x := ((numF s 0 32 d).1.toNat, (numF s 0 32 d).2, [])) e N] at h'; cases h'
  obtain ⟨a1, a2, a3, a4, a5, a6⟩ := num_ok (Int.le_refl 0) hn
  have e2 : (numF s 0 32 d).2 = (d.1 + 1, false) := Prod.ext a4 hn
  have hf := fms_ok hB (i := d.1 + 1) (t := (numF s 0 32 d).1.toNat) N (by rw [← e2]; exact h')
  have hl := fms_len (s := s) (x := ((numF s 0 32 d).1.toNat, (d.1 + 1, false), [])) rfl N
  have q1 : (bsN s N d).1 = (fmsF s ((numF s 0 32 d).1.toNat, (d.1 + 1, false), []) N).2.2 := by rw [← e2]; rfl
  have q2 : (bsN s N d).2.1 = (fmsF s ((numF s 0 32 d).1.toNat, (d.1 + 1, false), []) N).2.1.1 := by rw [← e2]; rfl
  rw [e2] at q
  rw [q1, q2]
  generalize fmsF s ((numF s 0 32 d).1.toNat, (d.1 + 1, false), []) N = x at *
  refine ⟨a1, hl, hf.2.2, ?_⟩
  rw [drop_cons s d.1 a2, hf.1, ← a3]
  have := hf.2.1
  rw [List.cons_append]
  congr 1
  rw [a3] at *
  omega
theorem bs_ok (hB : Bys s) {d : CSt} (h : (bsF s d).2.2 = false) : d.2 = false ∧ (bsF s d).1.length = 32 ∧ (∀ f, f < 32 → cBd ((bsF s d).1.getD f 0)) ∧ s.drop d.1 = ((ct (bsF s d).1 32 : Nat) : Int) :: tl (bsF s d).1 32 ++ s.drop (bsF s d).2.1 := bsN_ok hB h
theorem pt_ok (hB : Bys s) {d : CSt} (h : (ptF s d).2.2 = false) : d.2 = false ∧ okp (ptF s d).1 ∧ s.drop d.1 = enc1 (ptF s d).1 ++ s.drop (ptF s d).2.1 := by
  unfold ptF at *
  simp only at *
  by_cases q : (numF s 0 1 d).1 = 0
  · rw [if_pos q] at h ⊢
    obtain ⟨a1, a2, a3, a4, a5, a6⟩ := num_ok (Int.le_refl 0) h
    refine ⟨a1, (fun l e => by cases e), ?_⟩
    show s.drop d.1 = [0] ++ s.drop (numF s 0 1 d).2.1
    rw [a4, drop_cons s d.1 a2, ← a3, q]; rfl
  · rw [if_neg q] at h ⊢
    simp only at h ⊢
    obtain ⟨b1, b2, b3, b4⟩ := bs_ok hB h
    obtain ⟨a1, a2, a3, a4, a5, a6⟩ := num_ok (Int.le_refl 0) b1
    refine ⟨a1, (fun l e => by injection e with e; subst e; exact ⟨b2, b3⟩), ?_⟩
    rw [a4] at b4
    rw [drop_cons s d.1 a2, b4]
    show _ = (1 :: ((ct _ 32 : Nat) : Int) :: tl _ 32) ++ _
    have : s.getD d.1 0 = 1 := by rw [a3] at q; omega
    rw [this]; rfl
theorem encs_app (L : List (Option (List Int))) (m : List (Option (List Int))) : ∀ n, n ≤ L.length → encs (L ++ m) n = encs L n
  | 0, _ => rfl
  | n + 1, h => by
    show encs (L ++ m) n ++ _ = encs L n ++ _
    rw [encs_app L m n (by omega)]
    congr 2
    simp [List.getD, List.getElem?_append_left (show n < L.length by omega)]
theorem pts_ok (hB : Bys s) {i : Nat} : ∀ n, (ptsF s ((i, false), []) n).1.2 = false →
    (ptsF s ((i, false), []) n).2.length = n ∧ (∀ r, r ∈ (ptsF s ((i, false), []) n).2 → okp r) ∧ s.drop i = encs (ptsF s ((i, false), []) n).2 n ++ s.drop (ptsF s ((i, false), []) n).1.1
  | 0, _ => ⟨rfl, (fun r h => by cases h), rfl⟩
  | n + 1, h => by
    have hd : ptsF s ((i, false), []) (n + 1) = if (ptsF s ((i, false), []) n).1.2 then ptsF s ((i, false), []) n else ((ptF s (ptsF s ((i, false), []) n).1).2, (ptsF s ((i, false), []) n).2 ++ [(ptF s (ptsF s ((i, false), []) n).1).1]) := rfl
    cases e : (ptsF s ((i, false), []) n).1.2 with
    | true => rw [hd, e, if_pos rfl] at h; rw [e] at h; cases h
    | false =>
      obtain ⟨i1, i2, i3⟩ := pts_ok hB n e
      rw [hd, e, if_neg (by decide)] at h ⊢
      generalize ptsF s ((i, false), []) n = x at *
      simp only at h ⊢
      obtain ⟨a1, a2, a3⟩ := pt_ok hB h
      refine ⟨by simp [i1], ?_, ?_⟩
      · intro r hr
        rcases List.mem_append.1 hr with hr | hr
        · exact i2 r hr
        · rw [List.mem_singleton] at hr; rw [hr]; exact a2
      · show _ = (encs (x.2 ++ _) n ++ enc1 ((x.2 ++ _).getD n none)) ++ _
        rw [encs_app _ _ n (by omega), i3, a3]
        have e2 : (x.2 ++ [(ptF s x.1).1]).getD n none = (ptF s x.1).1 := by simp [List.getD, ← i1]
        rw [e2, List.append_assoc]
/-- What the program takes is what is written of it. -/
theorem dec_ok (hB : Bys s) {L : List (Option (List Int))} (h : decF s = some L) : s = encB L ∧ 1 ≤ L.length ∧ L.length ≤ 21 ∧ ∀ r, r ∈ L → okp r := by
  unfold decF at h
  simp only at h
  split at h
  · cases h
  · rename_i q
    injection h with h
    have q1 : (ptsF s ((numF s 1 21 (0, false)).2, []) (numF s 1 21 (0, false)).1.toNat).1.2 = false := by
      cases e : (ptsF s ((numF s 1 21 (0, false)).2, []) (numF s 1 21 (0, false)).1.toNat).1.2 with
      | false => rfl
      | true => exact absurd (.inl e) q
    have q2 : (ptsF s ((numF s 1 21 (0, false)).2, []) (numF s 1 21 (0, false)).1.toNat).1.1 = s.length := by
      by_cases e : (ptsF s ((numF s 1 21 (0, false)).2, []) (numF s 1 21 (0, false)).1.toNat).1.1 = s.length
      · exact e
      · exact absurd (.inr e) q
    have hpw : ∀ (x : CSt × List (Option (List Int))) (n : Nat), x.1.2 = true → (ptsF s x n).1.2 = true := by
      intro x n hx
      induction n with
      | zero => exact hx
      | succ n ih => show (if (ptsF s x n).1.2 then ptsF s x n else _).1.2 = true; rw [ih, if_pos rfl]; exact ih
    have hn : (numF s 1 21 (0, false)).2.2 = false := by
      cases e : (numF s 1 21 (0, false)).2.2 with
      | false => rfl
      | true => rw [hpw ((numF s 1 21 (0, false)).2, []) _ e] at q1; cases q1
    obtain ⟨a1, a2, a3, a4, a5, a6⟩ := num_ok (by decide) hn
    have e2 : (numF s 1 21 (0, false)).2 = (1, false) := Prod.ext a4 hn
    rw [e2] at q1 q2 h
    obtain ⟨i1, i2, i3⟩ := pts_ok hB _ q1
    rw [h] at i1 i2 i3
    simp only at a2 a3 a5 a6
    rw [a3] at i1 i3 q2
    refine ⟨?_, by omega, by omega, i2⟩
    have e3 : s = s.getD 0 0 :: s.drop 1 := by have := drop_cons s 0 a2; simpa using this
    rw [e3]
    unfold encB
    rw [i3, q2, List.drop_length, List.append_nil, i1]
    congr 1
    omega

/-! The other way: what is written is read. -/
theorem getD_ok {L : List (Option (List Int))} (h : ∀ r, r ∈ L → okp r) (n : Nat) : okp (L.getD n none) := by
  rcases Nat.lt_or_ge n L.length with q | q
  · have : L.getD n none = L[n] := by simp [List.getD, q]
    rw [this]; exact h _ (List.getElem_mem q)
  · have : L.getD n none = none := by simp [List.getD, List.getElem?_eq_none q]
    rw [this]; intro l e; cases e
/-! The document's reader: loose, held against what is written of it. -/
end Go.Proofs.YtffajooegiempabDoor

namespace Go.Proofs.YtffajooegiempabDoor
open Go.RowKit
variable {w : World}
theorem ownsRow_below {w w' : World} {base e size n : Nat} {v : Value} {xs : List Value} (h : w.ownsRow base e size v n xs) (hb : ∀ k, v.ownBlock = some k → w'.heap[k]? = w.heap[k]?) : w'.ownsRow base e size v n xs := by
  obtain ⟨h1, h2⟩ := h
  refine ⟨h1, ?_⟩
  rcases h2 with h2 | ⟨g, cap, c, hv, hg, hh, r⟩
  · exact .inl h2
  · exact .inr ⟨g, cap, c, hv, hg, by rw [hb g (by rw [hv]; rfl)]; exact hh, r⟩
end Go.Proofs.YtffajooegiempabDoor

namespace Go.Proofs.YtffajooegiempabDoor
open Go.RowKit
variable {w : World}
end Go.Proofs.YtffajooegiempabDoor

namespace Go.Proofs.YtffajooegiempabDoor
open Go.RowKit
variable {w : World}

/-- A list of a list of lists, or none. -/
def RdL (w : World) (v : Value) : Option (List Int) → Prop
  | none => v = .slice none 0 0
  | some l => Reads w v l ∧ ∃ a n c, v = .slice (some a) n c
def gdO : Option (List Int) → Bool
  | none => true
  | some l => gdB l
end Go.Proofs.YtffajooegiempabDoor

namespace Go.Proofs.YtffajooegiempabDoor
open Go.RowKit
variable {w : World}
end Go.Proofs.YtffajooegiempabDoor

namespace Go.Proofs.YtffajooegiempabDoor
open Go.RowKit
variable {w : World} {r : Nat} {s : ByteArray} {d : CSt}

abbrev tCr : TypeId := 132
/-- The reader of a certificate: its bytes, the place, is something wrong. -/
def Cat (w : World) (r : Nat) (s : ByteArray) (d : CSt) : Prop := At w r #[.string s, .int .i64 d.1, .bool d.2] tCr
theorem Cat.cells (h : Cat w r s d) : w.cell? ⟨r, 0, none⟩ = some (.string s) ∧ w.cell? ⟨r, 1, none⟩ = some (.int .i64 d.1) ∧ w.cell? ⟨r, 2, none⟩ = some (.bool d.2) ∧ ∀ i, w.frozen? ⟨r, i, none⟩ = false :=
  ⟨h.cell 0, h.cell 1, h.cell 2, h.free⟩
theorem Cat.drewN (h : Cat w r s d) (k : Nat) : Cat (w.drewN k) r s d := h
theorem Cat.step (h : Cat w r s d) : Cat (w.setCell ⟨r, 1, none⟩ (.int .i64 ((d.1 : Int) + 1))) r s (d.1 + 1, d.2) := by
  have := At.put h 1 (.int .i64 ((d.1 : Int) + 1))
  exact this
theorem Cat.stick (h : Cat w r s d) : Cat (w.setCell ⟨r, 2, none⟩ (.bool true)) r s (d.1, true) := by
  have := At.put h 2 (.bool true)
  exact this
theorem bys (s : ByteArray) : Bys (bytesOf s) := by
  intro i hi
  rw [bytesOf_len] at hi
  rw [List.getD_eq_getElem?_getD, bytesOf_get s i hi]
  have := (s[i]).toNat_lt
  simp only [Option.getD_some]
  omega
/-- What a small step leaves. -/
def COut (w : World) (r : Nat) (s : ByteArray) (d' : CSt) (v : Value) : Ending → World → Prop := fun e w' => e = .returned v ∧ Cat w' r s d' ∧ Onl r w w'

set_option maxRecDepth 100000 in
set_option maxHeartbeats 800000 in
theorem c_peek (h : Cat w r s d) (_hs : s.size ≤ 9223372036854775807) (hd : d.1 ≤ s.size) :
    Calls Tryd.prog 102 #[.pointer (some ⟨r, 0, none⟩)] w fun e w' => e = .returned (.int .i64 (pkc (bytesOf s) d)) ∧ ∃ k, w' = w.drewN k := by
  obtain ⟨c0, c1, c2, cf⟩ := h.cells
  obtain ⟨a, b⟩ := d
  simp only at c0 c1 c2 hd
  have a0 : decide (((a : Nat) : Int) < 0) = false := decide_eq_false (by omega)
  by_cases hl : a < s.size
  · have HP : Hid (pkc (bytesOf s) (a, b) = ((s[a]).toNat : Int)) := by show pkc _ _ = _; unfold pkc; rw [if_pos (by rw [bytesOf_len]; exact hl), List.getD_eq_getElem?_getD, bytesOf_get s a hl]; rfl
    have a1 : decide (((s.size : Nat) : Int) ≤ (a : Int)) = false := decide_eq_false (by omega)
    have i1 : ((a : Nat) : Int) < ((s.size : Nat) : Int) := by omega
    have hw : wrap64 ((s[a]).toNat : Int) = ((s[a]).toNat : Int) := by have := (s[a]).toNat_lt; unfold wrap64; omega
    clear h
    go_enter Tryd.func102, Tryd.ntmps102
    go_wp2
    go_quiet (fail)
    go_wp2
    go_quiet (fail)
    go_wp2
    go_ret
    exact ⟨by rw [HP.out]; show Ending.returned (.int .i64 (wrap64 _)) = _; rw [hw], _, World.drewN_drewN _ _ _⟩
  · have HP : Hid (pkc (bytesOf s) (a, b) = -1) := by show pkc _ _ = _; unfold pkc; rw [if_neg (by rw [bytesOf_len]; exact hl)]
    have a1 : decide (((s.size : Nat) : Int) ≤ (a : Int)) = true := decide_eq_true (by omega)
    clear h
    go_enter Tryd.func102, Tryd.ntmps102
    go_wp2
    go_quiet (fail)
    go_wp2
    go_ret
    exact ⟨by rw [HP.out]; rfl, _, rfl⟩

set_option maxRecDepth 100000 in
set_option maxHeartbeats 800000 in
theorem c_number (h : Cat w r s d) (hs : s.size ≤ 9223372036854775807) (hd : d.1 ≤ s.size) (lo hi : Int) (hlo : 0 ≤ lo) :
    Calls Tryd.prog 92 #[.pointer (some ⟨r, 0, none⟩), .int .i64 lo, .int .i64 hi] w (COut w r s (numF (bytesOf s) lo hi d).2 (.int .i64 (numF (bytesOf s) lo hi d).1)) := by
  have hp := c_peek h hs hd
  obtain ⟨c0, c1, c2, cf⟩ := h.cells
  have HC : Hid (Cat w r s d) := h
  have hr := h.lt
  have HD : Hid (lo ≤ pkc (bytesOf s) d → d.1 < s.size) := by
    intro hh
    unfold pkc at hh
    rw [bytesOf_len] at hh
    by_cases q : d.1 < s.size
    · exact q
    · rw [if_neg q] at hh; omega
  have HN : Hid (numF (bytesOf s) lo hi d = if pkc (bytesOf s) d < lo ∨ hi < pkc (bytesOf s) d then (0, (d.1, true)) else (pkc (bytesOf s) d, (d.1 + 1, d.2))) := rfl
  generalize pkc (bytesOf s) d = x at *
  by_cases hq : x < lo ∨ hi < x
  · have HX : Hid (numF (bytesOf s) lo hi d = (0, (d.1, true))) := HN.out.trans (if_pos hq)
    clear h hlo HN
    rcases Int.lt_or_le x lo with q | q
    · have q' : decide (x < lo) = true := decide_eq_true q
      clear hq
      go_enter Tryd.func92, Tryd.ntmps92
      go_wp2_with (go_at_call 102; refine hp.mono ?_; rintro e w' ⟨rfl, k, rfl⟩)
      go_ret
      rw [HX.out]
      exact ⟨rfl, (HC.out.drewN k).stick, ((Onl.refl _ _).drewN _).setCell _ _⟩
    · have q' : decide (x < lo) = false := decide_eq_false (by omega)
      have q2 : hi < x := by omega
      clear hq
      go_enter Tryd.func92, Tryd.ntmps92
      go_wp2_with (go_at_call 102; refine hp.mono ?_; rintro e w' ⟨rfl, k, rfl⟩)
      go_ret
      rw [HX.out]
      exact ⟨rfl, (HC.out.drewN k).stick, ((Onl.refl _ _).drewN _).setCell _ _⟩
  · have HX : Hid (numF (bytesOf s) lo hi d = (x, (d.1 + 1, d.2))) := HN.out.trans (if_neg hq)
    have q' : ¬ x < lo := by omega
    have q2 : ¬ hi < x := by omega
    have hd1 := HD.out (by omega)
    clear h hlo HN hq HD
    go_enter Tryd.func92, Tryd.ntmps92
    go_wp2_with (go_at_call 102; refine hp.mono ?_; rintro e w' ⟨rfl, k, rfl⟩)
    go_ret
    rw [HX.out]
    exact ⟨rfl, (HC.out.drewN k).step, ((Onl.refl _ _).drewN _).setCell _ _⟩

theorem num_at {lo hi : Int} (h0 : 0 ≤ lo) (hd : d.1 ≤ s.size) : (numF (bytesOf s) lo hi d).2.1 ≤ s.size := by
  have := (num_range (bys s) lo hi h0 d).2.2
  rw [bytesOf_len] at this
  omega

set_option maxRecDepth 100000 in
set_option maxHeartbeats 800000 in
theorem c_bound (h : Cat w r s d) (hs : s.size ≤ 9223372036854775807) (hd : d.1 ≤ s.size) :
    Calls Tryd.prog 112 #[.pointer (some ⟨r, 0, none⟩)] w (COut w r s (bdF (bytesOf s) d).2 (.int .i64 (bdF (bytesOf s) d).1)) := by
  have h1 := c_number h hs hd 0 255 (by omega)
  have HE : Hid (bdF (bytesOf s) d = ((numF (bytesOf s) 0 255 d).1 * 256 + (numF (bytesOf s) 0 255 (numF (bytesOf s) 0 255 d).2).1 - 4000, ((numF (bytesOf s) 0 255 (numF (bytesOf s) 0 255 d).2).2.1, if 8000 < (numF (bytesOf s) 0 255 d).1 * 256 + (numF (bytesOf s) 0 255 (numF (bytesOf s) 0 255 d).2).1 then true else (numF (bytesOf s) 0 255 (numF (bytesOf s) 0 255 d).2).2.2))) := rfl
  have r1 := num_range (bys s) 0 255 (by omega) d
  have r2 := num_range (bys s) 0 255 (by omega) (numF (bytesOf s) 0 255 d).2
  have hd1 := num_at (s := s) (lo := 0) (hi := 255) (by omega) hd
  have H2 : Hid (∀ w1, Cat w1 r s (numF (bytesOf s) 0 255 d).2 → Calls Tryd.prog 92 #[.pointer (some ⟨r, 0, none⟩), .int .i64 0, .int .i64 255] w1 (COut w1 r s (numF (bytesOf s) 0 255 (numF (bytesOf s) 0 255 d).2).2 (.int .i64 (numF (bytesOf s) 0 255 (numF (bytesOf s) 0 255 d).2).1))) := fun w1 hc => c_number hc hs hd1 0 255 (by omega)
  rw [HE.out]
  clear h HE hd1
  generalize numF (bytesOf s) 0 255 d = x at *
  generalize numF (bytesOf s) 0 255 x.2 = y at *
  obtain ⟨x1, x2⟩ := x
  obtain ⟨y1, y2⟩ := y
  simp only at r1 r2 ⊢
  obtain ⟨r1a, r1b, -⟩ := r1
  obtain ⟨r2a, r2b, -⟩ := r2
  by_cases hq : 8000 < x1 * 256 + y1
  · rw [if_pos hq]
    go_enter Tryd.func112, Tryd.ntmps112
    go_wp2_with fail
    refine h1.mono ?_
    rintro e w1 ⟨rfl, hc1, ho1⟩
    have h2 := H2.out w1 hc1
    have HO1 : Hid (Onl r w w1) := ho1
    clear hc1 ho1 h1 H2
    go_wp2_with fail
    refine h2.mono ?_
    rintro e w2 ⟨rfl, hc2, ho2⟩
    obtain ⟨c0, c1, c2, cf⟩ := hc2.cells
    have hr2 := hc2.lt
    have HC2 : Hid (Cat w2 r s y2) := hc2
    have HO2 : Hid (Onl r w w2) := HO1.out.trans ho2
    clear hc2 ho2 h2
    go_wp2_with fail
    go_ret
    exact ⟨rfl, HC2.out.stick, HO2.out.setCell _ _⟩
  · rw [if_neg hq]
    go_enter Tryd.func112, Tryd.ntmps112
    go_wp2_with fail
    refine h1.mono ?_
    rintro e w1 ⟨rfl, hc1, ho1⟩
    have h2 := H2.out w1 hc1
    have HO1 : Hid (Onl r w w1) := ho1
    clear hc1 ho1 h1 H2
    go_wp2_with fail
    refine h2.mono ?_
    rintro e w2 ⟨rfl, hc2, ho2⟩
    obtain ⟨c0, c1, c2, cf⟩ := hc2.cells
    have hr2 := hc2.lt
    have HC2 : Hid (Cat w2 r s y2) := hc2
    have HO2 : Hid (Onl r w w2) := HO1.out.trans ho2
    clear hc2 ho2 h2
    go_wp2_with fail
    go_ret
    exact ⟨rfl, HC2.out, HO2.out⟩

end Go.Proofs.YtffajooegiempabDoor

namespace Go.Proofs.YtffajooegiempabDoor
open Go.RowKit
variable {w : World} {r : Nat} {s : ByteArray} {d : CSt}

theorem bd_at (hd : d.1 ≤ s.size) : (bdF (bytesOf s) d).2.1 ≤ s.size := num_at (by omega) (num_at (by omega) hd)
theorem bd_range (s : ByteArray) (d : CSt) : -4000 ≤ (bdF (bytesOf s) d).1 ∧ (bdF (bytesOf s) d).1 ≤ 70000 := by
  have r1 := num_range (bys s) 0 255 (by omega) d
  have r2 := num_range (bys s) 0 255 (by omega) (numF (bytesOf s) 0 255 d).2
  show -4000 ≤ (numF (bytesOf s) 0 255 d).1 * 256 + (numF (bytesOf s) 0 255 (numF (bytesOf s) 0 255 d).2).1 - 4000 ∧ _
  constructor
  · omega
  · show (numF (bytesOf s) 0 255 d).1 * 256 + (numF (bytesOf s) 0 255 (numF (bytesOf s) 0 255 d).2).1 - 4000 ≤ 70000
    omega
/-- Numbers in a fresh list with room for 32. -/
def iv (xs : List Int) : List Value := xs.map (Value.int .i64)
/-- A list of the call's own comes out. -/
def LRow (w : World) (base : Nat) (v : Value) (xs : List Int) : Prop := ∃ g, base ≤ g ∧ v = .slice (some ⟨g, 0, none⟩) xs.length 32 ∧ w.ownsRow base 3 1 (.slice (some ⟨g, 0, none⟩) xs.length 32) xs.length (iv xs)
theorem fms_le {t : Nat} {i : CSt} : ∀ n, (fmsF (bytesOf s) (t, i, []) n).1 ≤ t
  | 0 => Nat.le_refl _
  | n + 1 => by
    have := fms_le (t := t) (i := i) n
    show (fmF _ _ (fmsF (bytesOf s) (t, i, []) n)).1 ≤ t
    unfold fmF; split
    · show _ - 1 ≤ t; omega
    · exact this
theorem fms_at {t : Nat} {i : CSt} (hi : i.1 ≤ s.size) : ∀ n, (fmsF (bytesOf s) (t, i, []) n).2.1.1 ≤ s.size
  | 0 => hi
  | n + 1 => by
    have := fms_at (t := t) hi n
    show (fmF _ _ (fmsF (bytesOf s) (t, i, []) n)).2.1.1 ≤ _
    generalize fmsF (bytesOf s) (t, i, []) n = x at *
    unfold fmF
    split
    · rename_i q
      refine bd_at ?_
      have q2 := q.2
      unfold pkc at q2
      rw [bytesOf_len] at q2
      show x.2.1.1 + 1 ≤ s.size
      by_cases e : x.2.1.1 < s.size
      · omega
      · rw [if_neg e] at q2; omega
    · exact this

theorem ownsRow_base' {w : World} {base base' e size n : Nat} {v : Value} {xs : List Value} (h : w.ownsRow base e size v n xs) (hb : base' ≤ base) : w.ownsRow base' e size v n xs := by
  obtain ⟨h1, h2⟩ := h
  refine ⟨h1, ?_⟩
  rcases h2 with h2 | ⟨g, cap, c, hv, hg, rest⟩
  · exact .inl h2
  · exact .inr ⟨g, cap, c, hv, by omega, rest⟩

set_option maxRecDepth 100000 in
set_option maxHeartbeats 3200000 in
theorem c_bounds (h : Cat w r s d) (hs : s.size ≤ 9223372036854775807) (hd : d.1 ≤ s.size) :
    Calls Tryd.prog 103 #[.pointer (some ⟨r, 0, none⟩)] w fun e w' => ∃ v, e = .returned v ∧ LRow w' w.heap.size v (bsF (bytesOf s) d).1 ∧ Cat w' r s (bsF (bytesOf s) d).2 ∧ Onl r w w' := by
  have h1 := c_number h hs hd 0 32 (by omega)
  have r1 := num_range (bys s) 0 32 (by omega) d
  have hd1 := num_at (s := s) (lo := 0) (hi := 32) (by omega) hd
  have hr0 := h.lt
  obtain ⟨F, hF⟩ : ∃ F, F = fmsF (bytesOf s) ((numF (bytesOf s) 0 32 d).1.toNat, (numF (bytesOf s) 0 32 d).2, []) := ⟨_, rfl⟩
  have HE : Hid (bsF (bytesOf s) d = ((F 32).2.2, ((F 32).2.1.1, if 0 < (F 32).1 then true else (F 32).2.1.2))) := by rw [hF]; rfl
  have HF : Hid (∀ n, F (n + 1) = fmF (bytesOf s) n (F n)) := by rw [hF]; intro n; rfl
  have HFl : Hid (∀ n, (F n).2.2.length = n) := by rw [hF]; exact fms_len rfl
  have HFa : Hid (∀ n, (F n).2.1.1 ≤ s.size) := by rw [hF]; exact fms_at hd1
  have HFt : Hid (∀ n, (F n).1 ≤ (numF (bytesOf s) 0 32 d).1.toNat) := by rw [hF]; exact fms_le
  have HF0 : Hid (F 0 = ((numF (bytesOf s) 0 32 d).1.toNat, (numF (bytesOf s) 0 32 d).2, [])) := by rw [hF]; rfl
  have hmk : ∀ w, (Instr.makeSlice 22 (.int .i64 0) (.int .i64 32)).run Tryd.prog w = .ok (.slice (some ⟨w.heap.size, 0, none⟩) 0 32) (w.alloc (.cells (ic (List.replicate 32 0)) 3)) := fun _ => by kernel_rfl
  obtain ⟨i0, hi0, hz0, hz1, hz2⟩ := info_parts (P := Tryd.prog) (e := 3) (z := .int .i64 0) (size := 1) (bytes := 8) (by kernel_rfl)
  have HOw : Hid (∀ (w1 : World), (w1.alloc (.cells (ic (List.replicate 32 0)) 3)).ownsRow w1.heap.size 3 1 (.slice (some ⟨w1.heap.size, 0, none⟩) 0 32) 0 []) := fun w1 => World.ownsRow_made w1 (ic (List.replicate 32 0)) 32 (Nat.le_refl _) (by decide) rfl
  obtain ⟨I, hI⟩ : ∃ I, I = (if 0 < (F 32).1 then true else (F 32).2.1.2) := ⟨_, rfl⟩
  rw [HE.out, ← hI]
  have HI0 : Hid (I = (if 0 < (F 32).1 then true else (F 32).2.1.2)) := hI
  clear hI
  generalize numF (bytesOf s) 0 32 d = x at *
  obtain ⟨x1, x2⟩ := x
  simp only at r1 hd1 h1
  have hx0 : 0 ≤ x1 := r1.1
  have hx1 : x1 ≤ 255 := r1.2.1
  obtain ⟨k, rfl⟩ : ∃ k : Nat, x1 = (k : Int) := ⟨x1.toNat, by omega⟩
  rw [Int.toNat_natCast] at HFt HF0
  have HP : Hid (∀ (w1 : World) (d : CSt), Cat w1 r s d → d.1 ≤ s.size → Calls Tryd.prog 102 #[.pointer (some ⟨r, 0, none⟩)] w1 fun e w' => e = .returned (.int .i64 (pkc (bytesOf s) d)) ∧ ∃ k, w' = w1.drewN k) := fun w1 d hc hd => c_peek hc hs hd
  have HBd : Hid (∀ (w1 : World) (d : CSt), Cat w1 r s d → d.1 ≤ s.size → Calls Tryd.prog 112 #[.pointer (some ⟨r, 0, none⟩)] w1 (COut w1 r s (bdF (bytesOf s) d).2 (.int .i64 (bdF (bytesOf s) d).1))) := fun w1 d hc hd => c_bound hc hs hd
  have HPk : Hid (∀ d : CSt, 0 ≤ pkc (bytesOf s) d → d.1 < s.size) := by
    intro d hh
    unfold pkc at hh
    rw [bytesOf_len] at hh
    by_cases q : d.1 < s.size
    · exact q
    · rw [if_neg q] at hh; omega
  clear h hF r1 HE hd
  generalize ic (List.replicate 32 0) = zs at *
  go_enter Tryd.func103, Tryd.ntmps103
  go_wp2_with fail
  refine h1.mono ?_
  rintro e w1 ⟨rfl, hc1, ho1⟩
  have hs1 := ho1.size
  have H1 : Hid (Cat (w1.alloc (.cells zs 3)) r s x2 ∧ Onl r w (w1.alloc (.cells zs 3)) ∧ (w1.alloc (.cells zs 3)).ownsRow w1.heap.size 3 1 (.slice (some ⟨w1.heap.size, 0, none⟩) 0 32) 0 []) := ⟨At.allocH hc1 _, ho1.alloc _, HOw.out w1⟩
  have hr1 := hc1.lt
  clear hc1 ho1 h1
  go_wp2_with fail
  go_loopw [3, 4, 5] (fun t sl i wr => ∃ (q : Nat) (m : Nat), q ≤ 32 ∧ i = .int .i64 q ∧ t = .int .i64 (m : Int) ∧ m ≤ 255 ∧ sl = .slice (some ⟨w1.heap.size, 0, none⟩) q 32 ∧ Hid (m = (F q).1 ∧ wr.ownsRow w1.heap.size 3 1 (.slice (some ⟨w1.heap.size, 0, none⟩) q 32) q (iv (F q).2.2) ∧ Cat wr r s (F q).2.1 ∧ Onl r w wr ∧ w1.heap.size < wr.heap.size)) (fun _ _ i _ => 32 - (intOf i).toNat)
  case atStart => exact ⟨0, k, by omega, rfl, rfl, by omega, rfl, by rw [HF0.out], by rw [HF0.out]; exact H1.out.2.2, by rw [HF0.out]; exact H1.out.1, H1.out.2.1, by simp⟩
  case round =>
    obtain ⟨q, m, hq, rfl, rfl, hm, rfl, HR⟩ := hrel
    by_cases hlt : q < 32
    · have hqi : (q : Int) < 32 := by omega
      have HFq := (show Hid (_ = _) from HF.out q)
      have hat := HFa.out q
      have HApp : Hid (∀ (w5 w6 : World) (y : Int) (dd : CSt) (mm : Nat), F (q + 1) = (mm, dd, (F q).2.2 ++ [y]) → w5.ownsRow w1.heap.size 3 1 (.slice (some ⟨w1.heap.size, 0, none⟩) (q + 1) 32) (q + 1) (iv (F q).2.2 ++ [.int .i64 y]) → w6.grownBy w5 (some w1.heap.size) → Cat w6 r s dd → Onl r w w6 → w1.heap.size < w6.heap.size →
          mm = (F (q + 1)).1 ∧ w5.ownsRow w1.heap.size 3 1 (.slice (some ⟨w1.heap.size, 0, none⟩) (q + 1) 32) (q + 1) (iv (F (q + 1)).2.2) ∧ Cat w5 r s (F (q + 1)).2.1 ∧ Onl r w w5 ∧ w1.heap.size < w5.heap.size) := by
        intro w5 w6 y dd mm e ho hg hc hn hz
        rw [e]
        refine ⟨rfl, by simpa [iv] using ho, At.same hc (hg.block r hc.lt (by intro e; have := Option.some.inj e; omega)), ?_, Nat.lt_of_lt_of_le hz hg.size⟩
        refine ⟨hg.os.trans hn.os, hg.tape.trans hn.tape, hg.output.trans hn.output, Nat.le_trans hn.size hg.size, fun k hk hne => (hg.block k (Nat.lt_of_lt_of_le hk hn.size) (by intro e; have := Option.some.inj e; omega)).trans (hn.block k hk hne)⟩
      have hkeep : ∀ {w5 w6 : World}, wr.ownsRow w1.heap.size 3 1 (.slice (some ⟨w1.heap.size, 0, none⟩) q 32) q (iv (F q).2.2) → Onl r wr w5 → w5.ownsRow w1.heap.size 3 1 (.slice (some ⟨w1.heap.size, 0, none⟩) q 32) q (iv (F q).2.2) := fun {w5 w6} h ho => ownsRow_below h (fun k hk => ho.block k (h.lt k hk).2 (by cases hk; show w1.heap.size ≠ r; omega))
      have HKeep : Hid (∀ {w5 : World}, Onl r wr w5 → w5.ownsRow w1.heap.size 3 1 (.slice (some ⟨w1.heap.size, 0, none⟩) q 32) q (iv (F q).2.2)) := fun {w5} ho => hkeep (w6 := w5) HR.out.2.1 ho
      clear hkeep
      have HL : Hid ((F q).2.2.length = q) := HFl.out q
      have hpk := HP.out wr (F q).2.1 HR.out.2.2.1 hat
      have HBq := (show Hid (_ → _) from fun (h : (F q).2.1.1 < s.size) (w2 : World) (hc : Cat w2 r s ((F q).2.1.1 + 1, (F q).2.1.2)) => HBd.out w2 ((F q).2.1.1 + 1, (F q).2.1.2) hc h)
      have HPq := (show Hid (_ → _) from HPk.out (F q).2.1)
      have hbr := bd_range s ((F q).2.1.1 + 1, (F q).2.1.2)
      have HM : Hid (m = (F q).1) := HR.out.1
      have HFm : Hid (0 < m ∧ pkc (bytesOf s) (F q).2.1 = q → F (q + 1) = (m - 1, (bdF (bytesOf s) ((F q).2.1.1 + 1, (F q).2.1.2)).2, (F q).2.2 ++ [(bdF (bytesOf s) ((F q).2.1.1 + 1, (F q).2.1.2)).1])) := by
        intro hh; rw [HFq.out]; unfold fmF; rw [← HM.out, if_pos hh]
      have HFn : Hid (¬ (0 < m ∧ pkc (bytesOf s) (F q).2.1 = q) → F (q + 1) = (m, (F q).2.1, (F q).2.2 ++ [1000000])) := by
        intro hh; rw [HFq.out]; unfold fmF; rw [← HM.out, if_neg hh]
      have HCq : Hid (Cat wr r s (F q).2.1) := HR.out.2.2.1
      obtain ⟨c0, c1, c2, cf⟩ := HCq.out.cells
      have hrr := HCq.out.lt
      generalize bdF (bytesOf s) ((F q).2.1.1 + 1, (F q).2.1.2) = bd at *
      generalize pkc (bytesOf s) (F q).2.1 = x at *
      generalize (F q).2.1 = dq at *
      obtain ⟨b1, b2⟩ := bd
      obtain ⟨da, db⟩ := dq
      simp only at c1 c2 hat hbr
      by_cases hm0 : 0 < m
      · have hmi : (0 : Int) < (m : Int) := by omega
        by_cases hx : x = q
        · subst hx
          have hda : da < s.size := HPq.out (by omega)
          have HX := (show Hid (_ = _) from HFm.out ⟨hm0, rfl⟩)
          have hdi : (da : Int) + 1 ≤ 9223372036854775807 := by omega
          have HC2 : Hid (∀ k2, Cat ((wr.drewN k2).setCell ⟨r, 1, none⟩ (.int .i64 ((da : Int) + 1))) r s (da + 1, db)) := fun k2 => (HCq.out.drewN k2).step
          have HO2 : Hid (∀ k2, Onl r wr ((wr.drewN k2).setCell ⟨r, 1, none⟩ (.int .i64 ((da : Int) + 1)))) := fun k2 => ((Onl.refl _ _).drewN k2).setCell _ _
          go_wp2_with (go_at_call 102; refine hpk.mono ?_; rintro e w2 ⟨rfl, k2, rfl⟩)
          refine (HBq.out hda _ (HC2.out k2)).mono ?_
          rintro e w3 ⟨rfl, hc3, ho3⟩
          have H3 : Hid (Cat w3 r s b2 ∧ Onl r wr w3) := ⟨hc3, (HO2.out k2).trans ho3⟩
          clear hc3 ho3
          have H4 : Hid (w3.ownsRow w1.heap.size 3 1 (.slice (some ⟨w1.heap.size, 0, none⟩) q 32) q (iv (F q).2.2)) := HKeep.out H3.out.2
          have hz3 : w1.heap.size < w3.heap.size := Nat.lt_of_lt_of_le HR.out.2.2.2.2 H3.out.2.size
          go_wp2_with (at_builtin; refine wpList_append_fits _ rfl (.tmp 33) (.tmp 35) 22 rfl w1.heap.size 3 i0 1 Tryd.underlying22 hi0 hz1 w1.heap.size q 32 _ rfl (H4.out.alloc _) ⟨w3.heap.size, 0, none⟩ 1 1 [.int .i64 (b1)] rfl rfl (by intro t u ht; match t, ht with | 0, ht => simp at ht; subst ht; exact World.cell?_alloc_at _ _ _ _ rfl) (by intro u hu; simp at hu; subst hu; rfl) (by omega) ?_; intro w5 hown5 hgrow5)
          go_roundw
          case rel =>
            exact ⟨q + 1, (m - 1), by omega, by go_num, by first | rfl | go_num, by omega, rfl, HApp.out w5 (w3.alloc (.cells #[.int .i64 (b1)] 3)) (b1) b2 ((m - 1)) HX.out hown5 hgrow5 (At.allocH H3.out.1 _) ((HR.out.2.2.2.1.trans H3.out.2).alloc _) (by simp; omega)⟩
          case measure => simp [intOf]; omega
        · have hx' : (x == (q : Int)) = false := by simpa using hx
          have HX := (show Hid (_ = _) from HFn.out (by omega))
          have H3' : Hid (∀ k, Cat (wr.drewN k) r s (da, db) ∧ Onl r wr (wr.drewN k)) := fun k => ⟨HCq.out.drewN k, (Onl.refl _ _).drewN k⟩
          go_wp2_with fail
          refine hpk.mono ?_
          rintro e w3 ⟨rfl, k2, hw3⟩
          have H3 : Hid (Cat w3 r s (da, db) ∧ Onl r wr w3) := by show _ ∧ _; rw [hw3]; exact H3'.out k2
          clear hw3
          have H4 : Hid (w3.ownsRow w1.heap.size 3 1 (.slice (some ⟨w1.heap.size, 0, none⟩) q 32) q (iv (F q).2.2)) := HKeep.out H3.out.2
          have hz3 : w1.heap.size < w3.heap.size := Nat.lt_of_lt_of_le HR.out.2.2.2.2 H3.out.2.size
          go_wp2_with (at_builtin; refine wpList_append_fits _ rfl (.tmp 33) (.tmp 35) 22 rfl w1.heap.size 3 i0 1 Tryd.underlying22 hi0 hz1 w1.heap.size q 32 _ rfl (H4.out.alloc _) ⟨w3.heap.size, 0, none⟩ 1 1 [.int .i64 (1000000)] rfl rfl (by intro t u ht; match t, ht with | 0, ht => simp at ht; subst ht; exact World.cell?_alloc_at _ _ _ _ rfl) (by intro u hu; simp at hu; subst hu; rfl) (by omega) ?_; intro w5 hown5 hgrow5)
          go_roundw
          case rel =>
            exact ⟨q + 1, m, by omega, by go_num, by first | rfl | go_num, by omega, rfl, HApp.out w5 (w3.alloc (.cells #[.int .i64 (1000000)] 3)) (1000000) (da, db) (m) HX.out hown5 hgrow5 (At.allocH H3.out.1 _) ((HR.out.2.2.2.1.trans H3.out.2).alloc _) (by simp; omega)⟩
          case measure => simp [intOf]; omega
      · have hm1 : m = 0 := by omega
        subst hm1
        have HX := (show Hid (_ = _) from HFn.out (by omega))
        obtain ⟨w3, hw3⟩ : ∃ w3, w3 = wr := ⟨_, rfl⟩
        have H3 : Hid (Cat w3 r s (da, db) ∧ Onl r wr w3) := by show _ ∧ _; rw [hw3]; exact ⟨HCq.out, Onl.refl _ _⟩
        rw [← hw3]
        clear hw3
        have H4 : Hid (w3.ownsRow w1.heap.size 3 1 (.slice (some ⟨w1.heap.size, 0, none⟩) q 32) q (iv (F q).2.2)) := HKeep.out H3.out.2
        have hz3 : w1.heap.size < w3.heap.size := Nat.lt_of_lt_of_le HR.out.2.2.2.2 H3.out.2.size
        go_wp2_with (at_builtin; refine wpList_append_fits _ rfl (.tmp 33) (.tmp 35) 22 rfl w1.heap.size 3 i0 1 Tryd.underlying22 hi0 hz1 w1.heap.size q 32 _ rfl (H4.out.alloc _) ⟨w3.heap.size, 0, none⟩ 1 1 [.int .i64 (1000000)] rfl rfl (by intro t u ht; match t, ht with | 0, ht => simp at ht; subst ht; exact World.cell?_alloc_at _ _ _ _ rfl) (by intro u hu; simp at hu; subst hu; rfl) (by omega) ?_; intro w5 hown5 hgrow5)
        go_roundw
        case rel =>
          exact ⟨q + 1, 0, by omega, by go_num, by first | rfl | go_num, by omega, rfl, HApp.out w5 (w3.alloc (.cells #[.int .i64 (1000000)] 3)) (1000000) (da, db) (0) HX.out hown5 hgrow5 (At.allocH H3.out.1 _) ((HR.out.2.2.2.1.trans H3.out.2).alloc _) (by simp; omega)⟩
        case measure => simp [intOf]; omega
    · have hq32 : q = 32 := by omega
      subst hq32
      have HL : Hid ((F 32).2.2.length = 32) := HFl.out 32
      have HOut : Hid (∀ {w5 : World}, Onl r wr w5 → w5.ownsRow w1.heap.size 3 1 (.slice (some ⟨w1.heap.size, 0, none⟩) 32 32) 32 (iv (F 32).2.2)) := fun {w5} ho => ownsRow_below HR.out.2.1 (fun k hk => ho.block k (HR.out.2.1.lt k hk).2 (by cases hk; show w1.heap.size ≠ r; omega))
      have HRow : Hid (∀ {w5 : World}, Onl r wr w5 → LRow w5 w.heap.size (.slice (some ⟨w1.heap.size, 0, none⟩) 32 32) (F 32).2.2) := fun {w5} ho => ⟨w1.heap.size, hs1, by rw [HL.out], by rw [HL.out]; exact ownsRow_base' (HOut.out ho) hs1⟩
      have HCq : Hid (Cat wr r s (F 32).2.1) := HR.out.2.2.1
      have HOq : Hid (Onl r w wr) := HR.out.2.2.2.1
      obtain ⟨c0, c1, c2, cf⟩ := HCq.out.cells
      have hrr := HCq.out.lt
      have HM : Hid (m = (F 32).1) := HR.out.1
      by_cases hm0 : 0 < m
      · have hmi : (0 : Int) < (m : Int) := by omega
        have HI : Hid (I = true) := HI0.out.trans (if_pos (by rw [← HM.out]; exact hm0))
        go_wp2_with fail
        go_ret
        refine ⟨_, rfl, HRow.out ((Onl.refl _ _).setCell _ _), ?_, HOq.out.setCell _ _⟩
        rw [HI.out]
        exact HCq.out.stick
      · have hmi : ¬ (0 : Int) < (m : Int) := by omega
        have HI : Hid (I = (F 32).2.1.2) := HI0.out.trans (if_neg (by rw [← HM.out]; exact hm0))
        go_wp2_with fail
        go_ret
        refine ⟨_, rfl, HRow.out (Onl.refl _ _), ?_, HOq.out⟩
        rw [HI.out]
        exact HCq.out

end Go.Proofs.YtffajooegiempabDoor

