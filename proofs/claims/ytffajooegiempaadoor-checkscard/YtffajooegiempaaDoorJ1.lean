import Derived.Test.YtffajooegiempaaDoorJ0
import Derived.Laws.AppendOwn
import Derived.Laws.BytesArg
import Derived.Laws.Concat
namespace Go.Proofs.YtffajooegiempaaDoor
open Go.RowKit
variable {w : World}

/-- May it be a bound? -/
def isB (n : Int) : Bool := decide (n = NB ∨ (-4000 ≤ n ∧ n ≤ 4000))
/-- May the list be handed in? -/
def okL (l : List Int) : Prop := l.length = 32 ∧ ∀ i, i < 32 → isB (l.getD i 0) = true

set_option maxRecDepth 100000 in
set_option maxHeartbeats 1600000 in
theorem o_isBound (n : Int) : Calls Tryd.prog 75 #[.int .i64 n] w fun e w' => e = .returned (.bool (isB n)) ∧ w' = w := by
  by_cases h1 : n = 1000000
  · subst h1
    go_enter Tryd.func75, Tryd.ntmps75
    go_wp2_with fail
    go_ret
    exact ⟨rfl, rfl⟩
  have q1 : (n == 1000000) = false := by simpa using h1
  by_cases h2 : -4000 ≤ n
  · by_cases h3 : n ≤ 4000
    · have HE : Hid (isB n = true) := by show isB n = true; unfold isB; exact decide_eq_true (.inr ⟨h2, h3⟩)
      clear h1
      go_enter Tryd.func75, Tryd.ntmps75
      go_wp2_with fail
      go_ret
      exact ⟨by rw [HE.out]; rfl, rfl⟩
    · have HE : Hid (isB n = false) := by show isB n = false; unfold isB; exact decide_eq_false (fun e => e.elim h1 (fun e => h3 e.2))
      clear h1
      go_enter Tryd.func75, Tryd.ntmps75
      go_wp2_with fail
      go_ret
      exact ⟨by rw [HE.out]; rfl, rfl⟩
  · have HE : Hid (isB n = false) := by show isB n = false; unfold isB; exact decide_eq_false (fun e => e.elim h1 (fun e => h2 e.1))
    clear h1
    go_enter Tryd.func75, Tryd.ntmps75
    go_wp2_with fail
    go_ret
    exact ⟨by rw [HE.out]; rfl, rfl⟩

/-- May it be handed in? -/
def gdF (l : List Int) : Nat → Bool
  | 0 => true
  | f + 1 => gdF l f && isB (l.getD f 0)
def gdB (l : List Int) : Bool := decide (l.length = 32) && gdF l 32
theorem gdF_all {l : List Int} : ∀ {n : Nat}, gdF l n = true ↔ ∀ f, f < n → isB (l.getD f 0) = true := by
  intro n
  induction n with
  | zero => exact ⟨fun _ f hf => absurd hf (by omega), fun _ => rfl⟩
  | succ n ih =>
    show (gdF l n && isB (l.getD n 0)) = true ↔ _
    rw [Bool.and_eq_true, ih]
    constructor
    · rintro ⟨h1, h2⟩ f hf
      rcases Nat.lt_or_eq_of_le (Nat.lt_succ_iff.1 hf) with q | q
      · exact h1 f q
      · rw [q]; exact h2
    · intro h
      exact ⟨fun f hf => h f (by omega), h n (by omega)⟩
theorem gdB_ok {l : List Int} : gdB l = true ↔ okL l := by
  unfold gdB okL
  rw [Bool.and_eq_true, decide_eq_true_eq, gdF_all]
theorem gdF_no {l : List Int} {f : Nat} (hf : f < 32) (h : isB (l.getD f 0) = false) : gdF l 32 = false := by
  cases e : gdF l 32 with
  | false => rfl
  | true => rw [gdF_all.1 e f hf] at h; cases h

set_option maxRecDepth 100000 in
set_option maxHeartbeats 1600000 in
theorem r_good (u : Value) (l : List Int) (_hm : l.length ≤ 1073741824) (hu : Reads w u l) :
    Calls Tryd.prog 25 #[u] w fun e w' => e = .returned (.bool (gdB l)) ∧ w' = w := by
  obtain ⟨au, cu, rfl, hcu, h0⟩ := hu
  by_cases h32 : l.length = 32
  · have HE : Hid (gdB l = gdF l 32) := by show gdB l = _; unfold gdB; rw [decide_eq_true h32]; rfl
    obtain ⟨p, off, rfl, hp, hcell⟩ := h0 (by omega)
    have HC : Hid (∀ i, i < 32 → w.cell? ⟨p, off + i, none⟩ = some (.int .i64 (l.getD i 0))) := fun i hi => hcell i (by omega)
    rw [h32]
    clear h0 hcell hcu h32 _hm
    go_enter Tryd.func25, Tryd.ntmps25
    go_wp2_with fail
    go_loopw [3] (fun i wr => ∃ (f : Nat), f ≤ 32 ∧ i = .int .i64 f ∧ wr = w ∧ Hid (gdF l f = true)) (fun i _ => 32 - (intOf i).toNat)
    case atStart => exact ⟨0, by omega, rfl, rfl, rfl⟩
    case round =>
      obtain ⟨f, hf, rfl, rfl, HR⟩ := hrel
      by_cases hlt : f < 32
      · have hfi : (f : Int) < 32 := by omega
        have HEq : Hid (gdF l (f + 1) = (gdF l f && isB (l.getD f 0))) := rfl
        have cx := HC.out f hlt
        have HNo : Hid (¬ (l.getD f 0 = 1000000 ∨ (-4000 ≤ l.getD f 0 ∧ l.getD f 0 ≤ 4000)) → gdF l 32 = false) := fun h => gdF_no hlt (decide_eq_false h)
        generalize l.getD f 0 = x at *
        by_cases e1 : x = 1000000
        · have HY : Hid (isB x = true) := decide_eq_true (.inl e1)
          have e1' : (x != 1000000) = false := by rw [e1]; rfl
          go_wp2_with fail
          go_roundw
          case rel => exact ⟨f + 1, by omega, by go_num, by simp, by show gdF l (f + 1) = true; rw [HEq.out, HR.out, HY.out]; rfl⟩
          case measure => simp [intOf]; omega
        · have e1' : (x != 1000000) = true := by rw [bne_iff_ne]; exact e1
          by_cases e2 : x < -4000
          · have HF : Hid (gdF l 32 = false) := HNo.out (by omega)
            go_wp2_with fail
            go_ret
            exact ⟨by rw [HE.out, HF.out]; rfl, rfl⟩
          · by_cases e3 : 4000 < x
            · have HF : Hid (gdF l 32 = false) := HNo.out (by omega)
              go_wp2_with fail
              go_ret
              exact ⟨by rw [HE.out, HF.out]; rfl, rfl⟩
            · have HY : Hid (isB x = true) := decide_eq_true (by exact .inr ⟨by omega, by omega⟩)
              go_wp2_with fail
              go_roundw
              case rel => exact ⟨f + 1, by omega, by go_num, by simp, by show gdF l (f + 1) = true; rw [HEq.out, HR.out, HY.out]; rfl⟩
              case measure => simp [intOf]; omega
      · have hf32 : f = 32 := by omega
        subst hf32
        go_wp2_with fail
        go_ret
        exact ⟨by rw [HE.out, HR.out]; rfl, rfl⟩
  · have HE : Hid (gdB l = false) := by show gdB l = _; unfold gdB; rw [decide_eq_false h32]; rfl
    have hb : ((l.length : Int) != 32) = true := by rw [bne_iff_ne]; omega
    clear h0 h32
    go_enter Tryd.func25, Tryd.ntmps25
    go_wp2_with fail
    go_ret
    exact ⟨by rw [HE.out]; rfl, rfl⟩


set_option maxRecDepth 100000 in
set_option maxHeartbeats 1600000 in
/-- The program's test of a list. -/
theorem o_isList (u : Value) (l : List Int) (hu : Reads w u l) :
    Calls Tryd.prog 47 #[u] w fun e w' => e = .returned (.bool (gdB l)) ∧ w' = w := by
  obtain ⟨au, cu, rfl, hcu, h0⟩ := hu
  have kb := fun (n : Int) => o_isBound (w := w) n
  by_cases h32 : l.length = 32
  · have HE : Hid (gdB l = gdF l 32) := by show gdB l = _; unfold gdB; rw [decide_eq_true h32]; rfl
    obtain ⟨p, off, rfl, hp, hcell⟩ := h0 (by omega)
    have HC : Hid (∀ i, i < 32 → w.cell? ⟨p, off + i, none⟩ = some (.int .i64 (l.getD i 0))) := fun i hi => hcell i (by omega)
    rw [h32]
    clear h0 hcell hcu h32
    go_enter Tryd.func47, Tryd.ntmps47
    go_wp2_with fail
    go_loopw [10] (fun i wr => ∃ (f : Nat), f ≤ 32 ∧ i = .int .i64 f ∧ wr = w ∧ Hid (gdF l f = true)) (fun i _ => 32 - (intOf i).toNat)
    case atStart => exact ⟨0, by omega, rfl, rfl, rfl⟩
    case round =>
      obtain ⟨f, hf, rfl, rfl, HR⟩ := hrel
      by_cases hlt : f < 32
      · have hfi : (f : Int) < 32 := by omega
        have HEq : Hid (gdF l (f + 1) = (gdF l f && isB (l.getD f 0))) := rfl
        have cx := HC.out f hlt
        have HNo : Hid (isB (l.getD f 0) = false → gdF l 32 = false) := fun h => gdF_no hlt h
        generalize l.getD f 0 = x at *
        cases hb : isB x with
        | true =>
          have kx := kb x
          rw [hb] at kx
          have HY : Hid (isB x = true) := hb
          clear hb kb
          go_wp2_with fail
          refine kx.mono ?_
          rintro e w2 ⟨rfl, rfl⟩
          go_wp2_with fail
          go_roundw
          case rel => exact ⟨f + 1, by omega, by go_num, by simp, by show gdF l (f + 1) = true; rw [HEq.out, HR.out, HY.out]; rfl⟩
          case measure => simp [intOf]; omega
        | false =>
          have kx := kb x
          rw [hb] at kx
          have HF : Hid (gdF l 32 = false) := HNo.out hb
          clear hb kb
          go_wp2_with fail
          refine kx.mono ?_
          rintro e w2 ⟨rfl, rfl⟩
          go_wp2_with fail
          go_ret
          exact ⟨by rw [HE.out, HF.out]; rfl, rfl⟩
      · have hf32 : f = 32 := by omega
        subst hf32
        go_wp2_with fail
        go_ret
        exact ⟨by rw [HE.out, HR.out]; rfl, rfl⟩
  · have HE : Hid (gdB l = false) := by show gdB l = _; unfold gdB; rw [decide_eq_false h32]; rfl
    have hb : ((l.length : Int) != 32) = true := by rw [bne_iff_ne]; omega
    clear h0 h32
    go_enter Tryd.func47, Tryd.ntmps47
    go_wp2_with fail
    go_ret
    exact ⟨by rw [HE.out]; rfl, rfl⟩

end Go.Proofs.YtffajooegiempaaDoor

namespace Go.Proofs.YtffajooegiempaaDoor
open Go.RowKit

/-- Of the blocks that were there nothing but m has turned; new ones may have come. -/
structure Onl (m : Nat) (w w' : World) : Prop where
  os : w'.os = w.os
  tape : w'.tape = w.tape
  output : w'.output = w.output
  size : w.heap.size ≤ w'.heap.size
  block : ∀ k, k < w.heap.size → k ≠ m → w'.heap[k]? = w.heap[k]?

variable {m : Nat} {a b c w w' : World}
theorem Onl.refl (m : Nat) (w : World) : Onl m w w := ⟨rfl, rfl, rfl, Nat.le_refl _, fun _ _ _ => rfl⟩
theorem Onl.trans (h : Onl m a b) (k : Onl m b c) : Onl m a c :=
  ⟨k.os.trans h.os, k.tape.trans h.tape, k.output.trans h.output, Nat.le_trans h.size k.size, fun i hi hn => (k.block i (Nat.lt_of_lt_of_le hi h.size) hn).trans (h.block i hi hn)⟩
theorem Onl.of (h : Below w.heap.size w w') (m : Nat) : Onl m w w' := ⟨h.os, h.tape, h.output, h.size, fun k hk _ => h.block k hk⟩
/-- A block of the call's own is written. -/
theorem Onl.own (h : Onl m a b) {q : Nat} (hq : q = m ∨ a.heap.size ≤ q) (o : Nat) (u : Value) : Onl m a (b.setCell ⟨q, o, none⟩ u) :=
  ⟨h.os, h.tape, h.output, by have := h.size; simpa [World.setCell] using this, fun k hk hn => (Below.heap_setCell _ _ _ _ (by show k ≠ q; omega)).trans (h.block k hk hn)⟩
theorem Onl.setCell (h : Onl m a b) (o : Nat) (u : Value) : Onl m a (b.setCell ⟨m, o, none⟩ u) := h.own (.inl rfl) o u
theorem Onl.alloc (h : Onl m a b) (o : Obj) : Onl m a (b.alloc o) := h.trans (Onl.of ((Below.refl _ _).alloc (Nat.le_refl _) _) m)
theorem Onl.drewN (h : Onl m a b) (n : Nat) : Onl m a (b.drewN n) := ⟨h.os, h.tape, h.output, h.size, h.block⟩
theorem Onl.below (h : Onl m a b) {B : Nat} (h1 : B ≤ m) (h2 : B ≤ a.heap.size) : Below B a b := ⟨h.os, h.tape, h.output, h.size, fun k hk => h.block k (by omega) (by omega)⟩
theorem Onl.at_ {q : Nat} {c : Array Value} {t : TypeId} (h : Onl m w w') (ha : At w q c t) (hn : q ≠ m) : At w' q c t := ha.same (h.block q ha.lt hn)
theorem At.keep {w w' : World} {B b : Nat} {c : Array Value} {t : TypeId} (h : At w b c t) (hb : Below B w w') (hlt : b < B) : At w' b c t := h.same (hb.block b hlt)
theorem At.allocH {b : Nat} {c : Array Value} {t : TypeId} (h : At w b c t) (o : Obj) : At (w.alloc o) b c t := h.keep ((Below.refl _ _).alloc (Nat.le_refl _) _) h.lt
theorem At.new (w : World) (c : Array Value) (t : TypeId) : At (w.alloc (.cells c t)) w.heap.size c t := by
  show (w.heap.push _)[w.heap.size]? = _
  simp

end Go.Proofs.YtffajooegiempaaDoor

namespace Go.Proofs.YtffajooegiempaaDoor
open Go.RowKit
variable {w : World}

abbrev tBy : TypeId := 5
/-- Bytes in a row of the call's own. -/
def byv (xs : List Int) : List Value := xs.map (Value.int .u8)
theorem ownsRow_below {w w' : World} {base e size n : Nat} {v : Value} {xs : List Value} (h : w.ownsRow base e size v n xs) (hb : ∀ k, v.ownBlock = some k → w'.heap[k]? = w.heap[k]?) : w'.ownsRow base e size v n xs := by
  obtain ⟨h1, h2⟩ := h
  refine ⟨h1, ?_⟩
  rcases h2 with h2 | ⟨g, cap, c, hv, hg, hh, r⟩
  · exact .inl h2
  · exact .inr ⟨g, cap, c, hv, hg, by rw [hb g (by rw [hv]; rfl)]; exact hh, r⟩
theorem c_quo (x : Int) (h0 : 0 ≤ x) : x.tdiv 256 = x / 256 := Int.tdiv_eq_ediv_of_nonneg h0
theorem c_rem (x : Int) (h0 : 0 ≤ x) : x.tmod 256 = x % 256 := Int.tmod_eq_emod_of_nonneg h0

end Go.Proofs.YtffajooegiempaaDoor

namespace Go.Proofs.YtffajooegiempaaDoor
open Go.RowKit
variable {w : World}
end Go.Proofs.YtffajooegiempaaDoor

namespace Go.Proofs.YtffajooegiempaaDoor
open Go.RowKit
variable {w : World}

/-- A list of a list of lists, or none. -/
def RdL (w : World) (v : Value) : Option (List Int) → Prop
  | none => v = .slice none 0 0
  | some l => Reads w v l ∧ ∃ a n c, v = .slice (some a) n c
/-- A slice that reads as these lists. -/
def ReadsL (w : World) (v : Value) (L : List (Option (List Int))) : Prop :=
  ∃ ao cap, v = .slice ao L.length cap ∧ L.length ≤ cap ∧ (L.length ≠ 0 → ∃ b off, ao = some ⟨b, off, none⟩ ∧ b < w.heap.size ∧ ∀ i, i < L.length → ∃ x, w.cell? ⟨b, off + i, none⟩ = some x ∧ RdL w x (L.getD i none))
theorem RdL.keep {w w' : World} {v : Value} {r : Option (List Int)} (h : RdL w v r) (hb : Below w.heap.size w w') : RdL w' v r := by
  cases r with
  | none => exact h
  | some l => exact ⟨h.1.keep hb, h.2⟩
theorem ReadsL.keep {w w' : World} {v : Value} {L : List (Option (List Int))} (h : ReadsL w v L) (hb : Below w.heap.size w w') : ReadsL w' v L := by
  obtain ⟨ao, cap, hv, hc, h0⟩ := h
  refine ⟨ao, cap, hv, hc, fun hn => ?_⟩
  obtain ⟨b, off, ha, hlt, hcell⟩ := h0 hn
  refine ⟨b, off, ha, Nat.lt_of_lt_of_le hlt hb.size, fun i hi => ?_⟩
  obtain ⟨x, h1, h2⟩ := hcell i hi
  exact ⟨x, (hb.cell (by exact hlt)).trans h1, h2.keep hb⟩

def gdO : Option (List Int) → Bool
  | none => true
  | some l => gdB l
def gdA (L : List (Option (List Int))) : Nat → Bool
  | 0 => true
  | n + 1 => gdA L n && gdO (L.getD n none)
/-- What Encode says. -/
def encR (L : List (Option (List Int))) : List Int × Int :=
  if L.length < 1 ∨ 21 < L.length then ([], 4) else if gdA L L.length then (encB L, 0) else ([], 3)
def EOut (w : World) (L : List (Option (List Int))) : Ending → World → Prop := fun e w' => e = .returned (.tuple #[.string (strOfNums (encR L).1), .int .i64 (encR L).2]) ∧ Below w.heap.size w w'
theorem gdA_all {L : List (Option (List Int))} : ∀ {n : Nat}, gdA L n = true ↔ ∀ i, i < n → gdO (L.getD i none) = true := by
  intro n
  induction n with
  | zero => exact ⟨fun _ i hi => absurd hi (by omega), fun _ => rfl⟩
  | succ n ih =>
    show (gdA L n && gdO (L.getD n none)) = true ↔ _
    rw [Bool.and_eq_true, ih]
    constructor
    · rintro ⟨h1, h2⟩ f hf
      rcases Nat.lt_or_eq_of_le (Nat.lt_succ_iff.1 hf) with q | q
      · exact h1 f q
      · rw [q]; exact h2
    · intro h
      exact ⟨fun f hf => h f (by omega), h n (by omega)⟩
theorem gdA_no {L : List (Option (List Int))} {n i : Nat} (hi : i < n) (h : gdO (L.getD i none) = false) : gdA L n = false := by
  cases e : gdA L n with
  | false => rfl
  | true => rw [gdA_all.1 e i hi] at h; cases h
theorem enc1_len (r : Option (List Int)) : (enc1 r).length ≤ 98 := by
  cases r with
  | none => show 1 ≤ 98; omega
  | some l =>
    have e : (enc1 (some l)).length = (tl l 32).length + 2 := rfl
    have := ct_le l 32
    rw [e, tl_len]; omega
theorem encs_len (L : List (Option (List Int))) : ∀ n, (encs L n).length ≤ 98 * n
  | 0 => Nat.le_refl _
  | n + 1 => by
    have h1 := encs_len L n
    have h2 := enc1_len (L.getD n none)
    show (encs L n ++ enc1 (L.getD n none)).length ≤ _
    rw [List.length_append]; omega
/-- A list that may be handed in: its cells. -/
theorem Reads.good {v : Value} {l : List Int} (h : Reads w v l) (hg : gdB l = true) : ∃ p off cu, v = .slice (some ⟨p, off, none⟩) 32 cu ∧ p < w.heap.size ∧ (∀ i, i < 32 → w.cell? ⟨p, off + i, none⟩ = some (.int .i64 (l.getD i 0))) ∧ ∀ f, f < 32 → cBd (l.getD f 0) := by
  have hok := gdB_ok.1 hg
  obtain ⟨ao, cap, rfl, hc, h0⟩ := h
  obtain ⟨p, off, rfl, hp, hcell⟩ := h0 (by rw [hok.1]; decide)
  rw [hok.1] at hcell ⊢
  exact ⟨p, off, cap, rfl, hp, hcell, fun f hf => by have := of_decide_eq_true (hok.2 f hf); exact this⟩
end Go.Proofs.YtffajooegiempaaDoor

namespace Go.Proofs.YtffajooegiempaaDoor
open Go.RowKit
variable {w : World}

theorem son_app (xs ys : List Int) : strOfNums (xs ++ ys) = strOfNums xs ++ strOfNums ys := by
  apply ByteArray.ext
  simp [strOfNums, ByteArray.data_append]
/-- Bytes that were just laid, as a string. -/
theorem run_str_new (w : World) (xs : List Int) : (convert 128 9 (.slice (some ⟨w.heap.size, 0, none⟩) xs.length xs.length)).run Tryd.prog (w.alloc (.cells (byv xs).toArray tBy)) = .ok (.string (strOfNums xs)) (w.alloc (.cells (byv xs).toArray tBy)) := by
  refine run_convert_bytes_arg (P := Tryd.prog) _ 128 tBy Tryd.underlying128 (by kernel_rfl) w.heap.size 0 xs.length xs.length xs rfl ?_ 9 (by kernel_rfl)
  intro i hi
  rw [Nat.zero_add]
  exact (World.cell?_alloc_at _ _ _ _ rfl).trans (show (byv xs).toArray[i]? = some (.int .u8 (xs.getD i 0)) by simp [byv, List.getD, hi])

set_option maxRecDepth 100000 in
set_option maxHeartbeats 1600000 in
theorem r_told (p off cu : Nat) (l : List Int) (hp : p < w.heap.size) (hc : ∀ i, i < 32 → w.cell? ⟨p, off + i, none⟩ = some (.int .i64 (l.getD i 0))) (hb : ∀ f, f < 32 → cBd (l.getD f 0)) :
    Calls Tryd.prog 92 #[.slice (some ⟨p, off, none⟩) 32 cu] w fun e w' => e = .returned (.string (strOfNums (enc1 (some l)))) ∧ Below w.heap.size w w' := by
  have HC : Hid (∀ i, i < 32 → w.cell? ⟨p, off + i, none⟩ = some (.int .i64 (l.getD i 0))) := hc
  have HB : Hid (∀ f, f < 32 → cBd (l.getD f 0)) := hb
  obtain ⟨T, hT⟩ : ∃ T, T = tl l := ⟨_, rfl⟩
  obtain ⟨C, hC⟩ : ∃ C, C = ct l := ⟨_, rfl⟩
  have HT : Hid (∀ f, T (f + 1) = T f ++ (if l.getD f 0 = 1000000 then [] else b3 (f, l.getD f 0))) := by rw [hT]; exact tl_succ l
  have HS : Hid (∀ f, C (f + 1) = C f + (if l.getD f 0 = 1000000 then 0 else 1)) := by rw [hC]; exact ct_succ l
  have HL : Hid (∀ f, C f ≤ f) := by rw [hC]; exact ct_le l
  have HTL : Hid (∀ f, (T f).length = 3 * C f) := by rw [hT, hC]; exact tl_len l
  have HZ : Hid (T 0 = [] ∧ C 0 = 0) := by rw [hT, hC]; exact ⟨rfl, rfl⟩
  have HE : Hid (enc1 (some l) = [1, ((C 32 : Nat) : Int)] ++ T 32) := by show _ = _; rw [hT, hC, enc1_some]; simp only [List.cons_append, List.nil_append]
  have hs3 : ∀ (w : World) (x y z : Int), (convert 128 9 (.slice (some ⟨w.heap.size, 0, none⟩) 3 3)).run Tryd.prog (w.alloc (.cells #[.int .u8 x, .int .u8 y, .int .u8 z] tBy)) = .ok (.string (strOfNums [x, y, z])) (w.alloc (.cells #[.int .u8 x, .int .u8 y, .int .u8 z] tBy)) := fun w x y z => run_str_new w [x, y, z]
  have hs2 : ∀ (w : World) (x y : Int), (convert 128 9 (.slice (some ⟨w.heap.size, 0, none⟩) 2 2)).run Tryd.prog (w.alloc (.cells #[.int .u8 x, .int .u8 y] tBy)) = .ok (.string (strOfNums [x, y])) (w.alloc (.cells #[.int .u8 x, .int .u8 y] tBy)) := fun w x y => run_str_new w [x, y]
  have hz3 : ∀ x y z : Int, (strOfNums [x, y, z]).size = 3 := fun _ _ _ => rfl
  have hz2 : ∀ x y : Int, (strOfNums [x, y]).size = 2 := fun _ _ => rfl
  rw [HE.out]
  clear hc hb hT hC HE
  go_enter Tryd.func92, Tryd.ntmps92
  go_wp2_with fail
  go_loopw [3, 4, 5] (fun t s i wr => ∃ (f cf : Nat) (S : ByteArray), f ≤ 32 ∧ i = .int .i64 f ∧ t = .int .i64 (cf : Int) ∧ cf ≤ 32 ∧ s = .string S ∧ S.size ≤ 96 ∧ Hid (S = strOfNums (T f) ∧ cf = C f ∧ Below w.heap.size w wr)) (fun _ _ i _ => 32 - (intOf i).toNat)
  case atStart => exact ⟨0, 0, _, by omega, rfl, rfl, by omega, rfl, by decide, by rw [HZ.out.1]; rfl, HZ.out.2.symm, Below.refl _ _⟩
  case round =>
    obtain ⟨f, cf, S, hf, rfl, rfl, hcf, rfl, hS, HR⟩ := hrel
    by_cases hlt : f < 32
    · have hfi : (f : Int) < 32 := by omega
      have cx : wr.cell? ⟨p, off + f, none⟩ = some (.int .i64 (l.getD f 0)) := (HR.out.2.2.cell (p := ⟨p, off + f, none⟩) hp).trans (HC.out f hlt)
      have hpr : p < wr.heap.size := Nat.lt_of_lt_of_le hp HR.out.2.2.size
      have HEq := (show Hid (_ = _) from HT.out f)
      have HEc := (show Hid (_ = _) from HS.out f)
      have HBf := (show Hid (cBd _) from HB.out f hlt)
      generalize l.getD f 0 = x at *
      by_cases e1 : x = 1000000
      · have e1' : (x != 1000000) = false := by rw [e1]; rfl
        have HX : Hid (T (f + 1) = T f ∧ C (f + 1) = C f) := ⟨by rw [HEq.out, if_pos e1, List.append_nil], by rw [HEc.out, if_pos e1]; rfl⟩
        go_wp2_with fail
        go_roundw
        case rel => exact ⟨f + 1, cf, S, by omega, by go_num, rfl, hcf, rfl, hS, by rw [HX.out.1]; exact HR.out.1, by rw [HX.out.2]; exact HR.out.2.1, HR.out.2.2⟩
        case measure => simp [intOf]; omega
      · have e1' : (x != 1000000) = true := by rw [bne_iff_ne]; exact e1
        obtain ⟨x1, x2⟩ : -4000 ≤ x ∧ x ≤ 4000 := HBf.out.resolve_left e1
        have HX : Hid (T (f + 1) = T f ++ [(f : Int), (x + 4000) / 256, (x + 4000) % 256] ∧ C (f + 1) = C f + 1) := ⟨by rw [HEq.out, if_neg e1]; rfl, by rw [HEc.out, if_neg e1]⟩
        have r1 := c_quo (x + 4000) (by omega)
        have r2 := c_rem (x + 4000) (by omega)
        have y1 : 0 ≤ (x + 4000) / 256 := by omega
        have y2 : (x + 4000) / 256 ≤ 255 := by omega
        have y3 : 0 ≤ (x + 4000) % 256 := by omega
        have y4 : (x + 4000) % 256 ≤ 255 := by omega
        generalize (x + 4000) / 256 = ya at *
        generalize (x + 4000) % 256 = yb at *
        have hc1 : cf + 1 ≤ 32 := by have := HL.out f; have := HR.out.2.1; omega
        have HS3 : Hid ((S ++ strOfNums [(f : Int), ya, yb]).size ≤ 96) := by
          show _ ≤ _
          rw [ByteArray.size_append', hz3, HR.out.1, strOfNums_size, HTL.out, ← HR.out.2.1]; omega
        go_wp2_with fail
        go_roundw
        case rel => exact ⟨f + 1, cf + 1, S ++ strOfNums [(f : Int), ya, yb], by omega, by go_num, by go_num, hc1, rfl, HS3.out, by rw [HX.out.1, son_app, ← HR.out.1], by rw [HX.out.2, HR.out.2.1], HR.out.2.2.alloc HR.out.2.2.size _⟩
        case measure => simp [intOf]; omega
    · have hf32 : f = 32 := by omega
      subst hf32
      go_wp2_with fail
      go_ret
      exact ⟨by rw [show (1 :: ((C 32 : Nat) : Int) :: T 32) = [1, ((C 32 : Nat) : Int)] ++ T 32 from rfl, son_app, ← HR.out.1, ← HR.out.2.1]; rfl, HR.out.2.2.alloc HR.out.2.2.size _⟩
set_option maxRecDepth 100000 in
set_option maxHeartbeats 1600000 in
theorem r_encode (v : Value) (L : List (Option (List Int))) (_hm : L.length ≤ maxLen) (hlm : ∀ i l, L.getD i none = some l → l.length ≤ 1073741824) (hv : ReadsL w v L) : Calls Tryd.prog 71 #[v] w (EOut w L) := by
  obtain ⟨ao, cap, rfl, hcap, h0⟩ := hv
  by_cases hbad : L.length < 1 ∨ 21 < L.length
  · have HE : Hid (encR L = ([], 4)) := by show encR L = _; unfold encR; rw [if_pos hbad]
    clear h0 hlm
    rcases hbad with hb | hb
    · have hz : L.length = 0 := by omega
      rw [hz]
      clear hz hb hcap
      go_enter Tryd.func71, Tryd.ntmps71
      go_wp2_with fail
      go_ret2
      exact ⟨by rw [HE.out]; rfl, Below.refl _ _⟩
    · have hb1 : ¬ (L.length : Int) < 1 := by omega
      have hb2 : (21 : Int) < (L.length : Int) := by omega
      clear hb
      go_enter Tryd.func71, Tryd.ntmps71
      go_wp2_with fail
      go_ret2
      exact ⟨by rw [HE.out]; rfl, Below.refl _ _⟩
  obtain ⟨n, hn⟩ : ∃ n, n = L.length := ⟨_, rfl⟩
  have n1 : 1 ≤ n := by omega
  have n2 : n ≤ 21 := by omega
  have HE : Hid (encR L = if gdA L n then ((n : Int) :: encs L n, 0) else ([], 3)) := by show encR L = _; unfold encR; rw [if_neg hbad, hn]; rfl
  obtain ⟨p, off, rfl, hp, hcell⟩ := h0 (by omega)
  rw [← hn] at hcell hcap ⊢
  have HC : Hid (∀ i, i < n → ∃ x, w.cell? ⟨p, off + i, none⟩ = some x ∧ RdL w x (L.getD i none)) := hcell
  have HLm : Hid (∀ i l, L.getD i none = some l → l.length ≤ 1073741824) := hlm
  have hb1 : ¬ (n : Int) < 1 := by omega
  have hb2 : ¬ (21 : Int) < (n : Int) := by omega
  have HB1 : Hid (Below w.heap.size w (w.alloc (.cells #[.int .u8 (n : Int)] tBy))) := (Below.refl _ _).alloc (Nat.le_refl _) _
  have hq1 : ∀ (w : World) (a : Option Addr) (n c : Nat), (binOp .eql 22 (.slice a n c) (.slice none 0 0)).run Tryd.prog w = .ok (.bool a.isNone) w := fun w a n c => Lib.run_eql_slice_nil w 22 3 a n c 0 0 Tryd.underlying22
  have hs1 : ∀ (w : World) (x : Int), (convert 128 9 (.slice (some ⟨w.heap.size, 0, none⟩) 1 1)).run Tryd.prog (w.alloc (.cells #[.int .u8 x] tBy)) = .ok (.string (strOfNums [x])) (w.alloc (.cells #[.int .u8 x] tBy)) := fun w x => run_str_new w [x]
  clear hcell hcap h0 hbad hlm _hm hn
  go_enter Tryd.func71, Tryd.ntmps71
  go_wp2_with fail
  go_loopw [4, 5] (fun s i wr => ∃ (f : Nat) (S : ByteArray), f ≤ n ∧ i = .int .i64 f ∧ s = .string S ∧ S.size ≤ 3000 ∧ Hid (S = strOfNums ((n : Int) :: encs L f) ∧ Below w.heap.size w wr ∧ gdA L f = true)) (fun _ i _ => n - (intOf i).toNat)
  case atStart => exact ⟨0, _, by omega, rfl, rfl, by rw [strOfNums_size]; simp, rfl, HB1.out, rfl⟩
  case round =>
    obtain ⟨f, S, hf, rfl, rfl, hS, HR⟩ := hrel
    by_cases hlt : f < n
    · have hfi : (f : Int) < (n : Int) := by omega
      obtain ⟨x, hx, hrx⟩ := HC.out f hlt
      have cx : wr.cell? ⟨p, off + f, none⟩ = some x := (HR.out.2.1.cell (p := ⟨p, off + f, none⟩) hp).trans hx
      have HRx : Hid (RdL wr x (L.getD f none)) := hrx.keep HR.out.2.1
      have hpr : p < wr.heap.size := Nat.lt_of_lt_of_le hp HR.out.2.1.size
      have HEq : Hid (encs L (f + 1) = encs L f ++ enc1 (L.getD f none)) := rfl
      have HGd : Hid (gdA L (f + 1) = (gdA L f && gdO (L.getD f none))) := rfl
      have HNo : Hid (gdO (L.getD f none) = false → gdA L n = false) := fun h => gdA_no hlt h
      have HLf : Hid (∀ l, L.getD f none = some l → l.length ≤ 1073741824) := HLm.out f
      have HEl := (show Hid (_ ≤ _) from encs_len L (f + 1))
      have HSn : Hid (∀ y : List Int, enc1 (L.getD f none) = y → (S ++ strOfNums y).size ≤ 3000 ∧ S ++ strOfNums y = strOfNums ((n : Int) :: encs L (f + 1))) := by
        intro y hy
        have e : S ++ strOfNums y = strOfNums ((n : Int) :: encs L (f + 1)) := by rw [HEq.out, hy, HR.out.1, ← son_app]; rfl
        refine ⟨?_, e⟩
        have h1 := HEl.out
        rw [e, strOfNums_size]
        simp only [List.length_cons]
        omega
      clear hx hrx
      generalize L.getD f none = r at *
      cases r with
      | none =>
        have hxe : x = .slice none 0 0 := HRx.out
        subst hxe
        have HSn1 := (show Hid (_ ∧ _) from HSn.out [0] rfl)
        go_wp2_with fail
        go_roundw
        case rel => exact ⟨f + 1, _, by omega, by go_num, rfl, HSn1.out.1, HSn1.out.2, HR.out.2.1, by rw [HGd.out, HR.out.2.2]; rfl⟩
        case measure => simp [intOf]; omega
      | some l =>
        have hgd := r_good (w := wr) x l (HLf.out l rfl) HRx.out.1
        have HSn1 := (show Hid (_ ∧ _) from HSn.out _ rfl)
        obtain ⟨a, xn, xc, rfl⟩ := HRx.out.2
        cases hg : gdB l with
        | false =>
          rw [hg] at hgd
          have HF : Hid (encR L = ([], 3)) := by show encR L = _; rw [HE.out, HNo.out hg]; rfl
          clear hg
          go_wp2_with fail
          refine hgd.mono ?_
          rintro e w2 ⟨rfl, rfl⟩
          go_wp2_with fail
          go_ret2
          exact ⟨by rw [HF.out]; rfl, HR.out.2.1⟩
        | true =>
          rw [hg] at hgd
          obtain ⟨p2, off2, cu2, e2, hp2, hc2, hb2'⟩ := HRx.out.1.good hg
          injection e2 with e2 e3 e4
          injection e2 with e2
          subst e2 e3 e4
          have htb := r_told p2 off2 xc l hp2 hc2 hb2'
          have HG1 : Hid (gdO (some l) = true) := hg
          have hel := enc1_len (some l)
          have hes : (strOfNums (enc1 (some l))).size ≤ 98 := by rw [strOfNums_size]; exact hel
          generalize strOfNums (enc1 (some l)) = part at *
          clear hg hc2 hb2' hel
          go_wp2_with fail
          refine hgd.mono ?_
          rintro e w2 ⟨rfl, rfl⟩
          go_wp2_with fail
          refine htb.mono ?_
          rintro e w3 ⟨rfl, hb3⟩
          have H3 : Hid (Below w.heap.size w w3) := HR.out.2.1.trans (hb3.mono HR.out.2.1.size)
          clear hb3 htb hgd
          go_wp2_with fail
          go_roundw
          case rel => exact ⟨f + 1, _, by omega, by go_num, rfl, HSn1.out.1, HSn1.out.2, H3.out, by rw [HGd.out, HR.out.2.2, HG1.out]; rfl⟩
          case measure => simp [intOf]; omega
    · have hfn : f = n := by omega
      subst hfn
      have HF : Hid (encR L = ((f : Int) :: encs L f, 0)) := by show encR L = _; rw [HE.out, HR.out.2.2]; rfl
      go_wp2_with fail
      go_ret2
      exact ⟨by rw [HF.out, ← HR.out.1]; rfl, HR.out.2.1⟩

end Go.Proofs.YtffajooegiempaaDoor

/- The bytes of a text as numbers. -/
namespace Go.Proofs.YtffajooegiempaaDoor

def bytesOf (s : ByteArray) : List Int := s.data.toList.map fun b => (b.toNat : Int)
theorem bytesOf_len (s : ByteArray) : (bytesOf s).length = s.size := by simp [bytesOf]
theorem bytesOf_take (s : ByteArray) (k : Nat) (h : k < s.size) : (bytesOf s).take (k + 1) = (bytesOf s).take k ++ [((s[k]).toNat : Int)] := by
  rw [List.take_succ_eq_append_getElem (by rw [bytesOf_len]; exact h)]
  simp [bytesOf]; rfl
theorem bytesOf_get (s : ByteArray) (k : Nat) (h : k < s.size) : (bytesOf s)[k]? = some ((s[k]).toNat : Int) := by
  rw [List.getElem?_eq_getElem (by rw [bytesOf_len]; exact h)]
  simp [bytesOf]; rfl

end Go.Proofs.YtffajooegiempaaDoor

namespace Go.Proofs.YtffajooegiempaaDoor
open Go.RowKit
variable {w : World} {r : Nat} {s : ByteArray} {d : CSt}

abbrev tCr : TypeId := 136
/-- The reader of a certificate: its bytes, the place, is something wrong. -/
def Cat (w : World) (r : Nat) (s : ByteArray) (d : CSt) : Prop := At w r #[.string s, .int .i64 d.1, .bool d.2] tCr
theorem Cat.cells (h : Cat w r s d) : w.cell? ⟨r, 0, none⟩ = some (.string s) ∧ w.cell? ⟨r, 1, none⟩ = some (.int .i64 d.1) ∧ w.cell? ⟨r, 2, none⟩ = some (.bool d.2) ∧ ∀ i, w.frozen? ⟨r, i, none⟩ = false :=
  ⟨h.cell 0, h.cell 1, h.cell 2, h.free⟩
theorem Cat.drewN (h : Cat w r s d) (k : Nat) : Cat (w.drewN k) r s d := h
theorem Cat.step (h : Cat w r s d) : Cat (w.setCell ⟨r, 1, none⟩ (.int .i64 ((d.1 : Int) + 1))) r s (d.1 + 1, d.2) := by
  have := At.put h 1 (.int .i64 ((d.1 : Int) + 1))
  exact this
theorem Cat.stick (h : Cat w r s d) : Cat (w.setCell ⟨r, 2, none⟩ (.bool true)) r s (d.1, true) := by
  have := At.put h 2 (.bool true)
  exact this
theorem bys (s : ByteArray) : Bys (bytesOf s) := by
  intro i hi
  rw [bytesOf_len] at hi
  rw [List.getD_eq_getElem?_getD, bytesOf_get s i hi]
  have := (s[i]).toNat_lt
  simp only [Option.getD_some]
  omega
/-- What a small step leaves. -/
def COut (w : World) (r : Nat) (s : ByteArray) (d' : CSt) (v : Value) : Ending → World → Prop := fun e w' => e = .returned v ∧ Cat w' r s d' ∧ Onl r w w'

set_option maxRecDepth 100000 in
set_option maxHeartbeats 800000 in
theorem c_peek (h : Cat w r s d) (_hs : s.size ≤ 9223372036854775807) (hd : d.1 ≤ s.size) :
    Calls Tryd.prog 117 #[.pointer (some ⟨r, 0, none⟩)] w fun e w' => e = .returned (.int .i64 (pkc (bytesOf s) d)) ∧ ∃ k, w' = w.drewN k := by
  obtain ⟨c0, c1, c2, cf⟩ := h.cells
  obtain ⟨a, b⟩ := d
  simp only at c0 c1 c2 hd
  have a0 : decide (((a : Nat) : Int) < 0) = false := decide_eq_false (by omega)
  by_cases hl : a < s.size
  · have HP : Hid (pkc (bytesOf s) (a, b) = ((s[a]).toNat : Int)) := by show pkc _ _ = _; unfold pkc; rw [if_pos (by rw [bytesOf_len]; exact hl), List.getD_eq_getElem?_getD, bytesOf_get s a hl]; rfl
    have a1 : decide (((s.size : Nat) : Int) ≤ (a : Int)) = false := decide_eq_false (by omega)
    have i1 : ((a : Nat) : Int) < ((s.size : Nat) : Int) := by omega
    have hw : wrap64 ((s[a]).toNat : Int) = ((s[a]).toNat : Int) := by have := (s[a]).toNat_lt; unfold wrap64; omega
    clear h
    go_enter Tryd.func117, Tryd.ntmps117
    go_wp2
    go_quiet (fail)
    go_wp2
    go_quiet (fail)
    go_wp2
    go_ret
    exact ⟨by rw [HP.out]; show Ending.returned (.int .i64 (wrap64 _)) = _; rw [hw], _, World.drewN_drewN _ _ _⟩
  · have HP : Hid (pkc (bytesOf s) (a, b) = -1) := by show pkc _ _ = _; unfold pkc; rw [if_neg (by rw [bytesOf_len]; exact hl)]
    have a1 : decide (((s.size : Nat) : Int) ≤ (a : Int)) = true := decide_eq_true (by omega)
    clear h
    go_enter Tryd.func117, Tryd.ntmps117
    go_wp2
    go_quiet (fail)
    go_wp2
    go_ret
    exact ⟨by rw [HP.out]; rfl, _, rfl⟩

set_option maxRecDepth 100000 in
set_option maxHeartbeats 800000 in
theorem c_number (h : Cat w r s d) (hs : s.size ≤ 9223372036854775807) (hd : d.1 ≤ s.size) (lo hi : Int) (hlo : 0 ≤ lo) :
    Calls Tryd.prog 103 #[.pointer (some ⟨r, 0, none⟩), .int .i64 lo, .int .i64 hi] w (COut w r s (numF (bytesOf s) lo hi d).2 (.int .i64 (numF (bytesOf s) lo hi d).1)) := by
  have hp := c_peek h hs hd
  obtain ⟨c0, c1, c2, cf⟩ := h.cells
  have HC : Hid (Cat w r s d) := h
  have hr := h.lt
  have HD : Hid (lo ≤ pkc (bytesOf s) d → d.1 < s.size) := by
    intro hh
    unfold pkc at hh
    rw [bytesOf_len] at hh
    by_cases q : d.1 < s.size
    · exact q
    · rw [if_neg q] at hh; omega
  have HN : Hid (numF (bytesOf s) lo hi d = if pkc (bytesOf s) d < lo ∨ hi < pkc (bytesOf s) d then (0, (d.1, true)) else (pkc (bytesOf s) d, (d.1 + 1, d.2))) := rfl
  generalize pkc (bytesOf s) d = x at *
  by_cases hq : x < lo ∨ hi < x
  · have HX : Hid (numF (bytesOf s) lo hi d = (0, (d.1, true))) := HN.out.trans (if_pos hq)
    clear h hlo HN
    rcases Int.lt_or_le x lo with q | q
    · have q' : decide (x < lo) = true := decide_eq_true q
      clear hq
      go_enter Tryd.func103, Tryd.ntmps103
      go_wp2_with (go_at_call 117; refine hp.mono ?_; rintro e w' ⟨rfl, k, rfl⟩)
      go_ret
      rw [HX.out]
      exact ⟨rfl, (HC.out.drewN k).stick, ((Onl.refl _ _).drewN _).setCell _ _⟩
    · have q' : decide (x < lo) = false := decide_eq_false (by omega)
      have q2 : hi < x := by omega
      clear hq
      go_enter Tryd.func103, Tryd.ntmps103
      go_wp2_with (go_at_call 117; refine hp.mono ?_; rintro e w' ⟨rfl, k, rfl⟩)
      go_ret
      rw [HX.out]
      exact ⟨rfl, (HC.out.drewN k).stick, ((Onl.refl _ _).drewN _).setCell _ _⟩
  · have HX : Hid (numF (bytesOf s) lo hi d = (x, (d.1 + 1, d.2))) := HN.out.trans (if_neg hq)
    have q' : ¬ x < lo := by omega
    have q2 : ¬ hi < x := by omega
    have hd1 := HD.out (by omega)
    clear h hlo HN hq HD
    go_enter Tryd.func103, Tryd.ntmps103
    go_wp2_with (go_at_call 117; refine hp.mono ?_; rintro e w' ⟨rfl, k, rfl⟩)
    go_ret
    rw [HX.out]
    exact ⟨rfl, (HC.out.drewN k).step, ((Onl.refl _ _).drewN _).setCell _ _⟩

theorem num_at {lo hi : Int} (h0 : 0 ≤ lo) (hd : d.1 ≤ s.size) : (numF (bytesOf s) lo hi d).2.1 ≤ s.size := by
  have := (num_range (bys s) lo hi h0 d).2.2
  rw [bytesOf_len] at this
  omega

set_option maxRecDepth 100000 in
set_option maxHeartbeats 800000 in
theorem c_bound (h : Cat w r s d) (hs : s.size ≤ 9223372036854775807) (hd : d.1 ≤ s.size) :
    Calls Tryd.prog 128 #[.pointer (some ⟨r, 0, none⟩)] w (COut w r s (bdF (bytesOf s) d).2 (.int .i64 (bdF (bytesOf s) d).1)) := by
  have h1 := c_number h hs hd 0 255 (by omega)
  have HE : Hid (bdF (bytesOf s) d = ((numF (bytesOf s) 0 255 d).1 * 256 + (numF (bytesOf s) 0 255 (numF (bytesOf s) 0 255 d).2).1 - 4000, ((numF (bytesOf s) 0 255 (numF (bytesOf s) 0 255 d).2).2.1, if 8000 < (numF (bytesOf s) 0 255 d).1 * 256 + (numF (bytesOf s) 0 255 (numF (bytesOf s) 0 255 d).2).1 then true else (numF (bytesOf s) 0 255 (numF (bytesOf s) 0 255 d).2).2.2))) := rfl
  have r1 := num_range (bys s) 0 255 (by omega) d
  have r2 := num_range (bys s) 0 255 (by omega) (numF (bytesOf s) 0 255 d).2
  have hd1 := num_at (s := s) (lo := 0) (hi := 255) (by omega) hd
  have H2 : Hid (∀ w1, Cat w1 r s (numF (bytesOf s) 0 255 d).2 → Calls Tryd.prog 103 #[.pointer (some ⟨r, 0, none⟩), .int .i64 0, .int .i64 255] w1 (COut w1 r s (numF (bytesOf s) 0 255 (numF (bytesOf s) 0 255 d).2).2 (.int .i64 (numF (bytesOf s) 0 255 (numF (bytesOf s) 0 255 d).2).1))) := fun w1 hc => c_number hc hs hd1 0 255 (by omega)
  rw [HE.out]
  clear h HE hd1
  generalize numF (bytesOf s) 0 255 d = x at *
  generalize numF (bytesOf s) 0 255 x.2 = y at *
  obtain ⟨x1, x2⟩ := x
  obtain ⟨y1, y2⟩ := y
  simp only at r1 r2 ⊢
  obtain ⟨r1a, r1b, -⟩ := r1
  obtain ⟨r2a, r2b, -⟩ := r2
  by_cases hq : 8000 < x1 * 256 + y1
  · rw [if_pos hq]
    go_enter Tryd.func128, Tryd.ntmps128
    go_wp2_with fail
    refine h1.mono ?_
    rintro e w1 ⟨rfl, hc1, ho1⟩
    have h2 := H2.out w1 hc1
    have HO1 : Hid (Onl r w w1) := ho1
    clear hc1 ho1 h1 H2
    go_wp2_with fail
    refine h2.mono ?_
    rintro e w2 ⟨rfl, hc2, ho2⟩
    obtain ⟨c0, c1, c2, cf⟩ := hc2.cells
    have hr2 := hc2.lt
    have HC2 : Hid (Cat w2 r s y2) := hc2
    have HO2 : Hid (Onl r w w2) := HO1.out.trans ho2
    clear hc2 ho2 h2
    go_wp2_with fail
    go_ret
    exact ⟨rfl, HC2.out.stick, HO2.out.setCell _ _⟩
  · rw [if_neg hq]
    go_enter Tryd.func128, Tryd.ntmps128
    go_wp2_with fail
    refine h1.mono ?_
    rintro e w1 ⟨rfl, hc1, ho1⟩
    have h2 := H2.out w1 hc1
    have HO1 : Hid (Onl r w w1) := ho1
    clear hc1 ho1 h1 H2
    go_wp2_with fail
    refine h2.mono ?_
    rintro e w2 ⟨rfl, hc2, ho2⟩
    obtain ⟨c0, c1, c2, cf⟩ := hc2.cells
    have hr2 := hc2.lt
    have HC2 : Hid (Cat w2 r s y2) := hc2
    have HO2 : Hid (Onl r w w2) := HO1.out.trans ho2
    clear hc2 ho2 h2
    go_wp2_with fail
    go_ret
    exact ⟨rfl, HC2.out, HO2.out⟩

end Go.Proofs.YtffajooegiempaaDoor

