import Derived.Test.YtadhimimdmoodaaDg
import Derived.Test.YtadhimimdmoodaaRh
namespace Go.Proofs.Ytadhimimdmoodaa
open Go.RowKit
variable {B : Nat} {w w' : World} {r q : Nat} {s : ByteArray} {vf : Value}

abbrev Zt : Type := (Nat × Bool) × List Ds

def rBlockWith (s : ByteArray) (f : Int → Int → Int → Zt → Zt) (p b dp : Int) (z : Zt) : Zt :=
  (nd s (f p b dp (nd s z.1 123, z.2)).1 125, (f p b dp (nd s z.1 123, z.2)).2)
def aft (s : ByteArray) (f : Int → Int → Int → Zt → Zt) (p dp : Int) (z : Zt) : Nat → Zt
  | 0 => z
  | b + 1 => rBlockWith s f p b dp (aft s f p dp z b)
def newDs (p b : Int) : Ds := ⟨0, 0, false, [0, 0, 0, 0], 0, p, b⟩
def rStmtWith (s : ByteArray) (f : Int → Int → Int → Zt → Zt) (p b dp : Int) (z : Zt) : Zt :=
  if 20 ≤ z.2.length then (stk z.1, z.2)
  else if (rHead s z.1 (newDs p b) dp).2.2 = true then ((rHead s z.1 (newDs p b) dp).2, z.2)
  else aft s f z.2.length (dp + 1) ((rHead s z.1 (newDs p b) dp).2, z.2 ++ [(rHead s z.1 (newDs p b) dp).1]) (blocksOf (rHead s z.1 (newDs p b) dp).1.kind).toNat
def rStmts (s : ByteArray) : Nat → Int → Int → Int → Zt → Zt
  | 0, _, _, _, z => z
  | n + 1, p, b, dp, z => if pk s z.1 = 0 ∨ pk s z.1 = 125 then z else rStmts s n p b dp (rStmtWith s (rStmts s n) p b dp z)

/-- The place is in the text, and not too much was found. -/
structure Zok (s : ByteArray) (z : Zt) : Prop where
  at_ : z.1.1 ≤ s.size
  len : z.2.length ≤ 20
/-- z' comes behind z: what was found is still there. -/
structure Zle (s : ByteArray) (z z' : Zt) : Prop where
  ok : Zok s z'
  len : z.2.length ≤ z'.2.length

theorem Zle.refl {z : Zt} (h : Zok s z) : Zle s z z := ⟨h, Nat.le_refl _⟩
theorem Zle.trans {a b c : Zt} (h : Zle s a b) (k : Zle s b c) : Zle s a c := ⟨k.ok, Nat.le_trans h.len k.len⟩
def Goes (s : ByteArray) (f : Int → Int → Int → Zt → Zt) : Prop := ∀ p b dp z, Zok s z → Zle s z (f p b dp z)

theorem Goes.block {f : Int → Int → Int → Zt → Zt} (h : Goes s f) (p b dp : Int) {z : Zt} (hz : Zok s z) : Zle s z (rBlockWith s f p b dp z) := by
  have h1 := h p b dp (nd s z.1 123, z.2) ⟨nd_le hz.at_ (by decide), hz.len⟩
  exact ⟨⟨nd_le h1.ok.at_ (by decide), h1.ok.len⟩, h1.len⟩
theorem Goes.aft {f : Int → Int → Int → Zt → Zt} (h : Goes s f) (p dp : Int) {z : Zt} (hz : Zok s z) (n : Nat) : Zle s z (Go.Proofs.Ytadhimimdmoodaa.aft s f p dp z n) := by
  induction n with
  | zero => exact Zle.refl hz
  | succ n ih => exact ih.trans (h.block p n dp ih.ok)
theorem Goes.stmt {f : Int → Int → Int → Zt → Zt} (h : Goes s f) (p b dp : Int) {z : Zt} (hz : Zok s z) : Zle s z (rStmtWith s f p b dp z) := by
  unfold rStmtWith
  split
  · exact ⟨⟨hz.at_, hz.len⟩, Nat.le_refl _⟩
  split
  · exact ⟨⟨rHead_le hz.at_ dp, hz.len⟩, Nat.le_refl _⟩
  · have h1 := h.aft z.2.length (dp + 1) (z := ((rHead s z.1 (newDs p b) dp).2, z.2 ++ [(rHead s z.1 (newDs p b) dp).1])) ⟨rHead_le hz.at_ dp, by simp; omega⟩ (blocksOf (rHead s z.1 (newDs p b) dp).1.kind).toNat
    exact ⟨h1.ok, by have := h1.len; simp at this; omega⟩
theorem rStmts_goes (s : ByteArray) (n : Nat) : Goes s (rStmts s n) := by
  induction n with
  | zero => intro p b dp z hz; exact Zle.refl hz
  | succ n ih =>
    intro p b dp z hz
    unfold rStmts
    split
    · exact Zle.refl hz
    · have h1 := ih.stmt p b dp hz
      exact h1.trans (ih p b dp _ h1.ok)

def Mz (z : Zt) : Nat := if z.1.2 then 0 else 21 - z.2.length
theorem Mz_stmt (f : Int → Int → Int → Zt → Zt) (h : Goes s f) (p b dp : Int) {z : Zt} (hz : Zok s z) (hs : z.1.2 = false) : Mz (rStmtWith s f p b dp z) < Mz z := by
  have hl := hz.len
  have h1 : Mz z = 21 - z.2.length := by unfold Mz; rw [hs]; rfl
  rw [h1]
  unfold rStmtWith
  split
  · show (if true then 0 else _) < _; simp; omega
  split
  · rename_i h2
    show (if (rHead s z.1 (newDs p b) dp).2.2 then 0 else _) < _
    rw [h2]; simp; omega
  · have h3 := h.aft z.2.length (dp + 1) (z := ((rHead s z.1 (newDs p b) dp).2, z.2 ++ [(rHead s z.1 (newDs p b) dp).1])) ⟨rHead_le hz.at_ dp, by simp; omega⟩ (blocksOf (rHead s z.1 (newDs p b) dp).1.kind).toNat
    have h4 := h3.len
    have h5 := h3.ok.len
    generalize Go.Proofs.Ytadhimimdmoodaa.aft s f z.2.length (dp + 1) ((rHead s z.1 (newDs p b) dp).2, z.2 ++ [(rHead s z.1 (newDs p b) dp).1]) (blocksOf (rHead s z.1 (newDs p b) dp).1.kind).toNat = y at *
    simp at h4
    unfold Mz
    split <;> omega

def flat (F : List Ds) : List Value := F.flatMap fun x => (dsCells x).toList
theorem flat_len (F : List Ds) : (flat F).length = F.length * 10 := by
  induction F with
  | nil => rfl
  | cons a F ih =>
    show ((dsCells a).toList ++ flat F).length = _
    rw [List.length_append, ih]; simp [dsCells]; omega
theorem flat_snoc (F : List Ds) (x : Ds) : flat (F ++ [x]) = flat F ++ (dsCells x).toList := by simp [flat]

/-- The reader's memory. -/
structure DRep (B : Nat) (w : World) (r : Nat) (s : ByteArray) (z : Zt) (vf : Value) : Prop where
  dat : Dat w r s z.1 vf
  row : w.ownsRow B tDs 10 vf z.2.length (flat z.2)
  geR : B ≤ r
  geW : B ≤ w.heap.size

/-- Of what was there nothing but the reader's block and its row has turned; the row is the same, or new. -/
structure ZFr (r : Nat) (vf vf' : Value) (w w' : World) : Prop where
  os : w'.os = w.os
  tape : w'.tape = w.tape
  output : w'.output = w.output
  size : w.heap.size ≤ w'.heap.size
  block : ∀ k, k < w.heap.size → k ≠ r → vf.ownBlock ≠ some k → w'.heap[k]? = w.heap[k]?
  row : vf'.ownBlock = vf.ownBlock ∨ ∀ g, vf'.ownBlock = some g → w.heap.size ≤ g
theorem ZFr.refl (r : Nat) (vf : Value) (w : World) : ZFr r vf vf w w := ⟨rfl, rfl, rfl, Nat.le_refl _, fun _ _ _ _ => rfl, .inl rfl⟩
theorem ZFr.trans {v1 v2 v3 : Value} {a b c : World} (h : ZFr r v1 v2 a b) (k : ZFr r v2 v3 b c) : ZFr r v1 v3 a c where
  os := k.os.trans h.os
  tape := k.tape.trans h.tape
  output := k.output.trans h.output
  size := Nat.le_trans h.size k.size
  block := fun i h0 h1 h2 => (k.block i (Nat.lt_of_lt_of_le h0 h.size) h1 (by
    rcases h.row with e | e
    · rw [e]; exact h2
    · intro e2; have := e i e2; omega)).trans (h.block i h0 h1 h2)
  row := by
    rcases k.row with e | e
    · rw [e]; exact h.row
    · exact .inr fun g hg => Nat.le_trans h.size (e g hg)
theorem Tch.zfr {a b : World} (h : Tch r a b) (vf : Value) : ZFr r vf vf a b := ⟨h.os, h.tape, h.output, by have := h.size; omega, fun k _ h1 _ => h.block k h1, .inl rfl⟩
theorem ZFr.below {vf' : Value} {z : Zt} (h : ZFr r vf vf' w w') (hd : DRep B w r s z vf) : Below B w w' := ⟨h.os, h.tape, h.output, h.size, fun k hk => h.block k (by have := hd.geW; omega) (by have := hd.geR; omega) (fun e => by have := (hd.row.lt k e).1; omega)⟩

def ZPost (B : Nat) (w : World) (r : Nat) (s : ByteArray) (vf : Value) (z : Zt) : Ending → World → Prop := fun e w' => e = .returned (.tuple #[]) ∧ ∃ vf', DRep B w' r s z vf' ∧ ZFr r vf vf' w w'

/-- What is said of readStatements. -/
def SP (s : ByteArray) (n : Nat) : Prop := ∀ (B r : Nat) (vf : Value) (w : World) (z : Zt) (p b dp : Int), DRep B w r s z vf → Zok s z → 0 ≤ dp → dp ≤ z.2.length → Mz z < n →
  Calls Try.prog 25 #[.pointer (some ⟨r, 0, none⟩), .int .i64 p, .int .i64 b, .int .i64 dp] w (ZPost B w r s vf (rStmts s n p b dp z))

theorem ownsRow_keep {e : TypeId} {size : Nat} {v : Value} {n : Nat} {xs : List Value} (h : w.ownsRow B e size v n xs) (k : ∀ g, v.ownBlock = some g → w'.heap[g]? = w.heap[g]?) : w'.ownsRow B e size v n xs := by
  obtain ⟨h1, h2⟩ := h
  refine ⟨h1, ?_⟩
  rcases h2 with h2 | ⟨g, cap, c, hv, hg, hh, r⟩
  · exact .inl h2
  · subst hv; exact .inr ⟨g, cap, c, rfl, hg, by rw [k g rfl]; exact hh, r⟩
theorem ownsRow_not {e : TypeId} {size : Nat} {v : Value} {n : Nat} {xs : List Value} (h : w.ownsRow B e size v n xs) {b : Nat} {c : Array Value} {t : TypeId} (k : At w b c t) (hn : e ≠ t) : v.ownBlock ≠ some b := by
  obtain ⟨h1, h2⟩ := h
  rcases h2 with ⟨rfl, _⟩ | ⟨g, cap, c', rfl, hg, hh, r⟩
  · simp [Value.ownBlock]
  · intro e'
    simp [Value.ownBlock] at e'
    exact (At.ne (show At w g c' e from hh) k hn) e'

/-- Behind a step that writes the reader's block alone. -/
theorem DRep.tch {z : Zt} (h : DRep B w r s z vf) (t : Tch r w w') {d' : Nat × Bool} (hd : Dat w' r s d' vf) : DRep B w' r s (d', z.2) vf where
  dat := hd
  row := ownsRow_keep h.row fun g hg => t.block g (fun e => ownsRow_not h.row h.dat (by decide) (by rw [hg, e]))
  geR := h.geR
  geW := by rw [t.size]; exact h.geW

set_option maxRecDepth 100000 in
set_option maxHeartbeats 800000 in
theorem d_readBlock {n : Nat} (H : SP s n) (hs : s.size ≤ 160) {z : Zt} (h : DRep B w r s z vf) (hz : Zok s z) (p b dp : Int) (h0 : 0 ≤ dp) (h1 : dp ≤ z.2.length) (hm : Mz z < n) :
    Calls Try.prog 49 #[.pointer (some ⟨r, 0, none⟩), .int .i64 p, .int .i64 b, .int .i64 dp] w (ZPost B w r s vf (rBlockWith s (rStmts s n) p b dp z)) := by
  have hat := hz.at_
  have hm2 : Mz (nd s z.1 123, z.2) < n := by
    have : Mz (nd s z.1 123, z.2) ≤ Mz z := by
      unfold Mz nd
      split <;> split <;> simp_all
    omega
  have hz2 : Zok s (nd s z.1 123, z.2) := ⟨nd_le hat (by decide), hz.len⟩
  have hz3 := rStmts_goes s n p b dp _ hz2
  obtain ⟨y, hY⟩ : ∃ y, y = rStmts s n p b dp (nd s z.1 123, z.2) := ⟨_, rfl⟩
  have HT : Hid (rBlockWith s (rStmts s n) p b dp z = (nd s y.1 125, y.2)) := by show rBlockWith _ _ _ _ _ _ = _; rw [hY]; rfl
  rw [← hY] at hz3
  have hyat := hz3.ok.at_
  have HY : Hid (_ = _) := hY
  have HD : Hid (DRep _ _ _ _ _ _) := h
  clear hY h
  go_enter Try.func49, Try.ntmps49
  go_wp2_with fail
  refine (d_need HD.out.dat hs (by omega) 123).mono ?_
  rintro e w1 ⟨rfl, hD1, hT1⟩
  have k2 := H B r vf w1 (nd s z.1 123, z.2) p b dp (HD.out.tch hT1 hD1) hz2 h0 h1 hm2
  rw [← HY.out] at k2
  go_wp2_with fail
  refine k2.mono ?_
  rintro e w2 ⟨rfl, vf2, hD2, hZ2⟩
  have HD2 : Hid (DRep _ _ _ _ _ _) := hD2
  clear hD2
  go_wp2_with fail
  refine (d_need HD2.out.dat hs (by omega) 125).mono ?_
  rintro e w3 ⟨rfl, hD3, hT3⟩
  go_wp2
  go_end0
  rw [HT.out]
  exact ⟨rfl, vf2, HD2.out.tch hT3 hD3, ((hT1.zfr vf).trans hZ2).trans (hT3.zfr vf2)⟩

end Go.Proofs.Ytadhimimdmoodaa
