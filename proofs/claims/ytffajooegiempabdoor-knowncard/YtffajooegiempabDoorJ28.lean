import Derived.Test.YtffajooegiempabDoorJ27
/- If there is a certificate, the search finds one. No Go in here. -/
namespace Go.Proofs.YtffajooegiempabDoor
variable {F : List Ds} {L : List (Option (List Int))}

abbrev at_ (s : SS) (i : Nat) : Pl := s.1.getD i p0
/-- What is claimed lies in a certificate. -/
def AbS (L : List (Option (List Int))) (s : SS) : Prop := ∀ i, wiB (at_ s i).e (cE (L.getD i none)) (at_ s i).M (cM (L.getD i none)) = true
theorem ab_set {s : SS} (h : AbS L s) (k : Nat) {p : Pl} (hp : wiB p.e (cE (L.getD k none)) p.M (cM (L.getD k none)) = true) (b : Bool) : AbS L (s.1.set k p, b) := by
  intro i
  show wiB ((s.1.set k p).getD i p0).e _ ((s.1.set k p).getD i p0).M _ = true
  rcases Nat.lt_or_ge k s.1.length with q | q
  · rw [plset_at q]
    by_cases e : i = k
    · rw [if_pos e, e]; exact hp
    · rw [if_neg e]; exact h i
  · rw [List.set_eq_of_length_le q]; exact h i
theorem clm_ab {s : SS} (h : AbS L s) (pt : Int) {e : Bool} {M : Nat → Int} (hM : wiB e (cE (atL L pt)) M (cM (atL L pt)) = true) : AbS L (clmS s pt e M) := by
  unfold clmS
  split
  · exact h
  · rename_i hp
    split
    · exact h
    · rename_i q
      have hpt : atL L pt = L.getD pt.toNat none := by unfold atL; rw [if_neg (by omega)]
      rw [hpt] at hM
      have he : e = false := by
        cases e with
        | false => rfl
        | true => exact absurd rfl q
      subst he
      refine ab_set h _ ?_ true
      obtain ⟨_, m2, m3⟩ := (wi_iff.1 hM).resolve_left (by decide)
      have hk := h pt.toNat
      show wiB (joE (at_ s pt.toNat).e false) _ (joM (at_ s pt.toNat).e false (at_ s pt.toNat).M M) _ = true
      cases hh : (at_ s pt.toNat).e with
      | true => exact hM
      | false =>
        rw [hh] at hk
        obtain ⟨_, k2, k3⟩ := (wi_iff.1 hk).resolve_left (by decide)
        refine wi_iff.2 (.inr ⟨rfl, k2, fun a ha => ?_⟩)
        show jF (at_ s pt.toNat).M M 64 a ≤ _
        rcases (jF_mx (at_ s pt.toNat).M M ha).1 with z | z <;> rw [z]
        · exact k3 a ha
        · exact m3 a ha
/-- Of a point that lies in a certificate: nothing goes wrong there, and what comes out of it lies in it too. -/
theorem ab_says (hC : CertOk F L) (hD : ∀ k, k < F.length → DQ (F.getD k (newDs 0 0))) {p : Pl} (hp : PlOk p) {k : Nat} (hk : k < F.length) (h : wiB p.e (cE (L.getD k none)) p.M (cM (L.getD k none)) = true) :
    sfP p.e p.M (F.getD k (newDs 0 0)) = true ∧ ∀ way : Nat, (way : Int) < waysP (F.getD k (newDs 0 0)).kind → wiB (poE p.e p.M (F.getD k (newDs 0 0)) way) (cE (atL L (nextP F k way).1)) (poM p.e p.M (F.getD k (newDs 0 0)) way) (cM (atL L (nextP F k way).1)) = true := by
  have hx := hD k hk
  have hs := hC.says hk
  have hat : atL L (k : Int) = L.getD k none := by unfold atL; rw [if_neg (by omega), Int.toNat_natCast]
  rcases hp with ⟨h1, h2⟩ | ⟨h1, h2⟩
  · rw [h1] at h ⊢
    obtain ⟨_, k2, k3⟩ := (wi_iff.1 h).resolve_left (by decide)
    have hT : TQ (cM (L.getD k none)) := c_tq (getD_ok hC.ok k) k2
    rw [hat, k2] at hs
    refine ⟨sf_mono k3 hT.tc.hi hx hs.1, fun way hw => ?_⟩
    cases hpe : poE false p.M (F.getD k (newDs 0 0)) way with
    | true => exact wi_iff.2 (.inl rfl)
    | false =>
      obtain ⟨a, b⟩ := po_mono h2 hT k3 hx way hpe
      have hy := hs.2 way hw
      unfold wayP at hy
      rw [hat, k2, a] at hy
      obtain ⟨_, c, d⟩ := (wi_iff.1 hy).resolve_left (by decide)
      exact wi_iff.2 (.inr ⟨rfl, c, b.trans d⟩)
  · rw [h1]
    exact ⟨rfl, fun way _ => wi_iff.2 (.inl rfl)⟩
theorem wys_ab (hC : CertOk F L) (hD : ∀ k, k < F.length → DQ (F.getD k (newDs 0 0))) {s : SS} (h : AbS L s) {p : Pl} (hp : PlOk p) {k : Nat} (hk : k < F.length) (hw : wiB p.e (cE (L.getD k none)) p.M (cM (L.getD k none)) = true) : ∀ n : Nat, (n : Int) ≤ waysP (F.getD k (newDs 0 0)).kind → AbS L (wysS F k p.e p.M s n)
  | 0, _ => h
  | n + 1, hn => clm_ab (wys_ab hC hD h hp hk hw n (by omega)) _ ((ab_says hC hD hp hk hw).2 n (by omega))
theorem flw_ab (hC : CertOk F L) (hD : ∀ k, k < F.length → DQ (F.getD k (newDs 0 0))) {s : SS} (h : AbS L s) {p : Pl} (hp : PlOk p) {k : Nat} (hw : wiB p.e (cE (L.getD k none)) p.M (cM (L.getD k none)) = true) : AbS L (flwS F k p.e p.M s) := by
  unfold flwS
  split
  · rename_i q
    split
    · have := ways_rng (F.getD k (newDs 0 0)).kind
      exact wys_ab hC hD h hp q hw _ (by omega)
    · exact h
  · exact h
theorem pnt_ab (hC : CertOk F L) (hD : ∀ k, k < F.length → DQ (F.getD k (newDs 0 0))) {s : SS} (h : AbS L s) (hg : GoodS s) (k : Nat) : AbS L (pntS F k s) := by
  unfold pntS
  split
  · exact flw_ab hC hD (ab_set h k (p := ⟨(at_ s k).e, (at_ s k).M, false⟩) (h k) _) (hg k) (h k)
  · exact h
theorem rnd_ab (hC : CertOk F L) (hD : ∀ k, k < F.length → DQ (F.getD k (newDs 0 0))) {s : SS} (h : AbS L s) (hg : GoodS s) : ∀ n, AbS L (rndS F s n)
  | 0 => h
  | n + 1 => pnt_ab hC hD (rnd_ab hC hD h hg n) (rnd_good hg hD n) n
theorem beg_ab (hC : CertOk F L) (n : Nat) : AbS L (begS n) := by
  refine clm_ab (fun i => ?_) 0 hC.st
  have : at_ (List.replicate (n + 1) p0, false) i = p0 := by
    show (List.replicate (n + 1) p0).getD i p0 = p0
    rw [List.getD_eq_getElem?_getD, List.getElem?_replicate]
    split <;> rfl
  rw [this]
  exact wi_iff.2 (.inl rfl)

/-- What grows waits. -/
def GrS (s s' : SS) : Prop := s'.1.length = s.1.length ∧ ∀ i, at_ s' i = at_ s i ∨ ((at_ s' i).wt = true ∧ wiB (at_ s i).e (at_ s' i).e (at_ s i).M (at_ s' i).M = true)
theorem GrS.in_ {s s' : SS} (h : GrS s s') (i : Nat) : wiB (at_ s i).e (at_ s' i).e (at_ s i).M (at_ s' i).M = true := by
  rcases h.2 i with q | q
  · rw [q]; exact wi_refl _ _
  · exact q.2
theorem GrS.refl (s : SS) : GrS s s := ⟨rfl, fun _ => .inl rfl⟩
theorem GrS.trans {s t u : SS} (h : GrS s t) (k : GrS t u) : GrS s u := by
  refine ⟨k.1.trans h.1, fun i => ?_⟩
  rcases k.2 i with q | q
  · rcases h.2 i with r | r
    · exact .inl (q.trans r)
    · exact .inr (by rw [q]; exact r)
  · exact .inr ⟨q.1, wi_trans (h.in_ i) q.2⟩
theorem clm_gr (s : SS) (pt : Int) (e : Bool) (M : Nat → Int) : GrS s (clmS s pt e M) := by
  refine ⟨clmS_len s pt e M, fun i => ?_⟩
  unfold clmS
  split
  · exact .inl rfl
  · rename_i hp
    split
    · exact .inl rfl
    · rename_i q
      have hk : pt.toNat < s.1.length := by omega
      show (s.1.set pt.toNat _).getD i p0 = _ ∨ ((s.1.set pt.toNat _).getD i p0).wt = true ∧ wiB _ ((s.1.set pt.toNat _).getD i p0).e _ ((s.1.set pt.toNat _).getD i p0).M = true
      rw [plset_at hk]
      by_cases c : i = pt.toNat
      · rw [if_pos c, c]
        refine .inr ⟨rfl, ?_⟩
        have he : e = false := by
          cases e with
          | false => rfl
          | true => exact absurd rfl q
        subst he
        show wiB (at_ s pt.toNat).e (joE (at_ s pt.toNat).e false) (at_ s pt.toNat).M (joM (at_ s pt.toNat).e false (at_ s pt.toNat).M M) = true
        cases hh : (at_ s pt.toNat).e with
        | true => exact wi_iff.2 (.inl rfl)
        | false => exact wi_iff.2 (.inr ⟨rfl, rfl, fun a ha => (jF_mx (at_ s pt.toNat).M M ha).2.1⟩)
      · rw [if_neg c]; exact .inl rfl
/-- What is claimed is claimed. -/
theorem clm_in {s : SS} {pt : Int} (h0 : 0 ≤ pt) (h1 : pt < s.1.length) (e : Bool) (M : Nat → Int) : wiB e (at_ (clmS s pt e M) pt.toNat).e M (at_ (clmS s pt e M) pt.toNat).M = true := by
  unfold clmS
  rw [if_neg (by omega)]
  split
  · rename_i q; exact q
  · rename_i q
    have hk : pt.toNat < s.1.length := by omega
    show wiB e ((s.1.set pt.toNat _).getD pt.toNat p0).e M ((s.1.set pt.toNat _).getD pt.toNat p0).M = true
    rw [plset_at hk, if_pos rfl]
    have he : e = false := by
      cases e with
      | false => rfl
      | true => exact absurd rfl q
    subst he
    show wiB false (joE (at_ s pt.toNat).e false) M (joM (at_ s pt.toNat).e false (at_ s pt.toNat).M M) = true
    cases hh : (at_ s pt.toNat).e with
    | true => exact wi_refl _ _
    | false => exact wi_iff.2 (.inr ⟨rfl, rfl, fun a ha => (jF_mx (at_ s pt.toNat).M M ha).2.2⟩)
theorem wys_gr (F : List Ds) (k : Nat) (e : Bool) (M : Nat → Int) (s : SS) : ∀ n, GrS s (wysS F k e M s n)
  | 0 => GrS.refl s
  | n + 1 => (wys_gr F k e M s n).trans (clm_gr _ _ _ _)
/-- All ways of a point lead into what is claimed. -/
def ClW (F : List Ds) (s : SS) (k : Nat) (p : Pl) (n : Nat) : Prop := ∀ way : Nat, way < n → wiB (poE p.e p.M (F.getD k (newDs 0 0)) way) (at_ s (nextP F k way).1.toNat).e (poM p.e p.M (F.getD k (newDs 0 0)) way) (at_ s (nextP F k way).1.toNat).M = true
theorem ClW.gr {s s' : SS} {k n : Nat} {p : Pl} (h : ClW F s k p n) (hg : GrS s s') : ClW F s' k p n := fun way hw => wi_trans (h way hw) (hg.in_ _)
theorem wys_cl {s : SS} (hl : s.1.length = F.length + 1) {k : Nat} (hk : k < F.length) (p : Pl) : ∀ n : Nat, (n : Int) ≤ waysP (F.getD k (newDs 0 0)).kind → ClW F (wysS F k p.e p.M s n) k p n
  | 0, _ => fun way hw => absurd hw (by omega)
  | n + 1, hn => by
    intro way hw
    have ih := wys_cl hl hk p n (by omega)
    rcases Nat.lt_or_eq_of_le (Nat.lt_succ_iff.1 hw) with q | q
    · exact wi_trans (ih way q) ((clm_gr _ _ _ _).in_ _)
    · subst q
      have hi := nextP_in (F := F) k way (next_z F k hk way (by omega))
      exact clm_in hi.1 (by rw [wysS_len, hl]; omega) _ _
def WyS (F : List Ds) (s : SS) : Prop := ∀ k, k < F.length → (at_ s k).wt = false → ClW F s k (at_ s k) (waysP (F.getD k (newDs 0 0)).kind).toNat
theorem WyS.gr {s s' : SS} (h : WyS F s) (hg : GrS s s') : WyS F s' := by
  intro k hk hw
  rcases hg.2 k with q | q
  · rw [q] at hw ⊢
    exact (h k hk hw).gr hg
  · rw [q.1] at hw; cases hw
theorem pnt_wy (hC : CertOk F L) (hD : ∀ k, k < F.length → DQ (F.getD k (newDs 0 0))) {s : SS} (hl : s.1.length = F.length + 1) (h : WyS F s) (ha : AbS L s) (hg : GoodS s) {k : Nat} (hkl : k < s.1.length) : WyS F (pntS F k s) := by
  unfold pntS
  split
  · rename_i hwt
    have e1 : ∀ i, at_ (s.1.set k ⟨(at_ s k).e, (at_ s k).M, false⟩, s.2) i = if i = k then ⟨(at_ s k).e, (at_ s k).M, false⟩ else at_ s i := fun i => plset_at hkl i _
    have em : ∀ i, (at_ (s.1.set k ⟨(at_ s k).e, (at_ s k).M, false⟩, s.2) i).e = (at_ s i).e ∧ (at_ (s.1.set k ⟨(at_ s k).e, (at_ s k).M, false⟩, s.2) i).M = (at_ s i).M := fun i => by
      rw [e1]
      by_cases c : i = k
      · rw [if_pos c, c]; exact ⟨rfl, rfl⟩
      · rw [if_neg c]; exact ⟨rfl, rfl⟩
    have others : ∀ j, j ≠ k → j < F.length → (at_ (s.1.set k ⟨(at_ s k).e, (at_ s k).M, false⟩, s.2) j).wt = false → ClW F (s.1.set k ⟨(at_ s k).e, (at_ s k).M, false⟩, s.2) j (at_ (s.1.set k ⟨(at_ s k).e, (at_ s k).M, false⟩, s.2) j) (waysP (F.getD j (newDs 0 0)).kind).toNat := by
      intro j hj hjl hw
      rw [e1, if_neg hj] at hw ⊢
      intro way hway
      have := h j hjl hw way hway
      rw [(em _).1, (em _).2]
      exact this
    by_cases hk : k < F.length
    · have hs := (ab_says hC hD (hg k) hk (ha k)).1
      have wr := ways_rng (F.getD k (newDs 0 0)).kind
      have ef : flwS F k (at_ s k).e (at_ s k).M (s.1.set k ⟨(at_ s k).e, (at_ s k).M, false⟩, s.2) = wysS F k (at_ s k).e (at_ s k).M (s.1.set k ⟨(at_ s k).e, (at_ s k).M, false⟩, s.2) (waysP (F.getD k (newDs 0 0)).kind).toNat := by
        unfold flwS
        rw [if_pos hk, if_pos hs]
      show WyS F (flwS F k (at_ s k).e (at_ s k).M (s.1.set k ⟨(at_ s k).e, (at_ s k).M, false⟩, s.2))
      rw [ef]
      have gr := wys_gr F k (at_ s k).e (at_ s k).M (s.1.set k ⟨(at_ s k).e, (at_ s k).M, false⟩, s.2) (waysP (F.getD k (newDs 0 0)).kind).toNat
      intro j hjl hw
      rcases gr.2 j with q | q
      · by_cases c : j = k
        · subst c
          rw [q, e1, if_pos rfl]
          exact wys_cl (s := (s.1.set j ⟨(at_ s j).e, (at_ s j).M, false⟩, s.2)) (by simpa using hl) hk ⟨(at_ s j).e, (at_ s j).M, false⟩ _ (by omega)
        · rw [q] at hw ⊢
          exact (others j c hjl hw).gr gr
      · rw [q.1] at hw; cases hw
    · have ef : flwS F k (at_ s k).e (at_ s k).M (s.1.set k ⟨(at_ s k).e, (at_ s k).M, false⟩, s.2) = (s.1.set k ⟨(at_ s k).e, (at_ s k).M, false⟩, s.2) := by
        unfold flwS
        rw [if_neg hk]
      show WyS F (flwS F k (at_ s k).e (at_ s k).M (s.1.set k ⟨(at_ s k).e, (at_ s k).M, false⟩, s.2))
      rw [ef]
      intro j hjl hw
      exact others j (by omega) hjl hw
  · exact h
theorem rnd_wy (hC : CertOk F L) (hD : ∀ k, k < F.length → DQ (F.getD k (newDs 0 0))) {s : SS} (hl : s.1.length = F.length + 1) (h : WyS F s) (ha : AbS L s) (hg : GoodS s) : ∀ n, n ≤ s.1.length → WyS F (rndS F s n)
  | 0, _ => h
  | n + 1, hn => pnt_wy hC hD (by rw [rndS_len]; exact hl) (rnd_wy hC hD hl h ha hg n (by omega)) (rnd_ab hC hD ha hg n) (rnd_good hg hD n) (by rw [rndS_len]; omega)

/-- A round in which nothing grows leaves no point waiting. -/
theorem clm_no {s : SS} {pt : Int} {e : Bool} {M : Nat → Int} (h : (clmS s pt e M).2 = false) : clmS s pt e M = s := by
  unfold clmS at *
  split at h
  · rename_i q; rw [if_pos q]
  · rename_i q
    rw [if_neg q]
    split at h
    · rename_i r; rw [if_pos r]
    · cases h
theorem wys_no {k : Nat} {e : Bool} {M : Nat → Int} {s : SS} : ∀ n, (wysS F k e M s n).2 = false → wysS F k e M s n = s
  | 0, _ => rfl
  | n + 1, h => by
    have h1 := clm_no h
    have h2 : (wysS F k e M s n).2 = false := by rw [← h1]; exact h
    exact h1.trans (wys_no n h2)
theorem flw_no {k : Nat} {e : Bool} {M : Nat → Int} {s : SS} (h : (flwS F k e M s).2 = false) : flwS F k e M s = s := by
  unfold flwS at *
  split
  · rename_i q
    rw [if_pos q] at h
    split
    · rename_i r
      rw [if_pos r] at h
      exact wys_no _ h
    · rfl
  · rfl
theorem pnt_no {k : Nat} {s : SS} (hk : k < s.1.length) (h : (pntS F k s).2 = false) : s.2 = false ∧ (at_ (pntS F k s) k).wt = false ∧ ∀ i, i ≠ k → at_ (pntS F k s) i = at_ s i := by
  unfold pntS at *
  split
  · rename_i q
    rw [if_pos q] at h
    have e := flw_no h
    rw [e] at h ⊢
    refine ⟨h, ?_, fun i hi => ?_⟩
    · show ((s.1.set k _).getD k p0).wt = false
      rw [plset_at hk, if_pos rfl]
    · show (s.1.set k _).getD i p0 = _
      rw [plset_at hk, if_neg hi]
  · rename_i q
    rw [if_neg q] at h
    exact ⟨h, by simpa using q, fun _ _ => rfl⟩
theorem rnd_no {s : SS} : ∀ n, n ≤ s.1.length → (rndS F s n).2 = false → ∀ i, i < n → (at_ (rndS F s n) i).wt = false
  | 0, _, _ => fun i hi => absurd hi (by omega)
  | n + 1, hn, h => by
    intro i hi
    have h1 := pnt_no (F := F) (k := n) (s := rndS F s n) (by rw [rndS_len]; omega) h
    rcases Nat.lt_or_eq_of_le (Nat.lt_succ_iff.1 hi) with q | q
    · have := rnd_no n (by omega) h1.1 i q
      rw [show rndS F s (n + 1) = pntS F n (rndS F s n) from rfl, h1.2.2 i (by omega)]
      exact this
    · rw [q]; exact h1.2.1

end Go.Proofs.YtffajooegiempabDoor

/- If there is a certificate, the search finds one: it comes to an end, and what it claims then is one. No Go in here. -/
namespace Go.Proofs.YtffajooegiempabDoor
variable {F : List Ds} {L : List (Option (List Int))} {M N : Nat → Int}

def s32 (M : Nat → Int) : Nat → Nat
  | 0 => 0
  | f + 1 => s32 M f + (M (fs f * 8 + ss f) + 1998).toNat
theorem fs_64 {f : Nat} (hf : f < 32) : fs f * 8 + ss f < 64 := by have := fs_lt f hf; have := ss_lt f hf; omega
theorem s32_le (h : Wn M) : ∀ n, n ≤ 32 → s32 M n ≤ 3996 * n
  | 0, _ => Nat.zero_le _
  | n + 1, hn => by
    have := s32_le h n (by omega)
    have := h.all (fs_64 (f := n) (by omega))
    rw [s32]
    omega
theorem s32_mono (h : Le M N) : ∀ n, n ≤ 32 → s32 M n ≤ s32 N n
  | 0, _ => Nat.le_refl _
  | n + 1, hn => by
    have := s32_mono h n (by omega)
    have := h _ (fs_64 (f := n) (by omega))
    rw [s32, s32]
    omega
theorem s32_lt (h : Le M N) (hM : Wn M) {f : Nat} (hf : f < 32) (hlt : M (fs f * 8 + ss f) < N (fs f * 8 + ss f)) : ∀ n, n ≤ 32 → f < n → s32 M n + 1 ≤ s32 N n
  | 0, _, h0 => absurd h0 (by omega)
  | n + 1, hn, hfn => by
    have lo := hM.all (fs_64 (f := n) (by omega))
    have le := h _ (fs_64 (f := n) (by omega))
    rw [s32, s32]
    rcases Nat.lt_or_eq_of_le (Nat.lt_succ_iff.1 hfn) with q | q
    · have := s32_lt h hM hf hlt n (by omega) q
      omega
    · subst q
      have := s32_mono h f (by omega)
      omega
def muP (p : Pl) : Nat := if p.e = true then 0 else 1 + s32 p.M 32
def muS (l : List Pl) : Nat := (l.map muP).sum
theorem mu_set : ∀ (l : List Pl) (k : Nat), k < l.length → ∀ p, muS (l.set k p) + muP (l.getD k p0) = muS l + muP p
  | [], k, h, _ => absurd h (by simp)
  | a :: l, 0, _, p => by simp [muS, List.getD]; omega
  | a :: l, k + 1, h, p => by
    have := mu_set l k (by simpa using h) p
    simp [muS, List.getD] at this ⊢
    omega
theorem muP_le {p : Pl} (h : PlOk p) : muP p ≤ 127873 := by
  unfold muP
  rcases h with ⟨h1, h2⟩ | ⟨h1, _⟩
  · rw [if_neg (by rw [h1]; decide)]
    have := s32_le h2 32 (Nat.le_refl _)
    omega
  · rw [if_pos h1]; omega
theorem muS_le : ∀ (l : List Pl), (∀ i, PlOk (l.getD i p0)) → muS l ≤ 127873 * l.length
  | [], _ => Nat.zero_le _
  | a :: l, h => by
    have h1 := muP_le (h 0)
    have h2 := muS_le l (fun i => h (i + 1))
    have e : muS (a :: l) = muP a + muS l := by simp [muS]
    have h3 : muP a ≤ 127873 := h1
    rw [e, List.length_cons]
    omega
/-- Each claim that is not there yet lifts something. -/
theorem clm_mu {s : SS} (hg : GoodS s) (pt : Int) {e : Bool} {M : Nat → Int} (hM : e = false → Wn M) : clmS s pt e M = s ∨ (muS s.1 + 1 ≤ muS (clmS s pt e M).1 ∧ (clmS s pt e M).2 = true) := by
  unfold clmS
  split
  · exact .inl rfl
  · rename_i hp
    split
    · exact .inl rfl
    · rename_i q
      right
      refine ⟨?_, rfl⟩
      have hk : pt.toNat < s.1.length := by omega
      have he : e = false := by
        cases e with
        | false => rfl
        | true => exact absurd rfl q
      subst he
      have hw := hM rfl
      have h1 := mu_set s.1 pt.toNat hk ⟨joE (s.1.getD pt.toNat p0).e false, joM (s.1.getD pt.toNat p0).e false (s.1.getD pt.toNat p0).M M, true⟩
      have key : muP (s.1.getD pt.toNat p0) + 1 ≤ muP ⟨joE (s.1.getD pt.toNat p0).e false, joM (s.1.getD pt.toNat p0).e false (s.1.getD pt.toNat p0).M M, true⟩ := by
        rcases hg pt.toNat with ⟨g1, g2⟩ | ⟨g1, g2⟩
        · rw [g1] at q ⊢
          have hno : ¬ Le M (s.1.getD pt.toNat p0).M := fun z => q (wi_iff.2 (.inr ⟨rfl, rfl, z⟩))
          have hex : ∃ f, f < 32 ∧ (s.1.getD pt.toNat p0).M (fs f * 8 + ss f) < M (fs f * 8 + ss f) := by
            refine Classical.byContradiction fun hn => hno fun a ha => ?_
            have e : a = a / 8 * 8 + a % 8 := by omega
            have hi : a / 8 < 8 := by omega
            have hj : a % 8 < 8 := by omega
            rw [e]
            generalize a / 8 = i at hi
            generalize a % 8 = j at hj
            by_cases o : j = opp i
            · rw [o, hw.tc.zero i hi, g2.tc.zero i hi]; exact Int.le_refl _
            · obtain ⟨f1, f2⟩ := nf_ok i hi j hj o
              have : ¬ (s.1.getD pt.toNat p0).M (fs (nf i j) * 8 + ss (nf i j)) < M (fs (nf i j) * 8 + ss (nf i j)) := fun z => hn ⟨_, f1, z⟩
              rcases f2 with ⟨z1, z2⟩ | ⟨z1, z2⟩
              · rw [z1, z2] at this; omega
              · rw [z1, z2, hw.tc.sym j i hj hi, g2.tc.sym j i hj hi] at this; omega
          obtain ⟨f, hf, hlt⟩ := hex
          have hle : Le (s.1.getD pt.toNat p0).M (jF (s.1.getD pt.toNat p0).M M 64) := fun a ha => (jF_mx _ M ha).2.1
          have h2 := (jF_mx (s.1.getD pt.toNat p0).M M (fs_64 hf)).2.2
          have := s32_lt hle g2 hf (by omega) 32 (Nat.le_refl _) hf
          have e1 : muP (s.1.getD pt.toNat p0) = 1 + s32 (s.1.getD pt.toNat p0).M 32 := by unfold muP; rw [if_neg (by rw [g1]; decide)]
          have e2 : muP ⟨joE false false, joM false false (s.1.getD pt.toNat p0).M M, true⟩ = 1 + s32 (jF (s.1.getD pt.toNat p0).M M 64) 32 := rfl
          rw [e1, e2]
          omega
        · have e1 : muP (s.1.getD pt.toNat p0) = 0 := by unfold muP; rw [if_pos g1]
          rw [e1, g1]
          have e2 : muP ⟨joE true false, joM true false (s.1.getD pt.toNat p0).M M, true⟩ = 1 + s32 M 32 := rfl
          rw [e2]
          omega
      show muS s.1 + 1 ≤ muS (s.1.set pt.toNat _)
      omega
/-- A state behind another: nothing is lost, and where something was found something was lifted. -/
def UpS (s t : SS) : Prop := muS s.1 ≤ muS t.1 ∧ (t.2 = true → s.2 = true ∨ muS s.1 + 1 ≤ muS t.1)
theorem UpS.refl (s : SS) : UpS s s := ⟨Nat.le_refl _, fun h => .inl h⟩
theorem UpS.trans {s t u : SS} (h : UpS s t) (k : UpS t u) : UpS s u := by
  refine ⟨Nat.le_trans h.1 k.1, fun hu => ?_⟩
  have := h.1
  have := k.1
  rcases k.2 hu with q | q
  · rcases h.2 q with r | r
    · exact .inl r
    · exact .inr (by omega)
  · exact .inr (by omega)
theorem clm_up {s : SS} (hg : GoodS s) (pt : Int) {e : Bool} {M : Nat → Int} (hM : e = false → Wn M) : UpS s (clmS s pt e M) := by
  rcases clm_mu hg pt hM with q | q
  · rw [q]; exact UpS.refl s
  · exact ⟨by omega, fun _ => .inr q.1⟩
theorem wys_up {s : SS} (h : GoodS s) {k : Nat} (hx : DQ (F.getD k (newDs 0 0))) {e : Bool} {M : Nat → Int} (hM : e = false → Wn M) (hs : sfP e M (F.getD k (newDs 0 0)) = true) : ∀ n, UpS s (wysS F k e M s n)
  | 0 => UpS.refl s
  | n + 1 => by
    refine (wys_up h hx hM hs n).trans (clm_up (wys_good h hx hM hs n) _ fun he => ?_)
    cases e with
    | true => cases he
    | false => exact wn_post (hM rfl) hx hs n he
theorem flw_up {s : SS} (h : GoodS s) {k : Nat} (hx : k < F.length → DQ (F.getD k (newDs 0 0))) {e : Bool} {M : Nat → Int} (hM : e = false → Wn M) : UpS s (flwS F k e M s) := by
  unfold flwS
  split
  · rename_i q
    split
    · rename_i hs
      exact wys_up h (hx q) hM hs _
    · exact UpS.refl s
  · exact UpS.refl s
theorem pnt_up {s : SS} (h : GoodS s) {k : Nat} (hk : k < s.1.length) (hx : k < F.length → DQ (F.getD k (newDs 0 0))) : UpS s (pntS F k s) := by
  unfold pntS
  split
  · have h1 := mu_set s.1 k hk ⟨(s.1.getD k p0).e, (s.1.getD k p0).M, false⟩
    have e : muP ⟨(s.1.getD k p0).e, (s.1.getD k p0).M, false⟩ = muP (s.1.getD k p0) := rfl
    have h2 : UpS s (s.1.set k ⟨(s.1.getD k p0).e, (s.1.getD k p0).M, false⟩, s.2) := ⟨by show muS s.1 ≤ muS (s.1.set k _); omega, fun z => .inl z⟩
    refine h2.trans (flw_up (good_set h _ ?_ _) hx ?_)
    · rcases h k with q | q
      · exact .inl q
      · exact .inr q
    · intro he
      rcases h k with q | q
      · exact q.2
      · rw [q.1] at he; cases he
  · exact UpS.refl s
theorem rnd_up {s : SS} (h : GoodS s) (hx : ∀ k, k < F.length → DQ (F.getD k (newDs 0 0))) : ∀ n, n ≤ s.1.length → UpS (s.1, false) (rndS F s n)
  | 0, _ => UpS.refl _
  | n + 1, hn => (rnd_up h hx n (by omega)).trans (pnt_up (rnd_good h hx n) (by rw [rndS_len]; omega) (hx n))
theorem it_up (hx : ∀ k, k < F.length → DQ (F.getD k (newDs 0 0))) : ∀ r {s : SS}, GoodS s → (itS F r s).2 = false ∨ muS s.1 + r ≤ muS (itS F r s).1
  | 0, s, _ => .inr (Nat.le_refl _)
  | r + 1, s, h => by
    rw [itS]
    split
    · have h1 := rnd_up h hx s.1.length (Nat.le_refl _)
      have hg := rnd_good h hx (n := s.1.length)
      cases ht : (rndS F s s.1.length).2 with
      | false => left; rw [it_stop F r ht]; exact ht
      | true =>
        have h2 := (h1.2 ht).resolve_left (fun z => Bool.noConfusion z)
        rcases it_up hx r hg with q | q
        · exact .inl q
        · right
          have h3 : muS s.1 + 1 ≤ muS (rndS F s s.1.length).1 := h2
          omega
    · rename_i q
      left
      simpa using q
/-- The search comes to its end. -/
theorem fin_stop (hx : ∀ k, k < F.length → DQ (F.getD k (newDs 0 0))) (hl : F.length ≤ 20) : (finS F).2 = false := by
  rcases it_up hx 2685334 (beg_good F.length) with q | q
  · exact q
  · exfalso
    have h1 := muS_le (finS F).1 (fin_good hx)
    rw [fin_len] at h1
    have h2 : muS (begS F.length).1 + 2685334 ≤ muS (finS F).1 := q
    omega

/-- What stands at the end. -/
structure EndS (F : List Ds) (L : List (Option (List Int))) (s : SS) : Prop where
  len : s.1.length = F.length + 1
  good : GoodS s
  ab : AbS L s
  wy : WyS F s
  no : s.2 = false → ∀ i, i < F.length → (at_ s i).wt = false
  or_ : wiB false (at_ s 0).e (fun _ => 0) (at_ s 0).M = true
theorem set_in {s : SS} {k : Nat} (hk : k < s.1.length) (b : Bool) (i : Nat) : wiB (at_ s i).e (at_ (s.1.set k ⟨(at_ s k).e, (at_ s k).M, b⟩, s.2) i).e (at_ s i).M (at_ (s.1.set k ⟨(at_ s k).e, (at_ s k).M, b⟩, s.2) i).M = true := by
  show wiB (at_ s i).e ((s.1.set k _).getD i p0).e (at_ s i).M ((s.1.set k _).getD i p0).M = true
  rw [plset_at hk]
  by_cases c : i = k
  · rw [if_pos c, c]; exact wi_refl _ _
  · rw [if_neg c]; exact wi_refl _ _
theorem flw_gr (F : List Ds) (k : Nat) (e : Bool) (M : Nat → Int) (s : SS) : GrS s (flwS F k e M s) := by
  unfold flwS
  split
  · split
    · exact wys_gr F k e M s _
    · exact GrS.refl s
  · exact GrS.refl s
theorem pnt_in {s : SS} {k : Nat} (hk : k < s.1.length) (i : Nat) : wiB (at_ s i).e (at_ (pntS F k s) i).e (at_ s i).M (at_ (pntS F k s) i).M = true := by
  unfold pntS
  split
  · exact wi_trans (set_in hk false i) ((flw_gr F k _ _ _).in_ i)
  · exact wi_refl _ _
theorem rnd_in {s : SS} (i : Nat) : ∀ n, n ≤ s.1.length → wiB (at_ s i).e (at_ (rndS F s n) i).e (at_ s i).M (at_ (rndS F s n) i).M = true
  | 0, _ => wi_refl _ _
  | n + 1, hn => wi_trans (rnd_in i n (by omega)) (pnt_in (by rw [rndS_len]; omega) i)
theorem end_it (hC : CertOk F L) (hD : ∀ k, k < F.length → DQ (F.getD k (newDs 0 0))) : ∀ r {s : SS}, EndS F L s → EndS F L (itS F r s)
  | 0, _, h => h
  | r + 1, s, h => by
    rw [itS]
    split
    · exact end_it hC hD r ⟨by rw [rndS_len]; exact h.len, rnd_good h.good hD _, rnd_ab hC hD h.ab h.good _, rnd_wy hC hD h.len h.wy h.ab h.good _ (Nat.le_refl _), fun z i hi => rnd_no _ (Nat.le_refl _) z i (by rw [h.len]; omega), wi_trans h.or_ (rnd_in 0 _ (Nat.le_refl _))⟩
    · exact h
theorem end_beg (hC : CertOk F L) : EndS F L (begS F.length) := by
  have hrep : ∀ i, at_ (List.replicate (F.length + 1) p0, false) i = p0 := fun i => by
    show (List.replicate (F.length + 1) p0).getD i p0 = p0
    rw [List.getD_eq_getElem?_getD, List.getElem?_replicate]
    split <;> rfl
  have hor := clm_in (s := (List.replicate (F.length + 1) p0, false)) (pt := 0) (by decide) (by simp) false (fun _ => 0)
  have h2 : (begS F.length).2 = true := by
    rcases clm_mu (s := (List.replicate (F.length + 1) p0, false)) (fun i => by rw [show (List.replicate (F.length + 1) p0, false).1.getD i p0 = p0 from hrep i]; exact PlOk.p0) 0 (e := false) (M := fun _ => 0) (fun _ => wn_zero) with q | q
    · exfalso
      rw [q, show (0 : Int).toNat = 0 from rfl, hrep 0] at hor
      cases hor
    · exact q.2
  refine ⟨beg_len _, beg_good _, beg_ab hC _, ?_, fun z => ?_, hor⟩
  · refine WyS.gr (s := (List.replicate (F.length + 1) p0, false)) (fun k _ _ => ?_) (clm_gr _ _ _ _)
    rw [hrep k]
    exact fun way _ => wi_iff.2 (.inl rfl)
  · rw [h2] at z; cases z
/-- The list of a closed octagon, read: the same octagon. -/
theorem ls_same (h : Wn M) : ovE (bdL M) = false ∧ Le M (ovM (bdL M)) ∧ Le (ovM (bdL M)) M := by
  have hok : okL (bdL M) := okp_ok (by
    intro l e
    cases e
    exact ⟨bdL_len _, fun f hf => by rw [bdL_getD _ hf]; exact bd_small h hf⟩)
  have up : Le M (ovM (bdL M)) := h.tc.below_sharp (lay_above h.tc hok (fun f hf => by rw [bdL_getD _ hf]; exact Int.le_refl _)) (lay_top hok)
  refine ⟨conF_no (fun i hi => ?_), up, fun a ha => Int.le_trans (sharp_le _ a) ?_⟩
  · have z := up (i * 8 + opp i) (by have := opp_lt hi; omega)
    rw [h.tc.zero i hi] at z
    exact z
  · have e : a = a / 8 * 8 + a % 8 := by omega
    have hi : a / 8 < 8 := by omega
    have hj : a % 8 < 8 := by omega
    rw [e]
    generalize a / 8 = i at hi
    generalize a % 8 = j at hj
    by_cases e1 : j = opp i
    · rw [e1, lay_opp (bdL M) i hi, h.tc.zero i hi]; exact Int.le_refl _
    · rw [lay_nf (bdL M) hi hj e1]
      by_cases e2 : i = j
      · subst e2
        rw [nf_self]
        have b := bv_lo (bdL M) hi
        have hb : (bdL M).getD i 0 = bd M i := bdL_getD M (by omega)
        have d := gr_diag h hi
        have e3 : bd M i = mo M i i := by
          obtain ⟨q1, q2⟩ := fs_lo i hi
          unfold bd mo
          rw [q1, q2]
        have al := h.all (k := i * 8 + i) (by omega)
        have hne : (bdL M).getD i 0 ≠ NB := by rw [hb, e3]; unfold NB; omega
        rw [b.2 hne, hb, e3]
        omega
      · rw [bv_hi (bdL M) hi hj e2 e1, bdL_getD M (nf_ok i hi j hj e1).1, bd_nf h.tc.sym hi hj e2 e1]
        exact Int.le_refl _
/-- If there is a certificate, what the search finds is one. -/
theorem complete (hC : CertOk F L) (hD : ∀ k, k < F.length → DQ (F.getD k (newDs 0 0))) (hl : F.length ≤ 20) : ∀ r, CertSays F (bytesOf (crtF F)) r → r = (0, 0) := by
  intro r h
  refine h.one ?_
  have hE : EndS F L (finS F) := end_it hC hD _ (end_beg hC)
  have hst := fin_stop hD hl
  have hok := lst_okp hD
  unfold CertSays
  rw [crt_dec hD hl]
  show (if (lstF F).length ≠ F.length + 1 then ((0 : Int), (0 : Int)) = (4, 0) else _)
  rw [if_neg (by rw [lst_len]; omega)]
  have hget : ∀ k : Nat, k < F.length + 1 → atL (lstF F) (k : Int) = lsP (at_ (finS F) k) := fun k hk => by
    unfold atL
    rw [if_neg (by omega), Int.toNat_natCast]
    have hk' : k < (finS F).1.length := by rw [hE.len]; exact hk
    unfold lstF
    simp [List.getD, hk']
  -- from a point of the search to what is read of its list
  have to : ∀ {e : Bool} {A : Nat → Int} {k : Nat}, k < F.length + 1 → wiB e (at_ (finS F) k).e A (at_ (finS F) k).M = true → wiB e (cE (atL (lstF F) (k : Int))) A (cM (atL (lstF F) (k : Int))) = true := fun {e A k} hk hw => by
    rw [hget k hk]
    rcases wi_iff.1 hw with q | ⟨q1, q2, q3⟩
    · exact wi_iff.2 (.inl q)
    · rcases hE.good k with ⟨g1, g2⟩ | ⟨g1, _⟩
      · have hs := ls_same g2
        have e1 : lsP (at_ (finS F) k) = some (bdL (at_ (finS F) k).M) := by unfold lsP; rw [if_neg (by rw [g1]; decide)]
        rw [e1]
        exact wi_iff.2 (.inr ⟨q1, hs.1, q3.trans hs.2.1⟩)
      · rw [g1] at q2; cases q2
  have h0 : wiB false (cE (atL (lstF F) 0)) (fun _ => 0) (cM (atL (lstF F) 0)) = true := to (k := 0) (by omega) hE.or_
  rw [h0, if_neg (by decide)]
  refine .inl ⟨fun k hk => ?_, rfl⟩
  have hx := hD k hk
  have hcl := hE.wy k hk (hE.no hst k hk)
  have hsay := (ab_says hC hD (hE.good k) hk (hE.ab k)).1
  unfold chkP
  have gk := hget k (by omega)
  rcases hE.good k with ⟨g1, g2⟩ | ⟨g1, _⟩
  · have hs := ls_same g2
    have e1 : lsP (at_ (finS F) k) = some (bdL (at_ (finS F) k).M) := by unfold lsP; rw [if_neg (by rw [g1]; decide)]
    have eE : cE (atL (lstF F) (k : Int)) = false := by rw [gk, e1]; exact hs.1
    have eM : cM (atL (lstF F) (k : Int)) = ovM (bdL (at_ (finS F) k).M) := by rw [gk, e1]; rfl
    have hT : TQ (cM (atL (lstF F) (k : Int))) := c_tq (atL_ok hok _) eE
    have hWn : Wn (cM (atL (lstF F) (k : Int))) := ⟨hT.tc, fun i hi => by
      rw [eM]
      exact Int.le_trans (hs.2.2 (i * 8 + i) (by omega)) (g2.box i hi)⟩
    have hle : Le (cM (atL (lstF F) (k : Int))) (at_ (finS F) k).M := by rw [eM]; exact hs.2.2
    rw [g1] at hsay
    have hsf : sfP (cE (atL (lstF F) (k : Int))) (cM (atL (lstF F) (k : Int))) (F.getD k (newDs 0 0)) = true := by rw [eE]; exact sf_mono hle g2.tc.hi hx hsay
    rw [hsf, if_neg (by decide), if_pos]
    have all : ∀ n, n ≤ (waysP (F.getD k (newDs 0 0)).kind).toNat → allN (wayP F (lstF F) k) n = true := by
      intro n
      induction n with
      | zero => intro _; rfl
      | succ n ih =>
        intro hn
        show (allN (wayP F (lstF F) k) n && wayP F (lstF F) k n) = true
        rw [ih (by omega), Bool.true_and]
        have hz := nextP_in (F := F) k n (next_z F k hk n (by omega))
        obtain ⟨q, hq⟩ : ∃ q : Nat, (nextP F k n).1 = (q : Int) := ⟨_, (Int.toNat_of_nonneg hz.1).symm⟩
        have hc := hcl n (by omega)
        rw [hq, Int.toNat_natCast, g1] at hc
        unfold wayP
        rw [hq, eE]
        refine to (by omega) ?_
        cases hpe : poE false (cM (atL (lstF F) (k : Int))) (F.getD k (newDs 0 0)) n with
        | true => exact wi_iff.2 (.inl rfl)
        | false =>
          obtain ⟨a, b⟩ := po_mono hWn g2.tq hle hx n hpe
          rw [a] at hc
          obtain ⟨_, c2, c3⟩ := (wi_iff.1 hc).resolve_left (by decide)
          exact wi_iff.2 (.inr ⟨rfl, c2, b.trans c3⟩)
    exact all _ (Nat.le_refl _)
  · have e1 : lsP (at_ (finS F) k) = none := by unfold lsP; rw [if_pos g1]
    rw [gk, e1]
    have e2 : sfP (cE none) (cM none) (F.getD k (newDs 0 0)) = true := rfl
    rw [e2, if_neg (by decide), if_pos]
    have all : ∀ n, allN (wayP F (lstF F) k) n = true := by
      intro n
      induction n with
      | zero => rfl
      | succ n ih =>
        show (allN (wayP F (lstF F) k) n && wayP F (lstF F) k n) = true
        rw [ih, Bool.true_and]
        unfold wayP
        rw [gk, e1]
        exact wi_iff.2 (.inl rfl)
    exact all _

end Go.Proofs.YtffajooegiempabDoor

