import Derived.Test.YtffajooegiempabDoorJ28
import Derived.Great.BuildSlice
import Derived.Test.YtffajooegiempabDoorTie
import Derived.Test.YtffajooegiempabDoorCards
import Derived.ProofKit
import Derived.LaidMore
import Derived.OpenShut
import Derived.Stop.Joined
import Derived.ChangeSlices
import Derived.Carry
import Derived.ChangeMaps5
/- A certificate of closed lists, held against a program cheaply. No Go in here. -/
namespace Go.Proofs.YtffajooegiempabDoor
variable {F : List Ds} {L : List (Option (List Int))} {M N U : Nat → Int}

/-- Told one by one, so that each is reckoned once. -/
def tabL (U : Nat → Int) : List Int := [U 0, U 1, U 2, U 3, U 4, U 5, U 6, U 7, U 8, U 9, U 10, U 11, U 12, U 13, U 14, U 15, U 16, U 17, U 18, U 19, U 20, U 21, U 22, U 23, U 24, U 25, U 26, U 27, U 28, U 29, U 30, U 31, U 32, U 33, U 34, U 35, U 36, U 37, U 38, U 39, U 40, U 41, U 42, U 43, U 44, U 45, U 46, U 47, U 48, U 49, U 50, U 51, U 52, U 53, U 54, U 55, U 56, U 57, U 58, U 59, U 60, U 61, U 62, U 63]
theorem tabL_eq (U : Nat → Int) : tabL U = (List.range 64).map U := rfl
def tbF (U : Nat → Int) (a : Nat) : Int := (tabL U).getD a 0
theorem tbF_at (U : Nat → Int) {a : Nat} (ha : a < 64) : tbF U a = U a := by
  unfold tbF
  rw [tabL_eq]
  simp [List.getD, ha]
theorem tbF_up (h : Le M U) : Le M (tbF U) := fun a ha => by rw [tbF_at U ha]; exact h a ha
/-- The octagon of a list without a gap. -/
def mmG (l : List Int) (a : Nat) : Int := if a % 8 = opp (a / 8) then 0 else if a / 8 = a % 8 then 2 * l.getD (a / 8) 0 else l.getD (nf (a / 8) (a % 8)) 0
def mmF (l : List Int) : Nat → Int := tbF (mmG l)
theorem lay_mm {l : List Int} (hn : ∀ f, f < 32 → l.getD f 0 ≠ NB) {a : Nat} (ha : a < 64) : lay l 32 a = mmF l a := by
  unfold mmF
  rw [tbF_at _ ha]
  have e : a = a / 8 * 8 + a % 8 := by omega
  have hi : a / 8 < 8 := by omega
  have hj : a % 8 < 8 := by omega
  unfold mmG
  rw [e]
  generalize a / 8 = i at hi
  generalize a % 8 = j at hj
  have e1 : (i * 8 + j) / 8 = i := by omega
  have e2 : (i * 8 + j) % 8 = j := by omega
  rw [e1, e2]
  by_cases o : j = opp i
  · rw [if_pos o, o, lay_opp l i hi]
  · rw [if_neg o, lay_nf l hi hj o]
    by_cases q : i = j
    · subst q
      rw [if_pos rfl, nf_self, (bv_lo l hi).2 (hn i (by omega))]
    · rw [if_neg q, bv_hi l hi hj q o]
/-- Is it closed, its variables from -999 to 999? -/
def wnB (M : Nat → Int) : Bool :=
  ((List.range 8).all fun k => (List.range 8).all fun i => (List.range 8).all fun j => decide (M (i * 8 + j) ≤ M (i * 8 + opp k) + M (k * 8 + j))) &&
  ((List.range 8).all fun i => decide (M (i * 8 + opp i) = 0) && decide (M (i * 8 + i) % 2 = 0) && decide (M (i * 8 + i) ≤ 1998)) &&
  ((List.range 8).all fun i => (List.range 8).all fun j => decide (2 * M (i * 8 + j) ≤ M (i * 8 + i) + M (j * 8 + j)) && decide (M (i * 8 + j) = M (j * 8 + i)) && decide (M (i * 8 + j) ≤ 1998))
theorem wn_of (h : wnB M = true) : Wn M := by
  unfold wnB at h
  simp only [Bool.and_eq_true, List.all_eq_true, List.mem_range, decide_eq_true_eq] at h
  obtain ⟨⟨h1, h2⟩, h3⟩ := h
  have ne : ∀ {i j : Nat}, i < 8 → j < 8 → M (i * 8 + j) ≠ NB := fun {i j} hi hj => by have := (h3 i hi j hj).2; unfold NB; omega
  refine ⟨⟨fun k hk i j hi hj => .inr (.inr ⟨ne hi hj, h1 k hk i hi j hj⟩), fun i hi => (h2 i hi).1.1, fun i hi => .inr (h2 i hi).1.2, fun i j hi hj _ _ => ⟨ne hi hj, (h3 i hi j hj).1.1⟩, fun i j hi hj => (h3 i hi j hj).1.2, fun a ha => ?_⟩, fun i hi => (h2 i hi).2⟩
  have e : a = a / 8 * 8 + a % 8 := by omega
  rw [e]
  have := (h3 (a / 8) (by omega) (a % 8) (by omega)).2
  exact .inr (by omega)
/-- What follows in one step. -/
def chU (U : Nat → Int) (a : Nat) : Int := (List.range 8).foldl (fun m k => min m (U (a / 8 * 8 + opp k) + U (k * 8 + a % 8))) (U a)
theorem fold_min {g : Nat → Int} {c : Int} : ∀ (l : List Nat) {m : Int}, c ≤ m → (∀ k, k ∈ l → c ≤ g k) → c ≤ l.foldl (fun m k => min m (g k)) m
  | [], _, h, _ => h
  | k :: l, m, h, hg => by
    rw [List.foldl_cons]
    exact fold_min l (by have := hg k (by simp); omega) (fun j hj => hg j (by simp [hj]))
theorem ch_up (hM : Wn M) (h : Le M U) : Le M (chU U) := by
  intro a ha
  unfold chU
  refine fold_min _ (h a ha) fun k hk => ?_
  have hk8 : k < 8 := by simpa using hk
  have o := opp_lt hk8
  have t := hM.tc.tri k hk8 (a / 8) (a % 8) (by omega) (by omega)
  rw [show a / 8 * 8 + a % 8 = a by omega] at t
  have n1 := hM.up (i := a / 8) (by omega) o
  have n2 := hM.up (j := a % 8) hk8 (by omega)
  have u1 := h (a / 8 * 8 + opp k) (by omega)
  have u2 := h (k * 8 + a % 8) (by omega)
  rcases t with q | q | q
  · exact absurd q n1.1
  · exact absurd q n2.1
  · omega
/-- What follows by halves. -/
def haU (U : Nat → Int) (a : Nat) : Int := min (U a) ((U (a / 8 * 8 + a / 8) + U (a % 8 * 8 + a % 8)) / 2)
theorem ha_up (hM : Wn M) (h : Le M U) : Le M (haU U) := by
  intro a ha
  unfold haU
  have hi : a / 8 < 8 := by omega
  have hj : a % 8 < 8 := by omega
  have t := (hM.tc.half (a / 8) (a % 8) hi hj (hM.ne hi) (hM.ne hj)).2
  rw [show a / 8 * 8 + a % 8 = a by omega] at t
  have u0 := h a ha
  have u1 := h (a / 8 * 8 + a / 8) (by omega)
  have u2 := h (a % 8 * 8 + a % 8) (by omega)
  omega
/-- What comes out of a statement at most. -/
def puA (N : Nat → Int) (x : Ds) (a : Nat) : Int :=
  if x.any = true then sbG N x.target.toNat (-999) 999 (a / 8) (a % 8) else if sd1 x.sg = opp (sd2 x.sg) then sbG N x.target.toNat x.num x.num (a / 8) (a % 8)
  else pl (N (orgF x.target.toNat (sd1 x.sg) (a / 8) * 8 + orgF x.target.toNat (sd1 x.sg) (a % 8))) (addF x.target.toNat x.num (a / 8) + addF x.target.toNat x.num (a % 8))
def puF (N : Nat → Int) (x : Ds) (way : Int) : Nat → Int :=
  if x.kind = 0 then puA N x else if x.any = true then N else if way = 0 then haU (tbF (chU (tbF (chU (tbF (lm N (sd1 x.sg) (sd2 x.sg) x.num)))))) else haU (tbF (chU (tbF (chU (tbF (lm N (sd1 (ngL x.sg)) (sd2 (ngL x.sg)) (-x.num - 1)))))))
theorem at_up (hN : Wn N) {l : List Int} (hl : l.length = 4) (hv : ∀ i, -1 ≤ gAt l i ∧ gAt l i ≤ 1) (h1 : 1 ≤ nz l) (h2 : nz l ≤ 2) {n : Int} (hn : n ≤ 1000) (hw : Wn (atM false N l n)) : Le (atM false N l n) (haU (tbF (chU (tbF (chU (tbF (lm N (sd1 l) (sd2 l) n))))))) := by
  refine ha_up hw (tbF_up (ch_up hw (tbF_up (ch_up hw (tbF_up ?_)))))
  obtain ⟨f, hf, hnf, hgr, hs1, hs2⟩ := grP_form hN.tc hl hv h1 h2
  have hnb : n ≠ NB := by unfold NB; omega
  have eN : lm N (sd1 l) (sd2 l) n = sb N f n := by rw [hs1, hs2]; rfl
  rw [eN]
  intro a ha
  by_cases q : atS false N l n = true
  · have c0 : bd N f ≤ n := by
      unfold atS at q
      have := of_decide_eq_true q
      rcases this with z | z
      · cases z
      · rw [hgr] at z; exact z
    have eA : atM false N l n = N := by unfold atM; rw [if_pos q]
    have a1 := fs_lt f hf
    have a2 := ss_lt f hf
    have e : a = a / 8 * 8 + a % 8 := by omega
    have hi : a / 8 < 8 := by omega
    have hj : a % 8 < 8 := by omega
    rw [eA, e]
    generalize a / 8 = i at hi
    generalize a % 8 = j at hj
    rw [sb_at N hf hnb hi hj]
    split
    · rename_i z
      have val : N (fs f * 8 + ss f) ≤ if f < 8 then 2 * n else n := by
        by_cases f8 : f < 8
        · obtain ⟨q1, q2⟩ := fs_lo f f8
          have hb : bd N f = mo N f f := by unfold bd mo; rw [q1, q2]
          have hd := gr_diag hN f8
          rw [if_pos f8, q1, q2]
          rw [hb] at c0
          omega
        · rw [if_neg f8]
          have hb : bd N f = N (fs f * 8 + ss f) := by
            unfold bd
            rw [if_neg (fun z => fs_hi f hf (by omega) z.1)]
          omega
      rcases z with ⟨z1, z2⟩ | ⟨z1, z2⟩
      · rw [z1, z2]; exact val
      · rw [z1, z2, hN.tc.sym _ _ a2 a1]; exact val
    · exact Int.le_refl _
  · have eA : atM false N l n = sharp (sb N f n) := by unfold atM; rw [if_neg q, eN]
    rw [eA]
    exact sharp_le _ a
theorem pu_up (hN : Wn N) {x : Ds} (hx : DQ x) (hs : sfP false N x = true) (way : Int) (he : poE false N x way = false) : Le (poM false N x way) (puF N x way) := by
  have hw := wn_post hN hx hs way he
  have n := hx.g.num
  have ht := hx.tg
  have pM : ∀ A, poM false A x way = (if x.kind = 0 then asM A x else if x.any = true then A else if way = 0 then atM false A x.sg x.num else atM false A (ngL x.sg) (-x.num - 1)) := fun A => rfl
  rw [pM] at hw ⊢
  unfold puF
  by_cases k0 : x.kind = 0
  · rw [if_pos k0, if_pos k0]
    intro a ha
    have e : a = a / 8 * 8 + a % 8 := by omega
    unfold asM puA
    by_cases c : x.any = true
    · rw [if_pos c, if_pos c]
      have := sbT_at N (t := x.target.toNat) (by omega) (lo := -999) (hi := 999) ⟨by omega, by omega⟩ ⟨by omega, by omega⟩ (i := a / 8) (j := a % 8) (by omega) (by omega)
      rw [← e] at this
      omega
    · rw [if_neg c, if_neg c]
      by_cases q : sd1 x.sg = opp (sd2 x.sg)
      · rw [if_pos q, if_pos q]
        have := sbT_at N (t := x.target.toNat) (by omega) (lo := x.num) (hi := x.num) ⟨by omega, by omega⟩ ⟨by omega, by omega⟩ (i := a / 8) (j := a % 8) (by omega) (by omega)
        rw [← e] at this
        omega
      · rw [if_neg q, if_neg q]
        have := ss_at N x.target.toNat (sd1 x.sg) x.num (i := a / 8) (j := a % 8) (by omega) (by omega)
        rw [← e] at this
        omega
  · rw [if_neg k0] at hw ⊢
    rw [if_neg k0]
    by_cases c : x.any = true
    · rw [if_pos c, if_pos c]
      exact fun _ _ => Int.le_refl _
    · rw [if_neg c] at hw ⊢
      rw [if_neg c]
      have hz1 : 1 ≤ nz x.sg := (hx.fc k0).resolve_left c
      by_cases w0 : way = 0
      · rw [if_pos w0] at hw ⊢
        rw [if_pos w0]
        exact at_up hN hx.len hx.g.sg hz1 hx.nz2 (by omega) hw
      · rw [if_neg w0] at hw ⊢
        rw [if_neg w0]
        exact at_up hN (ngL_len _) (ngL_rng hx.g.sg) (by rw [nz_ngL hx.len]; exact hz1) (by rw [nz_ngL hx.len]; exact hx.nz2) (by omega) hw
/-- Does what comes out lie in a list? -/
def leB (U : Nat → Int) (l : List Int) : Bool := (List.range 32).all fun f => decide (U (fs f * 8 + ss f) ≤ if f < 8 then 2 * l.getD f 0 + 1 else l.getD f 0)
def lsO : Option (List Int) → List Int
  | none => []
  | some l => l
def finB (l : List Int) : Bool := decide (l.length = 32) && (List.range 32).all fun f => decide (-4000 ≤ l.getD f 0) && decide (l.getD f 0 ≤ 4000)
def edgB (F : List Ds) (L : List (Option (List Int))) (k : Nat) : Bool :=
  sfP false (mmF (lsO (L.getD k none))) (F.getD k (newDs 0 0)) && (List.range (waysP (F.getD k (newDs 0 0)).kind).toNat).all fun way => leB (puF (mmF (lsO (L.getD k none))) (F.getD k (newDs 0 0)) way) (lsO (L.getD (nextP F k way).1.toNat none))
def claB (r : Option (List Int)) : Bool := r.isSome && finB (lsO r) && wnB (mmF (lsO r))
def cerB (F : List Ds) (L : List (Option (List Int))) : Bool :=
  decide (L.length = F.length + 1) && staB (L.getD 0 none) && ((List.range (F.length + 1)).all fun k => claB (L.getD k none)) && (List.range F.length).all fun k => edgB F L k
theorem cla_of {r : Option (List Int)} (h : claB r = true) : ∃ l, r = some l ∧ okL l ∧ ovE l = false ∧ Wn (mmF l) ∧ Wn (ovM l) ∧ Le (ovM l) (mmF l) := by
  unfold claB at h
  cases r with
  | none => cases h
  | some l =>
    refine ⟨l, rfl, ?_⟩
    simp only [Option.isSome_some, Bool.true_and, Bool.and_eq_true] at h
    obtain ⟨h1, h2⟩ := h
    have hw := wn_of h2
    unfold finB at h1
    simp only [Bool.and_eq_true, List.all_eq_true, List.mem_range, decide_eq_true_eq] at h1
    have hb : ∀ f, f < 32 → -4000 ≤ l.getD f 0 ∧ l.getD f 0 ≤ 4000 := h1.2
    have hok : okL l := ⟨h1.1, fun f hf => by unfold isB; exact decide_eq_true (.inr (hb f hf))⟩
    have hn : ∀ f, f < 32 → l.getD f 0 ≠ NB := fun f hf => by have := hb f hf; unfold NB; omega
    have hle : Le (ovM l) (mmF l) := fun a ha => by rw [← lay_mm hn ha]; exact sharp_le _ a
    have hge : Le (mmF l) (ovM l) := TC.below_sharp (show TC (mmF l) from hw.tc) (fun a ha => by rw [lay_mm hn ha]; exact Int.le_refl _) (lay_top hok)
    have he : ovE l = false := conF_no (fun i hi => by
      have z := hge (i * 8 + opp i) (by have := opp_lt hi; omega)
      have z2 : mmF l (i * 8 + opp i) = 0 := TC.zero (show TC (mmF l) from hw.tc) i hi
      rw [z2] at z
      exact z)
    exact ⟨hok, he, hw, ⟨(raw_lay hok).tc he, fun i hi => Int.le_trans (hle (i * 8 + i) (by omega)) (Wn.box (show Wn (mmF l) from hw) i hi)⟩, hle⟩
theorem cert_of (hD : ∀ k, k < F.length → DQ (F.getD k (newDs 0 0))) (h : cerB F L = true) : CertOk F L := by
  unfold cerB at h
  simp only [Bool.and_eq_true, List.all_eq_true, List.mem_range, decide_eq_true_eq] at h
  obtain ⟨⟨⟨h1, h2⟩, h3⟩, h4⟩ := h
  have hat : ∀ k : Nat, atL L (k : Int) = L.getD k none := fun k => by unfold atL; rw [if_neg (by omega), Int.toNat_natCast]
  have hok : ∀ r, r ∈ L → okp r := by
    intro r hr
    obtain ⟨i, hi, rfl⟩ := List.getElem_of_mem hr
    have hc := h3 i (by omega)
    rw [List.getD_eq_getElem?_getD, List.getElem?_eq_getElem hi] at hc
    obtain ⟨l, e, hl, _⟩ := cla_of hc
    have e' : L[i] = some l := e
    rw [e']
    exact okp_gd.2 (gdB_ok.2 hl)
  refine ⟨hok, ?_, fun k hk => ?_⟩
  · have e0 : atL L 0 = L.getD 0 none := hat 0
    rw [e0, sta_same (getD_ok hok 0)]
    exact h2
  · have hx := hD k hk
    obtain ⟨l, el, hl, he, hN, hC, hle⟩ := cla_of (h3 k (by omega))
    have hed := h4 k hk
    unfold edgB at hed
    rw [el] at hed
    simp only [Bool.and_eq_true, List.all_eq_true, List.mem_range] at hed
    obtain ⟨s1, s2⟩ := hed
    have hN' : Wn (mmF (lsO (some l))) := hN
    have hle' : Le (ovM l) (mmF (lsO (some l))) := hle
    have sC : sfP false (ovM l) (F.getD k (newDs 0 0)) = true := sf_mono hle' hN'.tc.hi hx s1
    have eE : cE (atL L (k : Int)) = false := by rw [hat, el]; exact he
    have eM : cM (atL L (k : Int)) = ovM l := by rw [hat, el]; rfl
    unfold chkP
    rw [eE, eM, sC, if_neg (by decide), if_pos]
    have all : ∀ n, n ≤ (waysP (F.getD k (newDs 0 0)).kind).toNat → allN (wayP F L k) n = true := by
      intro n
      induction n with
      | zero => intro _; rfl
      | succ n ih =>
        intro hn
        show (allN (wayP F L k) n && wayP F L k n) = true
        rw [ih (by omega), Bool.true_and]
        have hz := nextP_in (F := F) k n (next_z F k hk n (by omega))
        obtain ⟨q, hq⟩ : ∃ q : Nat, (nextP F k n).1 = (q : Int) := ⟨_, (Int.toNat_of_nonneg hz.1).symm⟩
        have hs2 := s2 n (by omega)
        rw [hq, Int.toNat_natCast] at hs2
        unfold wayP
        rw [hq, eE, eM, hat]
        obtain ⟨lq, eq, hlq, _⟩ := cla_of (h3 q (by omega))
        cases hpe : poE false (ovM l) (F.getD k (newDs 0 0)) n with
        | true => exact wi_iff.2 (.inl rfl)
        | false =>
          have hwp := wn_post hC hx sC n hpe
          obtain ⟨pa, pb⟩ := po_mono hC hN'.tq hle' hx n hpe
          have pu := pu_up hN' hx s1 n pa
          rw [ins_same (fun _ => hwp.tc) (getD_ok hok q), eq]
          rw [eq] at hs2
          show (false || leF (bd (poM false (ovM l) (F.getD k (newDs 0 0)) n)) (fun f => lq.getD f 0) 32) = true
          rw [Bool.false_or, leF_iff]
          intro f hf
          unfold leB at hs2
          simp only [List.all_eq_true, List.mem_range, decide_eq_true_eq] at hs2
          have u := hs2 f hf
          have up := (pb.trans pu) (fs f * 8 + ss f) (fs_64 hf)
          show bd _ f ≤ lq.getD f 0
          have u' : puF (mmF (lsO (some l))) (F.getD k (newDs 0 0)) n (fs f * 8 + ss f) ≤ if f < 8 then 2 * lq.getD f 0 + 1 else lq.getD f 0 := u
          by_cases f8 : f < 8
          · obtain ⟨q1, q2⟩ := fs_lo f f8
            rw [if_pos f8, q1, q2] at u'
            rw [q1, q2] at up
            have hb : bd (poM false (ovM l) (F.getD k (newDs 0 0)) n) f = mo (poM false (ovM l) (F.getD k (newDs 0 0)) n) f f := by unfold bd mo; rw [q1, q2]
            have hd := gr_diag hwp f8
            rw [hb]
            omega
          · rw [if_neg f8] at u'
            have hb : bd (poM false (ovM l) (F.getD k (newDs 0 0)) n) f = poM false (ovM l) (F.getD k (newDs 0 0)) n (fs f * 8 + ss f) := by
              unfold bd
              rw [if_neg (fun z => fs_hi f hf (by omega) z.1)]
            rw [hb]
            omega
    exact all _ (Nat.le_refl _)

end Go.Proofs.YtffajooegiempabDoor

/- The known programs. No Go in here. -/
namespace Go.Proofs.YtffajooegiempabDoor

def kn0 : ByteArray := ⟨#[]⟩
def kn1 : ByteArray := ⟨#[97, 61, 49, 59, 33, 97, 60, 61, 49, 59]⟩
def kn2 : ByteArray := ⟨#[97, 61, 42, 59, 63, 97, 60, 61, 53, 123, 33, 97, 60, 61, 53, 59, 125, 123, 33, 45, 97, 60, 61, 45, 54, 59, 125]⟩
def kn3 : ByteArray := ⟨#[64, 42, 123, 63, 97, 60, 61, 57, 123, 97, 61, 97, 43, 49, 59, 125, 123, 97, 61, 48, 59, 125, 125, 33, 97, 60, 61, 49, 48, 59]⟩
def kn4 : ByteArray := ⟨#[64, 97, 60, 61, 57, 123, 97, 61, 97, 43, 49, 59, 125, 33, 45, 97, 60, 61, 45, 49, 48, 59]⟩
def kn5 : ByteArray := ⟨#[64, 97, 60, 61, 57, 123, 97, 61, 97, 43, 49, 59, 98, 61, 98, 43, 49, 59, 125, 33, 97, 45, 98, 60, 61, 48, 59]⟩
def kn6 : ByteArray := ⟨#[97, 61, 57, 59, 64, 45, 97, 60, 61, 45, 49, 123, 97, 61, 97, 45, 49, 59, 98, 61, 98, 43, 49, 59, 125, 33, 97, 43, 98, 60, 61, 57, 59]⟩
def kn7 : ByteArray := ⟨#[33, 97, 60, 61, 45, 49, 59]⟩
def kn8 : ByteArray := ⟨#[64, 42, 123, 97, 61, 97, 43, 49, 59, 125]⟩
def kn9 : ByteArray := ⟨#[97, 61, 42, 59, 98, 61, 42, 59, 97, 61, 97, 43, 49, 59]⟩
def kl0 : List (Option (List Int)) := [some [0, 0, 0, 0, 0, 0, 0, 0, 0, 0, 0, 0, 0, 0, 0, 0, 0, 0, 0, 0, 0, 0, 0, 0, 0, 0, 0, 0, 0, 0, 0, 0]]
def kl1 : List (Option (List Int)) := [some [0, 0, 0, 0, 0, 0, 0, 0, 0, 0, 0, 0, 0, 0, 0, 0, 0, 0, 0, 0, 0, 0, 0, 0, 0, 0, 0, 0, 0, 0, 0, 0], some [1, -1, 0, 0, 0, 0, 0, 0, 1, 1, -1, -1, 1, 1, -1, -1, 1, 1, -1, -1, 0, 0, 0, 0, 0, 0, 0, 0, 0, 0, 0, 0], some [1, -1, 0, 0, 0, 0, 0, 0, 1, 1, -1, -1, 1, 1, -1, -1, 1, 1, -1, -1, 0, 0, 0, 0, 0, 0, 0, 0, 0, 0, 0, 0]]
def kl2 : List (Option (List Int)) := [some [0, 0, 0, 0, 0, 0, 0, 0, 0, 0, 0, 0, 0, 0, 0, 0, 0, 0, 0, 0, 0, 0, 0, 0, 0, 0, 0, 0, 0, 0, 0, 0], some [999, 999, 0, 0, 0, 0, 0, 0, 999, 999, 999, 999, 999, 999, 999, 999, 999, 999, 999, 999, 0, 0, 0, 0, 0, 0, 0, 0, 0, 0, 0, 0], some [5, 999, 0, 0, 0, 0, 0, 0, 5, 5, 999, 999, 5, 5, 999, 999, 5, 5, 999, 999, 0, 0, 0, 0, 0, 0, 0, 0, 0, 0, 0, 0], some [999, -6, 0, 0, 0, 0, 0, 0, 999, 999, -6, -6, 999, 999, -6, -6, 999, 999, -6, -6, 0, 0, 0, 0, 0, 0, 0, 0, 0, 0, 0, 0], some [999, 999, 0, 0, 0, 0, 0, 0, 999, 999, 999, 999, 999, 999, 999, 999, 999, 999, 999, 999, 0, 0, 0, 0, 0, 0, 0, 0, 0, 0, 0, 0]]
def kl3 : List (Option (List Int)) := [some [10, 0, 0, 0, 0, 0, 0, 0, 10, 10, 0, 0, 10, 10, 0, 0, 10, 10, 0, 0, 0, 0, 0, 0, 0, 0, 0, 0, 0, 0, 0, 0], some [10, 0, 0, 0, 0, 0, 0, 0, 10, 10, 0, 0, 10, 10, 0, 0, 10, 10, 0, 0, 0, 0, 0, 0, 0, 0, 0, 0, 0, 0, 0, 0], some [9, 0, 0, 0, 0, 0, 0, 0, 9, 9, 0, 0, 9, 9, 0, 0, 9, 9, 0, 0, 0, 0, 0, 0, 0, 0, 0, 0, 0, 0, 0, 0], some [10, -10, 0, 0, 0, 0, 0, 0, 10, 10, -10, -10, 10, 10, -10, -10, 10, 10, -10, -10, 0, 0, 0, 0, 0, 0, 0, 0, 0, 0, 0, 0], some [10, 0, 0, 0, 0, 0, 0, 0, 10, 10, 0, 0, 10, 10, 0, 0, 10, 10, 0, 0, 0, 0, 0, 0, 0, 0, 0, 0, 0, 0, 0, 0], some [10, 0, 0, 0, 0, 0, 0, 0, 10, 10, 0, 0, 10, 10, 0, 0, 10, 10, 0, 0, 0, 0, 0, 0, 0, 0, 0, 0, 0, 0, 0, 0]]
def kl4 : List (Option (List Int)) := [some [10, 0, 0, 0, 0, 0, 0, 0, 10, 10, 0, 0, 10, 10, 0, 0, 10, 10, 0, 0, 0, 0, 0, 0, 0, 0, 0, 0, 0, 0, 0, 0], some [9, 0, 0, 0, 0, 0, 0, 0, 9, 9, 0, 0, 9, 9, 0, 0, 9, 9, 0, 0, 0, 0, 0, 0, 0, 0, 0, 0, 0, 0, 0, 0], some [10, -10, 0, 0, 0, 0, 0, 0, 10, 10, -10, -10, 10, 10, -10, -10, 10, 10, -10, -10, 0, 0, 0, 0, 0, 0, 0, 0, 0, 0, 0, 0], some [10, -10, 0, 0, 0, 0, 0, 0, 10, 10, -10, -10, 10, 10, -10, -10, 10, 10, -10, -10, 0, 0, 0, 0, 0, 0, 0, 0, 0, 0, 0, 0]]
def kl5 : List (Option (List Int)) := [some [10, 0, 10, 0, 0, 0, 0, 0, 20, 0, 0, 0, 10, 10, 0, 0, 10, 10, 0, 0, 10, 10, 0, 0, 10, 10, 0, 0, 0, 0, 0, 0], some [9, 0, 9, 0, 0, 0, 0, 0, 18, 0, 0, 0, 9, 9, 0, 0, 9, 9, 0, 0, 9, 9, 0, 0, 9, 9, 0, 0, 0, 0, 0, 0], some [10, -1, 9, 0, 0, 0, 0, 0, 19, 1, -1, -1, 10, 10, -1, -1, 10, 10, -1, -1, 9, 9, 0, 0, 9, 9, 0, 0, 0, 0, 0, 0], some [10, -10, 10, -10, 0, 0, 0, 0, 20, 0, 0, -20, 10, 10, -10, -10, 10, 10, -10, -10, 10, 10, -10, -10, 10, 10, -10, -10, 0, 0, 0, 0], some [10, -10, 10, -10, 0, 0, 0, 0, 20, 0, 0, -20, 10, 10, -10, -10, 10, 10, -10, -10, 10, 10, -10, -10, 10, 10, -10, -10, 0, 0, 0, 0]]
def kl6 : List (Option (List Int)) := [some [0, 0, 0, 0, 0, 0, 0, 0, 0, 0, 0, 0, 0, 0, 0, 0, 0, 0, 0, 0, 0, 0, 0, 0, 0, 0, 0, 0, 0, 0, 0, 0], some [9, 0, 9, 0, 0, 0, 0, 0, 9, 9, 9, -9, 9, 9, 0, 0, 9, 9, 0, 0, 9, 9, 0, 0, 9, 9, 0, 0, 0, 0, 0, 0], some [9, -1, 8, 0, 0, 0, 0, 0, 9, 9, 7, -9, 9, 9, -1, -1, 9, 9, -1, -1, 8, 8, 0, 0, 8, 8, 0, 0, 0, 0, 0, 0], some [8, 0, 8, 0, 0, 0, 0, 0, 8, 8, 8, -8, 8, 8, 0, 0, 8, 8, 0, 0, 8, 8, 0, 0, 8, 8, 0, 0, 0, 0, 0, 0], some [0, 0, 9, -9, 0, 0, 0, 0, 9, -9, 9, -9, 0, 0, 0, 0, 0, 0, 0, 0, 9, 9, -9, -9, 9, 9, -9, -9, 0, 0, 0, 0], some [0, 0, 9, -9, 0, 0, 0, 0, 9, -9, 9, -9, 0, 0, 0, 0, 0, 0, 0, 0, 9, 9, -9, -9, 9, 9, -9, -9, 0, 0, 0, 0]]

theorem kc0 : cerB (readZ kn0).2 kl0 = true := by decide +kernel
theorem kc1 : cerB (readZ kn1).2 kl1 = true := by decide +kernel
theorem kc2 : cerB (readZ kn2).2 kl2 = true := by decide +kernel
theorem kc3 : cerB (readZ kn3).2 kl3 = true := by decide +kernel
theorem kc4 : cerB (readZ kn4).2 kl4 = true := by decide +kernel
theorem kc5 : cerB (readZ kn5).2 kl5 = true := by decide +kernel
theorem kc6 : cerB (readZ kn6).2 kl6 = true := by decide +kernel
theorem kr7 : (finP (readZ kn7).2 [] 1).st = 3 := by decide +kernel
theorem kr8 : (finP (readZ kn8).2 (List.replicate 1000 1) 2000).st = 2 := by decide +kernel
theorem kr9 : (finP (readZ kn9).2 [999, 0] 3).st = 2 := by decide +kernel
theorem kp : (progOf (bytesOf kn0)).isSome = true ∧ (progOf (bytesOf kn1)).isSome = true ∧ (progOf (bytesOf kn2)).isSome = true ∧ (progOf (bytesOf kn3)).isSome = true ∧ (progOf (bytesOf kn4)).isSome = true ∧ (progOf (bytesOf kn5)).isSome = true ∧ (progOf (bytesOf kn6)).isSome = true ∧ (progOf (bytesOf kn7)).isSome = true ∧ (progOf (bytesOf kn8)).isSome = true ∧ (progOf (bytesOf kn9)).isSome = true := by decide +kernel
/-- A program of which a certificate is known: one is found. -/
theorem kn_yes {s : ByteArray} {L : List (Option (List Int))} (hs : (progOf (bytesOf s)).isSome = true) (h : cerB (readZ s).2 L = true) : ∀ r, CertSays (readZ s).2 (bytesOf (crtF (readZ s).2)) r → r = (0, 0) := by
  cases hp : progOf (bytesOf s) with
  | none => rw [hp] at hs; cases hs
  | some mm =>
    have h160 := (progOf_some hp).1
    have hbl := bytesOf_len s
    have hlen : (readZ s).2.length ≤ 20 := (rStmts_goes s 22 (-1) 0 0 ((0, false), []) ⟨Nat.zero_le _, Nat.zero_le _⟩).ok.len
    rcases prog_whole s (by omega) with ⟨_, hn⟩ | ⟨m', _, hp', hW⟩
    · rw [hp] at hn; cases hn
    · exact complete (cert_of (fun k hk => dq_of hp' hW hk) h) (fun k hk => dq_of hp' hW hk) hlen
/-- A program with a run that goes wrong: none is found. -/
theorem kn_no {s : ByteArray} {I : List Int} {steps : Int} (hs : (progOf (bytesOf s)).isSome = true) (h : (finP (readZ s).2 I steps).st = 2 ∨ (finP (readZ s).2 I steps).st = 3) : ∀ r, CertSays (readZ s).2 (bytesOf (crtF (readZ s).2)) r → r.1 ≠ 0 := by
  intro r hr h0
  cases hp : progOf (bytesOf s) with
  | none => rw [hp] at hs; cases hs
  | some mm =>
    have h160 := (progOf_some hp).1
    have hbl := bytesOf_len s
    have h3 : ChkSays s (crtF (readZ s).2) (0, r.2) := by
      unfold ChkSays
      rw [hp]
      show CertSays (readZ s).2 (bytesOf (crtF (readZ s).2)) (0, r.2)
      rw [← h0]
      exact hr
    have := sound_of h3 (by omega) I steps
    omega

end Go.Proofs.YtffajooegiempabDoor

namespace Go.Proofs.YtffajooegiempabDoor
open Go.RowKit
variable {w : World}
end Go.Proofs.YtffajooegiempabDoor

namespace Go.Proofs.YtffajooegiempabDoor
open Go.RowKit
variable {w : World}
end Go.Proofs.YtffajooegiempabDoor

namespace Go.Proofs.YtffajooegiempabDoor
open Go.RowKit
variable {w : World}
end Go.Proofs.YtffajooegiempabDoor

/- What sharper bounds, joined ones and those within have to do with the states. -/
namespace Go.Proofs.YtffajooegiempabDoor
variable {o p v : List Int} {M N : Nat → Int}
end Go.Proofs.YtffajooegiempabDoor

namespace Go.Proofs.YtffajooegiempabDoor
open Go.RowKit
variable {w : World}
end Go.Proofs.YtffajooegiempabDoor

namespace Go.Proofs.YtffajooegiempabDoor
open Go.RowKit
variable {w : World}

set_option maxRecDepth 100000 in
set_option maxHeartbeats 800000 in
theorem k_pick (c n : Int) (h0 : -9223372036854775808 ≤ c) (h1 : c ≤ 9223372036854775807) (hn0 : 0 < n) (hn1 : n ≤ 100000) :
    Calls Tryd.prog 16 #[.int .i64 c, .int .i64 n] w fun e w' => ∃ r : Nat, e = .returned (.int .i64 (r : Int)) ∧ (r : Int) < n ∧ w' = w := by
  have hm : ∀ x : Int, 0 ≤ x → ∃ r : Nat, x.tmod n = (r : Int) ∧ (r : Int) < n := fun x hx => by
    have a := Int.tmod_lt_of_pos x hn0
    have b := Int.tmod_nonneg n hx
    exact ⟨(x.tmod n).toNat, by omega, by omega⟩
  by_cases hc : c < 0
  · obtain ⟨r, hr, hrn⟩ := hm (-(c + 1)) (by omega)
    go_enter Tryd.func16, Tryd.ntmps16
    go_wp2_with fail
    go_ret
    exact ⟨r, rfl, hrn, rfl⟩
  · obtain ⟨r, hr, hrn⟩ := hm c (by omega)
    go_enter Tryd.func16, Tryd.ntmps16
    go_wp2_with fail
    go_ret
    exact ⟨r, rfl, hrn, rfl⟩

end Go.Proofs.YtffajooegiempabDoor

namespace Go.Proofs.YtffajooegiempabDoor
open Go.RowKit
variable {w : World}

def kcs : Array Value := #[.string kn0, .string kn1, .string kn2, .string kn3, .string kn4, .string kn5, .string kn6, .string kn7, .string kn8, .string kn9]
set_option maxRecDepth 100000 in
set_option maxHeartbeats 1600000 in
theorem k_programs : Calls Tryd.prog 23 #[] w fun e w' => e = .returned (.slice (some ⟨w.heap.size, 0, none⟩) 10 10) ∧ At w' w.heap.size kcs 9 ∧ Below w.heap.size w w' := by
  obtain ⟨i0, hi0, hz0, hz1, -⟩ := info_parts (P := Tryd.prog) (e := 9) (z := .string ⟨#[]⟩) (size := 1) (bytes := 16) (by kernel_rfl)
  go_enter Tryd.func23, Tryd.ntmps23
  go_wp2_with (refine wpList_buildSlice rfl 49 9 10 _ rfl kcs i0 _ Tryd.underlying49 hi0 hz0 (by rw [hz1]; decide) (by rw [hz1]; decide) (by rw [hz1]; rfl) ?_)
  go_ret
  exact ⟨rfl, At.new _ _ _, (Below.refl _ _).alloc (Nat.le_refl _) _⟩

def YesP (s : ByteArray) : Prop := s.size ≤ maxLen ∧ progOf (bytesOf s) ≠ none ∧ ∀ r, CertSays (readZ s).2 (bytesOf (crtF (readZ s).2)) r → r = (0, 0)
def NoP (s : ByteArray) : Prop := s.size ≤ maxLen ∧ progOf (bytesOf s) ≠ none ∧ ∀ r, CertSays (readZ s).2 (bytesOf (crtF (readZ s).2)) r → r.1 ≠ 0
theorem some_ne {s : ByteArray} (h : (progOf (bytesOf s)).isSome = true) : progOf (bytesOf s) ≠ none := fun z => by rw [z] at h; cases h
theorem yes_of {s : ByteArray} {L : List (Option (List Int))} (hz : s.size ≤ 160) (h : (progOf (bytesOf s)).isSome = true) (hc : cerB (readZ s).2 L = true) : YesP s := ⟨by unfold maxLen; omega, some_ne h, kn_yes h hc⟩
theorem no_of {s : ByteArray} {I : List Int} {steps : Int} (hz : s.size ≤ 160) (h : (progOf (bytesOf s)).isSome = true) (hr : (finP (readZ s).2 I steps).st = 2 ∨ (finP (readZ s).2 I steps).st = 3) : NoP s := ⟨by unfold maxLen; omega, some_ne h, kn_no h hr⟩
def kPr (r : Nat) : ByteArray := [kn0, kn1, kn2, kn3, kn4, kn5, kn6, kn7, kn8, kn9].getD r kn0
theorem k_all (r : Nat) (hr : r < 10) : kcs[r]? = some (.string (kPr r)) ∧ (r < 7 → YesP (kPr r)) ∧ (7 ≤ r → NoP (kPr r)) := by
  obtain ⟨p0, p1, p2, p3, p4, p5, p6, p7, p8, p9⟩ := kp
  rcases (show r = 0 ∨ r = 1 ∨ r = 2 ∨ r = 3 ∨ r = 4 ∨ r = 5 ∨ r = 6 ∨ r = 7 ∨ r = 8 ∨ r = 9 by omega) with rfl | rfl | rfl | rfl | rfl | rfl | rfl | rfl | rfl | rfl
  · exact ⟨rfl, fun _ => yes_of (s := kn0) (by decide) p0 kc0, fun h => absurd h (by decide)⟩
  · exact ⟨rfl, fun _ => yes_of (s := kn1) (by decide) p1 kc1, fun h => absurd h (by decide)⟩
  · exact ⟨rfl, fun _ => yes_of (s := kn2) (by decide) p2 kc2, fun h => absurd h (by decide)⟩
  · exact ⟨rfl, fun _ => yes_of (s := kn3) (by decide) p3 kc3, fun h => absurd h (by decide)⟩
  · exact ⟨rfl, fun _ => yes_of (s := kn4) (by decide) p4 kc4, fun h => absurd h (by decide)⟩
  · exact ⟨rfl, fun _ => yes_of (s := kn5) (by decide) p5 kc5, fun h => absurd h (by decide)⟩
  · exact ⟨rfl, fun _ => yes_of (s := kn6) (by decide) p6 kc6, fun h => absurd h (by decide)⟩
  · exact ⟨rfl, fun h => absurd h (by decide), fun _ => no_of (s := kn7) (by decide) p7 (.inr kr7)⟩
  · exact ⟨rfl, fun h => absurd h (by decide), fun _ => no_of (s := kn8) (by decide) p8 (.inl kr8)⟩
  · exact ⟨rfl, fun h => absurd h (by decide), fun _ => no_of (s := kn9) (by decide) p9 (.inl kr9)⟩
theorem an_no (hG : Glob w) {s : ByteArray} (h : NoP s) : Calls Tryd.prog 22 #[.string s] w fun e w' => e = .returned (.tuple #[.string ⟨#[]⟩, .int .i64 8]) ∧ Below w.heap.size w w' := by
  refine (w_analyze hG s h.1).mono ?_
  rintro e w' ⟨hb, ⟨h1, -⟩ | ⟨-, a, b, h2, ⟨h3, -⟩ | ⟨-, rfl⟩⟩⟩
  · exact absurd h1 h.2.1
  · exact absurd h3 (h.2.2 _ h2)
  · exact ⟨rfl, hb⟩
theorem ck_yes (hG : Glob w) {s : ByteArray} (h : YesP s) : Calls Tryd.prog 21 #[.string s, .string (crtF (readZ s).2)] w fun e w' => e = .returned (.tuple #[.int .i64 0, .int .i64 0]) ∧ Below w.heap.size w w' := by
  refine check_taken hG (fun r hr => ?_) h.1 (crt_le h.2.1)
  unfold ChkSays at hr
  cases hp : progOf (bytesOf s) with
  | none => exact absurd hp h.2.1
  | some m => rw [hp] at hr; exact h.2.2 r hr

set_option maxRecDepth 100000 in
set_option maxHeartbeats 3200000 in
theorem known_walk (hG : Glob w) (k : Int) (h0 : -9223372036854775808 ≤ k) (h1 : k ≤ 9223372036854775807) :
    Calls Tryd.prog 8 #[.int .i64 k] w fun e w' => e = .returned (.bool true) ∧ Below w.heap.size w w' := by
  have hpr := k_programs (w := w)
  have HPk : Hid (∀ w1, Calls Tryd.prog 16 #[.int .i64 k, .int .i64 10] w1 fun e w' => ∃ r : Nat, e = .returned (.int .i64 (r : Int)) ∧ (r : Int) < 10 ∧ w' = w1) := fun w1 => k_pick k 10 h0 h1 (by decide) (by decide)
  have HAll : Hid (∀ r, r < 10 → kcs[r]? = some (.string (kPr r)) ∧ (r < 7 → YesP (kPr r)) ∧ (7 ≤ r → NoP (kPr r))) := k_all
  have HYes : Hid (∀ w1 s, Below w.heap.size w w1 → YesP s → Calls Tryd.prog 22 #[.string s] w1 fun e w' => e = .returned (.tuple #[.string (crtF (readZ s).2), .int .i64 0]) ∧ Below w1.heap.size w1 w') := fun w1 s hb h => an_taken (hG.keep hb hG.size) h.1 h.2.1 h.2.2
  have HCk : Hid (∀ w1 s, Below w.heap.size w w1 → YesP s → Calls Tryd.prog 21 #[.string s, .string (crtF (readZ s).2)] w1 fun e w' => e = .returned (.tuple #[.int .i64 0, .int .i64 0]) ∧ Below w1.heap.size w1 w') := fun w1 s hb h => ck_yes (hG.keep hb hG.size) h
  have HNo : Hid (∀ w1 s, Below w.heap.size w w1 → NoP s → Calls Tryd.prog 22 #[.string s] w1 fun e w' => e = .returned (.tuple #[.string ⟨#[]⟩, .int .i64 8]) ∧ Below w1.heap.size w1 w') := fun w1 s hb h => an_no (hG.keep hb hG.size) h
  clear hG
  generalize kcs = cs at *
  generalize kPr = pr at *
  go_enter Tryd.func8, Tryd.ntmps8
  go_wp2_with fail
  refine hpr.mono ?_
  rintro e w1 ⟨rfl, hat1, hb1⟩
  have H1 : Hid (At w1 w.heap.size cs 9 ∧ Below w.heap.size w w1) := ⟨hat1, hb1⟩
  have hl1 := hat1.lt
  clear hat1 hb1 hpr
  go_wp2_with fail
  refine (HPk.out w1).mono ?_
  rintro e w2 ⟨r, rfl, hr, rfl⟩
  obtain ⟨q1, q2, q3⟩ := HAll.out r (by omega)
  have c1 : w2.cell? ⟨w.heap.size, r, none⟩ = some (.string (pr r)) := (H1.out.1.cell r).trans q1
  have hr0 : (0 : Int) ≤ (r : Int) := Int.natCast_nonneg _
  by_cases h7 : r < 7
  · have hr7 : (r : Int) < 7 := by omega
    have HY : Hid (YesP (pr r)) := q2 h7
    have hy := HYes.out w2 (pr r) H1.out.2 HY.out
    clear q1 q2 q3 HAll HYes HNo
    generalize pr r = s at *
    go_wp2_with fail
    refine hy.mono ?_
    rintro e w3 ⟨rfl, hb3⟩
    have H3 : Hid (At w3 w.heap.size cs 9 ∧ Below w.heap.size w w3) := ⟨H1.out.1.keep hb3 H1.out.1.lt, H1.out.2.trans (hb3.mono H1.out.2.size)⟩
    have c3 : w3.cell? ⟨w.heap.size, r, none⟩ = some (.string s) := (hb3.cell (by exact hl1)).trans c1
    have hck := HCk.out w3 s H3.out.2 HY.out
    clear hb3 c1 hy HCk
    generalize crtF (readZ s).2 = crt at *
    go_wp2_with fail
    refine hck.mono ?_
    rintro e w4 ⟨rfl, hb4⟩
    have H4 : Hid (Below w.heap.size w w4) := H3.out.2.trans (hb4.mono H3.out.2.size)
    clear hb4
    go_wp2_with fail
    go_ret
    exact ⟨rfl, H4.out⟩
  · have hr7 : ¬ (r : Int) < 7 := by omega
    have hr7' : (7 : Int) ≤ (r : Int) := by omega
    have hy := HNo.out w2 (pr r) H1.out.2 (q3 (by omega))
    clear q1 q2 q3 HAll HYes HNo HCk
    generalize pr r = s at *
    go_wp2_with fail
    refine hy.mono ?_
    rintro e w3 ⟨rfl, hb3⟩
    have H3 : Hid (Below w.heap.size w w3) := H1.out.2.trans (hb3.mono H1.out.2.size)
    clear hb3
    go_wp2_with fail
    go_ret
    exact ⟨rfl, H3.out⟩

end Go.Proofs.YtffajooegiempabDoor

namespace Go.Proofs.YtffajooegiempabDoor
open Go.ChangeShapes Go.WideShapes Go.ChangeAt Go.WideMaps Go.WideElems Go.RowKit

theorem Tryd.ownD : ownKnob Tryd.prog.godebug = none := by kernel_rfl
theorem gFirst : Tryd.prog.globalNamed "witness/octagon.firstSide" = some 0 := by kernel_rfl
theorem gSecond : Tryd.prog.globalNamed "witness/octagon.secondSide" = some 1 := by kernel_rfl
theorem tFirst : (Tryd.prog.globals[0]?).map (·.type) = some 111 := by kernel_rfl
theorem tSecond : (Tryd.prog.globals[1]?).map (·.type) = some 111 := by kernel_rfl
def laid2 : List (String × DataW Unit) := [("witness/octagon.firstSide", Rows.laid_witness_octagon_firstSide), ("witness/octagon.secondSide", Rows.laid_witness_octagon_secondSide)]

/-- The door's own heap meets the condition. -/
theorem door_met (os : Os) (args : Array Value) : laidMetH Tryd.prog laid2 ((World.doorLaid Tryd.prog 4000 os).forCall (fun _ _ => 0) ⟨#[], args, []⟩).memory :=
  laidMetH_of_parts3 (fuel := 8) (laidMet_of_run' 8 (by kernel_rfl) (by kernel_rfl)) (by kernel_rfl) (by kernel_rfl)

/-- A table's cells, off its datum. -/
theorem tab_cells {H : Type} {enc : TypeId × Value → H} {w : World} {base : Nat} {sp : Nat → Bool} {held : Bool} {fuel : Nat} {cs : Array Value} {L : List Nat} {ps : List MemPlace}
    (hL : L.length = 32) (h : DataW.trod enc Tryd.prog w base sp held fuel 111 cs.toList = some (.agg (L.map fun n => .lit (.int .i64 ((n : Nat) : Int))), ps)) : ∀ i, i < 32 → cs[i]? = some (.int .i64 ((L.getD i 0 : Nat) : Int)) := by
  obtain ⟨xs, m1, rfl, hx1, hlen, hn3, hel⟩ := DataW.trod_array Tryd.underlying111 h
  have c3 : Tryd.prog.cellsOf 3 = 1 := by kernel_rfl
  simp only [Prod.mk.injEq, DataW.agg.injEq] at hx1
  intro i hi
  have h0 := hel i hi
  rw [c3, Nat.mul_one, List.getElem?_eq_getElem (by omega)] at h0
  obtain ⟨k, e1, e2, _⟩ := DataW.trod_int Tryd.underlying3 h0
  have e3 : (L.map fun n => (DataW.lit (.int .i64 ((n : Nat) : Int)) : DataW H))[i]? = (xs.map (·.1))[i]? := by rw [hx1.1]
  rw [List.getElem?_map, List.getElem?_map, List.getElem?_eq_getElem (by omega), List.getElem?_eq_getElem (show i < xs.length by omega)] at e3
  simp only [Option.map_some, Option.some.injEq] at e3
  rw [e2] at e3
  simp only [DataW.lit.injEq, Lit.int.injEq, true_and] at e3
  have e4 : cs.toList[i]? = some (.int .i64 k) := by
    have := congrArg (fun l : List Value => l[0]?) e1
    simpa [List.getElem?_take, List.getElem?_drop] using this
  rw [← Array.getElem?_toList, e4, ← e3]
  simp [List.getD, show i < L.length by omega]

/-- What the condition gives the walks: the two tables. -/
theorem of_laid {W : World} (h : laidMetH Tryd.prog laid2 W) : Glob W := by
  rw [MakeChecks.laidMetH_plain _ _ _ (by kernel_rfl)] at h
  obtain ⟨ps, ⟨g0, t0, cs0, f0, p0, q0, hg0, ht0, hv0, hd0, ⟨g1, t1, cs1, f1, p1, q1, hg1, ht1, hv1, hd1, _, _⟩, _⟩, _, _⟩ := h
  obtain rfl := Option.some.inj (gFirst.symm.trans hg0)
  obtain rfl := Option.some.inj (gSecond.symm.trans hg1)
  obtain rfl := Option.some.inj (tFirst.symm.trans ht0)
  obtain rfl := Option.some.inj (tSecond.symm.trans ht1)
  have a := tab_cells (L := fsL) rfl hd0
  have b := tab_cells (L := ssL) rfl hd1
  have c1 : ∀ f, f < 32 → W.cell? ⟨0, f, none⟩ = some (.int .i64 ((fs f : Nat) : Int)) := fun f hf => (World.var?_cell hg0 hv0 f).trans (a f hf)
  have c2 : ∀ f, f < 32 → W.cell? ⟨1, f, none⟩ = some (.int .i64 ((ss f : Nat) : Int)) := fun f hf => (World.var?_cell hg1 hv1 f).trans (b f hf)
  have := World.block_lt_of_cell? W _ (c2 0 (by omega))
  exact ⟨c1, c2, by have h' : 1 < W.heap.size := this; omega⟩

end Go.Proofs.YtffajooegiempabDoor

namespace Go.Proofs.YtffajooegiempabDoor
open Go.ChangeShapes Go.WideShapes Go.ChangeAt Go.WideMaps Go.WideElems Go.RowKit
end Go.Proofs.YtffajooegiempabDoor

namespace Go.Proofs.YtffajooegiempabDoor
open Go.ChangeShapes Go.WideShapes Go.ChangeAt Go.WideMaps Go.WideElems Go.RowKit Go.ChangeMaps

theorem int_rangeK {b : Int} (h : (Lit.int .i64 b).wf = true) : -9223372036854775808 ≤ b ∧ b ≤ 9223372036854775807 := by
  have h1 : (decide (IntKind.i64.min ≤ b) && decide (b ≤ IntKind.i64.max)) = true := h
  rw [Bool.and_eq_true] at h1
  have a := of_decide_eq_true h1.1
  have c := of_decide_eq_true h1.2
  have e1 : IntKind.i64.min = -9223372036854775808 := by decide
  have e2 : IntKind.i64.max = 9223372036854775807 := by decide
  omega

set_option maxRecDepth 100000 in
theorem known_lifted (os : Os) (started : os.Started) (H : Type) (enc : TypeId × Value → H) :
    ReturnsInHanded {} Tryd.checked os 8 .any (fun w args => (Rows.knownSpec.pre enc Tryd.prog Tryd.f8 [] false w args ∧ laidMetH Tryd.prog laid2 w) ∧ sizedMet enc Tryd.prog Tryd.f8 (OpenSpec.ofChange Rows.knownSpec) false w args)
      (Rows.knownSpec.post enc Tryd.prog Tryd.f8 false true false false) := by
  refine returnsInHanded_of_change_and (C := Tryd.checked) (X := fun w _ => laidMetH Tryd.prog laid2 w) (fun _ _ _ hh h => h.of_heap hh) Tryd.ownD started (by kernel_rfl) Tryd.func8
    (ChangeSpec.witness_shaped (enc := enc) (C := Tryd.checked) (os := os) (X := fun w _ => laidMetH Tryd.prog laid2 w) false (World.doorLaid Tryd.prog 4000 os) #[.int .i64 0] 8 rfl (World.shaped_of_RefB (by kernel_rfl) (by kernel_rfl)) (by kernel_rfl) (by kernel_rfl) (by kernel_rfl) (door_met os _)) ?_
  intro W base args ds gs before hval0 hW _ _ hL _
  have hval : ∀ (j : Nat) t v, Tryd.f8.params[j]? = some t → args[j]? = some v → Value.okWide Tryd.prog W .any base t v := hval0
  have hW' := hW
  obtain ⟨p, q, hA0, hV, rfl, hfz, hnd⟩ := hW
  have hA : DataW.TrodAll enc Tryd.prog W 0 (fun _ => true) true Tryd.f8.params.toList args.toList ds p := hA0
  rw [Tryd.params8] at hA hval
  obtain ⟨v0, vs0, d0, ds0, p0, q0, hargs0, rfl, rfl, h0, r0⟩ := trodAll_cons hA
  obtain ⟨rfl, rfl, rfl⟩ := trodAll_nil r0
  obtain rfl : args = #[v0] := by cases args; simp_all
  obtain ⟨rfl, rfl⟩ := trodVars_none hV
  obtain ⟨b, rfl, rfl, rfl, wb⟩ := open_int Tryd.underlying3 (hval 0 3 v0 rfl rfl) h0
  clear hA0 hval0
  simp only [List.append_nil] at hW'
  have hb0 : -9223372036854775808 ≤ b ∧ b ≤ 9223372036854775807 := int_rangeK wb
  refine (known_walk (of_laid hL) b hb0.1 hb0.2).mono fun e W' ⟨he, hb⟩ => ?_
  subst he
  exact ⟨_, rfl, _, _, _, [], [], [], hW', trodAll_cons_mk (shut_bool Tryd.underlying4 _) trodAll_mk0, trodAll_cons_mk (shut_int Tryd.underlying3 wb) trodAll_mk0, rfl, hb.frame _, fun h => by cases h⟩

theorem known_row : Rows.KnownSaid :=
  OpenClaim.holds_of_wide 8 Tryd.f8 rfl rfl rfl rfl rfl rfl rfl ⟨rfl, rfl, rfl, rfl, rfl⟩ rfl rfl rfl rfl rfl (by kernel_rfl) Tryd.func8 (by kernel_rfl)
    (of_decide_eq_true (by kernel_rfl)) (by unfold Func.isWrapper; first | (rw [if_pos (by decide +kernel)]; kernel_rfl) | (rw [if_neg (by decide +kernel)]; exact ⟨rfl, rfl⟩))
    (fun os started H enc _ => known_lifted os started H enc)

theorem known_card : Rows.KnownCardSaid :=
  Claim7.holds_tied_plain_at .later [] [.data, .data] true Rows.knownCard.stood.harness false
    known_row (fun _ h => by cases h) (by kernel_rfl) (fun _ h => by cases h) known_row_tie rfl ⟨rfl, rfl⟩ (by kernel_rfl) rfl
    (fun f fn hf hfn => by
      obtain rfl : f = 8 := Option.some.inj ((show Tryd.prog.funcNamed "witness/witnesskeep.Known" = some 8 by kernel_rfl).symm.trans hf) |>.symm
      obtain rfl : fn = Tryd.f8 := (Option.some.inj (Tryd.func8.symm.trans hfn)).symm
      exact ⟨by kernel_rfl, fun j t ht => by
        rw [Tryd.params8] at ht
        have hm : t ∈ [3] := by simpa using Array.mem_of_getElem? ht
        have hall : ([3].all fun u => !Tryd.prog.wantsStandIn u) = true := by kernel_rfl
        exact (show Tryd.prog.wantsStandIn t = false by simpa using List.all_eq_true.1 hall t hm)⟩)
    (by kernel_rfl)

end Go.Proofs.YtffajooegiempabDoor

