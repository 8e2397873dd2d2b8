import Derived.Test.YtffajooegiempaaDoorJ35
import Derived.Test.YtffajooegiempaaDoorTie
import Derived.Test.YtffajooegiempaaDoorCards
import Derived.ProofKit
import Derived.LaidMore
import Derived.OpenShut
import Derived.Stop.Joined
import Derived.ChangeSlices
import Derived.Carry
import Derived.ChangeMaps5
namespace Go.Proofs.YtffajooegiempaaDoor
open Go.RowKit
variable {B : Nat} {w w' : World} {r : Nat} {m : Rd} {vs vo : Value} {P Q O : Nat → Nat}


set_option maxRecDepth 100000 in
set_option maxHeartbeats 1600000 in
theorem Rep.next (h : Rep B w r m vs vo P Q O) (hl : m.st.length ≤ 20) (p : Nat) (hp : p < m.st.length) (way : Int) :
    Calls Tryd.prog 74 #[.pointer (some ⟨r, 0, none⟩), .int .i64 (p : Int), .int .i64 way] w fun e w' => e = .returned (.int .i64 (nextR m.st p way)) ∧ ∃ k, w' = w.drewN k := by
  have hfo := h.follows hl 21 p hp (by omega)
  obtain ⟨g, cap, hvs, hrow, _⟩ := h.row (by omega)
  obtain ⟨r0, r1, r2, r3, r4, r5, rf⟩ := h.rdc
  rw [hvs] at r1
  have hc : w.cell? ⟨g, p, none⟩ = some (.pointer (some ⟨P p, 0, none⟩)) := hrow p hp
  obtain ⟨c0, c1, c2, c3, c4, c5, c6, -⟩ := h.stc p _ (Rep.gets hp)
  have hpi : (p : Int) < (m.st.length : Int) := by omega
  have HN : Hid (nextR m.st p way = if (m.st.getD p noSt).kind = 61 ∨ (m.st.getD p noSt).kind = 33 ∨ ((m.st.getD p noSt).kind = 64 ∧ way = 1) then followR m.st 21 p
    else if (m.st.getD p noSt).kind = 64 ∧ (m.st.getD p noSt).fin = p + 1 then (p : Int)
    else if (m.st.getD p noSt).kind = 64 then (p : Int) + 1
    else if way = 0 ∧ p + 1 < (m.st.getD p noSt).mid then (p : Int) + 1
    else if way = 1 ∧ (m.st.getD p noSt).mid < (m.st.getD p noSt).fin then ((m.st.getD p noSt).mid : Int)
    else followR m.st 21 p) := rfl
  clear h hrow hvs r0 r2 r3 r4 r5 rf c1 c2 c3 c4
  generalize m.st.getD p noSt = u at *
  generalize followR m.st 21 p = fo at *
  generalize P p = q at *
  by_cases k61 : u.kind = 61
  · have HE : Hid (_ = _) := HN.out.trans (if_pos (.inl k61))
    rw [k61] at c0
    clear HN k61
    go_enter Tryd.func74, Tryd.ntmps74
    go_wp2_with fail
    refine hfo.mono ?_
    rintro e w1 ⟨rfl, rfl⟩
    go_wp2_with fail
    go_ret
    exact ⟨by rw [HE.out]; rfl, 0, rfl⟩
  have b61 : (u.kind == 61) = false := by simpa using k61
  by_cases k33 : u.kind = 33
  · have HE : Hid (_ = _) := HN.out.trans (if_pos (.inr (.inl k33)))
    rw [k33] at c0
    clear HN k61 b61 k33
    go_enter Tryd.func74, Tryd.ntmps74
    go_wp2_with fail
    refine hfo.mono ?_
    rintro e w1 ⟨rfl, rfl⟩
    go_wp2_with fail
    go_ret
    exact ⟨by rw [HE.out]; rfl, 0, rfl⟩
  have b33 : (u.kind == 33) = false := by simpa using k33
  by_cases k64 : u.kind = 64
  · by_cases w1 : way = 1
    · have HE : Hid (_ = _) := HN.out.trans (if_pos (.inr (.inr ⟨k64, w1⟩)))
      rw [k64] at c0
      subst w1
      clear HN k61 b61 k33 b33 k64
      go_enter Tryd.func74, Tryd.ntmps74
      go_wp2_with fail
      refine hfo.mono ?_
      rintro e w1 ⟨rfl, rfl⟩
      go_wp2_with fail
      go_ret
      exact ⟨by rw [HE.out]; rfl, 0, rfl⟩
    · have bw : (way == 1) = false := by simpa using w1
      have HN2 : Hid (_ = _) := HN.out.trans (if_neg (fun e => e.elim k61 (fun e => e.elim k33 (fun e => w1 e.2))))
      by_cases hf : u.fin = p + 1
      · have HE : Hid (_ = _) := HN2.out.trans (if_pos ⟨k64, hf⟩)
        have hfb : (((u.fin : Nat) : Int) == (p : Int) + 1) = true := by rw [beq_iff_eq]; omega
        rw [k64] at c0
        clear HN HN2 k61 b61 k33 b33 k64 w1 hf
        go_enter Tryd.func74, Tryd.ntmps74
        go_wp2_with fail
        refine hfo.mono ?_
        rintro e w1 ⟨rfl, rfl⟩
        go_wp2_with fail
        go_ret
        exact ⟨by rw [HE.out]; rfl, 0, rfl⟩
      · have HE : Hid (_ = _) := (HN2.out.trans (if_neg (fun e => hf e.2))).trans (if_pos k64)
        have hfb : (((u.fin : Nat) : Int) == (p : Int) + 1) = false := by rw [beq_eq_false_iff_ne]; omega
        rw [k64] at c0
        clear HN HN2 k61 b61 k33 b33 k64 w1 hf
        go_enter Tryd.func74, Tryd.ntmps74
        go_wp2_with fail
        refine hfo.mono ?_
        rintro e w1 ⟨rfl, rfl⟩
        go_wp2_with fail
        go_ret
        exact ⟨by rw [HE.out]; rfl, 0, rfl⟩
  have b64 : (u.kind == 64) = false := by simpa using k64
  have HN2 : Hid (_ = _) := ((HN.out.trans (if_neg (fun e => e.elim k61 (fun e => e.elim k33 (fun e => k64 e.1))))).trans (if_neg (fun e => k64 e.1))).trans (if_neg k64)
  clear HN k61 k33 k64
  by_cases w0 : way = 0
  · subst w0
    by_cases hm : p + 1 < u.mid
    · have HE : Hid (_ = _) := HN2.out.trans (if_pos ⟨rfl, hm⟩)
      have hmi : (p : Int) + 1 < (u.mid : Int) := by omega
      clear HN2
      go_enter Tryd.func74, Tryd.ntmps74
      go_wp2_with fail
      refine hfo.mono ?_
      rintro e w1 ⟨rfl, rfl⟩
      go_wp2_with fail
      go_ret
      exact ⟨by rw [HE.out]; rfl, 0, rfl⟩
    · have HE : Hid (_ = _) := (HN2.out.trans (if_neg (fun e => hm e.2))).trans (if_neg (fun e => absurd e.1 (by decide)))
      have hmi : ¬ (p : Int) + 1 < (u.mid : Int) := by omega
      clear HN2
      go_enter Tryd.func74, Tryd.ntmps74
      go_wp2_with fail
      refine hfo.mono ?_
      rintro e w1 ⟨rfl, rfl⟩
      go_wp2_with fail
      go_quiet (fail)
      go_wp2_with fail
      go_ret
      exact ⟨by rw [HE.out]; rfl, _, rfl⟩
  · have bw0 : (way == 0) = false := by simpa using w0
    by_cases w1 : way = 1
    · subst w1
      clear w0 bw0
      by_cases hm : u.mid < u.fin
      · have HE : Hid (_ = _) := (HN2.out.trans (if_neg (fun e => absurd e.1 (by decide)))).trans (if_pos ⟨rfl, hm⟩)
        have hmi : (u.mid : Int) < (u.fin : Int) := by omega
        clear HN2
        go_enter Tryd.func74, Tryd.ntmps74
        go_wp2_with fail
        refine hfo.mono ?_
        rintro e w1 ⟨rfl, rfl⟩
        go_wp2_with fail
        go_quiet (fail)
        go_wp2_with fail
        go_ret
        exact ⟨by rw [HE.out]; rfl, _, rfl⟩
      · have HE : Hid (_ = _) := (HN2.out.trans (if_neg (fun e => absurd e.1 (by decide)))).trans (if_neg (fun e => hm e.2))
        have hmi : ¬ (u.mid : Int) < (u.fin : Int) := by omega
        clear HN2
        go_enter Tryd.func74, Tryd.ntmps74
        go_wp2_with fail
        refine hfo.mono ?_
        rintro e w1 ⟨rfl, rfl⟩
        go_wp2_with fail
        go_quiet (fail)
        go_wp2_with fail
        go_ret
        exact ⟨by rw [HE.out]; rfl, _, rfl⟩
    · have bw1 : (way == 1) = false := by simpa using w1
      have HE : Hid (_ = _) := (HN2.out.trans (if_neg (fun e => w0 e.1))).trans (if_neg (fun e => w1 e.1))
      clear HN2 w0 w1
      go_enter Tryd.func74, Tryd.ntmps74
      go_wp2_with fail
      refine hfo.mono ?_
      rintro e w1 ⟨rfl, rfl⟩
      go_wp2_with fail
      go_quiet (fail)
      go_wp2_with fail
      go_ret
      exact ⟨by rw [HE.out]; rfl, _, rfl⟩

end Go.Proofs.YtffajooegiempaaDoor

/- A run, plain: the program's machine. -/
namespace Go.Proofs.YtffajooegiempaaDoor

structure Ms where
  used : Nat
  st : Int
  pt : Int
  v : List Int

variable {F : List Ds} {L : List Int} {s : Ms} {x : Ds}
end Go.Proofs.YtffajooegiempaaDoor

/- A run stays within its program. -/
namespace Go.Proofs.YtffajooegiempaaDoor
variable {F : List Ds} {L : List Int} {s : Ms} {x : Ds}

theorem firstGo_in (p b fr : Int) : ∀ (l : List Ds) (i : Nat), firstGo p b fr l i = -1 ∨ ((i : Int) ≤ firstGo p b fr l i ∧ firstGo p b fr l i < ((i + l.length : Nat) : Int)) := by
  intro l
  induction l with
  | nil => intro i; exact .inl rfl
  | cons y l ih =>
    intro i
    rw [firstGo]
    split
    · right; simp only [List.length_cons]; omega
    · rcases ih (i + 1) with h | h
      · exact .inl h
      · right; simp only [List.length_cons]; omega
theorem firstP_in (p b fr : Int) (h : firstP F p b fr ≠ -1) : 0 ≤ firstP F p b fr ∧ firstP F p b fr < F.length := by
  rcases firstGo_in p b fr F 0 with e | e
  · exact absurd e h
  · unfold firstP; omega
theorem followP_in : ∀ (n : Nat) (pt : Int), 0 ≤ followP F n pt ∧ followP F n pt ≤ F.length := by
  intro n
  induction n with
  | zero => intro pt; unfold followP; omega
  | succ n ih =>
    intro pt
    rw [followP]
    split
    · omega
    split
    · rename_i h
      have := firstP_in _ _ _ h
      omega
    split
    · rename_i h
      unfold isRepP at h
      simp only [Bool.and_eq_true, decide_eq_true_eq] at h
      omega
    · exact ih _
theorem nextP_in (pt way : Int) (h : (nextP F pt way).2 = 0) : 0 ≤ (nextP F pt way).1 ∧ (nextP F pt way).1 ≤ F.length := by
  unfold nextP at h ⊢
  by_cases h1 : pt < 0 ∨ (F.length : Int) ≤ pt
  · rw [if_pos h1] at h; simp at h
  rw [if_neg h1] at h ⊢
  by_cases h2 : way < 0 ∨ waysP (F.getD pt.toNat (newDs 0 0)).kind ≤ way
  · rw [if_pos h2] at h; simp at h
  rw [if_neg h2] at h ⊢
  split
  · exact followP_in _ _
  split
  · rename_i h3
    have := firstP_in _ _ _ h3
    simp only; omega
  split
  · simp only; omega
  · exact followP_in _ _

end Go.Proofs.YtffajooegiempaaDoor

namespace Go.Proofs.YtffajooegiempaaDoor
open Go.RowKit
variable {w : World}

theorem atL_nat (L : List (Option (List Int))) (k : Nat) : atL L (k : Int) = L.getD k none := by
  unfold atL
  rw [if_neg (by omega), Int.toNat_natCast]
theorem allN_true : ∀ n, allN (fun _ => true) n = true
  | 0 => rfl
  | n + 1 => by show (allN (fun _ => true) n && true) = true; rw [allN_true n]; rfl
/-- Where nothing is claimed nothing is asked. -/
theorem chk_none {F : List Ds} {L : List (Option (List Int))} {k : Nat} (h : L.getD k none = none) : chkP F L k = 0 := by
  unfold chkP
  rw [atL_nat, h]
  have e : sfP (cE none) (cM none) (F.getD k (newDs 0 0)) = true := rfl
  rw [e, if_neg (by decide)]
  have e2 : wayP F L k = fun _ => true := by
    funext way
    unfold wayP
    rw [atL_nat, h]
    have e3 : poE (cE none) (cM none) (F.getD k (newDs 0 0)) way = true := rfl
    rw [e3]
    rfl
  rw [e2, if_pos (allN_true _)]
theorem RdL.isSlice {v : Value} {r : Option (List Int)} (h : RdL w v r) : ∃ a n c, v = .slice a n c := by
  cases r with
  | none => exact ⟨_, _, _, h⟩
  | some o => obtain ⟨_, a, n, c, e⟩ := h; exact ⟨_, _, _, e⟩

/-- What comes behind the reading. -/
def RkSays (F : List Ds) (L : List (Option (List Int))) (r : Int × Int) : Prop := if wiB false (cE (atL L 0)) (fun _ => 0) (cM (atL L 0)) = false then r = (5, 0) else CkSays (chkP F L) F.length r

set_option maxRecDepth 100000 in
set_option maxHeartbeats 6400000 in
theorem r_checked {B r : Nat} {m : Rd} {vs vo : Value} {P Q O : Nat → Nat} {l : List Int} {F : List Ds} {L : List (Option (List Int))} (h : Rep B w r m vs vo P Q O) (hp : progOf l = some m) (hW : Whole F m.st) (hl : F.length ≤ 20) (v : Value) (hv : ReadsL w v L) (hn : L.length = F.length + 1) (hok : ∀ r, r ∈ L → okp r) :
    Calls Tryd.prog 46 #[.pointer (some ⟨r, 0, none⟩), v] w fun e w' => ∃ a b, e = .returned (.tuple #[.int .i64 a, .int .i64 b]) ∧ RkSays F L (a, b) ∧ Below w.heap.size w w' := by
  have hq1 : ∀ (w : World) (a : Option Addr) (n c : Nat), (binOp .eql 22 (.slice a n c) (.slice none 0 0)).run Tryd.prog w = .ok (.bool a.isNone) w := fun w a n c => Lib.run_eql_slice_nil w 22 tN a n c 0 0 Tryd.underlying22
  have hSl : F.length = m.st.length := hW.1.len
  obtain ⟨ao, cap, rfl, hcap, h0⟩ := hv
  obtain ⟨b, off, rfl, hblt, hcell⟩ := h0 (by omega)
  have HC : Hid (∀ w1, Below w.heap.size w w1 → ∀ i, i < F.length + 1 → ∃ a nn c, w1.cell? ⟨b, off + i, none⟩ = some (.slice a nn c) ∧ RdL w1 (.slice a nn c) (L.getD i none)) := fun w1 hb i hi => by
    obtain ⟨x, h1, h2⟩ := hcell i (by omega)
    obtain ⟨a, nn, c, rfl⟩ := h2.isSlice
    exact ⟨a, nn, c, (hb.cell (by exact hblt)).trans h1, h2.keep hb⟩
  have HSt : Hid (∀ w1 a nn c, RdL w1 (.slice a nn c) (L.getD 0 none) → Calls Tryd.prog 73 #[.slice a nn c] w1 fun e w' => e = .returned (.bool (wiB false (cE (atL L 0)) (fun _ => 0) (cM (atL L 0)))) ∧ Below w1.heap.size w1 w') := fun w1 a nn c hr => by
    have e0 : atL L 0 = L.getD 0 none := atL_nat L 0
    rw [e0]
    exact r_starts _ _ (getD_ok hok 0) hr
  have HSf : Hid (∀ w1, Below w.heap.size w w1 → ∀ k, k < F.length → ∀ o a nn c, L.getD k none = some o → RdL w1 (.slice a nn c) (some o) → Calls Tryd.prog 41 #[.pointer (some ⟨r, 0, none⟩), .int .i64 (k : Int), .slice a nn c] w1 fun e w' => e = .returned (.bool (sfP (cE (atL L k)) (cM (atL L k)) (F.getD k (newDs 0 0)))) ∧ Below w1.heap.size w1 w') := fun w1 hb k hk o a nn c hr hrd => by
    have ho : okL o := okp_ok (by rw [← hr]; exact getD_ok hok k)
    rw [atL_nat, hr]
    show Calls Tryd.prog 41 _ w1 fun e w' => e = .returned (.bool (sfP (ovE o) (ovM o) (F.getD k (newDs 0 0)))) ∧ _
    rw [sf_same (dsg_of hp hW hk).2 (stg_of hp k) ho]
    exact r_safe (h.keep hb) k (by omega) (stg_of hp k) _ o ho hrd.1
  have HWy : Hid (∀ w1, Below w.heap.size w w1 → ∀ k : Nat, k < F.length → Calls Tryd.prog 60 #[.pointer (some ⟨r, 0, none⟩), .int .i64 (k : Int)] w1 fun e w' => e = .returned (.int .i64 (waysP (F.getD k (newDs 0 0)).kind)) ∧ w' = w1) := fun w1 hb k hk => by
    have := (h.keep hb).ways (k : Int)
    rw [if_neg (by omega), Int.toNat_natCast, ← ways_same hW hk] at this
    exact this
  have HAf : Hid (∀ w1, Below w.heap.size w w1 → ∀ k, k < F.length → ∀ o a nn c way, L.getD k none = some o → RdL w1 (.slice a nn c) (some o) → Calls Tryd.prog 38 #[.pointer (some ⟨r, 0, none⟩), .int .i64 (k : Int), .int .i64 way, .slice a nn c] w1 (LSays w1 (poE (cE (atL L k)) (cM (atL L k)) (F.getD k (newDs 0 0)) way) (poM (cE (atL L k)) (cM (atL L k)) (F.getD k (newDs 0 0)) way))) := fun w1 hb k hk o a nn c way hr hrd => by
    have ho : okL o := okp_ok (by rw [← hr]; exact getD_ok hok k)
    rw [atL_nat, hr]
    exact r_after (h.keep hb) k (by omega) (stq_of hp (by omega)) (dsg_of hp hW hk).2 way _ (ovE o) ⟨_, _, _, rfl⟩ (r_closed_ok _ o ho hrd.1) (fun he => ov_tq ho he)
  have HNx : Hid (∀ w1, Below w.heap.size w w1 → ∀ (k way : Nat), k < F.length → (way : Int) < waysP (F.getD k (newDs 0 0)).kind → Calls Tryd.prog 74 #[.pointer (some ⟨r, 0, none⟩), .int .i64 (k : Int), .int .i64 (way : Int)] w1 fun e w' => e = .returned (.int .i64 (nextP F k way).1) ∧ Below w1.heap.size w1 w') := fun w1 hb k way hk hw => by
    have e := next_same hW hl k hk way
    rw [if_neg (by rw [← ways_same hW hk]; omega)] at e
    rw [e]
    exact ((h.keep hb).next (by omega) k (by omega) way).mono fun e w' ⟨h1, j, h2⟩ => ⟨h1, by rw [h2]; exact below_drewN (Below.refl _ _) j⟩
  have HIn : Hid (∀ w1 (k way qn : Nat) u a nn c, k < F.length → (nextP F k way).1 = (qn : Int) → LV w1 (poE (cE (atL L k)) (cM (atL L k)) (F.getD k (newDs 0 0)) way) (poM (cE (atL L k)) (cM (atL L k)) (F.getD k (newDs 0 0)) way) u → RdL w1 (.slice a nn c) (L.getD qn none) → Calls Tryd.prog 31 #[u, .slice a nn c] w1 fun e w' => e = .returned (.bool (wayP F L k way)) ∧ Below w1.heap.size w1 w') := fun w1 k way qn u a nn c hk hq hu hrd => by
    unfold wayP
    rw [hq, atL_nat L qn]
    refine r_inside_t u _ _ (fun he => ?_) (getD_ok hok qn) hu hrd
    have hD := dsg_of hp hW hk
    have hqs := stq_of hp (show k < m.st.length by omega)
    have ht : 0 ≤ (F.getD k (newDs 0 0)).target ∧ (F.getD k (newDs 0 0)).target < 4 := by rw [← hD.2.2.1]; exact ⟨hqs.var.1, by have := hqs.var.2; omega⟩
    have hS := po_sm (c_rng (atL_ok hok (k : Int))) (c_sh (atL_ok hok (k : Int))) hD.1 ht way
    cases hce : cE (atL L k) with
    | true => rw [hce] at he; cases he
    | false =>
      rw [hce] at he hS
      exact ⟨po_tc (c_tq (atL_ok hok _) hce) hD.1 hqs hD.2 way he, hS⟩
  have HLn : Hid (∀ w1, Below w.heap.size w w1 → ∃ sa sc, w1.cell? ⟨r, 1, none⟩ = some (.slice sa F.length sc)) := fun w1 hb => by
    obtain ⟨sa, sc, hvs⟩ := (h.keep hb).slen'
    obtain ⟨_, r1, _⟩ := (h.keep hb).rdc
    rw [hvs, ← hSl] at r1
    exact ⟨sa, sc, r1⟩
  have HNi : Hid (∀ (k way : Nat), k < F.length → (way : Int) < waysP (F.getD k (newDs 0 0)).kind → ∃ qn : Nat, (nextP F k way).1 = (qn : Int) ∧ qn < F.length + 1) := fun k way hk hw => by
    have := nextP_in (F := F) k way (next_z F k hk way hw)
    exact ⟨(nextP F k way).1.toNat, by omega, by omega⟩
  have HCk : Hid (∀ k, chkP F L k = if sfP (cE (atL L k)) (cM (atL L k)) (F.getD k (newDs 0 0)) = false then 6 else if allN (wayP F L k) (waysP (F.getD k (newDs 0 0)).kind).toNat then 0 else 7) := fun k => rfl
  have HNo : Hid (∀ k, L.getD k none = none → chkP F L k = 0) := fun k hk => chk_none hk
  have HWr : Hid (∀ k, 1 ≤ waysP (F.getD k (newDs 0 0)).kind ∧ waysP (F.getD k (newDs 0 0)).kind ≤ 2) := fun k => ways_rng _
  have hr0 : r < w.heap.size := h.rd.lt
  have HK5 : Hid (wiB false (cE (atL L 0)) (fun _ => 0) (cM (atL L 0)) = false → RkSays F L (5, 0)) := fun q => by show RkSays F L (5, 0); unfold RkSays; rw [if_pos q]
  have HKk : Hid (wiB false (cE (atL L 0)) (fun _ => 0) (cM (atL L 0)) = true → ∀ r, CkSays (chkP F L) F.length r → RkSays F L r) := fun q r h => by show RkSays F L r; unfold RkSays; rw [if_neg (by rw [q]; decide)]; exact h
  clear h hp hW h0 hcell hok hcap hSl
  generalize chkP F L = f at *
  rw [hn]
  generalize hnn : F.length = n at *
  obtain ⟨a0, n0, c0, cx0, hrd0⟩ := HC.out w (Below.refl _ _) 0 (by omega)
  have cx00 : w.cell? ⟨b, off, none⟩ = some (.slice a0 n0 c0) := cx0
  have hst := HSt.out w _ _ _ hrd0
  have h0n : (0 : Int) < ((n + 1 : Nat) : Int) := by omega
  clear hrd0 HSt
  generalize wiB false (cE (atL L 0)) (fun _ => 0) (cM (atL L 0)) = st at *
  go_enter Tryd.func46, Tryd.ntmps46
  go_wp2_with fail
  refine hst.mono ?_
  rintro e w1 ⟨rfl, hb1⟩
  have HB1 : Hid (Below w.heap.size w w1) := hb1
  clear hb1 hst cx0 cx00
  cases st with
  | false =>
    have HK6 : Hid (RkSays F L (5, 0)) := HK5.out rfl
    clear HK5 HKk
    go_wp2_with fail
    go_ret2
    exact ⟨_, _, rfl, HK6.out, HB1.out⟩
  | true =>
    have HKl : Hid (∀ r, CkSays f n r → RkSays F L r) := HKk.out rfl
    clear HK5 HKk
    go_wp2_with fail
    go_loopw [6, 7] (fun okv pv wr => ∃ (i : Nat) (bb : Bool), i ≤ n ∧ okv = .bool bb ∧ pv = .int .i64 (i : Int) ∧ Hid ((∀ j, j < i → f j = 0) ∧ Below w.heap.size w wr)) (fun _ pv _ => n - (intOf pv).toNat)
    case atStart => exact ⟨0, _, by omega, rfl, rfl, fun j hj => by omega, HB1.out⟩
    case round =>
      obtain ⟨i, bb, hi, rfl, rfl, HR⟩ := hrel
      obtain ⟨sa, sc, cl⟩ := HLn.out wr HR.out.2
      by_cases hin : i < n
      · have hii : (i : Int) < (n : Int) := by omega
        have hii1 : (i : Int) < ((n + 1 : Nat) : Int) := by omega
        obtain ⟨a, nn, c, cx, hrd⟩ := HC.out wr HR.out.2 i (by omega)
        have HA : Hid (f i = 0 → ∀ j, j < i + 1 → f j = 0) := fun h0 j hj => by
          rcases Nat.lt_or_ge j i with q | q
          · exact HR.out.1 j q
          · rw [show j = i by omega]; exact h0
        cases hr : L.getD i none with
        | none =>
          rw [hr] at hrd
          have hrd' : Value.slice a nn c = .slice none 0 0 := hrd
          cases hrd'
          have HF : Hid (∀ j, j < i + 1 → f j = 0) := HA.out (HNo.out i hr)
          clear hrd
          go_wp2_with fail
          go_roundw
          case rel => exact ⟨i + 1, bb, by omega, rfl, by go_num, HF.out, HR.out.2⟩
          case measure => simp [intOf]; omega
        | some o =>
          rw [hr] at hrd
          obtain ⟨a', nn', c', e'⟩ := id hrd.2
          cases e'
          have hsf := HSf.out wr HR.out.2 i (by omega) o _ _ _ hr hrd
          have HCi : Hid (f i = if sfP (cE (atL L i)) (cM (atL L i)) (F.getD i (newDs 0 0)) = false then 6 else if allN (wayP F L i) (waysP (F.getD i (newDs 0 0)).kind).toNat then 0 else 7) := HCk.out i
          have HHr : Hid (L.getD i none = some o) := hr
          clear hrd hr
          generalize sfP (cE (atL L i)) (cM (atL L i)) (F.getD i (newDs 0 0)) = sf at *
          go_wp2_with fail
          refine hsf.mono ?_
          rintro e w2 ⟨rfl, hb2⟩
          have H2 : Hid (Below w.heap.size w w2) := HR.out.2.trans (hb2.mono HR.out.2.size)
          clear hb2 hsf cx cl
          cases sf with
          | false =>
            have HF : Hid (f i = 6) := HCi.out.trans (if_pos rfl)
            clear HCi
            go_wp2_with fail
            go_ret2
            exact ⟨_, _, rfl, HKl.out _ (.inr ⟨i, hin, HR.out.1, by rw [HF.out]; decide, by rw [HF.out]⟩), H2.out⟩
          | true =>
            have HCj : Hid (f i = if allN (wayP F L i) (waysP (F.getD i (newDs 0 0)).kind).toNat then 0 else 7) := HCi.out.trans (if_neg (by decide))
            have hwy := HWy.out w2 H2.out i (by omega)
            have hwr := HWr.out i
            have HNxi : Hid (∀ w1, Below w.heap.size w w1 → ∀ (way : Nat), (way : Int) < waysP (F.getD i (newDs 0 0)).kind → ∃ qn : Nat, qn < n + 1 ∧ (nextP F i way).1 = (qn : Int) ∧ Calls Tryd.prog 74 #[.pointer (some ⟨r, 0, none⟩), .int .i64 (i : Int), .int .i64 (way : Int)] w1 fun e w' => e = .returned (.int .i64 (qn : Int)) ∧ Below w1.heap.size w1 w') := fun w1 hb way hw => by
              obtain ⟨qn, q1, q2⟩ := HNi.out i way (by omega) hw
              have := HNx.out w1 hb i way (by omega) hw
              rw [q1] at this
              exact ⟨qn, q2, q1, this⟩
            have HAfi : Hid (∀ w1, Below w.heap.size w w1 → ∀ a nn c (way : Nat), RdL w1 (.slice a nn c) (some o) → Calls Tryd.prog 38 #[.pointer (some ⟨r, 0, none⟩), .int .i64 (i : Int), .int .i64 (way : Int), .slice a nn c] w1 fun e w' => ∃ a' n' c', e = .returned (.slice a' n' c') ∧ Below w1.heap.size w1 w' ∧ LV w' (poE (cE (atL L i)) (cM (atL L i)) (F.getD i (newDs 0 0)) way) (poM (cE (atL L i)) (cM (atL L i)) (F.getD i (newDs 0 0)) way) (.slice a' n' c')) := fun w1 hb a nn c way hrd => by
              refine (HAf.out w1 hb i (by omega) o a nn c way HHr.out hrd).mono ?_
              rintro e w' ⟨hb', ⟨h1, rfl⟩ | ⟨h1, g, rfl, hg, ha⟩⟩
              · exact ⟨_, _, _, rfl, hb', .inl ⟨h1, rfl⟩⟩
              · exact ⟨_, _, _, rfl, hb', .inr ⟨h1, g, rfl, ha⟩⟩
            have HIni : Hid (∀ w1 (way qn : Nat) u a nn c, (nextP F i way).1 = (qn : Int) → LV w1 (poE (cE (atL L i)) (cM (atL L i)) (F.getD i (newDs 0 0)) way) (poM (cE (atL L i)) (cM (atL L i)) (F.getD i (newDs 0 0)) way) u → RdL w1 (.slice a nn c) (L.getD qn none) → Calls Tryd.prog 31 #[u, .slice a nn c] w1 fun e w' => e = .returned (.bool (wayP F L i way)) ∧ Below w1.heap.size w1 w') := fun w1 way qn u a nn c hq hu hrd => HIn.out w1 i way qn u a nn c (by omega) hq hu hrd
            have HCx : Hid (∀ w1, Below w.heap.size w w1 → ∀ j, j < n + 1 → ∃ a nn c, w1.cell? ⟨b, off + j, none⟩ = some (.slice a nn c) ∧ RdL w1 (.slice a nn c) (L.getD j none)) := HC.out
            clear HCi HSf HWy HAf HNx HIn HNi HCk HWr
            generalize wayP F L i = wp at *
            obtain ⟨kn, hkn⟩ : ∃ kn : Nat, waysP (F.getD i (newDs 0 0)).kind = (kn : Int) := ⟨(waysP (F.getD i (newDs 0 0)).kind).toNat, by omega⟩
            rw [hkn] at HCj hwy hwr HNxi
            rw [Int.toNat_natCast] at HCj
            clear hkn
            go_wp2_with fail
            refine hwy.mono ?_
            rintro e w3 ⟨rfl, rfl⟩
            clear hwy
            go_wp2_with fail
            go_loopw [6, 9] (fun okv yv wq => ∃ (y : Nat) (bb : Bool), y ≤ kn ∧ okv = .bool bb ∧ yv = .int .i64 (y : Int) ∧ Hid (allN wp y = true ∧ Below w.heap.size w wq)) (fun _ yv _ => kn - (intOf yv).toNat)
            case atStart => exact ⟨0, _, by omega, rfl, rfl, rfl, H2.out⟩
            case round =>
              obtain ⟨y, bb', hy, rfl, rfl, HQ⟩ := hrel
              by_cases hyn : y < kn
              · have hyi : (y : Int) < (kn : Int) := by omega
                obtain ⟨a1, n1, c1, cx1, hrd1⟩ := HCx.out wr HQ.out.2 i (by omega)
                rw [HHr.out] at hrd1
                have haf := HAfi.out wr HQ.out.2 a1 n1 c1 y hrd1
                clear hrd1
                go_wp2_with fail
                refine haf.mono ?_
                rintro e w4 ⟨ua, un, uc, rfl, hb4, hu4⟩
                have H4 : Hid (Below w.heap.size w w4 ∧ LV w4 (poE (cE (atL L i)) (cM (atL L i)) (F.getD i (newDs 0 0)) y) (poM (cE (atL L i)) (cM (atL L i)) (F.getD i (newDs 0 0)) y) (.slice ua un uc)) := ⟨HQ.out.2.trans (hb4.mono HQ.out.2.size), hu4⟩
                clear hb4 hu4 haf cx1
                obtain ⟨qn, hqn, hqe, hnx⟩ := HNxi.out w4 H4.out.1 y hyi
                have HQe : Hid ((nextP F i y).1 = (qn : Int)) := hqe
                clear hqe
                go_wp2_with fail
                refine hnx.mono ?_
                rintro e w5 ⟨rfl, hb5⟩
                have H5 : Hid (Below w.heap.size w w5 ∧ LV w5 (poE (cE (atL L i)) (cM (atL L i)) (F.getD i (newDs 0 0)) y) (poM (cE (atL L i)) (cM (atL L i)) (F.getD i (newDs 0 0)) y) (.slice ua un uc)) := ⟨H4.out.1.trans (hb5.mono H4.out.1.size), H4.out.2.keep hb5⟩
                clear hb5 hnx
                obtain ⟨a2, n2, c2, cx2, hrd2⟩ := HCx.out w5 H5.out.1 qn hqn
                have hqi : (qn : Int) < ((n + 1 : Nat) : Int) := by omega
                have his := HIni.out w5 y qn _ a2 n2 c2 HQe.out H5.out.2 hrd2
                clear hrd2
                go_wp2_with fail
                refine his.mono ?_
                rintro e w6 ⟨rfl, hb6⟩
                have H6 : Hid (Below w.heap.size w w6) := H5.out.1.trans (hb6.mono H5.out.1.size)
                clear hb6 his cx2
                cases hwp : wp y with
                | false =>
                  have HF : Hid (f i = 7) := HCj.out.trans (if_neg (by rw [allN_no hyn hwp]; decide))
                  clear hwp
                  go_wp2_with fail
                  go_ret2
                  exact ⟨_, _, rfl, HKl.out _ (.inr ⟨i, hin, HR.out.1, by rw [HF.out]; decide, by rw [HF.out]⟩), H6.out⟩
                | true =>
                  have HE8 : Hid (allN wp (y + 1) = true) := by show (allN wp y && wp y) = true; rw [HQ.out.1, hwp]; rfl
                  clear hwp
                  go_wp2_with fail
                  go_roundw
                  case rel => exact ⟨y + 1, _, by omega, rfl, by go_num, HE8.out, H6.out⟩
                  case measure => simp [intOf]; omega
              · have hye : y = kn := by omega
                subst hye
                have HF : Hid (∀ j, j < i + 1 → f j = 0) := HA.out (HCj.out.trans (if_pos HQ.out.1))
                go_wp2_with fail
                go_roundw
                case rel => exact ⟨i + 1, _, by omega, rfl, by go_num, HF.out, HQ.out.2⟩
                case measure => simp [intOf]; omega
      · have hie : i = n := by omega
        subst hie
        go_wp2_with fail
        go_ret2
        exact ⟨_, _, rfl, HKl.out _ (.inl ⟨HR.out.1, rfl⟩), HR.out.2⟩

end Go.Proofs.YtffajooegiempaaDoor

namespace Go.Proofs.YtffajooegiempaaDoor
open Go.RowKit
variable {w : World}

set_option maxRecDepth 100000 in
set_option maxHeartbeats 1000000 in
theorem ref_check (s c : ByteArray) (hm : s.size ≤ maxLen) (hc : c.size ≤ maxLen) : Calls Tryd.prog 22 #[.string s, .string c] w (ChkOut w s c) := by
  have hs := ref_scan s w hm
  cases hp : progOf (bytesOf s) with
  | none =>
    have h1 := progOf_none hp
    have HE : Hid (∀ x, scanOf (bytesOf s) = x → ChkSays s c (x.2.1, x.2.2)) := fun x hx => by
      unfold ChkSays
      rw [hp, ← hx]
    generalize scanOf (bytesOf s) = x at *
    obtain ⟨a, b, d⟩ := x
    have h2 : b = 1 := h1
    subst h2
    simp only [three] at hs
    clear hm hp h1 hc
    go_enter Tryd.func22, Tryd.ntmps22
    go_wp2_with fail
    refine hs.mono ?_
    rintro e w1 ⟨rfl, hb⟩
    go_wp2_with fail
    go_ret2
    exact ⟨_, _, rfl, HE.out _ rfl, hb⟩
  | some m =>
    have hsz : (bytesOf s).length ≤ 160 := (progOf_some hp).1
    have hl := bytesOf_len s
    rw [(progOf_some hp).2.2.2] at hs
    simp only [three] at hs
    have hW : Whole (readZ s).2 m.st := by
      rcases prog_whole s (by omega) with ⟨_, hn⟩ | ⟨m', _, hp', hW⟩
      · rw [hp] at hn; cases hn
      · rw [hp] at hp'; cases hp'; exact hW
    have hlen : (readZ s).2.length ≤ 20 := (rStmts_goes s 22 (-1) 0 0 ((0, false), []) ⟨Nat.zero_le _, Nat.zero_le _⟩).ok.len
    have hSl : (readZ s).2.length = m.st.length := hW.1.len
    have HS : Hid (∀ r, CertSays (readZ s).2 (bytesOf c) r → ChkSays s c r) := fun r h => by unfold ChkSays; rw [hp]; exact h
    have HD : Hid (∀ w1, Calls Tryd.prog 44 #[.string c] w1 (ROut w1 c)) := fun w1 => r_decode (by unfold maxLen at hc; omega)
    have HR : Hid (∀ w1, Calls Tryd.prog 45 #[.string s] w1 fun e w' => ∃ n : Nat, e = .returned (.tuple #[.pointer (some ⟨w1.heap.size, 0, none⟩), .int .i64 n, .bool true]) ∧ Below w1.heap.size w1 w' ∧ m.st.length ≤ 20 ∧ ∃ vs vo P Q O, Rep w1.heap.size w' w1.heap.size m vs vo P Q O) := fun w1 => ref_again hp w1
    have HK : Hid (∀ {B r : Nat} {w1 : World} {vs vo : Value} {P Q O : Nat → Nat} (v : Value) (L : List (Option (List Int))), Rep B w1 r m vs vo P Q O → ReadsL w1 v L → L.length = (readZ s).2.length + 1 → decF (bytesOf c) = some L → Calls Tryd.prog 46 #[.pointer (some ⟨r, 0, none⟩), v] w1 fun e w' => ∃ a b, e = .returned (.tuple #[.int .i64 a, .int .i64 b]) ∧ ChkSays s c (a, b) ∧ Below w1.heap.size w1 w') := fun v L hrep hv hn hd => by
      refine (r_checked hrep hp hW hlen v hv hn (dec_ok (bys c) hd).2.2.2).mono ?_
      rintro e w' ⟨a, b, rfl, h1, h2⟩
      refine ⟨a, b, rfl, HS.out _ ?_, h2⟩
      unfold CertSays
      rw [hd]
      show (if L.length ≠ (readZ s).2.length + 1 then _ else _)
      rw [if_neg (by omega)]
      exact h1
    have HB : Hid (∀ L, decF (bytesOf c) = some L → L.length ≠ (readZ s).2.length + 1 → ChkSays s c (4, 0)) := fun L hd hn => HS.out _ (by unfold CertSays; rw [hd]; show (if L.length ≠ (readZ s).2.length + 1 then ((4 : Int), (0 : Int)) = (4, 0) else _); rw [if_pos hn])
    have HB0 : Hid (decF (bytesOf c) = none → ChkSays s c (4, 0)) := fun hd => HS.out _ (by unfold CertSays; rw [hd])
    rw [← hSl] at hs HR
    clear hm hp hc hl hsz hW HS hSl
    generalize (readZ s).2.length = n at *
    go_enter Tryd.func22, Tryd.ntmps22
    go_wp2_with fail
    refine hs.mono ?_
    rintro e w1 ⟨rfl, hb1⟩
    have H1 : Hid (Below w.heap.size w w1) := hb1
    clear hb1 hs
    go_wp2_with fail
    refine (HD.out w1).mono ?_
    rintro e w2 ⟨hb2, ⟨hd, rfl⟩ | ⟨L, v, hd, rfl, hrl, a, nn, cc, rfl⟩⟩
    · have H2 : Hid (Below w.heap.size w w2 ∧ ChkSays s c (4, 0)) := ⟨H1.out.trans (hb2.mono H1.out.size), HB0.out (by rw [← decR_eq]; exact hd)⟩
      clear hb2 hd
      go_wp2_with fail
      go_ret2
      exact ⟨_, _, rfl, H2.out.2, H2.out.1⟩
    · have HLl : Hid (nn = L.length) := by obtain ⟨_, _, e, _, _⟩ := hrl; cases e; exact (rfl : L.length = L.length)
      have H2 : Hid (Below w.heap.size w w2 ∧ decF (bytesOf c) = some L ∧ ReadsL w2 (.slice (some a) nn cc) L) := ⟨H1.out.trans (hb2.mono H1.out.size), by rw [← decR_eq]; exact hd, hrl⟩
      clear hb2 hd hrl
      by_cases hne : nn = n + 1
      · have hni : (nn : Int) = (n : Int) + 1 := by omega
        have HNe : Hid (nn = n + 1) := hne
        clear hne
        go_wp2_with fail
        refine (HR.out w2).mono ?_
        rintro e w3 ⟨n3, rfl, hb3, _, vs, vo, P, Q, O, hrep⟩
        have H3 : Hid (Below w.heap.size w w3) := H2.out.1.trans (hb3.mono H2.out.1.size)
        have hck := HK.out (.slice (some a) nn cc) L hrep (H2.out.2.2.keep hb3) (by rw [← HLl.out]; exact HNe.out) H2.out.2.1
        clear hb3 hrep
        go_wp2_with fail
        refine hck.mono ?_
        rintro e w4 ⟨x, y, rfl, h4, hb4⟩
        have H4 : Hid (Below w.heap.size w w4 ∧ ChkSays s c (x, y)) := ⟨H3.out.trans (hb4.mono H3.out.size), h4⟩
        clear hb4 h4 hck
        go_wp2_with fail
        go_ret2
        exact ⟨_, _, rfl, H4.out.2, H4.out.1⟩
      · have hni : ¬ (nn : Int) = (n : Int) + 1 := by omega
        have HF : Hid (ChkSays s c (4, 0)) := HB.out L H2.out.2.1 (by rw [← HLl.out]; exact hne)
        clear hne
        go_wp2_with fail
        go_ret2
        exact ⟨_, _, rfl, HF.out, H2.out.1⟩

end Go.Proofs.YtffajooegiempaaDoor

namespace Go.Proofs.YtffajooegiempaaDoor
open Go.RowKit
variable {w : World}

set_option maxRecDepth 100000 in
set_option maxHeartbeats 1600000 in
theorem checks_walk (hG : Glob w) (s c : ByteArray) (hm : s.size ≤ maxLen) (hc : c.size ≤ maxLen) :
    Calls Tryd.prog 7 #[.string s, .string c] w fun e w' => e = .returned (.bool true) ∧ Below w.heap.size w w' := by
  have h1 := w_check hG s c hm hc
  have H2 : Hid (∀ w1, Calls Tryd.prog 22 #[.string s, .string c] w1 (ChkOut w1 s c)) := fun w1 => ref_check s c hm hc
  clear hm hc hG
  go_enter Tryd.func7, Tryd.ntmps7
  go_wp2_with fail
  refine h1.mono ?_
  rintro e w1 ⟨a, b, rfl, hs1, hb1⟩
  have HB1 : Hid (Below w.heap.size w w1 ∧ ChkSays s c (a, b)) := ⟨hb1, hs1⟩
  clear hb1 hs1 h1
  go_wp2_with fail
  refine (H2.out w1).mono ?_
  rintro e w2 ⟨a', b', rfl, hs2, hb2⟩
  have hone := HB1.out.2.one hs2
  cases hone
  have HB2 : Hid (Below w.heap.size w w2) := HB1.out.1.trans (hb2.mono HB1.out.1.size)
  clear hb2 hs2 HB1
  go_wp2_with fail
  go_ret
  exact ⟨rfl, HB2.out⟩

end Go.Proofs.YtffajooegiempaaDoor

namespace Go.Proofs.YtffajooegiempaaDoor
open Go.ChangeShapes Go.WideShapes Go.ChangeAt Go.WideMaps Go.WideElems Go.RowKit

theorem Tryd.ownD : ownKnob Tryd.prog.godebug = none := by kernel_rfl
theorem gFirst : Tryd.prog.globalNamed "witness/octagon.firstSide" = some 0 := by kernel_rfl
theorem gSecond : Tryd.prog.globalNamed "witness/octagon.secondSide" = some 1 := by kernel_rfl
theorem tFirst : (Tryd.prog.globals[0]?).map (·.type) = some 114 := by kernel_rfl
theorem tSecond : (Tryd.prog.globals[1]?).map (·.type) = some 114 := by kernel_rfl
def laid2 : List (String × DataW Unit) := [("witness/octagon.firstSide", Rows.laid_witness_octagon_firstSide), ("witness/octagon.secondSide", Rows.laid_witness_octagon_secondSide)]

/-- The door's own heap meets the condition. -/
theorem door_met (os : Os) (args : Array Value) : laidMetH Tryd.prog laid2 ((World.doorLaid Tryd.prog 4000 os).forCall (fun _ _ => 0) ⟨#[], args, []⟩).memory :=
  laidMetH_of_parts3 (fuel := 8) (laidMet_of_run' 8 (by kernel_rfl) (by kernel_rfl)) (by kernel_rfl) (by kernel_rfl)

/-- A table's cells, off its datum. -/
theorem tab_cells {H : Type} {enc : TypeId × Value → H} {w : World} {base : Nat} {sp : Nat → Bool} {held : Bool} {fuel : Nat} {cs : Array Value} {L : List Nat} {ps : List MemPlace}
    (hL : L.length = 32) (h : DataW.trod enc Tryd.prog w base sp held fuel 114 cs.toList = some (.agg (L.map fun n => .lit (.int .i64 ((n : Nat) : Int))), ps)) : ∀ i, i < 32 → cs[i]? = some (.int .i64 ((L.getD i 0 : Nat) : Int)) := by
  obtain ⟨xs, m1, rfl, hx1, hlen, hn3, hel⟩ := DataW.trod_array Tryd.underlying114 h
  have c3 : Tryd.prog.cellsOf 3 = 1 := by kernel_rfl
  simp only [Prod.mk.injEq, DataW.agg.injEq] at hx1
  intro i hi
  have h0 := hel i hi
  rw [c3, Nat.mul_one, List.getElem?_eq_getElem (by omega)] at h0
  obtain ⟨k, e1, e2, _⟩ := DataW.trod_int Tryd.underlying3 h0
  have e3 : (L.map fun n => (DataW.lit (.int .i64 ((n : Nat) : Int)) : DataW H))[i]? = (xs.map (·.1))[i]? := by rw [hx1.1]
  rw [List.getElem?_map, List.getElem?_map, List.getElem?_eq_getElem (by omega), List.getElem?_eq_getElem (show i < xs.length by omega)] at e3
  simp only [Option.map_some, Option.some.injEq] at e3
  rw [e2] at e3
  simp only [DataW.lit.injEq, Lit.int.injEq, true_and] at e3
  have e4 : cs.toList[i]? = some (.int .i64 k) := by
    have := congrArg (fun l : List Value => l[0]?) e1
    simpa [List.getElem?_take, List.getElem?_drop] using this
  rw [← Array.getElem?_toList, e4, ← e3]
  simp [List.getD, show i < L.length by omega]

/-- What the condition gives the walks: the two tables. -/
theorem of_laid {W : World} (h : laidMetH Tryd.prog laid2 W) : Glob W := by
  rw [MakeChecks.laidMetH_plain _ _ _ (by kernel_rfl)] at h
  obtain ⟨ps, ⟨g0, t0, cs0, f0, p0, q0, hg0, ht0, hv0, hd0, ⟨g1, t1, cs1, f1, p1, q1, hg1, ht1, hv1, hd1, _, _⟩, _⟩, _, _⟩ := h
  obtain rfl := Option.some.inj (gFirst.symm.trans hg0)
  obtain rfl := Option.some.inj (gSecond.symm.trans hg1)
  obtain rfl := Option.some.inj (tFirst.symm.trans ht0)
  obtain rfl := Option.some.inj (tSecond.symm.trans ht1)
  have a := tab_cells (L := fsL) rfl hd0
  have b := tab_cells (L := ssL) rfl hd1
  have c1 : ∀ f, f < 32 → W.cell? ⟨0, f, none⟩ = some (.int .i64 ((fs f : Nat) : Int)) := fun f hf => (World.var?_cell hg0 hv0 f).trans (a f hf)
  have c2 : ∀ f, f < 32 → W.cell? ⟨1, f, none⟩ = some (.int .i64 ((ss f : Nat) : Int)) := fun f hf => (World.var?_cell hg1 hv1 f).trans (b f hf)
  have := World.block_lt_of_cell? W _ (c2 0 (by omega))
  exact ⟨c1, c2, by have h' : 1 < W.heap.size := this; omega⟩

end Go.Proofs.YtffajooegiempaaDoor

namespace Go.Proofs.YtffajooegiempaaDoor
open Go.ChangeShapes Go.WideShapes Go.ChangeAt Go.WideMaps Go.WideElems Go.RowKit
end Go.Proofs.YtffajooegiempaaDoor

namespace Go.Proofs.YtffajooegiempaaDoor
open Go.ChangeShapes Go.WideShapes Go.ChangeAt Go.WideMaps Go.WideElems Go.RowKit Go.ChangeMaps

set_option maxRecDepth 100000 in
theorem checks_lifted (os : Os) (started : os.Started) (H : Type) (enc : TypeId × Value → H) :
    ReturnsInHanded {} Tryd.checked os 7 .any (fun w args => (Rows.checksSpec.pre enc Tryd.prog Tryd.f7 [] false w args ∧ laidMetH Tryd.prog laid2 w) ∧ sizedMet enc Tryd.prog Tryd.f7 (OpenSpec.ofChange Rows.checksSpec) false w args)
      (Rows.checksSpec.post enc Tryd.prog Tryd.f7 false true false false) := by
  refine returnsInHanded_of_change_and (C := Tryd.checked) (X := fun w _ => laidMetH Tryd.prog laid2 w) (fun _ _ _ hh h => h.of_heap hh) Tryd.ownD started (by kernel_rfl) Tryd.func7
    (ChangeSpec.witness_shaped (enc := enc) (C := Tryd.checked) (os := os) (X := fun w _ => laidMetH Tryd.prog laid2 w) false (World.doorLaid Tryd.prog 4000 os) #[.string ByteArray.empty, .string ByteArray.empty] 8 rfl (World.shaped_of_RefB (by kernel_rfl) (by kernel_rfl)) (by kernel_rfl) (by kernel_rfl) (by kernel_rfl) (door_met os _)) ?_
  intro W base args ds gs before hval0 hW _ _ hL _
  have hval : ∀ (j : Nat) t v, Tryd.f7.params[j]? = some t → args[j]? = some v → Value.okWide Tryd.prog W .any base t v := hval0
  have hW' := hW
  obtain ⟨p, q, hA0, hV, rfl, hfz, hnd⟩ := hW
  have hA : DataW.TrodAll enc Tryd.prog W 0 (fun _ => true) true Tryd.f7.params.toList args.toList ds p := hA0
  rw [Tryd.params7] at hA hval
  obtain ⟨v0, vs0, d0, ds0, p0, q0, hargs0, rfl, rfl, h0, r0⟩ := trodAll_cons hA
  obtain ⟨v1, vs1, d1, ds1, p1, q1, hargs1, rfl, rfl, h1, r1⟩ := trodAll_cons r0
  obtain ⟨rfl, rfl, rfl⟩ := trodAll_nil r1
  obtain rfl : args = #[v0, v1] := by cases args; simp_all
  obtain ⟨rfl, rfl⟩ := trodVars_none hV
  obtain ⟨s, rfl, rfl, rfl, hs⟩ := open_string Tryd.underlying9 (hval 0 9 v0 rfl rfl) h0
  obtain ⟨c, rfl, rfl, rfl, hc⟩ := open_string Tryd.underlying9 (hval 1 9 v1 rfl rfl) h1
  clear hA0 hval0
  simp only [List.append_nil] at hW'
  refine (checks_walk (of_laid hL) s c hs hc).mono fun e W' ⟨he, hb⟩ => ?_
  subst he
  exact ⟨_, rfl, _, _, _, [], [], [], hW', trodAll_cons_mk (shut_bool Tryd.underlying4 _) trodAll_mk0, trodAll_cons_mk (shut_string Tryd.underlying9 hs) (trodAll_cons_mk (shut_string Tryd.underlying9 hc) trodAll_mk0), rfl, hb.frame _, fun h => by cases h⟩

theorem checks_row : Rows.ChecksSaid :=
  OpenClaim.holds_of_wide 7 Tryd.f7 rfl rfl rfl rfl rfl rfl rfl ⟨rfl, rfl, rfl, rfl, rfl⟩ rfl rfl rfl rfl rfl (by kernel_rfl) Tryd.func7 (by kernel_rfl)
    (of_decide_eq_true (by kernel_rfl)) (by unfold Func.isWrapper; first | (rw [if_pos (by decide +kernel)]; kernel_rfl) | (rw [if_neg (by decide +kernel)]; exact ⟨rfl, rfl⟩))
    (fun os started H enc _ => checks_lifted os started H enc)

theorem checks_card : Rows.ChecksCardSaid :=
  Claim7.holds_tied_plain_at .later [] [.data, .data] true Rows.checksCard.stood.harness false
    checks_row (fun _ h => by cases h) (by kernel_rfl) (fun _ h => by cases h) checks_row_tie rfl ⟨rfl, rfl⟩ (by kernel_rfl) rfl
    (fun f fn hf hfn => by
      obtain rfl : f = 7 := Option.some.inj ((show Tryd.prog.funcNamed "witness/witnesslaw.Checks" = some 7 by kernel_rfl).symm.trans hf) |>.symm
      obtain rfl : fn = Tryd.f7 := (Option.some.inj (Tryd.func7.symm.trans hfn)).symm
      exact ⟨by kernel_rfl, fun j t ht => by
        rw [Tryd.params7] at ht
        have hm : t ∈ [9, 9] := by simpa using Array.mem_of_getElem? ht
        have hall : ([9, 9].all fun u => !Tryd.prog.wantsStandIn u) = true := by kernel_rfl
        exact (show Tryd.prog.wantsStandIn t = false by simpa using List.all_eq_true.1 hall t hm)⟩)
    (by kernel_rfl)

end Go.Proofs.YtffajooegiempaaDoor

