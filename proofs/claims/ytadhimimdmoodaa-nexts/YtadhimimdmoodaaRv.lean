import Derived.Test.YtadhimimdmoodaaRc
import Derived.Test.YtadhimimdmoodaaGr
namespace Go.Proofs.Ytadhimimdmoodaa
open Go.RowKit
variable {B : Nat} {w w' : World} {r : Nat} {m : Rd} {vs vo : Value} {P Q O : Nat → Nat}

theorem Rep.gets {j : Nat} (hj : j < m.st.length) : m.st[j]? = some (m.st.getD j noSt) := by rw [List.getD_eq_getElem?_getD, List.getElem?_eq_getElem hj]; rfl

set_option maxRecDepth 100000 in
set_option maxHeartbeats 1600000 in
theorem Rep.follows (h : Rep B w r m vs vo P Q O) (hl : m.st.length ≤ 20) (n : Nat) : ∀ i, i < m.st.length → i < n →
    Calls Try.prog 32 #[.pointer (some ⟨r, 0, none⟩), .int .i64 (i : Int)] w fun e w' => e = .returned (.int .i64 (followR m.st n i)) ∧ w' = w := by
  induction n with
  | zero => intro i _ hi; omega
  | succ n ih =>
    intro i hi hin
    obtain ⟨g, cap, hvs, hrow, _⟩ := h.row (by omega)
    obtain ⟨r0, r1, r2, r3, r4, r5, rf⟩ := h.rdc
    rw [hvs] at r1
    have hcell : ∀ j, j < m.st.length → w.cell? ⟨g, j, none⟩ = some (.pointer (some ⟨P j, 0, none⟩)) := hrow
    have hst := fun j (hj : j < m.st.length) => h.stc j _ (Rep.gets hj)
    have hI := fun j (h1 : j < m.st.length) (h2 : j < n) => ih j h1 h2
    have HI : Hid (∀ j, j < m.st.length → j < n → Calls Try.prog 32 #[.pointer (some ⟨r, 0, none⟩), .int .i64 (j : Int)] w fun e w' => e = .returned (.int .i64 (followR m.st n j)) ∧ w' = w) := hI
    have HC : Hid (∀ j, j < m.st.length → w.cell? ⟨g, j, none⟩ = some (.pointer (some ⟨P j, 0, none⟩))) := hcell
    have HS : Hid (∀ j, j < m.st.length → w.cell? ⟨P j, 0, none⟩ = some (.int .u8 (m.st.getD j noSt).kind) ∧ w.cell? ⟨P j, 5, none⟩ = some (.int .i64 (m.st.getD j noSt).mid) ∧ w.cell? ⟨P j, 6, none⟩ = some (.int .i64 (m.st.getD j noSt).fin)) := fun j hj => ⟨(hst j hj).1, (hst j hj).2.2.2.2.2.1, (hst j hj).2.2.2.2.2.2.1⟩
    have HF : Hid (followR m.st (n + 1) i = if lastOpen m.st i i < 0 then ((m.st.getD i noSt).fin : Int) else if (m.st.getD i noSt).fin < endOf (m.st.getD (lastOpen m.st i i).toNat noSt) i then ((m.st.getD i noSt).fin : Int) else if (m.st.getD (lastOpen m.st i i).toNat noSt).kind = 64 then lastOpen m.st i i else followR m.st n (lastOpen m.st i i).toNat) := by
      show followR _ _ _ = _; rw [followR]
    have hii : (i : Int) < (m.st.length : Int) := by omega
    clear h ih hrow hst hI hcell hvs r0 r2 r3 r4 r5 rf
    go_enter Try.func32, Try.ntmps32
    go_wp2_with fail
    go_loop [5, 6] (fun q k => ∃ j : Nat, j ≤ i ∧ k = .int .i64 j ∧ q = .int .i64 (lastOpen m.st i j)) (fun _ k => i - (intOf k).toNat)
    case atStart => exact ⟨0, Nat.zero_le _, rfl, rfl⟩
    case round =>
      obtain ⟨j, hj, rfl, rfl⟩ := hrel
      by_cases hlt : j < i
      · have hjl : j < m.st.length := by omega
        have hji : (j : Int) < (m.st.length : Int) := by omega
        have k1 := HC.out j hjl
        obtain ⟨-, -, k2⟩ := HS.out j hjl
        have HL : Hid (lastOpen m.st i (j + 1) = if i < (m.st.getD j noSt).fin then (j : Int) else lastOpen m.st i j) := rfl
        generalize lastOpen m.st i j = lo at *
        generalize (m.st.getD j noSt).fin = fi at *
        by_cases hf : i < fi
        · have hfi : (i : Int) < (fi : Int) := by omega
          go_wp2_with fail
          go_round
          case rel => exact ⟨j + 1, by omega, by go_num, by rw [HL.out, if_pos hf]⟩
          case measure => simp [intOf]; omega
        · have hfi : ¬ (i : Int) < (fi : Int) := by omega
          go_wp2_with fail
          go_round
          case rel => exact ⟨j + 1, by omega, by go_num, by rw [HL.out, if_neg hf]⟩
          case measure => simp [intOf]; omega
      · have hje : j = i := by omega
        subst hje
        have k1 := HC.out j hi
        obtain ⟨-, -, k2⟩ := HS.out j hi
        obtain ⟨l0, l1⟩ := lastOpen_lt m.st j j
        by_cases hneg : lastOpen m.st j j < 0
        · have HE : Hid (followR m.st (n + 1) j = ((m.st.getD j noSt).fin : Int)) := HF.out.trans (if_pos hneg)
          clear HF
          generalize lastOpen m.st j j = lo at *
          generalize (m.st.getD j noSt).fin = fi at *
          go_wp2_with fail
          go_ret
          exact ⟨by rw [HE.out]; rfl, rfl⟩
        · obtain ⟨q, hq⟩ : ∃ q : Nat, lastOpen m.st j j = q := ⟨(lastOpen m.st j j).toNat, by omega⟩
          rw [hq] at l1 hneg HF ⊢
          have hql : q < m.st.length := by omega
          have hqi : (q : Int) < (m.st.length : Int) := by omega
          have k3 := HC.out q hql
          obtain ⟨s0, s5, s6⟩ := HS.out q hql
          simp only [Int.toNat_natCast] at HF
          have HF2 : Hid (followR m.st (n + 1) j = if (m.st.getD j noSt).fin < endOf (m.st.getD q noSt) j then ((m.st.getD j noSt).fin : Int) else if (m.st.getD q noSt).kind = 64 then (q : Int) else followR m.st n q) := HF.out.trans (if_neg hneg)
          have hrec := HI.out q hql (by omega)
          clear HF hneg hq
          have HEn : Hid (endOf (m.st.getD q noSt) j = if (m.st.getD q noSt).kind = 63 ∧ j < (m.st.getD q noSt).mid then (m.st.getD q noSt).mid else (m.st.getD q noSt).fin) := rfl
          generalize m.st.getD q noSt = u at *
          generalize (m.st.getD j noSt).fin = fi at *
          have hq0 : ¬ (q : Int) < 0 := by omega
          by_cases h63 : u.kind = 63
          · rw [h63] at s0
            by_cases hmid : j < u.mid
            · have hmi : (j : Int) < (u.mid : Int) := by omega
              have en : endOf u j = u.mid := HEn.out.trans (if_pos ⟨h63, hmid⟩)
              rw [en, h63] at HF2
              clear HEn en h63
              by_cases hlt2 : fi < u.mid
              · have hd : (fi : Int) < (u.mid : Int) := by omega
                have HE : Hid (_ = _) := HF2.out.trans (if_pos hlt2)
                clear HF2
                go_wp2_with fail
                go_ret
                exact ⟨by rw [HE.out]; rfl, rfl⟩
              · have hd : ¬ (fi : Int) < (u.mid : Int) := by omega
                have HE : Hid (_ = _) := (HF2.out.trans (if_neg hlt2)).trans (if_neg (by decide))
                clear HF2
                go_wp2_with fail
                refine hrec.mono ?_
                rintro e w1 ⟨rfl, rfl⟩
                go_wp2_with fail
                go_ret
                exact ⟨by rw [HE.out]; rfl, rfl⟩
            · have hmi : ¬ (j : Int) < (u.mid : Int) := by omega
              have en : endOf u j = u.fin := HEn.out.trans (if_neg (fun e => hmid e.2))
              rw [en, h63] at HF2
              clear HEn en h63
              by_cases hlt2 : fi < u.fin
              · have hd : (fi : Int) < (u.fin : Int) := by omega
                have HE : Hid (_ = _) := HF2.out.trans (if_pos hlt2)
                clear HF2
                go_wp2_with fail
                go_ret
                exact ⟨by rw [HE.out]; rfl, rfl⟩
              · have hd : ¬ (fi : Int) < (u.fin : Int) := by omega
                have HE : Hid (_ = _) := (HF2.out.trans (if_neg hlt2)).trans (if_neg (by decide))
                clear HF2
                go_wp2_with fail
                refine hrec.mono ?_
                rintro e w1 ⟨rfl, rfl⟩
                go_wp2_with fail
                go_ret
                exact ⟨by rw [HE.out]; rfl, rfl⟩
          · have b63 : (u.kind == 63) = false := by simpa using h63
            have en : endOf u j = u.fin := HEn.out.trans (if_neg (fun e => h63 e.1))
            rw [en] at HF2
            clear HEn en h63
            by_cases hlt2 : fi < u.fin
            · have hd : (fi : Int) < (u.fin : Int) := by omega
              have HE : Hid (_ = _) := HF2.out.trans (if_pos hlt2)
              clear HF2
              go_wp2_with fail
              go_ret
              exact ⟨by rw [HE.out]; rfl, rfl⟩
            · have hd : ¬ (fi : Int) < (u.fin : Int) := by omega
              by_cases h64 : u.kind = 64
              · have HE : Hid (_ = _) := (HF2.out.trans (if_neg hlt2)).trans (if_pos h64)
                rw [h64] at s0
                clear b63 h64
                clear HF2
                go_wp2_with fail
                go_ret
                exact ⟨by rw [HE.out]; rfl, rfl⟩
              · have b64 : (u.kind == 64) = false := by simpa using h64
                have HE : Hid (_ = _) := (HF2.out.trans (if_neg hlt2)).trans (if_neg h64)
                clear h64
                clear HF2
                go_wp2_with fail
                refine hrec.mono ?_
                rintro e w1 ⟨rfl, rfl⟩
                go_wp2_with fail
                go_ret
                exact ⟨by rw [HE.out]; rfl, rfl⟩

end Go.Proofs.Ytadhimimdmoodaa
