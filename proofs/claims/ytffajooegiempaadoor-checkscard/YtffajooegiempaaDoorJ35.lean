import Derived.Test.YtffajooegiempaaDoorJ34
import Derived.Deep.RegionWith
namespace Go.Proofs.YtffajooegiempaaDoor
open Go.RowKit
variable {w : World} {s : ByteArray}

theorem lpF_succ (b : List Int) (k i : Nat) (L : List (Option (List Int))) : lpF b (k + 1) i L = match lp1 b i with | none => none | some y => lpF b k y.1 (L ++ [y.2]) := rfl
theorem inF_succ (b : List Int) (k i : Nat) (o : List Int) : inF b (k + 1) i o = if i + 3 ≤ b.length ∧ b.getD i 0 < 32 then inF b k (i + 3) (o.set (b.getD i 0).toNat (256 * b.getD (i + 1) 0 + b.getD (i + 2) 0 - 4000)) else none := rfl

/-- Two strings held against each other. -/
theorem str_eq (a b : ByteArray) : (a.toList == b.toList) = true ↔ a = b := by
  rw [ByteArray.toList_eq, ByteArray.toList_eq]
  obtain ⟨⟨x⟩⟩ := a
  obtain ⟨⟨y⟩⟩ := b
  simp
theorem str_ne {a b : ByteArray} (h : a ≠ b) : (a.toList == b.toList) = false := by
  cases e : (a.toList == b.toList) with
  | false => rfl
  | true => exact absurd ((str_eq a b).1 e) h
theorem PV_nil {w : World} {base : Nat} : PV w base (.slice none 0 0) none := rfl
set_option maxRecDepth 100000 in
set_option maxHeartbeats 6400000 in
theorem r_decode_ok (hs : s.size ≤ 9223372036854775807) (h0 : 0 < s.size) (h1 : 1 ≤ (bytesOf s).getD 0 0) (h21 : (bytesOf s).getD 0 0 ≤ 21) : Calls Tryd.prog 44 #[.string s] w (ROut w s) := by
  rw [byte_at s 0 h0] at h1 h21
  obtain ⟨n, hn⟩ : ∃ n : Nat, ((s[0]).toNat : Int) = (n : Int) := ⟨_, rfl⟩
  obtain ⟨b, hb⟩ : ∃ b, b = bytesOf s := ⟨_, rfl⟩
  have HE : Hid (looF b = lpF b n 1 []) := by
    show _ = _
    rw [hb]
    unfold looF
    rw [bytesOf_len, byte_at s 0 h0, hn, if_neg (by omega), Int.toNat_natCast]
  have HD : Hid (decR s = match looF b with | none => none | some L => if (encR L).2 = 0 ∧ strOfNums (encR L).1 = s then some L else none) := by rw [hb]; rfl
  have HBy : Hid (∀ k (h : k < s.size), b.getD k 0 = ((s[k]).toNat : Int)) := by rw [hb]; exact byte_at s
  have HBl : Hid (b.length = s.size) := by rw [hb]; exact bytesOf_len s
  rw [hn] at h1 h21
  have hw0 : wrap64 (n : Int) = (n : Int) := by unfold wrap64; omega
  have z0 : ¬ (s.size : Int) < 1 := by omega
  have z1 : ¬ (n : Int) < 1 := by omega
  have z2 : ¬ (21 : Int) < (n : Int) := by omega
  have hmk : ∀ w, (Instr.makeSlice 22 (.int .i64 32) (.int .i64 32)).run Tryd.prog w = .ok (.slice (some ⟨w.heap.size, 0, none⟩) 32 32) (w.alloc (.cells (ic (List.replicate 32 0)) 3)) := fun _ => by kernel_rfl
  obtain ⟨i0, hi0, hz0, hz1, hz2⟩ := info_parts (P := Tryd.prog) (e := 22) (z := .slice none 0 0) (size := 1) (bytes := 24) (by kernel_rfl)
  obtain ⟨zl, hzl⟩ : ∃ zl, zl = List.replicate 32 (0 : Int) := ⟨_, rfl⟩
  have HL0 : Hid (zl.length = 32) := by show _ = _; rw [hzl]; simp
  rw [← hzl] at hmk
  clear hb hzl
  go_enter Tryd.func44, Tryd.ntmps44
  go_wp2_with fail
  go_loopw [4, 5, 6] (fun sl at_ i wr => ∃ (q a : Nat) (ao : Option Addr) (cap : Nat) (X : List Value) (L : List (Option (List Int))), q ≤ n ∧ i = .int .i64 q ∧ at_ = .int .i64 (a : Int) ∧ a ≤ 1 + 800 * q ∧ sl = .slice ao q cap ∧ Hid (L.length = q ∧ LLo wr w.heap.size (.slice ao q cap) X L ∧ Below w.heap.size w wr ∧ lpF b (n - q) a L = lpF b n 1 [])) (fun _ _ i _ => n - (intOf i).toNat)
  case atStart => exact ⟨0, 1, none, 0, [], [], by omega, rfl, rfl, by omega, rfl, rfl, ⟨World.ownsRow_nil _ _ _ _, fun i hi => absurd hi (by simp), fun i k hi => absurd hi (by simp)⟩, Below.refl _ _, rfl⟩
  case round =>
    obtain ⟨q, a, ao, cap, X, L, hq, rfl, rfl, ha, rfl, HR⟩ := hrel
    by_cases hlt : q < n
    · have hqi : (q : Int) < (n : Int) := by omega
      have HSu : Hid (lpF b n 1 [] = match lp1 b a with | none => none | some y => lpF b (n - (q + 1)) y.1 (L ++ [y.2])) := by
        show _ = _
        rw [← HR.out.2.2.2, show n - q = (n - (q + 1)) + 1 by omega, lpF_succ]
      have HNo : Hid (lp1 b a = none → decR s = none) := by
        intro h; rw [HD.out, HE.out, HSu.out, h]
      by_cases hz : a < s.size ∧ b.getD a 0 = 0
      · obtain ⟨haz, hzb⟩ := hz
        have hai : (a : Int) < (s.size : Int) := by omega
        have hby : ((s[a]'haz).toNat : Int) = 0 := by rw [← HBy.out a haz]; exact hzb
        have hby' : (s[a]'haz).toNat = 0 := by omega
        have HX : Hid (lpF b (n - (q + 1)) (a + 1) (L ++ [none]) = lpF b n 1 []) := by
          show _ = _
          rw [HSu.out]
          unfold lp1
          rw [if_pos ⟨by rw [HBl.out]; exact haz, hzb⟩]
        clear hby hzb
        have HN : Hid (wr.heap.size + 0 = wr.heap.size ∧ L.length = q) := ⟨rfl, HR.out.1⟩
        go_wp2_with (at_builtin; refine wpList_append_own2 rfl (.tmp 43) (.tmp 44) 72 rfl w.heap.size 22 i0 _ 1 24 Tryd.underlying72 hi0 hz0 hz1 hz2 rfl (by decide) (.slice ao q cap) q X rfl (by have h := HR.out.2.1; have h2 := h.row; rw [HN.out.2] at h2; exact h2.alloc _) ⟨wr.heap.size, 0, none⟩ 1 1 [(Value.slice none 0 0)] rfl rfl (by intro t u ht; match t, ht with | 0, ht => simp at ht; subst ht; exact World.cell?_alloc_at _ _ _ _ rfl) (by intro u hu; simp at hu; subst hu; rfl) (by unfold maxLen; omega) (by omega) (by have := (HR.out.2.2.1).size; simp; omega) ?_; intro v5 w5 hown5 hgrow5 hv5)
        have HL5 : Hid (LLo w5 w.heap.size v5 (X ++ [(Value.slice none 0 0)]) (L ++ [none])) := by
          refine LLo.snoc (w := wr.alloc (.cells #[(Value.slice none 0 0)] 22)) (v := .slice ao q cap) ?_ ?_ ?_ ?_ hgrow5 hv5
          · exact (HR.out.2.1).keep ((Below.refl _ _).alloc (Nat.le_refl _) _) (Nat.le_refl _)
          · exact PV_nil
          · intro k hk; first | (cases hk; done) | exact HAw.out k hk
          · rw [HN.out.2]; exact hown5
        have HB5 : Hid (Below w.heap.size w w5) := ((HR.out.2.2.1).alloc (HR.out.2.2.1).size _).grown hgrow5 (by have := (HR.out.2.2.1).size; simp; omega) (fun k hk => ((HR.out.2.1).row.lt k (by exact hk)).1)
        obtain ⟨ao5, cap5, hv5e⟩ : ∃ ao5 cap5, v5 = .slice ao5 (q + 1) cap5 := by
          rcases hown5.2 with ⟨e, e2⟩ | ⟨g, cap, cur, e, _⟩
          · omega
          · exact ⟨_, _, e⟩
        subst hv5e
        have H5 : Hid (LLo w5 w.heap.size (.slice ao5 (q + 1) cap5) (X ++ [(Value.slice none 0 0)]) (L ++ [none]) ∧ Below w.heap.size w w5) := ⟨HL5.out, HB5.out⟩
        clear hown5 hgrow5 hv5 HL5 HB5
        go_roundw
        case rel => exact ⟨q + 1, a + 1, ao5, cap5, X ++ [Value.slice none 0 0], L ++ [none], by omega, by go_num, by go_num, by omega, rfl, by simp [HR.out.1], H5.out.1, H5.out.2, HX.out⟩
        case measure => simp [intOf]; omega
      · have HLp : Hid (lp1 b a = if b.length < a + 2 then none else match inF b (b.getD (a + 1) 0).toNat (a + 2) none32 with | none => none | some y => some (y.1, some y.2)) := by
          show _ = _
          unfold lp1
          rw [if_neg (by rw [HBl.out]; exact hz)]
          rfl
        by_cases hsh : s.size < a + 2
        · have HX : Hid (decR s = none) := HNo.out (by rw [HLp.out, if_pos (by rw [HBl.out]; exact hsh)])
          have hsi : (s.size : Int) < (a : Int) + 2 := by omega
          by_cases haz : a < s.size
          · have hai : (a : Int) < (s.size : Int) := by omega
            have hby : ¬ ((s[a]'haz).toNat = 0) := fun e => hz ⟨haz, by rw [HBy.out a haz, e]; rfl⟩
            clear hz
            go_wp2_with fail
            go_ret2
            exact ⟨HR.out.2.2.1, .inl ⟨HX.out, rfl⟩⟩
          · have hai : ¬ (a : Int) < (s.size : Int) := by omega
            clear hz
            go_wp2_with fail
            go_ret2
            exact ⟨HR.out.2.2.1, .inl ⟨HX.out, rfl⟩⟩
        · have haz : a < s.size := by omega
          have haz1 : a + 1 < s.size := by omega
          have hai : (a : Int) < (s.size : Int) := by omega
          have hai1 : (a : Int) + 1 < (s.size : Int) := by omega
          have hsi : ¬ (s.size : Int) < (a : Int) + 2 := by omega
          have hby : ¬ ((s[a]'haz).toNat = 0) := fun e => hz ⟨haz, by rw [HBy.out a haz, e]; rfl⟩
          obtain ⟨a1, ha1⟩ : ∃ a1, a1 = a + 1 := ⟨_, rfl⟩
          have hea : (a : Int) + 1 = (a1 : Int) := by omega
          have haz2 : a1 < s.size := by omega
          have hai2 : (a1 : Int) < (s.size : Int) := by omega
          obtain ⟨m, hm⟩ : ∃ m : Nat, (((s[a1]'haz2).toNat : Nat) : Int) = (m : Int) := ⟨_, rfl⟩
          have hm255 : m ≤ 255 := by have := (s[a1]'haz2).toNat_lt; omega
          have HL2 : Hid (lp1 b a = match inF b m (a + 2) none32 with | none => none | some y => some (y.1, some y.2)) := by
            show _ = _
            rw [HLp.out, if_neg (by rw [HBl.out]; exact hsh), ← ha1, HBy.out a1 haz2, hm, Int.toNat_natCast]
          have HLr : Hid (LLo wr w.heap.size (.slice ao q cap) X L) := HR.out.2.1
          have HBr : Hid (Below w.heap.size w wr) := HR.out.2.2.1
          have hbs := HR.out.2.2.1.size
          clear hz hsh ha1 hai1 haz1
          go_wp2_with fail
          obtain ⟨wm, hwm0⟩ : ∃ wm, wm = wr.alloc (.cells (ic zl) 3) := ⟨_, rfl⟩
          have HM : Hid (At wm wr.heap.size (ic zl) 3 ∧ Below wr.heap.size wr wm) := by show _ ∧ _; rw [hwm0]; exact ⟨At.new _ _ _, (Below.refl _ _).alloc (Nat.le_refl _) _⟩
          rw [← hwm0]
          clear hwm0
          obtain ⟨wo, rfl⟩ : ∃ wo, wo = wr := ⟨_, rfl⟩
          go_loopw [8] (fun i w2 => ∃ (f : Nat) (l : List Int), f ≤ 32 ∧ i = .int .i64 f ∧ Hid (l.length = 32 ∧ At w2 wo.heap.size (ic l) 3 ∧ (∀ j, j < f → l.getD j 0 = 1000000) ∧ Below wo.heap.size wo w2)) (fun i _ => 32 - (intOf i).toNat)
          case atStart => exact ⟨0, zl, by omega, rfl, HL0.out, HM.out.1, fun j hj => absurd hj (by omega), HM.out.2⟩
          case round =>
            obtain ⟨f, l, hf, rfl, HF⟩ := hrel
            have hwl := HF.out.2.1.lt
            by_cases hfl : f < 32
            · have hfi : (f : Int) < 32 := by omega
              obtain ⟨x0, hx0⟩ : ∃ x, wr.cell? ⟨wo.heap.size, f, none⟩ = some x := ⟨_, by rw [HF.out.2.1.cell]; exact ic_get l f (by rw [HF.out.1]; exact hfl)⟩
              have hfr := HF.out.2.1.free f
              go_wp2_with fail
              go_roundw
              case rel =>
                refine ⟨f + 1, l.set f 1000000, by omega, by go_num, by simp [HF.out.1], ?_, ?_, HF.out.2.2.2.setCell (Nat.le_refl _) _⟩
                · rw [← ic_set]; exact HF.out.2.1.put f _
                · intro j hj
                  by_cases e : j = f
                  · subst e; simp [List.getD, HF.out.1, hfl]
                  · have := HF.out.2.2.1 j (by omega)
                    simpa [List.getD, List.getElem?_set, Ne.symm e] using this
              case measure => simp [intOf]; omega
            · have hf32 : f = 32 := by omega
              subst hf32
              obtain ⟨wf, hwf⟩ : ∃ wf, wf = wr := ⟨_, rfl⟩
              have HO : Hid (l = none32) := by
                show _ = _
                apply List.ext_getElem
                · rw [HF.out.1]; rfl
                · intro j h1 h2
                  have := HF.out.2.2.1 j (by rw [HF.out.1] at h1; exact h1)
                  simp [List.getD, h1] at this
                  rw [this]
                  exact (List.getElem_replicate _).symm
              have HWf : Hid (At wf wo.heap.size (ic none32) 3 ∧ Below wo.heap.size wo wf) := by show _ ∧ _; rw [hwf, ← HO.out]; exact ⟨HF.out.2.1, HF.out.2.2.2⟩
              rw [← hwf]
              clear hwf HF HO hfl
              go_wp2_with fail
              clear hm
              go_loopw [5, 10] (fun at_ i w3 => ∃ (k a3 : Nat) (l : List Int), k ≤ m ∧ i = .int .i64 k ∧ at_ = .int .i64 (a3 : Int) ∧ a3 ≤ a + 2 + 3 * k ∧ Hid (l.length = 32 ∧ At w3 wo.heap.size (ic l) 3 ∧ Below wo.heap.size wo w3 ∧ inF b (m - k) a3 l = inF b m (a + 2) none32)) (fun _ i _ => m - (intOf i).toNat)
              case atStart => exact ⟨0, a + 2, none32, by omega, rfl, by go_num, by omega, by rfl, HWf.out.1, HWf.out.2, rfl⟩
              case round =>
                obtain ⟨k, a3, l, hk, rfl, rfl, ha3, HG⟩ := hrel
                have hwl := HG.out.2.1.lt
                by_cases hkm : k < m
                · have hki : (k : Int) < (m : Int) := by omega
                  have HIn : Hid (inF b m (a + 2) none32 = if a3 + 3 ≤ b.length ∧ b.getD a3 0 < 32 then inF b (m - (k + 1)) (a3 + 3) (l.set (b.getD a3 0).toNat (256 * b.getD (a3 + 1) 0 + b.getD (a3 + 2) 0 - 4000)) else none) := by
                    show _ = _
                    rw [← HG.out.2.2.2, show m - k = (m - (k + 1)) + 1 by omega, inF_succ]
                  have HBd : Hid (inF b m (a + 2) none32 = none → decR s = none) := fun h => HNo.out (by rw [HL2.out, h])
                  by_cases hok : a3 + 3 ≤ s.size
                  · have hj0 : a3 < s.size := by omega
                    obtain ⟨a4, ha4⟩ : ∃ a4, a4 = a3 + 1 := ⟨_, rfl⟩
                    obtain ⟨a5, ha5⟩ : ∃ a5, a5 = a3 + 2 := ⟨_, rfl⟩
                    have he4 : (a3 : Int) + 1 = (a4 : Int) := by omega
                    have he5 : (a3 : Int) + 2 = (a5 : Int) := by omega
                    have hj1 : a4 < s.size := by omega
                    have hj2 : a5 < s.size := by omega
                    have hi0' : (a3 : Int) < (s.size : Int) := by omega
                    have hi1' : (a4 : Int) < (s.size : Int) := by omega
                    have hi2' : (a5 : Int) < (s.size : Int) := by omega
                    have hi3' : ¬ (s.size : Int) < (a3 : Int) + 3 := by omega
                    have t0 := (s[a3]'hj0).toNat_lt
                    have t1 := (s[a4]'hj1).toNat_lt
                    have t2 := (s[a5]'hj2).toNat_lt
                    obtain ⟨y0, hy0⟩ : ∃ y : Nat, (((s[a3]'hj0).toNat : Nat) : Int) = (y : Int) := ⟨_, rfl⟩
                    obtain ⟨y1, hy1⟩ : ∃ y : Nat, (((s[a4]'hj1).toNat : Nat) : Int) = (y : Int) := ⟨_, rfl⟩
                    obtain ⟨y2, hy2⟩ : ∃ y : Nat, (((s[a5]'hj2).toNat : Nat) : Int) = (y : Int) := ⟨_, rfl⟩
                    have u0 : y0 ≤ 255 := by omega
                    have u1 : y1 ≤ 255 := by omega
                    have u2 : y2 ≤ 255 := by omega
                    have HI2 : Hid (inF b m (a + 2) none32 = if y0 < 32 then inF b (m - (k + 1)) (a3 + 3) (l.set y0 (256 * y1 + y2 - 4000)) else none) := by
                      show _ = _
                      rw [HIn.out, HBl.out, ← ha4, ← ha5, HBy.out a3 hj0, HBy.out a4 hj1, HBy.out a5 hj2, hy0, hy1, hy2, Int.toNat_natCast]
                      by_cases q : y0 < 32
                      · rw [if_pos q, if_pos ⟨hok, by omega⟩]
                      · rw [if_neg q, if_neg (by omega)]
                    clear t0 t1 t2 ha4 ha5
                    by_cases hy : y0 < 32
                    · have hyi : (y0 : Int) < 32 := by omega
                      have HX : Hid (inF b (m - (k + 1)) (a3 + 3) (l.set y0 (256 * y1 + y2 - 4000)) = inF b m (a + 2) none32) := by show _ = _; rw [HI2.out, if_pos hy]
                      obtain ⟨x0, hx0⟩ : ∃ x, wr.cell? ⟨wo.heap.size, y0, none⟩ = some x := ⟨_, by rw [HG.out.2.1.cell]; exact ic_get l y0 (by rw [HG.out.1]; exact hy)⟩
                      have hfr := HG.out.2.1.free y0
                      go_wp2_with fail
                      go_region
                      all_goals
                        go_wp2_with fail
                        refine ⟨?_, ?measure⟩
                        (repeat apply Exists.intro)
                        refine ⟨?rel, rfl⟩
                        case rel =>
                          refine ⟨k + 1, a3 + 3, l.set y0 (256 * y1 + y2 - 4000), by omega, by go_num, by go_num, by omega, by simp [HG.out.1], ?_, ?_, HX.out⟩
                          · rw [← ic_set]; exact At.drewN (HG.out.2.1.put y0 _) 1
                          · exact below_drewN (HG.out.2.2.1.setCell (Nat.le_refl _) _) 1
                        case measure => simp [intOf]; omega
                    · have hyi : (32 : Int) ≤ (y0 : Int) := by omega
                      have HX : Hid (decR s = none) := HBd.out (by rw [HI2.out, if_neg hy])
                      go_wp2_with fail
                      go_ret2
                      exact ⟨HBr.out.trans (HG.out.2.2.1.mono hbs), .inl ⟨HX.out, rfl⟩⟩
                  · have hi3' : (s.size : Int) < (a3 : Int) + 3 := by omega
                    have HX : Hid (decR s = none) := HBd.out (by rw [HIn.out, HBl.out, if_neg (fun h => hok h.1)])
                    go_wp2_with fail
                    go_ret2
                    exact ⟨HBr.out.trans (HG.out.2.2.1.mono hbs), .inl ⟨HX.out, rfl⟩⟩
                · have hkm' : k = m := by omega
                  subst hkm'
                  have HX : Hid (lpF b (n - (q + 1)) a3 (L ++ [some l]) = lpF b n 1 []) := by
                    show _ = _
                    have h0 := HG.out.2.2.2
                    rw [show k - k = 0 by omega] at h0
                    have h1 : inF b k (a + 2) none32 = some (a3, l) := h0.symm
                    rw [HSu.out, HL2.out, h1]
                  obtain ⟨w2, rfl⟩ : ∃ w2, w2 = wr := ⟨_, rfl⟩
                  have HLx : Hid (LLo w2 w.heap.size (.slice ao q cap) X L) := HLr.out.keep HG.out.2.2.1 (Nat.le_refl _)
                  have HBx : Hid (Below w.heap.size w w2) := HBr.out.trans (HG.out.2.2.1.mono hbs)
                  have HPv : Hid (PV w2 w.heap.size (.slice (some ⟨wo.heap.size, 0, none⟩) 32 32) (some l)) := ⟨wo.heap.size, hbs, rfl, HG.out.2.1, HG.out.1⟩
                  have HAw : Hid (∀ k, (Value.slice (some ⟨wo.heap.size, 0, none⟩) 32 32).ownBlock = some k → (Value.slice ao q cap).ownBlock ≠ some k) := by
                    intro k hk e
                    have h1 := (HLr.out.row.lt k e).2
                    have h2 : wo.heap.size = k := Option.some.inj hk
                    omega
                  clear hwl hkm
                  have HN : Hid (w2.heap.size + 0 = w2.heap.size ∧ L.length = q) := ⟨rfl, HR.out.1⟩
                  go_wp2_with (at_builtin; refine wpList_append_own2 rfl (.tmp 104) (.tmp 106) 72 rfl w.heap.size 22 i0 _ 1 24 Tryd.underlying72 hi0 hz0 hz1 hz2 rfl (by decide) (.slice ao q cap) q X rfl (by have h := HLx.out; have h2 := h.row; rw [HN.out.2] at h2; exact h2.alloc _) ⟨w2.heap.size, 0, none⟩ 1 1 [(Value.slice (some ⟨wo.heap.size, 0, none⟩) 32 32)] rfl rfl (by intro t u ht; match t, ht with | 0, ht => simp at ht; subst ht; exact World.cell?_alloc_at _ _ _ _ rfl) (by intro u hu; simp at hu; subst hu; rfl) (by unfold maxLen; omega) (by omega) (by have := (HBx.out).size; simp; omega) ?_; intro v5 w5 hown5 hgrow5 hv5)
                  have HL5 : Hid (LLo w5 w.heap.size v5 (X ++ [(Value.slice (some ⟨wo.heap.size, 0, none⟩) 32 32)]) (L ++ [(some l)])) := by
                    refine LLo.snoc (w := w2.alloc (.cells #[(Value.slice (some ⟨wo.heap.size, 0, none⟩) 32 32)] 22)) (v := .slice ao q cap) ?_ ?_ ?_ ?_ hgrow5 hv5
                    · exact (HLx.out).keep ((Below.refl _ _).alloc (Nat.le_refl _) _) (Nat.le_refl _)
                    · exact (HPv.out.same (fun k hk => heap_alloc_old _ _ (HPv.out.lt k hk).2))
                    · intro k hk; first | (cases hk; done) | exact HAw.out k hk
                    · rw [HN.out.2]; exact hown5
                  have HB5 : Hid (Below w.heap.size w w5) := ((HBx.out).alloc (HBx.out).size _).grown hgrow5 (by have := (HBx.out).size; simp; omega) (fun k hk => ((HLx.out).row.lt k (by exact hk)).1)
                  obtain ⟨ao5, cap5, hv5e⟩ : ∃ ao5 cap5, v5 = .slice ao5 (q + 1) cap5 := by
                    rcases hown5.2 with ⟨e, e2⟩ | ⟨g, cap, cur, e, _⟩
                    · omega
                    · exact ⟨_, _, e⟩
                  subst hv5e
                  have H5 : Hid (LLo w5 w.heap.size (.slice ao5 (q + 1) cap5) (X ++ [(Value.slice (some ⟨wo.heap.size, 0, none⟩) 32 32)]) (L ++ [(some l)]) ∧ Below w.heap.size w w5) := ⟨HL5.out, HB5.out⟩
                  clear hown5 hgrow5 hv5 HL5 HB5
                  go_roundw
                  case rel => exact ⟨q + 1, a3, ao5, cap5, X ++ [Value.slice (some ⟨wo.heap.size, 0, none⟩) 32 32], L ++ [some l], by omega, by go_num, rfl, by omega, rfl, by simp [HR.out.1], H5.out.1, H5.out.2, HX.out⟩
                  case measure => simp [intOf]; omega
    · have hqn : q = n := by omega
      subst hqn
      have HX : Hid (decR s = if (encR L).2 = 0 ∧ strOfNums (encR L).1 = s then some L else none) := by
        show _ = _
        have h0 := HR.out.2.2.2
        rw [show q - q = 0 by omega] at h0
        have h1 : lpF b q 1 [] = some L := h0.symm
        rw [HD.out, HE.out, h1]
      obtain ⟨hrl, HVa⟩ := HR.out.2.1.reads (by rw [HR.out.1]; omega)
      have HLl : Hid (∀ i l, L.getD i none = some l → l.length ≤ 1073741824) := by
        intro i l hl
        rcases Nat.lt_or_ge i L.length with c | c
        · have := HR.out.2.1.each i c
          rw [hl] at this
          obtain ⟨_, _, _, _, h5⟩ := this
          omega
        · rw [List.getD_eq_getElem?_getD, List.getElem?_eq_none c] at hl; cases hl
      have hen := r_encode (w := wr) (.slice ao q cap) L (by rw [HR.out.1]; unfold maxLen; omega) HLl.out hrl
      obtain ⟨wz, hwz⟩ : ∃ wz, wz = wr := ⟨_, rfl⟩
      have HBz : Hid (Below w.heap.size w wr) := HR.out.2.2.1
      have HRl : Hid (ReadsL wr (.slice ao q cap) L) := hrl
      obtain ⟨a7, n7, c7, hv7⟩ := HVa
      injection hv7 with e1 e2 e3
      subst e1
      clear hrl e2 e3 hwz
      unfold EOut at hen
      obtain ⟨E, hE⟩ : ∃ E, E = encR L := ⟨_, rfl⟩
      rw [← hE] at hen HX
      clear hE
      obtain ⟨xs, er⟩ := E
      simp only at hen HX
      obtain ⟨S, hS⟩ : ∃ S, S = strOfNums xs := ⟨_, rfl⟩
      rw [← hS] at hen HX
      clear hS
      go_wp2_with fail
      refine hen.mono ?_
      rintro e w3 ⟨rfl, hb3⟩
      have H3 : Hid (Below w.heap.size w w3 ∧ ReadsL w3 (.slice (some a7) q cap) L) := ⟨HBz.out.trans (hb3.mono HBz.out.size), HRl.out.keep hb3⟩
      clear hb3 hen
      by_cases h4 : er = 0
      · subst h4
        by_cases h5 : S = s
        · have h5' : (S.toList == s.toList) = true := (str_eq S s).2 h5
          have HY : Hid (decR s = some L) := by show _ = _; rw [HX.out, if_pos ⟨rfl, h5⟩]
          clear h5 HX
          go_wp2_with fail
          go_ret2
          exact ⟨H3.out.1, .inr ⟨L, _, HY.out, rfl, H3.out.2, _, _, _, rfl⟩⟩
        · have h5' : (S.toList == s.toList) = false := str_ne h5
          have HY : Hid (decR s = none) := by show _ = _; rw [HX.out, if_neg (fun z => h5 z.2)]
          clear h5 HX
          go_wp2_with fail
          go_ret2
          exact ⟨H3.out.1, .inl ⟨HY.out, rfl⟩⟩
      · have h4' : (er != 0) = true := by rw [bne_iff_ne]; exact h4
        have HY : Hid (decR s = none) := by show _ = _; rw [HX.out, if_neg (fun z => h4 z.1)]
        clear h4 HX
        go_wp2_with fail
        go_ret2
        exact ⟨H3.out.1, .inl ⟨HY.out, rfl⟩⟩

theorem r_decode (hs : s.size ≤ 9223372036854775807) : Calls Tryd.prog 44 #[.string s] w (ROut w s) := by
  by_cases hbad : s.size < 1 ∨ (bytesOf s).getD 0 0 < 1 ∨ 21 < (bytesOf s).getD 0 0
  · exact r_decode_bad hs hbad
  · exact r_decode_ok hs (by omega) (by omega) (by omega)

end Go.Proofs.YtffajooegiempaaDoor

namespace Go.Proofs.YtffajooegiempaaDoor
open Go.RowKit
variable {w : World} {C : Nat → Int}

theorem itF_le {R : Nat → Int} (hR : ∀ f, f < 32 → R f ≤ NB) : ∀ n R', itF R n = some R' → ∀ f, f < 32 → R' f ≤ R f := by
  intro n
  induction n with
  | zero => intro R' h f _; cases h; exact Int.le_refl _
  | succ n ih =>
    intro R' h f hf
    obtain ⟨R1, b, e, e2⟩ := itF_succ h
    exact Int.le_trans ((rF_inv (itF_hi hR n R1 e) 1024 (Nat.le_refl _) _ b e2).le f hf) (ih R1 e f hf)
/-- Closing what is closed. -/
theorem r_closed_t (h : TC C) (hs : Sm C) (u : Value) (hu : Reads w u (bdL C)) : Calls Tryd.prog 26 #[u] w (LSays w false C) := by
  obtain ⟨R0, hR0⟩ : ∃ R0 : Nat → Int, R0 = fun f => (bdL C).getD f 0 := ⟨_, rfl⟩
  have eq : ∀ f, f < 32 → R0 f = bd C f := fun f hf => by rw [hR0]; exact bdL_getD C hf
  have hA : Ab C R0 := fun f hf => by rw [eq f hf]; exact Int.le_refl _
  have hH : ∀ f, f < 32 → R0 f ≤ NB := fun f hf => by rw [eq f hf]; exact h.bd_hi hf
  have hcl := r_closed u (bdL C) (bdL_len C) hu
  rw [← hR0] at hcl
  refine (hcl (fun n R e => ?_)).mono ?_
  · obtain ⟨R1, e1, a1, i1⟩ := itF_ab h hH hA n
    have : R1 = R := Option.some.inj (e1.symm.trans e)
    subst this
    intro k hk R' b e2 f hf
    obtain ⟨R2, b2, e3, a2, i2⟩ := rF_ab h a1 i1 k hk
    have e4 : (R', b) = (R2, b2) := Option.some.inj (e2.symm.trans e3)
    cases e4
    have x := a2 f hf
    have y := i2 f hf
    have z := bd_rng hs hf
    unfold NB at y
    omega
  · rintro e w' ⟨hb, ⟨rfl, n, hn⟩ | ⟨g, n, R, R', rfl, hg, ha, h1, h2⟩⟩
    · obtain ⟨R1, e1, _⟩ := itF_ab h hH hA n
      rw [hn] at e1
      cases e1
    · refine ⟨hb, .inr ⟨rfl, g, rfl, hg, ?_⟩⟩
      obtain ⟨R1, e1, a1, i1⟩ := itF_ab h hH hA n
      have : R1 = R := Option.some.inj (e1.symm.trans h1)
      subst this
      obtain ⟨R2, b2, e3, a2, i2⟩ := rF_ab h a1 i1 1024 (Nat.le_refl _)
      have e4 : (R', false) = (R2, b2) := Option.some.inj (h2.symm.trans e3)
      cases e4
      have e5 : ∀ f, f < 32 → R' f = bd C f := fun f hf => by
        have x := a2 f hf
        have y := (rF_inv (itF_hi hH n R1 h1) 1024 (Nat.le_refl _) _ _ e3).le f hf
        have z := itF_le hH n R1 h1 f hf
        have := eq f hf
        omega
      rw [← bdL_of e5]
      exact ha

/-- A list as the document's after leaves it. -/
def LV (w : World) (e : Bool) (M : Nat → Int) (u : Value) : Prop := (e = true ∧ u = .slice none 0 0) ∨ (e = false ∧ ∃ g, u = .slice (some ⟨g, 0, none⟩) 32 32 ∧ At w g (ic (bdL M)) tNo)

theorem LV.keep {w w' : World} {e : Bool} {M : Nat → Int} {u : Value} (h : LV w e M u) (hb : Below w.heap.size w w') : LV w' e M u := by
  rcases h with h | ⟨h1, g, h2, h3⟩
  · exact .inl h
  · exact .inr ⟨h1, g, h2, h3.keep hb h3.lt⟩

set_option maxRecDepth 100000 in
set_option maxHeartbeats 3200000 in
theorem r_inside_t {e0 : Bool} {M : Nat → Int} (u v : Value) (r : Option (List Int)) (hT : e0 = false → TC M ∧ Sm M) (hr : okp r) (hu : LV w e0 M u) (hv : RdL w v r) :
    Calls Tryd.prog 31 #[u, v] w fun e w' => e = .returned (.bool (wiB e0 (cE r) M (cM r))) ∧ Below w.heap.size w w' := by
  have hq1 : ∀ (w : World) (a : Option Addr) (n c : Nat), (binOp .eql 22 (.slice a n c) (.slice none 0 0)).run Tryd.prog w = .ok (.bool a.isNone) w := fun w a n c => Lib.run_eql_slice_nil w 22 tN a n c 0 0 Tryd.underlying22
  rw [ins_same (fun h => (hT h).1) hr]
  rcases hu with ⟨rfl, rfl⟩ | ⟨rfl, g0, rfl, ha0⟩
  · have HE : Hid (insB true M r = true) := by cases r <;> rfl
    obtain ⟨va, vn, vc, rfl⟩ : ∃ a n c, v = .slice a n c := by
      cases r with
      | none => exact ⟨_, _, _, hv⟩
      | some l => obtain ⟨_, a, n, c, h⟩ := hv; exact ⟨_, _, _, h⟩
    clear hT hr hv
    go_enter Tryd.func31, Tryd.ntmps31
    go_wp2_with fail
    go_ret
    exact ⟨ret_b HE.out, Below.refl _ _⟩
  · have hcl := r_closed_t (w := w) (hT rfl).1 (hT rfl).2 (.slice (some ⟨g0, 0, none⟩) 32 32) (Reads.at_ ha0 (bdL_len M) (Nat.le_refl _) (fun i hi => ic_get _ _ (by rw [bdL_len]; exact hi)))
    cases r with
    | none =>
      obtain rfl : v = .slice none 0 0 := hv
      have HE : Hid (insB false M none = false) := rfl
      clear hT hr ha0
      go_enter Tryd.func31, Tryd.ntmps31
      go_wp2_with fail
      refine hcl.mono ?_
      rintro e w1 ⟨hb1, ⟨he, -⟩ | ⟨-, g, rfl, hg, ha⟩⟩
      · cases he
      · have HB1 : Hid (Below w.heap.size w w1) := hb1
        clear hb1 hcl ha
        go_wp2_with fail
        go_ret
        exact ⟨ret_b HE.out, HB1.out⟩
    | some p =>
      have hp := (okp_ok hr).1
      obtain ⟨hv, a, n, c, rfl⟩ := hv
      have HL : Hid (∀ w1 g, Below w.heap.size w w1 → At w1 g (ic (bdL M)) tNo → Calls Tryd.prog 54 #[.slice (some ⟨g, 0, none⟩) 32 32, .slice (some a) n c] w1 fun e w' => e = .returned (.bool (leF (bd M) (fun f => p.getD f 0) 32)) ∧ Below w1.heap.size w1 w') := by
        intro w1 g hb ha
        have h := r_least (w := w1) (.slice (some ⟨g, 0, none⟩) 32 32) (.slice (some a) n c) (bdL M) p (bdL_len M) hp (Reads.at_ ha (bdL_len M) (Nat.le_refl _) (fun i hi => ic_get _ _ (by rw [bdL_len]; exact hi))) (hv.keep hb)
        rw [leF_congr (A := fun f => (bdL M).getD f 0) (A' := bd M) 32 (fun f hf => bdL_get M f hf)] at h
        exact h
      have HE : Hid (insB false M (some p) = leF (bd M) (fun f => p.getD f 0) 32) := Bool.false_or _
      generalize leF (bd M) (fun f => p.getD f 0) 32 = b at *
      clear hT hr ha0 hv hp
      go_enter Tryd.func31, Tryd.ntmps31
      go_wp2_with fail
      refine hcl.mono ?_
      rintro e w1 ⟨hb1, ⟨he, -⟩ | ⟨-, g, rfl, hg, ha⟩⟩
      · cases he
      · have hls := HL.out w1 g hb1 ha
        have HB1 : Hid (Below w.heap.size w w1) := hb1
        clear hb1 hcl ha
        go_wp2_with fail
        refine hls.mono ?_
        rintro e w2 ⟨rfl, hb2⟩
        go_wp2_with fail
        go_ret
        exact ⟨ret_b HE.out, HB1.out.trans (hb2.mono HB1.out.size)⟩

set_option maxRecDepth 100000 in
set_option maxHeartbeats 3200000 in
theorem r_starts (v : Value) (r : Option (List Int)) (hr : okp r) (hv : RdL w v r) :
    Calls Tryd.prog 73 #[v] w fun e w' => e = .returned (.bool (wiB false (cE r) (fun _ => 0) (cM r))) ∧ Below w.heap.size w w' := by
  have hq1 : ∀ (w : World) (a : Option Addr) (n c : Nat), (binOp .eql 22 (.slice a n c) (.slice none 0 0)).run Tryd.prog w = .ok (.bool a.isNone) w := fun w a n c => Lib.run_eql_slice_nil w 22 tN a n c 0 0 Tryd.underlying22
  rw [sta_same hr]
  cases r with
  | none =>
    obtain rfl : v = .slice none 0 0 := hv
    have HE : Hid (staB none = false) := rfl
    clear hr
    go_enter Tryd.func73, Tryd.ntmps73
    go_wp2_with fail
    go_ret
    exact ⟨ret_b HE.out, Below.refl _ _⟩
  | some l =>
    have hl := (okp_ok hr).1
    obtain ⟨⟨ao, ca, e, -, h0⟩, a, n, c, rfl⟩ := hv
    obtain ⟨p, off, rfl, hp, hcell⟩ := h0 (by omega)
    cases e
    rw [hl]
    have HC : Hid (∀ i, i < 32 → w.cell? ⟨p, off + i, none⟩ = some (.int .i64 (l.getD i 0))) := fun i hi => hcell i (by omega)
    have HE : Hid (staB (some l) = leF (fun _ => 0) (fun f => l.getD f 0) 32) := rfl
    obtain ⟨A, hA⟩ : ∃ A : Nat → Int, A = fun _ => 0 := ⟨_, rfl⟩
    obtain ⟨B, hB⟩ : ∃ B : Nat → Int, B = fun f => l.getD f 0 := ⟨_, rfl⟩
    have HC' : Hid (∀ i, i < 32 → w.cell? ⟨p, off + i, none⟩ = some (.int .i64 (B i))) := by rw [hB]; exact HC.out
    have HA : Hid (∀ i, A i = 0) := by rw [hA]; exact fun _ => rfl
    rw [← hA, ← hB] at HE
    clear HC hA hB hcell h0 hl hr
    go_enter Tryd.func73, Tryd.ntmps73
    go_wp2_with fail
    go_loopw [3] (fun i wr => ∃ (f k : Nat), f ≤ 32 ∧ i = .int .i64 f ∧ Hid (wr = w.drewN k ∧ leF A B f = true)) (fun i _ => 32 - (intOf i).toNat)
    case atStart => exact ⟨0, 0, by omega, rfl, rfl, rfl⟩
    case round =>
      obtain ⟨f, k, hf, rfl, HR⟩ := hrel
      by_cases hlt : f < 32
      · have hfi : (f : Int) < 32 := by omega
        have ca : wr.cell? ⟨p, off + f, none⟩ = some (.int .i64 (B f)) := by rw [HR.out.1]; exact HC'.out f hlt
        have HN : Hid (B f < 0 → leF A B 32 = false) := fun h => by
          cases e : leF A B 32 with
          | false => rfl
          | true => have := leF_iff.1 e f hlt; rw [HA.out] at this; omega
        have HY : Hid (¬ B f < 0 → leF A B (f + 1) = true) := fun h => by
          show (leF A B f && decide (A f ≤ B f)) = true
          rw [HR.out.2, HA.out, decide_eq_true (by omega)]; rfl
        generalize B f = y at *
        by_cases hxy : y < 0
        · have HF : Hid (leF A B 32 = false) := HN.out hxy
          go_wp2_with fail
          go_ret
          exact ⟨ret_b (HE.out.trans HF.out), by rw [HR.out.1]; exact below_drewN (Below.refl _ _) _⟩
        · have HF : Hid (leF A B (f + 1) = true) := HY.out hxy
          go_wp2_with fail
          go_roundw
          case rel => exact ⟨f + 1, k, by omega, by go_num, HR.out.1, HF.out⟩
          case measure => simp [intOf]; omega
      · have hf32 : f = 32 := by omega
        subst hf32
        go_wp2_with fail
        go_ret
        exact ⟨ret_b (HE.out.trans HR.out.2), by rw [HR.out.1]; exact below_drewN (Below.refl _ _) _⟩

end Go.Proofs.YtffajooegiempaaDoor

namespace Go.Proofs.YtffajooegiempaaDoor
open Go.RowKit
variable {B : Nat} {w w' : World} {r : Nat} {m : Rd} {vs vo : Value} {P Q O : Nat → Nat}


set_option maxRecDepth 100000 in
set_option maxHeartbeats 1600000 in
theorem Rep.follows (h : Rep B w r m vs vo P Q O) (hl : m.st.length ≤ 20) (n : Nat) : ∀ i, i < m.st.length → i < n →
    Calls Tryd.prog 96 #[.pointer (some ⟨r, 0, none⟩), .int .i64 (i : Int)] w fun e w' => e = .returned (.int .i64 (followR m.st n i)) ∧ w' = w := by
  induction n with
  | zero => intro i _ hi; omega
  | succ n ih =>
    intro i hi hin
    obtain ⟨g, cap, hvs, hrow, _⟩ := h.row (by omega)
    obtain ⟨r0, r1, r2, r3, r4, r5, rf⟩ := h.rdc
    rw [hvs] at r1
    have hcell : ∀ j, j < m.st.length → w.cell? ⟨g, j, none⟩ = some (.pointer (some ⟨P j, 0, none⟩)) := hrow
    have hst := fun j (hj : j < m.st.length) => h.stc j _ (Rep.gets hj)
    have hI := fun j (h1 : j < m.st.length) (h2 : j < n) => ih j h1 h2
    have HI : Hid (∀ j, j < m.st.length → j < n → Calls Tryd.prog 96 #[.pointer (some ⟨r, 0, none⟩), .int .i64 (j : Int)] w fun e w' => e = .returned (.int .i64 (followR m.st n j)) ∧ w' = w) := hI
    have HC : Hid (∀ j, j < m.st.length → w.cell? ⟨g, j, none⟩ = some (.pointer (some ⟨P j, 0, none⟩))) := hcell
    have HS : Hid (∀ j, j < m.st.length → w.cell? ⟨P j, 0, none⟩ = some (.int .u8 (m.st.getD j noSt).kind) ∧ w.cell? ⟨P j, 5, none⟩ = some (.int .i64 (m.st.getD j noSt).mid) ∧ w.cell? ⟨P j, 6, none⟩ = some (.int .i64 (m.st.getD j noSt).fin)) := fun j hj => ⟨(hst j hj).1, (hst j hj).2.2.2.2.2.1, (hst j hj).2.2.2.2.2.2.1⟩
    have HF : Hid (followR m.st (n + 1) i = if lastOpen m.st i i < 0 then ((m.st.getD i noSt).fin : Int) else if (m.st.getD i noSt).fin < endOf (m.st.getD (lastOpen m.st i i).toNat noSt) i then ((m.st.getD i noSt).fin : Int) else if (m.st.getD (lastOpen m.st i i).toNat noSt).kind = 64 then lastOpen m.st i i else followR m.st n (lastOpen m.st i i).toNat) := by
      show followR _ _ _ = _; rw [followR]
    have hii : (i : Int) < (m.st.length : Int) := by omega
    clear h ih hrow hst hI hcell hvs r0 r2 r3 r4 r5 rf
    go_enter Tryd.func96, Tryd.ntmps96
    go_wp2_with fail
    go_loop [5, 6] (fun q k => ∃ j : Nat, j ≤ i ∧ k = .int .i64 j ∧ q = .int .i64 (lastOpen m.st i j)) (fun _ k => i - (intOf k).toNat)
    case atStart => exact ⟨0, Nat.zero_le _, rfl, rfl⟩
    case round =>
      obtain ⟨j, hj, rfl, rfl⟩ := hrel
      by_cases hlt : j < i
      · have hjl : j < m.st.length := by omega
        have hji : (j : Int) < (m.st.length : Int) := by omega
        have k1 := HC.out j hjl
        obtain ⟨-, -, k2⟩ := HS.out j hjl
        have HL : Hid (lastOpen m.st i (j + 1) = if i < (m.st.getD j noSt).fin then (j : Int) else lastOpen m.st i j) := rfl
        generalize lastOpen m.st i j = lo at *
        generalize (m.st.getD j noSt).fin = fi at *
        by_cases hf : i < fi
        · have hfi : (i : Int) < (fi : Int) := by omega
          go_wp2_with fail
          go_round
          case rel => exact ⟨j + 1, by omega, by go_num, by rw [HL.out, if_pos hf]⟩
          case measure => simp [intOf]; omega
        · have hfi : ¬ (i : Int) < (fi : Int) := by omega
          go_wp2_with fail
          go_round
          case rel => exact ⟨j + 1, by omega, by go_num, by rw [HL.out, if_neg hf]⟩
          case measure => simp [intOf]; omega
      · have hje : j = i := by omega
        subst hje
        have k1 := HC.out j hi
        obtain ⟨-, -, k2⟩ := HS.out j hi
        obtain ⟨l0, l1⟩ := lastOpen_lt m.st j j
        by_cases hneg : lastOpen m.st j j < 0
        · have HE : Hid (followR m.st (n + 1) j = ((m.st.getD j noSt).fin : Int)) := HF.out.trans (if_pos hneg)
          clear HF
          generalize lastOpen m.st j j = lo at *
          generalize (m.st.getD j noSt).fin = fi at *
          go_wp2_with fail
          go_ret
          exact ⟨by rw [HE.out]; rfl, rfl⟩
        · obtain ⟨q, hq⟩ : ∃ q : Nat, lastOpen m.st j j = q := ⟨(lastOpen m.st j j).toNat, by omega⟩
          rw [hq] at l1 hneg HF ⊢
          have hql : q < m.st.length := by omega
          have hqi : (q : Int) < (m.st.length : Int) := by omega
          have k3 := HC.out q hql
          obtain ⟨s0, s5, s6⟩ := HS.out q hql
          simp only [Int.toNat_natCast] at HF
          have HF2 : Hid (followR m.st (n + 1) j = if (m.st.getD j noSt).fin < endOf (m.st.getD q noSt) j then ((m.st.getD j noSt).fin : Int) else if (m.st.getD q noSt).kind = 64 then (q : Int) else followR m.st n q) := HF.out.trans (if_neg hneg)
          have hrec := HI.out q hql (by omega)
          clear HF hneg hq
          have HEn : Hid (endOf (m.st.getD q noSt) j = if (m.st.getD q noSt).kind = 63 ∧ j < (m.st.getD q noSt).mid then (m.st.getD q noSt).mid else (m.st.getD q noSt).fin) := rfl
          generalize m.st.getD q noSt = u at *
          generalize (m.st.getD j noSt).fin = fi at *
          have hq0 : ¬ (q : Int) < 0 := by omega
          by_cases h63 : u.kind = 63
          · rw [h63] at s0
            by_cases hmid : j < u.mid
            · have hmi : (j : Int) < (u.mid : Int) := by omega
              have en : endOf u j = u.mid := HEn.out.trans (if_pos ⟨h63, hmid⟩)
              rw [en, h63] at HF2
              clear HEn en h63
              by_cases hlt2 : fi < u.mid
              · have hd : (fi : Int) < (u.mid : Int) := by omega
                have HE : Hid (_ = _) := HF2.out.trans (if_pos hlt2)
                clear HF2
                go_wp2_with fail
                go_ret
                exact ⟨by rw [HE.out]; rfl, rfl⟩
              · have hd : ¬ (fi : Int) < (u.mid : Int) := by omega
                have HE : Hid (_ = _) := (HF2.out.trans (if_neg hlt2)).trans (if_neg (by decide))
                clear HF2
                go_wp2_with fail
                refine hrec.mono ?_
                rintro e w1 ⟨rfl, rfl⟩
                go_wp2_with fail
                go_ret
                exact ⟨by rw [HE.out]; rfl, rfl⟩
            · have hmi : ¬ (j : Int) < (u.mid : Int) := by omega
              have en : endOf u j = u.fin := HEn.out.trans (if_neg (fun e => hmid e.2))
              rw [en, h63] at HF2
              clear HEn en h63
              by_cases hlt2 : fi < u.fin
              · have hd : (fi : Int) < (u.fin : Int) := by omega
                have HE : Hid (_ = _) := HF2.out.trans (if_pos hlt2)
                clear HF2
                go_wp2_with fail
                go_ret
                exact ⟨by rw [HE.out]; rfl, rfl⟩
              · have hd : ¬ (fi : Int) < (u.fin : Int) := by omega
                have HE : Hid (_ = _) := (HF2.out.trans (if_neg hlt2)).trans (if_neg (by decide))
                clear HF2
                go_wp2_with fail
                refine hrec.mono ?_
                rintro e w1 ⟨rfl, rfl⟩
                go_wp2_with fail
                go_ret
                exact ⟨by rw [HE.out]; rfl, rfl⟩
          · have b63 : (u.kind == 63) = false := by simpa using h63
            have en : endOf u j = u.fin := HEn.out.trans (if_neg (fun e => h63 e.1))
            rw [en] at HF2
            clear HEn en h63
            by_cases hlt2 : fi < u.fin
            · have hd : (fi : Int) < (u.fin : Int) := by omega
              have HE : Hid (_ = _) := HF2.out.trans (if_pos hlt2)
              clear HF2
              go_wp2_with fail
              go_ret
              exact ⟨by rw [HE.out]; rfl, rfl⟩
            · have hd : ¬ (fi : Int) < (u.fin : Int) := by omega
              by_cases h64 : u.kind = 64
              · have HE : Hid (_ = _) := (HF2.out.trans (if_neg hlt2)).trans (if_pos h64)
                rw [h64] at s0
                clear b63 h64
                clear HF2
                go_wp2_with fail
                go_ret
                exact ⟨by rw [HE.out]; rfl, rfl⟩
              · have b64 : (u.kind == 64) = false := by simpa using h64
                have HE : Hid (_ = _) := (HF2.out.trans (if_neg hlt2)).trans (if_neg h64)
                clear h64
                clear HF2
                go_wp2_with fail
                refine hrec.mono ?_
                rintro e w1 ⟨rfl, rfl⟩
                go_wp2_with fail
                go_ret
                exact ⟨by rw [HE.out]; rfl, rfl⟩

end Go.Proofs.YtffajooegiempaaDoor

