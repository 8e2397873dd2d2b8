import Derived.Test.YtffajooegiempaaJ3
import Derived.Laws.AppendOwn
import Derived.Laws.OwnMore
import Derived.ArgAppend
import Derived.Deep.RegionWith
namespace Go.Proofs.Ytffajooegiempaa
open Go.RowKit

theorem ownsRow_base {w : World} {B B' : Nat} {e : TypeId} {size : Nat} {v : Value} {n : Nat} {xs : List Value} (h : w.ownsRow B e size v n xs) (hB : B' ≤ B) : w.ownsRow B' e size v n xs := by
  obtain ⟨h1, h2⟩ := h
  refine ⟨h1, ?_⟩
  rcases h2 with h2 | ⟨g, cap, c, hv, hg, rest⟩
  · exact .inl h2
  · exact .inr ⟨g, cap, c, hv, by omega, rest⟩

/-- append to a row of the call's own: the row is the same, or a new one. -/
theorem run_append_own2 {P : Program} (w : World) (base : Nat) (t ty e : TypeId) (i : TypeInfo) (z : Value) (size bytes : Nat) (ht : P.underlying t = some (.slice e)) (hi : P.info? e = some i) (hz : i.zero = some z)
    (hsize : i.size = size) (hby : i.bytes = bytes) (hzs : z.cells.size = size) (hsz : 0 < size)
    (v : Value) (n : Nat) (xs : List Value) (hown : w.ownsRow base e size v n xs)
    (a : Addr) (m c : Nat) (news : List Value) (hl : news.length = m * size) (hnews : ∀ j u, news[j]? = some u → w.cell? (a.add j) = some u) (h1 : ∀ u ∈ news, u.oneCell' = true)
    (h63 : n + m ≤ maxLen) (hbytes : (n + m) * bytes ≤ 140737488355328) (hbase : base ≤ w.heap.size) :
    ∃ v' w', (Builtin.append_ #[t, t] ty #[v, .slice (some a) m c]).run P w = .ok v' w' ∧ w'.ownsRow base e size v' (n + m) (xs ++ news) ∧ w.grownBy w' v.ownBlock ∧
      (v'.ownBlock = v.ownBlock ∨ ∀ g, v'.ownBlock = some g → w.heap.size ≤ g) := by
  rcases hown.2 with ⟨rfl, rfl⟩ | ⟨g, cap, cur, rfl, hbg, hg, hnc, hcm, hcs, htake⟩
  · have hx : xs = [] := List.eq_nil_of_length_eq_zero (by simpa using hown.1)
    subst hx
    obtain ⟨v', w', h2, h3, h4, _⟩ := run_append_own (P := P) w w.heap.size t ty e i z size bytes ht hi hz hsize hby hzs hsz (.slice none 0 0) 0 [] (World.ownsRow_nil w _ e size) a m c news hl hnews h1 h63 hbytes (Nat.le_refl _)
    exact ⟨v', w', h2, ownsRow_base h3 hbase, h4, .inr fun g hg => (h3.lt g hg).1⟩
  · by_cases hroom : n + m ≤ cap
    · obtain ⟨w', h2, h3, h4⟩ := run_append_fits (P := P) w base t ty e i size ht hi hsize g n cap xs hown a m c news hl hnews h1 hroom
      exact ⟨_, w', h2, h3, h4, .inl rfl⟩
    · obtain ⟨v', w', h2, h3, h4⟩ := run_append_arg_grows (P := P) w t ty e i z size bytes ht hi hz hsize hby hzs hsz ⟨g, 0, none⟩ n cap xs hown.1 (hown.cells (g := g) rfl) a m c news hl hnews (by omega) h63 hbytes
      exact ⟨v', w', h2, ownsRow_base h3 hbase, ⟨h4.os, h4.tape, h4.output, h4.size, fun k hk _ => h4.block k hk (by simp)⟩, .inr fun g hg => (h3.lt g hg).1⟩

theorem wpList_append_own2 {P : Program} {w : World} {ops : Array Oper} {rest : List Oper} {o : Oper} {a : Act} {Q : Exit → Act → World → Prop} (hgd : o.guard = none) (s x : Operand) (t : TypeId)
    (ho : o.op = .call { callee := .builtin .append, args := #[s, x], argTypes := #[t, t] })
    (base : Nat) (e : TypeId) (i : TypeInfo) (z : Value) (size bytes : Nat) (ht : P.underlying t = some (.slice e)) (hi : P.info? e = some i) (hz : i.zero = some z)
    (hsize : i.size = size) (hby : i.bytes = bytes) (hzs : z.cells.size = size) (hsz : 0 < size)
    (v : Value) (n : Nat) (xs : List Value) (hs : a.eval s = v) (hown : w.ownsRow base e size v n xs)
    (ad : Addr) (m c : Nat) (news : List Value) (hx : a.eval x = .slice (some ad) m c) (hl : news.length = m * size) (hnews : ∀ j u, news[j]? = some u → w.cell? (ad.add j) = some u) (h1 : ∀ u ∈ news, u.oneCell' = true)
    (h63 : n + m ≤ maxLen) (hbytes : (n + m) * bytes ≤ 140737488355328) (hbase : base ≤ w.heap.size)
    (h : ∀ v' w', w'.ownsRow base e size v' (n + m) (xs ++ news) → w.grownBy w' v.ownBlock → (v'.ownBlock = v.ownBlock ∨ ∀ g, v'.ownBlock = some g → w.heap.size ≤ g) → wpList P ops Q rest (a.put o.dst v') w') : wpList P ops Q (o :: rest) a w := by
  refine wpList_plain hgd fun _ hK => ?_
  obtain ⟨v', w', hr, h2, h3, h4⟩ := run_append_own2 (P := P) w base t o.type e i z size bytes ht hi hz hsize hby hzs hsz v n xs hown ad m c news hl hnews h1 h63 hbytes hbase
  unfold Oper.wp execOp
  simp only [ho, resolve, invoke, builtin, Sem.run_bind, Sem.run_pure, Result.andThen_ok, List.map_toArray, List.map_cons, List.map_nil, hs, hx, hr]
  exact hK _ _ (h v' w' h2 h3 h4)

end Go.Proofs.Ytffajooegiempaa

namespace Go.Proofs.Ytffajooegiempaa
open Go.RowKit
variable {w : World} {s : ByteArray}

theorem addr_add (g i : Nat) : (⟨g, 0, none⟩ : Addr).add i = ⟨g, i, none⟩ := by unfold Addr.add; split <;> simp_all
/-- The lists so far, away from their row. -/
structure LLo (w : World) (base : Nat) (v : Value) (X : List Value) (L : List (Option (List Int))) : Prop where
  row : w.ownsRow base 29 1 v L.length X
  each : ∀ i, i < L.length → PV w base (X.getD i (.bool false)) (L.getD i none)
  away : ∀ i k, i < L.length → (X.getD i (.bool false)).ownBlock = some k → v.ownBlock ≠ some k
theorem LLo.len {base : Nat} {v : Value} {X : List Value} {L : List (Option (List Int))} (h : LLo w base v X L) : X.length = L.length := by have := h.row.1; simpa using this
theorem LLo.keep {w w' : World} {base B : Nat} {v : Value} {X : List Value} {L : List (Option (List Int))} (h : LLo w base v X L) (hb : Below B w w') (hB : w.heap.size ≤ B) : LLo w' base v X L :=
  ⟨ownsRow_below h.row (fun k hk => hb.block k (by have := (h.row.lt k hk).2; omega)), fun i hi => (h.each i hi).same (fun k hk => hb.block k (by have := ((h.each i hi).lt k hk).2; omega)), h.away⟩
theorem LLo.snoc {w w' : World} {base : Nat} {v v' x : Value} {X : List Value} {L : List (Option (List Int))} {o : Option (List Int)} (h : LLo w base v X L) (hx : PV w base x o) (hxv : ∀ k, x.ownBlock = some k → v.ownBlock ≠ some k)
    (hrow : w'.ownsRow base 29 1 v' (L.length + 1) (X ++ [x])) (hg : w.grownBy w' v.ownBlock) (hv : v'.ownBlock = v.ownBlock ∨ ∀ g, v'.ownBlock = some g → w.heap.size ≤ g) : LLo w' base v' (X ++ [x]) (L ++ [o]) := by
  have hl := h.len
  have hX : ∀ i, i < L.length → (X ++ [x]).getD i (.bool false) = X.getD i (.bool false) := fun i hi => by rw [getD_snocV, if_pos (by omega)]
  have hXn : (X ++ [x]).getD L.length (.bool false) = x := by rw [getD_snocV, if_neg (by omega), if_pos hl.symm]
  have hL : ∀ i, i < L.length → (L ++ [o]).getD i none = L.getD i none := fun i hi => by simp [List.getD, List.getElem?_append_left hi]
  have hLn : (L ++ [o]).getD L.length none = o := by simp [List.getD]
  have hlen : (L ++ [o]).length = L.length + 1 := by simp
  have hP : ∀ i, i < L.length + 1 → PV w base ((X ++ [x]).getD i (.bool false)) ((L ++ [o]).getD i none) ∧ ∀ k, ((X ++ [x]).getD i (.bool false)).ownBlock = some k → v.ownBlock ≠ some k := by
    intro i hi
    rcases Nat.lt_or_eq_of_le (Nat.lt_succ_iff.1 hi) with q | q
    · rw [hX i q, hL i q]; exact ⟨h.each i q, fun k hk => h.away i k q hk⟩
    · rw [q, hXn, hLn]; exact ⟨hx, hxv⟩
  refine ⟨by rw [hlen]; exact hrow, fun i hi => ?_, fun i k hi hk => ?_⟩
  · rw [hlen] at hi
    obtain ⟨h1, h2⟩ := hP i hi
    exact h1.same (fun k hk => hg.block k (h1.lt k hk).2 (fun e => h2 k hk e.symm))
  · rw [hlen] at hi
    obtain ⟨h1, h2⟩ := hP i hi
    rcases hv with e | e
    · rw [e]; exact h2 k hk
    · intro e'
      have := e k e'
      have := (h1.lt k hk).2
      omega
theorem LLo.reads {base : Nat} {v : Value} {X : List Value} {L : List (Option (List Int))} (h : LLo w base v X L) (hn : 1 ≤ L.length) : ReadsL w v L ∧ ∃ a n c, v = .slice (some a) n c := by
  rcases h.row.2 with ⟨_, e⟩ | ⟨g, cap, cur, rfl, hg, hh, hcap, _, hsz, htk⟩
  · omega
  · refine ⟨⟨some ⟨g, 0, none⟩, cap, rfl, hcap, fun _ => ⟨g, 0, rfl, (h.row.lt g rfl).2, fun i hi => ?_⟩⟩, _, _, _, rfl⟩
    have hXi : X[i]? = some (X.getD i (.bool false)) := by simp [List.getD, show i < X.length by rw [h.len]; exact hi]
    have hc := h.row.cells (g := g) rfl i _ hXi
    rw [addr_add] at hc
    refine ⟨_, by rw [Nat.zero_add]; exact hc, ?_⟩
    have hp := h.each i hi
    cases e : L.getD i none with
    | none => rw [e] at hp; exact hp
    | some l =>
      rw [e] at hp
      obtain ⟨a, _, hv, hat, hl⟩ := hp
      rw [hv]
      exact ⟨Reads.at_ hat hl (Nat.le_refl _) (fun j hj => ic_get _ _ (by omega)), _, _, _, rfl⟩
/-- A place of a byte. -/
theorem byte_at (s : ByteArray) (k : Nat) (h : k < s.size) : (bytesOf s).getD k 0 = ((s[k]).toNat : Int) := by rw [List.getD_eq_getElem?_getD, bytesOf_get s k h]; rfl

/-- What the document's Decode gives. -/
def ROut (w : World) (s : ByteArray) : Ending → World → Prop := fun e w' => Below w.heap.size w w' ∧
  ((decR s = none ∧ e = .returned (.tuple #[.slice none 0 0, .int .i64 4])) ∨
   ∃ L v, decR s = some L ∧ e = .returned (.tuple #[v, .int .i64 0]) ∧ ReadsL w' v L ∧ ∃ a n c, v = .slice (some a) n c)

set_option maxRecDepth 100000 in
set_option maxHeartbeats 3200000 in
theorem r_decode_bad (_hs : s.size ≤ 9223372036854775807) (hbad : s.size < 1 ∨ (bytesOf s).getD 0 0 < 1 ∨ 21 < (bytesOf s).getD 0 0) : Calls Try.prog 22 #[.string s] w (ROut w s) := by
  have HE : Hid (decR s = none) := by
    show _ = _
    unfold decR looF
    rw [bytesOf_len, if_pos hbad]
  by_cases h0 : s.size < 1
  · have hz : s.size = 0 := by omega
    have h1 : (s.size : Int) < 1 := by omega
    clear hbad
    go_enter Try.func22, Try.ntmps22
    go_wp2_with fail
    go_ret2
    exact ⟨Below.refl _ _, .inl ⟨HE.out, rfl⟩⟩
  · have h1 : ¬ (s.size : Int) < 1 := by omega
    have h0' : 0 < s.size := by omega
    rw [byte_at s 0 h0'] at hbad
    have hb := hbad.resolve_left h0
    by_cases h2 : ((s[0]).toNat : Int) < 1
    · clear hbad hb
      go_enter Try.func22, Try.ntmps22
      go_wp2_with fail
      go_ret2
      exact ⟨Below.refl _ _, .inl ⟨HE.out, rfl⟩⟩
    · have h3 : (21 : Int) < ((s[0]).toNat : Int) := by omega
      clear hbad hb
      go_enter Try.func22, Try.ntmps22
      go_wp2_with fail
      go_ret2
      exact ⟨Below.refl _ _, .inl ⟨HE.out, rfl⟩⟩

end Go.Proofs.Ytffajooegiempaa

namespace Go.Proofs.Ytffajooegiempaa
open Go.RowKit
variable {w : World} {s : ByteArray}

theorem lpF_succ (b : List Int) (k i : Nat) (L : List (Option (List Int))) : lpF b (k + 1) i L = match lp1 b i with | none => none | some y => lpF b k y.1 (L ++ [y.2]) := rfl
theorem inF_succ (b : List Int) (k i : Nat) (o : List Int) : inF b (k + 1) i o = if i + 3 ≤ b.length ∧ b.getD i 0 < 32 then inF b k (i + 3) (o.set (b.getD i 0).toNat (256 * b.getD (i + 1) 0 + b.getD (i + 2) 0 - 4000)) else none := rfl

/-- Two strings held against each other. -/
theorem str_eq (a b : ByteArray) : (a.toList == b.toList) = true ↔ a = b := by
  rw [ByteArray.toList_eq, ByteArray.toList_eq]
  obtain ⟨⟨x⟩⟩ := a
  obtain ⟨⟨y⟩⟩ := b
  simp
theorem str_ne {a b : ByteArray} (h : a ≠ b) : (a.toList == b.toList) = false := by
  cases e : (a.toList == b.toList) with
  | false => rfl
  | true => exact absurd ((str_eq a b).1 e) h
theorem PV_nil {w : World} {base : Nat} : PV w base (.slice none 0 0) none := rfl
set_option maxRecDepth 100000 in
set_option maxHeartbeats 6400000 in
theorem r_decode_ok (hs : s.size ≤ 9223372036854775807) (h0 : 0 < s.size) (h1 : 1 ≤ (bytesOf s).getD 0 0) (h21 : (bytesOf s).getD 0 0 ≤ 21) : Calls Try.prog 22 #[.string s] w (ROut w s) := by
  rw [byte_at s 0 h0] at h1 h21
  obtain ⟨n, hn⟩ : ∃ n : Nat, ((s[0]).toNat : Int) = (n : Int) := ⟨_, rfl⟩
  obtain ⟨b, hb⟩ : ∃ b, b = bytesOf s := ⟨_, rfl⟩
  have HE : Hid (looF b = lpF b n 1 []) := by
    show _ = _
    rw [hb]
    unfold looF
    rw [bytesOf_len, byte_at s 0 h0, hn, if_neg (by omega), Int.toNat_natCast]
  have HD : Hid (decR s = match looF b with | none => none | some L => if (encR L).2 = 0 ∧ strOfNums (encR L).1 = s then some L else none) := by rw [hb]; rfl
  have HBy : Hid (∀ k (h : k < s.size), b.getD k 0 = ((s[k]).toNat : Int)) := by rw [hb]; exact byte_at s
  have HBl : Hid (b.length = s.size) := by rw [hb]; exact bytesOf_len s
  rw [hn] at h1 h21
  have hw0 : wrap64 (n : Int) = (n : Int) := by unfold wrap64; omega
  have z0 : ¬ (s.size : Int) < 1 := by omega
  have z1 : ¬ (n : Int) < 1 := by omega
  have z2 : ¬ (21 : Int) < (n : Int) := by omega
  have hmk : ∀ w, (Instr.makeSlice 29 (.int .i64 32) (.int .i64 32)).run Try.prog w = .ok (.slice (some ⟨w.heap.size, 0, none⟩) 32 32) (w.alloc (.cells (ic (List.replicate 32 0)) 3)) := fun _ => by kernel_rfl
  obtain ⟨i0, hi0, hz0, hz1, hz2⟩ := info_parts (P := Try.prog) (e := 29) (z := .slice none 0 0) (size := 1) (bytes := 24) (by kernel_rfl)
  obtain ⟨zl, hzl⟩ : ∃ zl, zl = List.replicate 32 (0 : Int) := ⟨_, rfl⟩
  have HL0 : Hid (zl.length = 32) := by show _ = _; rw [hzl]; simp
  rw [← hzl] at hmk
  clear hb hzl
  go_enter Try.func22, Try.ntmps22
  go_wp2_with fail
  go_loopw [4, 5, 6] (fun sl at_ i wr => ∃ (q a : Nat) (ao : Option Addr) (cap : Nat) (X : List Value) (L : List (Option (List Int))), q ≤ n ∧ i = .int .i64 q ∧ at_ = .int .i64 (a : Int) ∧ a ≤ 1 + 800 * q ∧ sl = .slice ao q cap ∧ Hid (L.length = q ∧ LLo wr w.heap.size (.slice ao q cap) X L ∧ Below w.heap.size w wr ∧ lpF b (n - q) a L = lpF b n 1 [])) (fun _ _ i _ => n - (intOf i).toNat)
  case atStart => exact ⟨0, 1, none, 0, [], [], by omega, rfl, rfl, by omega, rfl, rfl, ⟨World.ownsRow_nil _ _ _ _, fun i hi => absurd hi (by simp), fun i k hi => absurd hi (by simp)⟩, Below.refl _ _, rfl⟩
  case round =>
    obtain ⟨q, a, ao, cap, X, L, hq, rfl, rfl, ha, rfl, HR⟩ := hrel
    by_cases hlt : q < n
    · have hqi : (q : Int) < (n : Int) := by omega
      have HSu : Hid (lpF b n 1 [] = match lp1 b a with | none => none | some y => lpF b (n - (q + 1)) y.1 (L ++ [y.2])) := by
        show _ = _
        rw [← HR.out.2.2.2, show n - q = (n - (q + 1)) + 1 by omega, lpF_succ]
      have HNo : Hid (lp1 b a = none → decR s = none) := by
        intro h; rw [HD.out, HE.out, HSu.out, h]
      by_cases hz : a < s.size ∧ b.getD a 0 = 0
      · obtain ⟨haz, hzb⟩ := hz
        have hai : (a : Int) < (s.size : Int) := by omega
        have hby : ((s[a]'haz).toNat : Int) = 0 := by rw [← HBy.out a haz]; exact hzb
        have hby' : (s[a]'haz).toNat = 0 := by omega
        have HX : Hid (lpF b (n - (q + 1)) (a + 1) (L ++ [none]) = lpF b n 1 []) := by
          show _ = _
          rw [HSu.out]
          unfold lp1
          rw [if_pos ⟨by rw [HBl.out]; exact haz, hzb⟩]
        clear hby hzb
        have HN : Hid (wr.heap.size + 0 = wr.heap.size ∧ L.length = q) := ⟨rfl, HR.out.1⟩
        go_wp2_with (at_builtin; refine wpList_append_own2 rfl (.tmp 43) (.tmp 44) 39 rfl w.heap.size 29 i0 _ 1 24 Try.underlying39 hi0 hz0 hz1 hz2 rfl (by decide) (.slice ao q cap) q X rfl (by have h := HR.out.2.1; have h2 := h.row; rw [HN.out.2] at h2; exact h2.alloc _) ⟨wr.heap.size, 0, none⟩ 1 1 [(Value.slice none 0 0)] rfl rfl (by intro t u ht; match t, ht with | 0, ht => simp at ht; subst ht; exact World.cell?_alloc_at _ _ _ _ rfl) (by intro u hu; simp at hu; subst hu; rfl) (by unfold maxLen; omega) (by omega) (by have := (HR.out.2.2.1).size; simp; omega) ?_; intro v5 w5 hown5 hgrow5 hv5)
        have HL5 : Hid (LLo w5 w.heap.size v5 (X ++ [(Value.slice none 0 0)]) (L ++ [none])) := by
          refine LLo.snoc (w := wr.alloc (.cells #[(Value.slice none 0 0)] 29)) (v := .slice ao q cap) ?_ ?_ ?_ ?_ hgrow5 hv5
          · exact (HR.out.2.1).keep ((Below.refl _ _).alloc (Nat.le_refl _) _) (Nat.le_refl _)
          · exact PV_nil
          · intro k hk; first | (cases hk; done) | exact HAw.out k hk
          · rw [HN.out.2]; exact hown5
        have HB5 : Hid (Below w.heap.size w w5) := ((HR.out.2.2.1).alloc (HR.out.2.2.1).size _).grown hgrow5 (by have := (HR.out.2.2.1).size; simp; omega) (fun k hk => ((HR.out.2.1).row.lt k (by exact hk)).1)
        obtain ⟨ao5, cap5, hv5e⟩ : ∃ ao5 cap5, v5 = .slice ao5 (q + 1) cap5 := by
          rcases hown5.2 with ⟨e, e2⟩ | ⟨g, cap, cur, e, _⟩
          · omega
          · exact ⟨_, _, e⟩
        subst hv5e
        have H5 : Hid (LLo w5 w.heap.size (.slice ao5 (q + 1) cap5) (X ++ [(Value.slice none 0 0)]) (L ++ [none]) ∧ Below w.heap.size w w5) := ⟨HL5.out, HB5.out⟩
        clear hown5 hgrow5 hv5 HL5 HB5
        go_roundw
        case rel => exact ⟨q + 1, a + 1, ao5, cap5, X ++ [Value.slice none 0 0], L ++ [none], by omega, by go_num, by go_num, by omega, rfl, by simp [HR.out.1], H5.out.1, H5.out.2, HX.out⟩
        case measure => simp [intOf]; omega
      · have HLp : Hid (lp1 b a = if b.length < a + 2 then none else match inF b (b.getD (a + 1) 0).toNat (a + 2) none32 with | none => none | some y => some (y.1, some y.2)) := by
          show _ = _
          unfold lp1
          rw [if_neg (by rw [HBl.out]; exact hz)]
          rfl
        by_cases hsh : s.size < a + 2
        · have HX : Hid (decR s = none) := HNo.out (by rw [HLp.out, if_pos (by rw [HBl.out]; exact hsh)])
          have hsi : (s.size : Int) < (a : Int) + 2 := by omega
          by_cases haz : a < s.size
          · have hai : (a : Int) < (s.size : Int) := by omega
            have hby : ¬ ((s[a]'haz).toNat = 0) := fun e => hz ⟨haz, by rw [HBy.out a haz, e]; rfl⟩
            clear hz
            go_wp2_with fail
            go_ret2
            exact ⟨HR.out.2.2.1, .inl ⟨HX.out, rfl⟩⟩
          · have hai : ¬ (a : Int) < (s.size : Int) := by omega
            clear hz
            go_wp2_with fail
            go_ret2
            exact ⟨HR.out.2.2.1, .inl ⟨HX.out, rfl⟩⟩
        · have haz : a < s.size := by omega
          have haz1 : a + 1 < s.size := by omega
          have hai : (a : Int) < (s.size : Int) := by omega
          have hai1 : (a : Int) + 1 < (s.size : Int) := by omega
          have hsi : ¬ (s.size : Int) < (a : Int) + 2 := by omega
          have hby : ¬ ((s[a]'haz).toNat = 0) := fun e => hz ⟨haz, by rw [HBy.out a haz, e]; rfl⟩
          obtain ⟨a1, ha1⟩ : ∃ a1, a1 = a + 1 := ⟨_, rfl⟩
          have hea : (a : Int) + 1 = (a1 : Int) := by omega
          have haz2 : a1 < s.size := by omega
          have hai2 : (a1 : Int) < (s.size : Int) := by omega
          obtain ⟨m, hm⟩ : ∃ m : Nat, (((s[a1]'haz2).toNat : Nat) : Int) = (m : Int) := ⟨_, rfl⟩
          have hm255 : m ≤ 255 := by have := (s[a1]'haz2).toNat_lt; omega
          have HL2 : Hid (lp1 b a = match inF b m (a + 2) none32 with | none => none | some y => some (y.1, some y.2)) := by
            show _ = _
            rw [HLp.out, if_neg (by rw [HBl.out]; exact hsh), ← ha1, HBy.out a1 haz2, hm, Int.toNat_natCast]
          have HLr : Hid (LLo wr w.heap.size (.slice ao q cap) X L) := HR.out.2.1
          have HBr : Hid (Below w.heap.size w wr) := HR.out.2.2.1
          have hbs := HR.out.2.2.1.size
          clear hz hsh ha1 hai1 haz1
          go_wp2_with fail
          obtain ⟨wm, hwm0⟩ : ∃ wm, wm = wr.alloc (.cells (ic zl) 3) := ⟨_, rfl⟩
          have HM : Hid (At wm wr.heap.size (ic zl) 3 ∧ Below wr.heap.size wr wm) := by show _ ∧ _; rw [hwm0]; exact ⟨At.new _ _ _, (Below.refl _ _).alloc (Nat.le_refl _) _⟩
          rw [← hwm0]
          clear hwm0
          obtain ⟨wo, rfl⟩ : ∃ wo, wo = wr := ⟨_, rfl⟩
          go_loopw [8] (fun i w2 => ∃ (f : Nat) (l : List Int), f ≤ 32 ∧ i = .int .i64 f ∧ Hid (l.length = 32 ∧ At w2 wo.heap.size (ic l) 3 ∧ (∀ j, j < f → l.getD j 0 = 1000000) ∧ Below wo.heap.size wo w2)) (fun i _ => 32 - (intOf i).toNat)
          case atStart => exact ⟨0, zl, by omega, rfl, HL0.out, HM.out.1, fun j hj => absurd hj (by omega), HM.out.2⟩
          case round =>
            obtain ⟨f, l, hf, rfl, HF⟩ := hrel
            have hwl := HF.out.2.1.lt
            by_cases hfl : f < 32
            · have hfi : (f : Int) < 32 := by omega
              obtain ⟨x0, hx0⟩ : ∃ x, wr.cell? ⟨wo.heap.size, f, none⟩ = some x := ⟨_, by rw [HF.out.2.1.cell]; exact ic_get l f (by rw [HF.out.1]; exact hfl)⟩
              have hfr := HF.out.2.1.free f
              go_wp2_with fail
              go_roundw
              case rel =>
                refine ⟨f + 1, l.set f 1000000, by omega, by go_num, by simp [HF.out.1], ?_, ?_, HF.out.2.2.2.setCell (Nat.le_refl _) _⟩
                · rw [← ic_set]; exact HF.out.2.1.put f _
                · intro j hj
                  by_cases e : j = f
                  · subst e; simp [List.getD, HF.out.1, hfl]
                  · have := HF.out.2.2.1 j (by omega)
                    simpa [List.getD, List.getElem?_set, Ne.symm e] using this
              case measure => simp [intOf]; omega
            · have hf32 : f = 32 := by omega
              subst hf32
              obtain ⟨wf, hwf⟩ : ∃ wf, wf = wr := ⟨_, rfl⟩
              have HO : Hid (l = none32) := by
                show _ = _
                apply List.ext_getElem
                · rw [HF.out.1]; rfl
                · intro j h1 h2
                  have := HF.out.2.2.1 j (by rw [HF.out.1] at h1; exact h1)
                  simp [List.getD, h1] at this
                  rw [this]
                  exact (List.getElem_replicate _).symm
              have HWf : Hid (At wf wo.heap.size (ic none32) 3 ∧ Below wo.heap.size wo wf) := by show _ ∧ _; rw [hwf, ← HO.out]; exact ⟨HF.out.2.1, HF.out.2.2.2⟩
              rw [← hwf]
              clear hwf HF HO hfl
              go_wp2_with fail
              clear hm
              go_loopw [5, 10] (fun at_ i w3 => ∃ (k a3 : Nat) (l : List Int), k ≤ m ∧ i = .int .i64 k ∧ at_ = .int .i64 (a3 : Int) ∧ a3 ≤ a + 2 + 3 * k ∧ Hid (l.length = 32 ∧ At w3 wo.heap.size (ic l) 3 ∧ Below wo.heap.size wo w3 ∧ inF b (m - k) a3 l = inF b m (a + 2) none32)) (fun _ i _ => m - (intOf i).toNat)
              case atStart => exact ⟨0, a + 2, none32, by omega, rfl, by go_num, by omega, by rfl, HWf.out.1, HWf.out.2, rfl⟩
              case round =>
                obtain ⟨k, a3, l, hk, rfl, rfl, ha3, HG⟩ := hrel
                have hwl := HG.out.2.1.lt
                by_cases hkm : k < m
                · have hki : (k : Int) < (m : Int) := by omega
                  have HIn : Hid (inF b m (a + 2) none32 = if a3 + 3 ≤ b.length ∧ b.getD a3 0 < 32 then inF b (m - (k + 1)) (a3 + 3) (l.set (b.getD a3 0).toNat (256 * b.getD (a3 + 1) 0 + b.getD (a3 + 2) 0 - 4000)) else none) := by
                    show _ = _
                    rw [← HG.out.2.2.2, show m - k = (m - (k + 1)) + 1 by omega, inF_succ]
                  have HBd : Hid (inF b m (a + 2) none32 = none → decR s = none) := fun h => HNo.out (by rw [HL2.out, h])
                  by_cases hok : a3 + 3 ≤ s.size
                  · have hj0 : a3 < s.size := by omega
                    obtain ⟨a4, ha4⟩ : ∃ a4, a4 = a3 + 1 := ⟨_, rfl⟩
                    obtain ⟨a5, ha5⟩ : ∃ a5, a5 = a3 + 2 := ⟨_, rfl⟩
                    have he4 : (a3 : Int) + 1 = (a4 : Int) := by omega
                    have he5 : (a3 : Int) + 2 = (a5 : Int) := by omega
                    have hj1 : a4 < s.size := by omega
                    have hj2 : a5 < s.size := by omega
                    have hi0' : (a3 : Int) < (s.size : Int) := by omega
                    have hi1' : (a4 : Int) < (s.size : Int) := by omega
                    have hi2' : (a5 : Int) < (s.size : Int) := by omega
                    have hi3' : ¬ (s.size : Int) < (a3 : Int) + 3 := by omega
                    have t0 := (s[a3]'hj0).toNat_lt
                    have t1 := (s[a4]'hj1).toNat_lt
                    have t2 := (s[a5]'hj2).toNat_lt
                    obtain ⟨y0, hy0⟩ : ∃ y : Nat, (((s[a3]'hj0).toNat : Nat) : Int) = (y : Int) := ⟨_, rfl⟩
                    obtain ⟨y1, hy1⟩ : ∃ y : Nat, (((s[a4]'hj1).toNat : Nat) : Int) = (y : Int) := ⟨_, rfl⟩
                    obtain ⟨y2, hy2⟩ : ∃ y : Nat, (((s[a5]'hj2).toNat : Nat) : Int) = (y : Int) := ⟨_, rfl⟩
                    have u0 : y0 ≤ 255 := by omega
                    have u1 : y1 ≤ 255 := by omega
                    have u2 : y2 ≤ 255 := by omega
                    have HI2 : Hid (inF b m (a + 2) none32 = if y0 < 32 then inF b (m - (k + 1)) (a3 + 3) (l.set y0 (256 * y1 + y2 - 4000)) else none) := by
                      show _ = _
                      rw [HIn.out, HBl.out, ← ha4, ← ha5, HBy.out a3 hj0, HBy.out a4 hj1, HBy.out a5 hj2, hy0, hy1, hy2, Int.toNat_natCast]
                      by_cases q : y0 < 32
                      · rw [if_pos q, if_pos ⟨hok, by omega⟩]
                      · rw [if_neg q, if_neg (by omega)]
                    clear t0 t1 t2 ha4 ha5
                    by_cases hy : y0 < 32
                    · have hyi : (y0 : Int) < 32 := by omega
                      have HX : Hid (inF b (m - (k + 1)) (a3 + 3) (l.set y0 (256 * y1 + y2 - 4000)) = inF b m (a + 2) none32) := by show _ = _; rw [HI2.out, if_pos hy]
                      obtain ⟨x0, hx0⟩ : ∃ x, wr.cell? ⟨wo.heap.size, y0, none⟩ = some x := ⟨_, by rw [HG.out.2.1.cell]; exact ic_get l y0 (by rw [HG.out.1]; exact hy)⟩
                      have hfr := HG.out.2.1.free y0
                      go_wp2_with fail
                      go_region
                      all_goals
                        go_wp2_with fail
                        refine ⟨?_, ?measure⟩
                        (repeat apply Exists.intro)
                        refine ⟨?rel, rfl⟩
                        case rel =>
                          refine ⟨k + 1, a3 + 3, l.set y0 (256 * y1 + y2 - 4000), by omega, by go_num, by go_num, by omega, by simp [HG.out.1], ?_, ?_, HX.out⟩
                          · rw [← ic_set]; exact At.drewN (HG.out.2.1.put y0 _) 1
                          · exact below_drewN (HG.out.2.2.1.setCell (Nat.le_refl _) _) 1
                        case measure => simp [intOf]; omega
                    · have hyi : (32 : Int) ≤ (y0 : Int) := by omega
                      have HX : Hid (decR s = none) := HBd.out (by rw [HI2.out, if_neg hy])
                      go_wp2_with fail
                      go_ret2
                      exact ⟨HBr.out.trans (HG.out.2.2.1.mono hbs), .inl ⟨HX.out, rfl⟩⟩
                  · have hi3' : (s.size : Int) < (a3 : Int) + 3 := by omega
                    have HX : Hid (decR s = none) := HBd.out (by rw [HIn.out, HBl.out, if_neg (fun h => hok h.1)])
                    go_wp2_with fail
                    go_ret2
                    exact ⟨HBr.out.trans (HG.out.2.2.1.mono hbs), .inl ⟨HX.out, rfl⟩⟩
                · have hkm' : k = m := by omega
                  subst hkm'
                  have HX : Hid (lpF b (n - (q + 1)) a3 (L ++ [some l]) = lpF b n 1 []) := by
                    show _ = _
                    have h0 := HG.out.2.2.2
                    rw [show k - k = 0 by omega] at h0
                    have h1 : inF b k (a + 2) none32 = some (a3, l) := h0.symm
                    rw [HSu.out, HL2.out, h1]
                  obtain ⟨w2, rfl⟩ : ∃ w2, w2 = wr := ⟨_, rfl⟩
                  have HLx : Hid (LLo w2 w.heap.size (.slice ao q cap) X L) := HLr.out.keep HG.out.2.2.1 (Nat.le_refl _)
                  have HBx : Hid (Below w.heap.size w w2) := HBr.out.trans (HG.out.2.2.1.mono hbs)
                  have HPv : Hid (PV w2 w.heap.size (.slice (some ⟨wo.heap.size, 0, none⟩) 32 32) (some l)) := ⟨wo.heap.size, hbs, rfl, HG.out.2.1, HG.out.1⟩
                  have HAw : Hid (∀ k, (Value.slice (some ⟨wo.heap.size, 0, none⟩) 32 32).ownBlock = some k → (Value.slice ao q cap).ownBlock ≠ some k) := by
                    intro k hk e
                    have h1 := (HLr.out.row.lt k e).2
                    have h2 : wo.heap.size = k := Option.some.inj hk
                    omega
                  clear hwl hkm
                  have HN : Hid (w2.heap.size + 0 = w2.heap.size ∧ L.length = q) := ⟨rfl, HR.out.1⟩
                  go_wp2_with (at_builtin; refine wpList_append_own2 rfl (.tmp 104) (.tmp 106) 39 rfl w.heap.size 29 i0 _ 1 24 Try.underlying39 hi0 hz0 hz1 hz2 rfl (by decide) (.slice ao q cap) q X rfl (by have h := HLx.out; have h2 := h.row; rw [HN.out.2] at h2; exact h2.alloc _) ⟨w2.heap.size, 0, none⟩ 1 1 [(Value.slice (some ⟨wo.heap.size, 0, none⟩) 32 32)] rfl rfl (by intro t u ht; match t, ht with | 0, ht => simp at ht; subst ht; exact World.cell?_alloc_at _ _ _ _ rfl) (by intro u hu; simp at hu; subst hu; rfl) (by unfold maxLen; omega) (by omega) (by have := (HBx.out).size; simp; omega) ?_; intro v5 w5 hown5 hgrow5 hv5)
                  have HL5 : Hid (LLo w5 w.heap.size v5 (X ++ [(Value.slice (some ⟨wo.heap.size, 0, none⟩) 32 32)]) (L ++ [(some l)])) := by
                    refine LLo.snoc (w := w2.alloc (.cells #[(Value.slice (some ⟨wo.heap.size, 0, none⟩) 32 32)] 29)) (v := .slice ao q cap) ?_ ?_ ?_ ?_ hgrow5 hv5
                    · exact (HLx.out).keep ((Below.refl _ _).alloc (Nat.le_refl _) _) (Nat.le_refl _)
                    · exact (HPv.out.same (fun k hk => heap_alloc_old _ _ (HPv.out.lt k hk).2))
                    · intro k hk; first | (cases hk; done) | exact HAw.out k hk
                    · rw [HN.out.2]; exact hown5
                  have HB5 : Hid (Below w.heap.size w w5) := ((HBx.out).alloc (HBx.out).size _).grown hgrow5 (by have := (HBx.out).size; simp; omega) (fun k hk => ((HLx.out).row.lt k (by exact hk)).1)
                  obtain ⟨ao5, cap5, hv5e⟩ : ∃ ao5 cap5, v5 = .slice ao5 (q + 1) cap5 := by
                    rcases hown5.2 with ⟨e, e2⟩ | ⟨g, cap, cur, e, _⟩
                    · omega
                    · exact ⟨_, _, e⟩
                  subst hv5e
                  have H5 : Hid (LLo w5 w.heap.size (.slice ao5 (q + 1) cap5) (X ++ [(Value.slice (some ⟨wo.heap.size, 0, none⟩) 32 32)]) (L ++ [(some l)]) ∧ Below w.heap.size w w5) := ⟨HL5.out, HB5.out⟩
                  clear hown5 hgrow5 hv5 HL5 HB5
                  go_roundw
                  case rel => exact ⟨q + 1, a3, ao5, cap5, X ++ [Value.slice (some ⟨wo.heap.size, 0, none⟩) 32 32], L ++ [some l], by omega, by go_num, rfl, by omega, rfl, by simp [HR.out.1], H5.out.1, H5.out.2, HX.out⟩
                  case measure => simp [intOf]; omega
    · have hqn : q = n := by omega
      subst hqn
      have HX : Hid (decR s = if (encR L).2 = 0 ∧ strOfNums (encR L).1 = s then some L else none) := by
        show _ = _
        have h0 := HR.out.2.2.2
        rw [show q - q = 0 by omega] at h0
        have h1 : lpF b q 1 [] = some L := h0.symm
        rw [HD.out, HE.out, h1]
      obtain ⟨hrl, HVa⟩ := HR.out.2.1.reads (by rw [HR.out.1]; omega)
      have HLl : Hid (∀ i l, L.getD i none = some l → l.length ≤ 1073741824) := by
        intro i l hl
        rcases Nat.lt_or_ge i L.length with c | c
        · have := HR.out.2.1.each i c
          rw [hl] at this
          obtain ⟨_, _, _, _, h5⟩ := this
          omega
        · rw [List.getD_eq_getElem?_getD, List.getElem?_eq_none c] at hl; cases hl
      have hen := r_encode (w := wr) (.slice ao q cap) L (by rw [HR.out.1]; unfold maxLen; omega) HLl.out hrl
      obtain ⟨wz, hwz⟩ : ∃ wz, wz = wr := ⟨_, rfl⟩
      have HBz : Hid (Below w.heap.size w wr) := HR.out.2.2.1
      have HRl : Hid (ReadsL wr (.slice ao q cap) L) := hrl
      obtain ⟨a7, n7, c7, hv7⟩ := HVa
      injection hv7 with e1 e2 e3
      subst e1
      clear hrl e2 e3 hwz
      unfold EOut at hen
      obtain ⟨E, hE⟩ : ∃ E, E = encR L := ⟨_, rfl⟩
      rw [← hE] at hen HX
      clear hE
      obtain ⟨xs, er⟩ := E
      simp only at hen HX
      obtain ⟨S, hS⟩ : ∃ S, S = strOfNums xs := ⟨_, rfl⟩
      rw [← hS] at hen HX
      clear hS
      go_wp2_with fail
      refine hen.mono ?_
      rintro e w3 ⟨rfl, hb3⟩
      have H3 : Hid (Below w.heap.size w w3 ∧ ReadsL w3 (.slice (some a7) q cap) L) := ⟨HBz.out.trans (hb3.mono HBz.out.size), HRl.out.keep hb3⟩
      clear hb3 hen
      by_cases h4 : er = 0
      · subst h4
        by_cases h5 : S = s
        · have h5' : (S.toList == s.toList) = true := (str_eq S s).2 h5
          have HY : Hid (decR s = some L) := by show _ = _; rw [HX.out, if_pos ⟨rfl, h5⟩]
          clear h5 HX
          go_wp2_with fail
          go_ret2
          exact ⟨H3.out.1, .inr ⟨L, _, HY.out, rfl, H3.out.2, _, _, _, rfl⟩⟩
        · have h5' : (S.toList == s.toList) = false := str_ne h5
          have HY : Hid (decR s = none) := by show _ = _; rw [HX.out, if_neg (fun z => h5 z.2)]
          clear h5 HX
          go_wp2_with fail
          go_ret2
          exact ⟨H3.out.1, .inl ⟨HY.out, rfl⟩⟩
      · have h4' : (er != 0) = true := by rw [bne_iff_ne]; exact h4
        have HY : Hid (decR s = none) := by show _ = _; rw [HX.out, if_neg (fun z => h4 z.1)]
        clear h4 HX
        go_wp2_with fail
        go_ret2
        exact ⟨H3.out.1, .inl ⟨HY.out, rfl⟩⟩

end Go.Proofs.Ytffajooegiempaa

namespace Go.Proofs.Ytffajooegiempaa
open Go.RowKit

abbrev tN : TypeId := 3

set_option maxRecDepth 100000 in
set_option maxHeartbeats 800000 in
theorem l_mark (w : World) (g n cap : Nat) (c : Array Value) (v : Int) (h : At w g c tN) (hs : c.size = cap) (_hn : n ≤ cap) (hm : cap ≤ 1073741824) (hv0 : 0 ≤ v) (hv1 : v ≤ 4398046511104) :
    Calls Try.prog 24 #[.slice (some ⟨g, 0, none⟩) n cap, .int .i64 v] w fun e w' => e = .returned (.tuple #[]) ∧ Below g w w' ∧ ∃ c', At w' g c' tN ∧ c'.size = cap ∧ ∀ i, i < cap → c'[i]? = some (.int .i64 (v + i)) := by
  have HA : Hid (At w g c tN) := h
  have HS : Hid (c.size = cap) := hs
  have hg := h.lt
  clear h hs
  go_enter Try.func24, Try.ntmps24
  go_wp2_with fail
  go_loopw [5] (fun i wr => ∃ (j : Nat) (c' : Array Value), j ≤ cap ∧ i = .int .i64 j ∧ At wr g c' tN ∧ c'.size = cap ∧ (∀ i, i < j → c'[i]? = some (.int .i64 (v + i))) ∧ Below g w wr) (fun i _ => cap - (intOf i).toNat)
  case atStart => exact ⟨0, c, Nat.zero_le _, rfl, HA.out, HS.out, fun i hi => absurd hi (by omega), Below.refl _ _⟩
  case round =>
    obtain ⟨j, c', hj, rfl, hat, hsz, hall, hbel⟩ := hrel
    have HA' : Hid (At wr g c' tN) := hat
    have HS' : Hid (c'.size = cap) := hsz
    have HL : Hid (∀ i, i < j → c'[i]? = some (.int .i64 (v + i))) := hall
    have HB : Hid (Below g w wr) := hbel
    by_cases hlt : j < cap
    · have hji : (j : Int) < (cap : Int) := by omega
      obtain ⟨x, c1⟩ : ∃ x, wr.cell? ⟨g, j, none⟩ = some x := ⟨c'[j]'(by omega), by rw [hat.cell]; simp [hsz, hlt]⟩
      have f1 : wr.frozen? ⟨g, j, none⟩ = false := hat.free j
      clear hat hsz hall hbel
      go_wp2_with fail
      go_roundw
      case rel =>
        refine ⟨j + 1, _, by omega, by go_num, HA'.out.put j (.int .i64 (v + j)), by simp [HS'.out], fun i hi => ?_, HB.out.setCell (Nat.le_refl _) _⟩
        have := HS'.out
        by_cases e : i = j
        · subst e; simp [this, hlt]
        · simp [Ne.symm e]; exact HL.out i (by omega)
      case measure => simp [intOf]; omega
    · have hji : ¬ (j : Int) < (cap : Int) := by omega
      have hje : j = cap := by omega
      clear hat hsz hall hbel
      go_wp2_with fail
      go_end0
      exact ⟨rfl, HB.out, c', HA'.out, HS'.out, by rw [← hje]; exact HL.out⟩

set_option maxRecDepth 100000 in
set_option maxHeartbeats 800000 in
theorem l_marked (w : World) (g n cap : Nat) (v : Int) (_hg : g < w.heap.size) (_hn : n ≤ cap) (hm : cap ≤ 1073741824) (hv0 : 0 ≤ v) (hv1 : v ≤ 4398046511104) (h : ∀ i : Nat, i < cap → w.cell? ⟨g, i, none⟩ = some (.int .i64 (v + i))) :
    Calls Try.prog 25 #[.slice (some ⟨g, 0, none⟩) n cap, .int .i64 v] w fun e w' => e = .returned (.bool true) ∧ w' = w := by
  have HA : Hid (∀ i : Nat, i < cap → w.cell? ⟨g, i, none⟩ = some (.int .i64 (v + i))) := h
  clear h
  go_enter Try.func25, Try.ntmps25
  go_wp2_with fail
  go_loop [6] (fun i => ∃ (j : Nat), j ≤ cap ∧ i = .int .i64 j) (fun i => cap - (intOf i).toNat)
  case atStart => exact ⟨0, Nat.zero_le _, rfl⟩
  case round =>
    obtain ⟨j, hj, rfl⟩ := hrel
    by_cases hlt : j < cap
    · have hji : (j : Int) < (cap : Int) := by omega
      have c1 := HA.out j hlt
      go_wp2_with fail
      go_round
      case rel => exact ⟨j + 1, by omega, by go_num⟩
      case measure => simp [intOf]; omega
    · have hji : ¬ (j : Int) < (cap : Int) := by omega
      go_wp2_with fail
      go_ret
      exact ⟨rfl, rfl⟩

set_option maxRecDepth 100000 in
set_option maxHeartbeats 800000 in
theorem l_mine (w : World) (g n cap : Nat) (c : Array Value) (h : At w g c tN) (hs : c.size = cap) (hn : n ≤ cap) (hm : cap ≤ 1073741824) :
    Calls Try.prog 34 #[.slice (some ⟨g, 0, none⟩) n cap] w fun e w' => e = .returned (.bool true) ∧ Below g w w' := by
  have h1 := l_mark w g n cap c 1099511627776 h hs hn hm (by omega) (by omega)
  clear h hs
  go_enter Try.func34, Try.ntmps34
  go_wp2_with fail
  refine h1.mono ?_
  rintro e w1 ⟨rfl, hb, c', hat, hsz, hall⟩
  have h2 := l_marked w1 g n cap 1099511627776 hat.lt hn hm (by omega) (by omega) (fun i hi => by rw [hat.cell]; exact hall i hi)
  clear hat hsz hall h1
  go_wp2_with fail
  refine h2.mono ?_
  rintro e w2 ⟨rfl, rfl⟩
  go_wp2_with fail
  go_ret
  exact ⟨rfl, hb⟩

set_option maxRecDepth 100000 in
set_option maxHeartbeats 800000 in
theorem l_mine_nil (w : World) : Calls Try.prog 34 #[.slice none 0 0] w fun e w' => e = .returned (.bool true) ∧ w' = w := by
  have h1 : ∀ w, Calls Try.prog 24 #[.slice none 0 0, .int .i64 1099511627776] w fun e w' => e = .returned (.tuple #[]) ∧ w' = w := by
    intro w
    go_enter Try.func24, Try.ntmps24
    go_wp2_with fail
    go_loop [5] (fun i => i = .int .i64 0) (fun _ => 0)
    case atStart => rfl
    case round =>
      subst hrel
      go_wp2_with fail
      go_end0
      exact ⟨rfl, rfl⟩
  have h2 : ∀ w, Calls Try.prog 25 #[.slice none 0 0, .int .i64 1099511627776] w fun e w' => e = .returned (.bool true) ∧ w' = w := by
    intro w
    go_enter Try.func25, Try.ntmps25
    go_wp2_with fail
    go_loop [6] (fun i => i = .int .i64 0) (fun _ => 0)
    case atStart => rfl
    case round =>
      subst hrel
      go_wp2_with fail
      go_ret
      exact ⟨rfl, rfl⟩
  go_enter Try.func34, Try.ntmps34
  go_wp2_with fail
  refine (h1 _).mono ?_
  rintro e w1 ⟨rfl, rfl⟩
  go_wp2_with fail
  refine (h2 _).mono ?_
  rintro e w1 ⟨rfl, rfl⟩
  go_wp2_with fail
  go_ret
  exact ⟨rfl, rfl⟩

end Go.Proofs.Ytffajooegiempaa

