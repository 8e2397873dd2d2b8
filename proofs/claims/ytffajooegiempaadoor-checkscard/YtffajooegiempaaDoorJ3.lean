import Derived.Test.YtffajooegiempaaDoorJ2
import Derived.Laws.AppendOwn
import Derived.Laws.OwnMore
import Derived.ArgAppend
import Derived.Deep.RegionWith
namespace Go.Proofs.YtffajooegiempaaDoor
open Go.RowKit

theorem ownsRow_base {w : World} {B B' : Nat} {e : TypeId} {size : Nat} {v : Value} {n : Nat} {xs : List Value} (h : w.ownsRow B e size v n xs) (hB : B' ≤ B) : w.ownsRow B' e size v n xs := by
  obtain ⟨h1, h2⟩ := h
  refine ⟨h1, ?_⟩
  rcases h2 with h2 | ⟨g, cap, c, hv, hg, rest⟩
  · exact .inl h2
  · exact .inr ⟨g, cap, c, hv, by omega, rest⟩

/-- append to a row of the call's own: the row is the same, or a new one. -/
theorem run_append_own2 {P : Program} (w : World) (base : Nat) (t ty e : TypeId) (i : TypeInfo) (z : Value) (size bytes : Nat) (ht : P.underlying t = some (.slice e)) (hi : P.info? e = some i) (hz : i.zero = some z)
    (hsize : i.size = size) (hby : i.bytes = bytes) (hzs : z.cells.size = size) (hsz : 0 < size)
    (v : Value) (n : Nat) (xs : List Value) (hown : w.ownsRow base e size v n xs)
    (a : Addr) (m c : Nat) (news : List Value) (hl : news.length = m * size) (hnews : ∀ j u, news[j]? = some u → w.cell? (a.add j) = some u) (h1 : ∀ u ∈ news, u.oneCell' = true)
    (h63 : n + m ≤ maxLen) (hbytes : (n + m) * bytes ≤ 140737488355328) (hbase : base ≤ w.heap.size) :
    ∃ v' w', (Builtin.append_ #[t, t] ty #[v, .slice (some a) m c]).run P w = .ok v' w' ∧ w'.ownsRow base e size v' (n + m) (xs ++ news) ∧ w.grownBy w' v.ownBlock ∧
      (v'.ownBlock = v.ownBlock ∨ ∀ g, v'.ownBlock = some g → w.heap.size ≤ g) := by
  rcases hown.2 with ⟨rfl, rfl⟩ | ⟨g, cap, cur, rfl, hbg, hg, hnc, hcm, hcs, htake⟩
  · have hx : xs = [] := List.eq_nil_of_length_eq_zero (by simpa using hown.1)
    subst hx
    obtain ⟨v', w', h2, h3, h4, _⟩ := run_append_own (P := P) w w.heap.size t ty e i z size bytes ht hi hz hsize hby hzs hsz (.slice none 0 0) 0 [] (World.ownsRow_nil w _ e size) a m c news hl hnews h1 h63 hbytes (Nat.le_refl _)
    exact ⟨v', w', h2, ownsRow_base h3 hbase, h4, .inr fun g hg => (h3.lt g hg).1⟩
  · by_cases hroom : n + m ≤ cap
    · obtain ⟨w', h2, h3, h4⟩ := run_append_fits (P := P) w base t ty e i size ht hi hsize g n cap xs hown a m c news hl hnews h1 hroom
      exact ⟨_, w', h2, h3, h4, .inl rfl⟩
    · obtain ⟨v', w', h2, h3, h4⟩ := run_append_arg_grows (P := P) w t ty e i z size bytes ht hi hz hsize hby hzs hsz ⟨g, 0, none⟩ n cap xs hown.1 (hown.cells (g := g) rfl) a m c news hl hnews (by omega) h63 hbytes
      exact ⟨v', w', h2, ownsRow_base h3 hbase, ⟨h4.os, h4.tape, h4.output, h4.size, fun k hk _ => h4.block k hk (by simp)⟩, .inr fun g hg => (h3.lt g hg).1⟩

theorem wpList_append_own2 {P : Program} {w : World} {ops : Array Oper} {rest : List Oper} {o : Oper} {a : Act} {Q : Exit → Act → World → Prop} (hgd : o.guard = none) (s x : Operand) (t : TypeId)
    (ho : o.op = .call { callee := .builtin .append, args := #[s, x], argTypes := #[t, t] })
    (base : Nat) (e : TypeId) (i : TypeInfo) (z : Value) (size bytes : Nat) (ht : P.underlying t = some (.slice e)) (hi : P.info? e = some i) (hz : i.zero = some z)
    (hsize : i.size = size) (hby : i.bytes = bytes) (hzs : z.cells.size = size) (hsz : 0 < size)
    (v : Value) (n : Nat) (xs : List Value) (hs : a.eval s = v) (hown : w.ownsRow base e size v n xs)
    (ad : Addr) (m c : Nat) (news : List Value) (hx : a.eval x = .slice (some ad) m c) (hl : news.length = m * size) (hnews : ∀ j u, news[j]? = some u → w.cell? (ad.add j) = some u) (h1 : ∀ u ∈ news, u.oneCell' = true)
    (h63 : n + m ≤ maxLen) (hbytes : (n + m) * bytes ≤ 140737488355328) (hbase : base ≤ w.heap.size)
    (h : ∀ v' w', w'.ownsRow base e size v' (n + m) (xs ++ news) → w.grownBy w' v.ownBlock → (v'.ownBlock = v.ownBlock ∨ ∀ g, v'.ownBlock = some g → w.heap.size ≤ g) → wpList P ops Q rest (a.put o.dst v') w') : wpList P ops Q (o :: rest) a w := by
  refine wpList_plain hgd fun _ hK => ?_
  obtain ⟨v', w', hr, h2, h3, h4⟩ := run_append_own2 (P := P) w base t o.type e i z size bytes ht hi hz hsize hby hzs hsz v n xs hown ad m c news hl hnews h1 h63 hbytes hbase
  unfold Oper.wp execOp
  simp only [ho, resolve, invoke, builtin, Sem.run_bind, Sem.run_pure, Result.andThen_ok, List.map_toArray, List.map_cons, List.map_nil, hs, hx, hr]
  exact hK _ _ (h v' w' h2 h3 h4)

end Go.Proofs.YtffajooegiempaaDoor

namespace Go.Proofs.YtffajooegiempaaDoor
open Go.RowKit
variable {w : World} {s : ByteArray}

theorem addr_add (g i : Nat) : (⟨g, 0, none⟩ : Addr).add i = ⟨g, i, none⟩ := by unfold Addr.add; split <;> simp_all
/-- The lists so far, away from their row. -/
structure LLo (w : World) (base : Nat) (v : Value) (X : List Value) (L : List (Option (List Int))) : Prop where
  row : w.ownsRow base 22 1 v L.length X
  each : ∀ i, i < L.length → PV w base (X.getD i (.bool false)) (L.getD i none)
  away : ∀ i k, i < L.length → (X.getD i (.bool false)).ownBlock = some k → v.ownBlock ≠ some k
theorem LLo.len {base : Nat} {v : Value} {X : List Value} {L : List (Option (List Int))} (h : LLo w base v X L) : X.length = L.length := by have := h.row.1; simpa using this
theorem LLo.keep {w w' : World} {base B : Nat} {v : Value} {X : List Value} {L : List (Option (List Int))} (h : LLo w base v X L) (hb : Below B w w') (hB : w.heap.size ≤ B) : LLo w' base v X L :=
  ⟨ownsRow_below h.row (fun k hk => hb.block k (by have := (h.row.lt k hk).2; omega)), fun i hi => (h.each i hi).same (fun k hk => hb.block k (by have := ((h.each i hi).lt k hk).2; omega)), h.away⟩
theorem LLo.snoc {w w' : World} {base : Nat} {v v' x : Value} {X : List Value} {L : List (Option (List Int))} {o : Option (List Int)} (h : LLo w base v X L) (hx : PV w base x o) (hxv : ∀ k, x.ownBlock = some k → v.ownBlock ≠ some k)
    (hrow : w'.ownsRow base 22 1 v' (L.length + 1) (X ++ [x])) (hg : w.grownBy w' v.ownBlock) (hv : v'.ownBlock = v.ownBlock ∨ ∀ g, v'.ownBlock = some g → w.heap.size ≤ g) : LLo w' base v' (X ++ [x]) (L ++ [o]) := by
  have hl := h.len
  have hX : ∀ i, i < L.length → (X ++ [x]).getD i (.bool false) = X.getD i (.bool false) := fun i hi => by rw [getD_snocV, if_pos (by omega)]
  have hXn : (X ++ [x]).getD L.length (.bool false) = x := by rw [getD_snocV, if_neg (by omega), if_pos hl.symm]
  have hL : ∀ i, i < L.length → (L ++ [o]).getD i none = L.getD i none := fun i hi => by simp [List.getD, List.getElem?_append_left hi]
  have hLn : (L ++ [o]).getD L.length none = o := by simp [List.getD]
  have hlen : (L ++ [o]).length = L.length + 1 := by simp
  have hP : ∀ i, i < L.length + 1 → PV w base ((X ++ [x]).getD i (.bool false)) ((L ++ [o]).getD i none) ∧ ∀ k, ((X ++ [x]).getD i (.bool false)).ownBlock = some k → v.ownBlock ≠ some k := by
    intro i hi
    rcases Nat.lt_or_eq_of_le (Nat.lt_succ_iff.1 hi) with q | q
    · rw [hX i q, hL i q]; exact ⟨h.each i q, fun k hk => h.away i k q hk⟩
    · rw [q, hXn, hLn]; exact ⟨hx, hxv⟩
  refine ⟨by rw [hlen]; exact hrow, fun i hi => ?_, fun i k hi hk => ?_⟩
  · rw [hlen] at hi
    obtain ⟨h1, h2⟩ := hP i hi
    exact h1.same (fun k hk => hg.block k (h1.lt k hk).2 (fun e => h2 k hk e.symm))
  · rw [hlen] at hi
    obtain ⟨h1, h2⟩ := hP i hi
    rcases hv with e | e
    · rw [e]; exact h2 k hk
    · intro e'
      have := e k e'
      have := (h1.lt k hk).2
      omega
theorem LLo.reads {base : Nat} {v : Value} {X : List Value} {L : List (Option (List Int))} (h : LLo w base v X L) (hn : 1 ≤ L.length) : ReadsL w v L ∧ ∃ a n c, v = .slice (some a) n c := by
  rcases h.row.2 with ⟨_, e⟩ | ⟨g, cap, cur, rfl, hg, hh, hcap, _, hsz, htk⟩
  · omega
  · refine ⟨⟨some ⟨g, 0, none⟩, cap, rfl, hcap, fun _ => ⟨g, 0, rfl, (h.row.lt g rfl).2, fun i hi => ?_⟩⟩, _, _, _, rfl⟩
    have hXi : X[i]? = some (X.getD i (.bool false)) := by simp [List.getD, show i < X.length by rw [h.len]; exact hi]
    have hc := h.row.cells (g := g) rfl i _ hXi
    rw [addr_add] at hc
    refine ⟨_, by rw [Nat.zero_add]; exact hc, ?_⟩
    have hp := h.each i hi
    cases e : L.getD i none with
    | none => rw [e] at hp; exact hp
    | some l =>
      rw [e] at hp
      obtain ⟨a, _, hv, hat, hl⟩ := hp
      rw [hv]
      exact ⟨Reads.at_ hat hl (Nat.le_refl _) (fun j hj => ic_get _ _ (by omega)), _, _, _, rfl⟩
/-- A place of a byte. -/
theorem byte_at (s : ByteArray) (k : Nat) (h : k < s.size) : (bytesOf s).getD k 0 = ((s[k]).toNat : Int) := by rw [List.getD_eq_getElem?_getD, bytesOf_get s k h]; rfl

/-- What the document's Decode gives. -/
def ROut (w : World) (s : ByteArray) : Ending → World → Prop := fun e w' => Below w.heap.size w w' ∧
  ((decR s = none ∧ e = .returned (.tuple #[.slice none 0 0, .int .i64 4])) ∨
   ∃ L v, decR s = some L ∧ e = .returned (.tuple #[v, .int .i64 0]) ∧ ReadsL w' v L ∧ ∃ a n c, v = .slice (some a) n c)

set_option maxRecDepth 100000 in
set_option maxHeartbeats 3200000 in
theorem r_decode_bad (_hs : s.size ≤ 9223372036854775807) (hbad : s.size < 1 ∨ (bytesOf s).getD 0 0 < 1 ∨ 21 < (bytesOf s).getD 0 0) : Calls Tryd.prog 44 #[.string s] w (ROut w s) := by
  have HE : Hid (decR s = none) := by
    show _ = _
    unfold decR looF
    rw [bytesOf_len, if_pos hbad]
  by_cases h0 : s.size < 1
  · have hz : s.size = 0 := by omega
    have h1 : (s.size : Int) < 1 := by omega
    clear hbad
    go_enter Tryd.func44, Tryd.ntmps44
    go_wp2_with fail
    go_ret2
    exact ⟨Below.refl _ _, .inl ⟨HE.out, rfl⟩⟩
  · have h1 : ¬ (s.size : Int) < 1 := by omega
    have h0' : 0 < s.size := by omega
    rw [byte_at s 0 h0'] at hbad
    have hb := hbad.resolve_left h0
    by_cases h2 : ((s[0]).toNat : Int) < 1
    · clear hbad hb
      go_enter Tryd.func44, Tryd.ntmps44
      go_wp2_with fail
      go_ret2
      exact ⟨Below.refl _ _, .inl ⟨HE.out, rfl⟩⟩
    · have h3 : (21 : Int) < ((s[0]).toNat : Int) := by omega
      clear hbad hb
      go_enter Tryd.func44, Tryd.ntmps44
      go_wp2_with fail
      go_ret2
      exact ⟨Below.refl _ _, .inl ⟨HE.out, rfl⟩⟩
end Go.Proofs.YtffajooegiempaaDoor

/- The states of an octagon keep to what is made of its bounds. -/
namespace Go.Proofs.YtffajooegiempaaDoor

theorem tdiv2 (x : Int) : (0 ≤ x → x.tdiv 2 = x / 2) ∧ (x < 0 → x.tdiv 2 = -((-x) / 2)) := by
  constructor
  · intro h; exact Int.tdiv_eq_ediv_of_nonneg h
  · intro h
    have : x.tdiv 2 = -((-x).tdiv 2) := by rw [Int.neg_tdiv, Int.neg_neg]
    rw [this, Int.tdiv_eq_ediv_of_nonneg (by omega)]
theorem tdiv2_le (x : Int) : x.tdiv 2 * 2 ≤ x + 1 ∧ x - 1 ≤ x.tdiv 2 * 2 := by
  have h := tdiv2 x
  rcases Int.lt_or_le x 0 with e | e
  · rw [h.2 e]; omega
  · rw [h.1 e]; omega

theorem rdF_at (M : Nat → Int) : ∀ n a, rdF M n a = if a % 9 = 0 ∧ a / 9 < n ∧ M a ≠ NB then M a / 2 * 2 else M a := by
  intro n
  induction n with
  | zero => intro a; rw [rdF, if_neg (by omega)]
  | succ n ih =>
    intro a
    rw [rdF]
    unfold rd1
    have hn : rdF M n (n * 8 + n) = M (n * 8 + n) := by rw [ih, if_neg (by omega)]
    rw [hn]
    by_cases e : a = n * 8 + n
    · subst e
      split
      · rename_i h; rw [hn, if_neg (fun q => q.2.2 h)]
      · rename_i h; rw [upd_same, if_pos ⟨by omega, by omega, h⟩]
    · have hne : ¬ (a % 9 = 0 ∧ a / 9 = n) := by omega
      have : (if M (n * 8 + n) = NB then rdF M n else upd (rdF M n) (n * 8 + n) (M (n * 8 + n) / 2 * 2)) a = rdF M n a := by
        split
        · rfl
        · exact upd_other _ _ e
      rw [this, ih]
      by_cases q : a % 9 = 0 ∧ a / 9 < n ∧ M a ≠ NB
      · rw [if_pos q, if_pos ⟨q.1, by omega, q.2.2⟩]
      · rw [if_neg q, if_neg (fun p => q ⟨p.1, by omega, p.2.2⟩)]
theorem rdF_lo {L : Int} {M : Nat → Int} (h : Lo L M) (n : Nat) : Lo (L + 1) (rdF M n) := by
  intro a ha
  have := h a ha
  rw [rdF_at]
  split <;> omega
theorem ah1_lo {L : Int} {M : Nat → Int} (hL : 0 ≤ L) (h : Lo L M) {k : Nat} (hk : k < 64) : Lo L (ah1 M k) := by
  intro a ha
  have h1 := h (k / 8 * 8 + k / 8) (by omega)
  have h2 := h (k % 8 * 8 + k % 8) (by omega)
  have h3 := h a ha
  have := pl_ge h1 h2 (by omega)
  unfold ah1
  split
  · unfold upd
    split
    · have := tdiv2_le (pl (M (k / 8 * 8 + k / 8)) (M (k % 8 * 8 + k % 8))); omega
    · exact h3
  · exact h3
theorem ahF_lo {L : Int} {M : Nat → Int} (hL : 0 ≤ L) (h : Lo L M) : ∀ k, k ≤ 64 → Lo L (ahF M k) := by
  intro k
  induction k with
  | zero => intro _; exact h
  | succ k ih => intro hk; rw [ahF]; exact ah1_lo hL (ih (by omega)) (by omega)

/-- The value of a side. -/
def sd (v : Nat → Int) (i : Nat) : Int := if i % 2 = 0 then v (i / 2) else -v (i / 2)
theorem sd_opp (v : Nat → Int) (i : Nat) : sd v (opp i) = -sd v i := by
  unfold sd opp
  by_cases h : i % 2 = 0
  · rw [if_pos h, if_pos h, if_neg (by omega), show (i + 1) / 2 = i / 2 by omega]
  · rw [if_neg h, if_neg h, if_pos (by omega), show (i - 1) / 2 = i / 2 by omega, Int.neg_neg]
/-- A state keeps to the bounds. -/
def Sat (v : Nat → Int) (M : Nat → Int) : Prop := ∀ i j, i < 8 → j < 8 → M (i * 8 + j) = NB ∨ sd v i + sd v j ≤ M (i * 8 + j)
theorem pl_fin {a b : Int} (h : pl a b ≠ NB) : a ≠ NB ∧ b ≠ NB ∧ pl a b = a + b := by
  unfold pl at h ⊢
  by_cases q : a = NB ∨ b = NB
  · rw [if_pos q] at h; exact absurd rfl h
  · rw [if_neg q]; exact ⟨fun e => q (.inl e), fun e => q (.inr e), rfl⟩
theorem Sat.ch1 {v M : Nat → Int} (h : Sat v M) {s k : Nat} (hs : s < 8) (_hk : k < 64) : Sat v (ch1 s M k) := by
  intro i j hi hj
  unfold Go.Proofs.YtffajooegiempaaDoor.ch1
  split
  · unfold upd
    split
    · rename_i e
      have e1 : k / 8 = i := by omega
      have e2 : k % 8 = j := by omega
      rw [e1, e2]
      by_cases q : pl (M (i * 8 + opp s)) (M (s * 8 + j)) = NB
      · exact .inl q
      · obtain ⟨q1, q2, q3⟩ := pl_fin q
        right
        rw [q3]
        have a1 := (h i (opp s) hi (opp_lt hs)).resolve_left q1
        have a2 := (h s j hs hj).resolve_left q2
        rw [sd_opp] at a1
        omega
    · exact h i j hi hj
  · exact h i j hi hj
theorem Sat.chF {v M : Nat → Int} (h : Sat v M) {s : Nat} (hs : s < 8) : ∀ k, k ≤ 64 → Sat v (chF s M k) := by
  intro k
  induction k with
  | zero => intro _; exact h
  | succ k ih => intro hk; rw [Go.Proofs.YtffajooegiempaaDoor.chF]; exact (ih (by omega)).ch1 hs (by omega)
theorem Sat.fw {v M : Nat → Int} (h : Sat v M) : ∀ s, s ≤ 8 → Sat v (fw M s) := by
  intro s
  induction s with
  | zero => intro _; exact h
  | succ s ih => intro hs; rw [Go.Proofs.YtffajooegiempaaDoor.fw]; exact (ih (by omega)).chF (by omega) 64 (Nat.le_refl _)
theorem Sat.rdF {v M : Nat → Int} (h : Sat v M) (n : Nat) : Sat v (rdF M n) := by
  intro i j hi hj
  rw [rdF_at]
  split
  · rename_i q
    have e : i = j := by omega
    subst e
    have := (h i i hi hi).resolve_left q.2.2
    right
    omega
  · exact h i j hi hj
theorem Sat.ah1 {v M : Nat → Int} (h : Sat v M) {k : Nat} (_hk : k < 64) : Sat v (ah1 M k) := by
  intro i j hi hj
  unfold Go.Proofs.YtffajooegiempaaDoor.ah1
  split
  · rename_i q
    unfold upd
    split
    · rename_i e
      have e1 : k / 8 = i := by omega
      have e2 : k % 8 = j := by omega
      rw [e1, e2] at q ⊢
      obtain ⟨q1, q2, q3⟩ := pl_fin q.1
      have a1 := (h i i hi hi).resolve_left q1
      have a2 := (h j j hj hj).resolve_left q2
      have := tdiv2 (pl (M (i * 8 + i)) (M (j * 8 + j)))
      right
      rcases Int.lt_or_le (pl (M (i * 8 + i)) (M (j * 8 + j))) 0 with e | e
      · rw [this.2 e]; omega
      · rw [this.1 e]; omega
    · exact h i j hi hj
  · exact h i j hi hj
theorem Sat.ahF {v M : Nat → Int} (h : Sat v M) : ∀ k, k ≤ 64 → Sat v (ahF M k) := by
  intro k
  induction k with
  | zero => intro _; exact h
  | succ k ih => intro hk; rw [Go.Proofs.YtffajooegiempaaDoor.ahF]; exact (ih (by omega)).ah1 (by omega)
theorem Sat.sharp {v M : Nat → Int} (h : Sat v M) : Sat v (sharp M) := ((h.fw 8 (Nat.le_refl _)).rdF 8).ahF 64 (Nat.le_refl _)
theorem conF_true {M : Nat → Int} : ∀ {n : Nat}, conF M n = true → ∃ i, i < n ∧ M (i * 8 + opp i) < 0 := by
  intro n
  induction n with
  | zero => intro h; cases h
  | succ n ih =>
    intro h
    rw [conF, Bool.or_eq_true] at h
    rcases h with h | h
    · obtain ⟨i, hi, h⟩ := ih h
      exact ⟨i, by omega, h⟩
    · exact ⟨n, by omega, of_decide_eq_true h⟩
/-- An octagon that has a state is not found to be empty. -/
theorem Sat.some {v M : Nat → Int} (h : Sat v M) : conF M 8 = false := by
  cases e : conF M 8 with
  | false => rfl
  | true =>
    obtain ⟨i, hi, h1⟩ := conF_true e
    rcases h i (opp i) hi (opp_lt hi) with q | q
    · rw [q] at h1; exact absurd h1 (by decide)
    · rw [sd_opp] at q; omega
theorem sharp_lo {M : Nat → Int} (h : Lo 8000 M) : Lo (8000 * 6 ^ 8 + 1) (sharp M) := ahF_lo (by decide) (rdF_lo (fw_lo (by decide) h 8 (Nat.le_refl _)) 8) 64 (Nat.le_refl _)

end Go.Proofs.YtffajooegiempaaDoor

namespace Go.Proofs.YtffajooegiempaaDoor
open Go.RowKit

abbrev tO : TypeId := 42
/-- An octagon's cells. -/
def oc (e : Bool) (M : Nat → Int) : Array Value := (Value.bool e :: (List.range 64).map fun k => Value.int .i64 (M k)).toArray
theorem oc_size (e : Bool) (M : Nat → Int) : (oc e M).size = 65 := by simp [oc]
theorem oc_at (e : Bool) (M : Nat → Int) (k : Nat) (h : k < 64) : (oc e M)[1 + k]? = some (.int .i64 (M k)) := by
  rw [Nat.add_comm]; simp [oc, h]
theorem oc_0 (e : Bool) (M : Nat → Int) : (oc e M)[0]? = some (.bool e) := by simp [oc]
theorem oc_set (e : Bool) (M : Nat → Int) (k : Nat) (h : k < 64) (x : Int) : (oc e M).setIfInBounds (1 + k) (.int .i64 x) = oc e (upd M k x) := by
  apply Array.ext
  · simp [oc]
  · intro i h1 h2
    simp only [oc_size] at h2
    rw [Array.getElem_setIfInBounds (by rw [oc_size]; exact h2)]
    by_cases e1 : 1 + k = i
    · subst e1
      rw [if_pos rfl]
      have := oc_at e (upd M k x) k h
      rw [Array.getElem?_eq_getElem (by rw [oc_size]; exact h2), upd_same] at this
      exact (Option.some.inj this).symm
    · rw [if_neg e1]
      cases i with
      | zero =>
        have a := oc_0 e M
        have b := oc_0 e (upd M k x)
        rw [Array.getElem?_eq_getElem (by rw [oc_size]; exact h2)] at a b
        rw [Option.some.inj a, Option.some.inj b]
      | succ i =>
        have a := oc_at e M i (by omega)
        have b := oc_at e (upd M k x) i (by omega)
        rw [show 1 + i = i + 1 by omega] at a b
        rw [Array.getElem?_eq_getElem (by rw [oc_size]; exact h2)] at a b
        rw [Option.some.inj a, Option.some.inj b, upd_other _ _ (by omega)]
theorem oc_setE (e e' : Bool) (M : Nat → Int) : (oc e M).setIfInBounds 0 (.bool e') = oc e' M := by simp [oc]
/-- Numbers that Go's own do not outgrow. -/
def Sm (M : Nat → Int) : Prop := ∀ k, k < 64 → -100000000000000000 ≤ M k ∧ M k ≤ 1000000

set_option maxRecDepth 100000 in
set_option maxHeartbeats 800000 in
theorem o_opposite (i : Nat) (hi : i < 8) (w : World) : Calls Tryd.prog 98 #[.int .i64 (i : Int)] w fun e w' => e = .returned (.int .i64 ((opp i : Nat) : Int)) ∧ w' = w := by
  rcases (show i = 0 ∨ i = 1 ∨ i = 2 ∨ i = 3 ∨ i = 4 ∨ i = 5 ∨ i = 6 ∨ i = 7 by omega) with rfl | rfl | rfl | rfl | rfl | rfl | rfl | rfl
  all_goals
    go_enter Tryd.func98, Tryd.ntmps98
    go_wp2_with fail
    go_ret
    exact ⟨rfl, rfl⟩

set_option maxRecDepth 100000 in
set_option maxHeartbeats 800000 in
theorem o_plus (a b : Int) (ha : -100000000000000000 ≤ a ∧ a ≤ 1000000) (hb : -100000000000000000 ≤ b ∧ b ≤ 1000000) (w : World) : Calls Tryd.prog 97 #[.int .i64 a, .int .i64 b] w fun e w' => e = .returned (.int .i64 (pl a b)) ∧ w' = w := by
  by_cases h1 : a = 1000000
  · subst h1
    have HE : Hid (pl 1000000 b = 1000000) := if_pos (.inl rfl)
    go_enter Tryd.func97, Tryd.ntmps97
    go_wp2_with fail
    go_ret
    exact ⟨by rw [HE.out]; rfl, rfl⟩
  have q1 : (a == 1000000) = false := by simpa using h1
  by_cases h2 : b = 1000000
  · subst h2
    have HE : Hid (pl a 1000000 = 1000000) := if_pos (.inr rfl)
    go_enter Tryd.func97, Tryd.ntmps97
    go_wp2_with fail
    go_ret
    exact ⟨by rw [HE.out]; rfl, rfl⟩
  have q2 : (b == 1000000) = false := by simpa using h2
  have HE : Hid (pl a b = a + b) := if_neg (fun e => e.elim h1 h2)
  obtain ⟨a0, a1⟩ := ha
  obtain ⟨b0, b1⟩ := hb
  clear h1 h2
  go_enter Tryd.func97, Tryd.ntmps97
  go_wp2_with fail
  go_ret
  exact ⟨by rw [HE.out]; rfl, rfl⟩

theorem half_floor (n : Int) : (n < n.tdiv 2 * 2 → n / 2 = n.tdiv 2 - 1) ∧ (¬ n < n.tdiv 2 * 2 → n / 2 = n.tdiv 2) := by
  have := tdiv2 n
  rcases Int.lt_or_le n 0 with e | e
  · rw [this.2 e]; omega
  · rw [this.1 e]; omega

set_option maxRecDepth 100000 in
set_option maxHeartbeats 800000 in
theorem o_halfBelow (n : Int) (hn : -100000000000000000 ≤ n ∧ n ≤ 1000000) (w : World) : Calls Tryd.prog 99 #[.int .i64 n] w fun e w' => e = .returned (.int .i64 (n / 2)) ∧ w' = w := by
  have hb := tdiv2_le n
  have hf := half_floor n
  obtain ⟨n0, n1⟩ := hn
  obtain ⟨b0, b1⟩ := hb
  by_cases h : n < n.tdiv 2 * 2
  · have HE : Hid (n / 2 = n.tdiv 2 - 1) := hf.1 h
    clear hf
    go_enter Tryd.func99, Tryd.ntmps99
    go_wp2_with fail
    go_ret
    exact ⟨by rw [HE.out]; rfl, rfl⟩
  · have HE : Hid (n / 2 = n.tdiv 2) := hf.2 h
    clear hf
    go_enter Tryd.func99, Tryd.ntmps99
    go_wp2_with fail
    go_ret
    exact ⟨by rw [HE.out]; rfl, rfl⟩

end Go.Proofs.YtffajooegiempaaDoor

namespace Go.Proofs.YtffajooegiempaaDoor
open Go.RowKit
variable {w : World} {b : Nat} {e0 : Bool} {M : Nat → Int}

/-- An octagon's block, and what a step on it leaves. -/
def OAt (w : World) (b : Nat) (e : Bool) (M : Nat → Int) : Prop := At w b (oc e M) tO
theorem OAt.cell (h : OAt w b e0 M) (k : Nat) (hk : k < 64) : w.cell? ⟨b, 1 + k, none⟩ = some (.int .i64 (M k)) := by rw [At.cell h]; exact oc_at _ _ _ hk
theorem OAt.put (h : OAt w b e0 M) (k : Nat) (hk : k < 64) (x : Int) : OAt (w.setCell ⟨b, 1 + k, none⟩ (.int .i64 x)) b e0 (upd M k x) := by
  have := At.put h (1 + k) (.int .i64 x)
  rw [oc_set _ _ _ hk] at this
  exact this

set_option maxRecDepth 100000 in
set_option maxHeartbeats 1600000 in
theorem o_chain (h : OAt w b e0 M) (s : Nat) (hs : s < 8) (hS : ∀ k, k ≤ 64 → Sm (chF s M k)) :
    Calls Tryd.prog 77 #[.pointer (some ⟨b, 0, none⟩), .int .i64 (s : Int)] w fun e w' => e = .returned (.tuple #[]) ∧ OAt w' b e0 (chF s M 64) ∧ Onl b w w' := by
  have HA : Hid (OAt w b e0 M) := h
  have HS : Hid (∀ k, k ≤ 64 → Sm (chF s M k)) := hS
  have hsi : (s : Int) < 8 := by omega
  have hs0 : ¬ (s : Int) < 0 := by omega
  have hs8 : ¬ (8 : Int) ≤ (s : Int) := by omega
  have hosl := opp_lt hs
  clear h hS
  go_enter Tryd.func77, Tryd.ntmps77
  go_wp2_with fail
  go_loopw [4] (fun i wr => ∃ (p : Nat), p ≤ 8 ∧ i = .int .i64 p ∧ Hid (OAt wr b e0 (chF s M (p * 8)) ∧ Onl b w wr)) (fun i _ => 8 - (intOf i).toNat)
  case atStart => exact ⟨0, by omega, rfl, HA.out, Onl.refl _ _⟩
  case round =>
    obtain ⟨p, hp, rfl, HR⟩ := hrel
    by_cases hlt : p < 8
    · have hpi : (p : Int) < 8 := by omega
      obtain ⟨w4, rfl⟩ : ∃ w4, w4 = wr := ⟨_, rfl⟩
      go_wp2_with fail
      go_loopw [5] (fun j wr => ∃ (q : Nat), q ≤ 8 ∧ j = .int .i64 q ∧ Hid (OAt wr b e0 (chF s M (p * 8 + q)) ∧ Onl b w wr)) (fun j _ => 8 - (intOf j).toNat)
      case atStart => exact ⟨0, by omega, rfl, HR.out⟩
      case round =>
        obtain ⟨q, hq, rfl, HQ⟩ := hrel
        by_cases hlt2 : q < 8
        · have hqi : (q : Int) < 8 := by omega
          have hk : p * 8 + q < 64 := by omega
          have hsm := HS.out (p * 8 + q) (by omega)
          have HE0 : Hid (chF s M (p * 8 + (q + 1)) = if pl (chF s M (p * 8 + q) (p * 8 + opp s)) (chF s M (p * 8 + q) (s * 8 + q)) < chF s M (p * 8 + q) (p * 8 + q) then upd (chF s M (p * 8 + q)) (p * 8 + q) (pl (chF s M (p * 8 + q) (p * 8 + opp s)) (chF s M (p * 8 + q) (s * 8 + q))) else chF s M (p * 8 + q)) := by show chF s M (p * 8 + q + 1) = _; rw [chF]; unfold ch1; rw [show (p * 8 + q) / 8 = p by omega, show (p * 8 + q) % 8 = q by omega]
          generalize chF s M (p * 8 + q) = N at *
          have hm1 := hsm (p * 8 + opp s) (by omega)
          have hm2 := hsm (s * 8 + q) (by omega)
          have HOp : Hid (∀ n, Calls Tryd.prog 98 #[.int .i64 (s : Int)] (wr.drewN n) fun e w' => e = .returned (.int .i64 ((opp s : Nat) : Int)) ∧ w' = wr.drewN n) := fun n => o_opposite s hs _
          have hoi : ((opp s : Nat) : Int) < 8 := by omega
          generalize opp s = os at *
          have c1 : wr.cell? ⟨b, 1 + p * 8 + os, none⟩ = some (.int .i64 (N (p * 8 + os))) := by rw [Nat.add_assoc]; exact HQ.out.1.cell (p * 8 + os) (by omega)
          have c2 : wr.cell? ⟨b, 1 + s * 8 + q, none⟩ = some (.int .i64 (N (s * 8 + q))) := by rw [Nat.add_assoc]; exact HQ.out.1.cell (s * 8 + q) (by omega)
          have c3 : wr.cell? ⟨b, 1 + p * 8 + q, none⟩ = some (.int .i64 (N (p * 8 + q))) := by rw [Nat.add_assoc]; exact HQ.out.1.cell (p * 8 + q) (by omega)
          have cf : wr.frozen? ⟨b, 1 + p * 8 + q, none⟩ = false := At.free HQ.out.1 _
          have hbl : b < wr.heap.size := At.lt HQ.out.1
          have HPl : Hid (∀ n, Calls Tryd.prog 97 #[.int .i64 (N (p * 8 + os)), .int .i64 (N (s * 8 + q))] (wr.drewN n) fun e w' => e = .returned (.int .i64 (pl (N (p * 8 + os)) (N (s * 8 + q)))) ∧ w' = wr.drewN n) := fun n => o_plus _ _ hm1 hm2 _
          clear hsm hm1 hm2
          generalize pl (N (p * 8 + os)) (N (s * 8 + q)) = n at *
          by_cases hn : n < N (p * 8 + q)
          · have HE : Hid (_ = _) := HE0.out.trans (if_pos hn)
            clear HE0
            go_wp2_with fail
            go_quiet (first
              | (go_at_call 98; refine Calls.quiet_of_same (HOp.out _))
              | (go_at_call 97; refine Calls.quiet_of_same (HPl.out _)))
            go_wp2_with fail
            go_roundw
            case rel =>
              refine ⟨q + 1, by omega, by go_num, ?_, (HQ.out.2.drewN _).setCell _ _⟩
              rw [HE.out, Nat.add_assoc]
              exact OAt.put (w := wr.drewN nq) (At.drewN HQ.out.1 nq) (p * 8 + q) hk n
            case measure => simp [intOf]; omega
          · have HE : Hid (_ = _) := HE0.out.trans (if_neg hn)
            clear HE0
            go_wp2_with fail
            go_quiet (first
              | (go_at_call 98; refine Calls.quiet_of_same (HOp.out _))
              | (go_at_call 97; refine Calls.quiet_of_same (HPl.out _)))
            go_wp2_with fail
            go_roundw
            case rel =>
              refine ⟨q + 1, by omega, by go_num, ?_, HQ.out.2.drewN _⟩
              rw [HE.out]
              exact At.drewN HQ.out.1 nq
            case measure => simp [intOf]; omega
        · have hq8 : q = 8 := by omega
          subst hq8
          go_wp2_with fail
          go_roundw
          case rel => exact ⟨p + 1, by omega, by go_num, by rw [show (p + 1) * 8 = p * 8 + 8 by omega]; exact HQ.out.1, HQ.out.2⟩
          case measure => simp [intOf]; omega
    · have hp8 : p = 8 := by omega
      subst hp8
      go_wp2_with fail
      go_end0
      exact ⟨rfl, HR.out⟩

end Go.Proofs.YtffajooegiempaaDoor

namespace Go.Proofs.YtffajooegiempaaDoor
open Go.RowKit
variable {w : World} {b : Nat} {e0 : Bool} {M : Nat → Int}

set_option maxRecDepth 100000 in
set_option maxHeartbeats 1600000 in
theorem o_roundDown (h : OAt w b e0 M) (hS : ∀ k, k ≤ 8 → Sm (rdF M k)) :
    Calls Tryd.prog 78 #[.pointer (some ⟨b, 0, none⟩)] w fun e w' => e = .returned (.tuple #[]) ∧ OAt w' b e0 (rdF M 8) ∧ Onl b w w' := by
  have HA : Hid (OAt w b e0 M) := h
  have HS : Hid (∀ k, k ≤ 8 → Sm (rdF M k)) := hS
  clear h hS
  go_enter Tryd.func78, Tryd.ntmps78
  go_wp2_with fail
  go_loopw [2] (fun i wr => ∃ (p : Nat), p ≤ 8 ∧ i = .int .i64 p ∧ Hid (OAt wr b e0 (rdF M p) ∧ Onl b w wr)) (fun i _ => 8 - (intOf i).toNat)
  case atStart => exact ⟨0, by omega, rfl, HA.out, Onl.refl _ _⟩
  case round =>
    obtain ⟨p, hp, rfl, HR⟩ := hrel
    by_cases hlt : p < 8
    · have hpi : (p : Int) < 8 := by omega
      have hsm := HS.out p (by omega)
      have HE0 : Hid (rdF M (p + 1) = if rdF M p (p * 8 + p) = NB then rdF M p else upd (rdF M p) (p * 8 + p) (rdF M p (p * 8 + p) / 2 * 2)) := by show rdF M (p + 1) = _; rw [rdF]; rfl
      generalize rdF M p = N at *
      have hm1 := hsm (p * 8 + p) (by omega)
      have c1 : wr.cell? ⟨b, 1 + p * 8 + p, none⟩ = some (.int .i64 (N (p * 8 + p))) := by rw [Nat.add_assoc]; exact HR.out.1.cell (p * 8 + p) (by omega)
      have cf : wr.frozen? ⟨b, 1 + p * 8 + p, none⟩ = false := At.free HR.out.1 _
      have hbl : b < wr.heap.size := At.lt HR.out.1
      have HH : Hid (∀ w1, Calls Tryd.prog 99 #[.int .i64 (N (p * 8 + p))] w1 fun e w' => e = .returned (.int .i64 (N (p * 8 + p) / 2)) ∧ w' = w1) := fun w1 => o_halfBelow _ hm1 w1
      have hk : p * 8 + p < 64 := by omega
      clear hsm
      generalize N (p * 8 + p) = n at *
      by_cases hn : n = NB
      · have HE : Hid (_ = _) := HE0.out.trans (if_pos hn)
        have hb : (n != 1000000) = false := by rw [hn]; rfl
        clear HE0 hn
        go_wp2_with fail
        go_roundw
        case rel => exact ⟨p + 1, by omega, by go_num, by rw [HE.out]; exact HR.out.1, HR.out.2⟩
        case measure => simp [intOf]; omega
      · have HE : Hid (_ = _) := HE0.out.trans (if_neg hn)
        have hb : (n != 1000000) = true := by rw [bne_iff_ne]; exact hn
        have hw : IntKind.i64.wrap (n / 2 * 2) = n / 2 * 2 := by rw [IntKind.wrap_i64]; omega
        clear HE0 hn
        go_wp2_with fail
        go_region_with (go_at_call 99; refine (HH.out _).mono ?_; rintro e w1 ⟨rfl, rfl⟩)
        all_goals
          go_wp2_with fail
          go_roundw
          case rel =>
            refine ⟨p + 1, by omega, by go_num, ?_, (HR.out.2.setCell _ _).drewN 1⟩
            rw [HE.out, Nat.add_assoc]
            exact At.drewN (OAt.put HR.out.1 (p * 8 + p) hk _) 1
          case measure => simp [intOf]; omega
    · have hp8 : p = 8 := by omega
      subst hp8
      go_wp2_with fail
      go_end0
      exact ⟨rfl, HR.out⟩

end Go.Proofs.YtffajooegiempaaDoor

namespace Go.Proofs.YtffajooegiempaaDoor
open Go.RowKit
variable {w : World} {b : Nat} {e0 : Bool} {M : Nat → Int}

set_option maxRecDepth 100000 in
set_option maxHeartbeats 1600000 in
theorem o_addHalves (h : OAt w b e0 M) (hS : ∀ k, k ≤ 64 → Sm (ahF M k)) :
    Calls Tryd.prog 79 #[.pointer (some ⟨b, 0, none⟩)] w fun e w' => e = .returned (.tuple #[]) ∧ OAt w' b e0 (ahF M 64) ∧ Onl b w w' := by
  have HA : Hid (OAt w b e0 M) := h
  have HS : Hid (∀ k, k ≤ 64 → Sm (ahF M k)) := hS
  clear h hS
  go_enter Tryd.func79, Tryd.ntmps79
  go_wp2_with fail
  go_loopw [2] (fun i wr => ∃ (p : Nat), p ≤ 8 ∧ i = .int .i64 p ∧ Hid (OAt wr b e0 (ahF M (p * 8)) ∧ Onl b w wr)) (fun i _ => 8 - (intOf i).toNat)
  case atStart => exact ⟨0, by omega, rfl, HA.out, Onl.refl _ _⟩
  case round =>
    obtain ⟨p, hp, rfl, HR⟩ := hrel
    by_cases hlt : p < 8
    · have hpi : (p : Int) < 8 := by omega
      obtain ⟨w4, rfl⟩ : ∃ w4, w4 = wr := ⟨_, rfl⟩
      go_wp2_with fail
      go_loopw [3] (fun j wr => ∃ (q : Nat), q ≤ 8 ∧ j = .int .i64 q ∧ Hid (OAt wr b e0 (ahF M (p * 8 + q)) ∧ Onl b w wr)) (fun j _ => 8 - (intOf j).toNat)
      case atStart => exact ⟨0, by omega, rfl, HR.out⟩
      case round =>
        obtain ⟨q, hq, rfl, HQ⟩ := hrel
        by_cases hlt2 : q < 8
        · have hqi : (q : Int) < 8 := by omega
          have hk : p * 8 + q < 64 := by omega
          have hsm := HS.out (p * 8 + q) (by omega)
          have HE0 : Hid (ahF M (p * 8 + (q + 1)) = if pl (ahF M (p * 8 + q) (p * 8 + p)) (ahF M (p * 8 + q) (q * 8 + q)) ≠ NB ∧ (pl (ahF M (p * 8 + q) (p * 8 + p)) (ahF M (p * 8 + q) (q * 8 + q))).tdiv 2 < ahF M (p * 8 + q) (p * 8 + q) then upd (ahF M (p * 8 + q)) (p * 8 + q) ((pl (ahF M (p * 8 + q) (p * 8 + p)) (ahF M (p * 8 + q) (q * 8 + q))).tdiv 2) else ahF M (p * 8 + q)) := by show ahF M (p * 8 + q + 1) = _; rw [ahF]; unfold ah1; rw [show (p * 8 + q) / 8 = p by omega, show (p * 8 + q) % 8 = q by omega]
          generalize ahF M (p * 8 + q) = N at *
          have hm1 := hsm (p * 8 + p) (by omega)
          have hm2 := hsm (q * 8 + q) (by omega)
          have c1 : wr.cell? ⟨b, 1 + p * 8 + p, none⟩ = some (.int .i64 (N (p * 8 + p))) := by rw [Nat.add_assoc]; exact HQ.out.1.cell (p * 8 + p) (by omega)
          have c2 : wr.cell? ⟨b, 1 + q * 8 + q, none⟩ = some (.int .i64 (N (q * 8 + q))) := by rw [Nat.add_assoc]; exact HQ.out.1.cell (q * 8 + q) (by omega)
          have c3 : wr.cell? ⟨b, 1 + p * 8 + q, none⟩ = some (.int .i64 (N (p * 8 + q))) := by rw [Nat.add_assoc]; exact HQ.out.1.cell (p * 8 + q) (by omega)
          have cf : wr.frozen? ⟨b, 1 + p * 8 + q, none⟩ = false := At.free HQ.out.1 _
          have hbl : b < wr.heap.size := At.lt HQ.out.1
          have HPl : Hid (∀ n, Calls Tryd.prog 97 #[.int .i64 (N (p * 8 + p)), .int .i64 (N (q * 8 + q))] (wr.drewN n) fun e w' => e = .returned (.int .i64 (pl (N (p * 8 + p)) (N (q * 8 + q)))) ∧ w' = wr.drewN n) := fun n => o_plus _ _ hm1 hm2 _
          have hpl1 : -200000000000000000 ≤ pl (N (p * 8 + p)) (N (q * 8 + q)) ∧ pl (N (p * 8 + p)) (N (q * 8 + q)) ≤ 2000000 := by
            unfold pl NB; split <;> omega
          obtain ⟨l1, l2⟩ := hpl1
          clear hsm hm1 hm2
          generalize pl (N (p * 8 + p)) (N (q * 8 + q)) = n at *
          have ht := tdiv2_le n
          obtain ⟨t1, t2⟩ := ht
          by_cases hz : n = NB
          · have HE : Hid (_ = _) := HE0.out.trans (if_neg (fun e => e.1 hz))
            have hb : (n != 1000000) = false := by rw [hz]; rfl
            clear HE0 hz
            go_wp2_with fail
            go_quiet (first | (go_at_call 97; refine Calls.quiet_of_same (HPl.out _)))
            obtain ⟨w5, hW5⟩ : ∃ w5, w5 = wr.drewN nq := ⟨_, rfl⟩
            rw [← hW5]
            have k1 : ∀ a, w5.cell? a = wr.cell? a := fun a => by rw [hW5]; rfl
            rw [← k1] at c3
            have cf5 : w5.frozen? ⟨b, 1 + p * 8 + q, none⟩ = false := by rw [hW5]; exact cf
            have HQ5 : Hid (OAt w5 b e0 N ∧ Onl b w w5) := by rw [hW5]; exact ⟨At.drewN HQ.out.1 nq, HQ.out.2.drewN nq⟩
            have hbl5 : b < w5.heap.size := by rw [hW5]; exact hbl
            clear k1 hW5
            go_wp2_with fail
            go_roundw
            case rel => exact ⟨q + 1, by omega, by go_num, by rw [HE.out]; exact HQ5.out.1, HQ5.out.2⟩
            case measure => simp [intOf]; omega
          have hb : (n != 1000000) = true := by rw [bne_iff_ne]; exact hz
          by_cases hn : n.tdiv 2 < N (p * 8 + q)
          · have HE : Hid (_ = _) := HE0.out.trans (if_pos ⟨hz, hn⟩)
            clear HE0 hz
            go_wp2_with fail
            go_quiet (first | (go_at_call 97; refine Calls.quiet_of_same (HPl.out _)))
            obtain ⟨w5, hW5⟩ : ∃ w5, w5 = wr.drewN nq := ⟨_, rfl⟩
            rw [← hW5]
            have k1 : ∀ a, w5.cell? a = wr.cell? a := fun a => by rw [hW5]; rfl
            rw [← k1] at c3
            have cf5 : w5.frozen? ⟨b, 1 + p * 8 + q, none⟩ = false := by rw [hW5]; exact cf
            have HQ5 : Hid (OAt w5 b e0 N ∧ Onl b w w5) := by rw [hW5]; exact ⟨At.drewN HQ.out.1 nq, HQ.out.2.drewN nq⟩
            have hbl5 : b < w5.heap.size := by rw [hW5]; exact hbl
            clear k1 hW5
            go_wp2_with fail
            go_roundw
            case rel =>
              refine ⟨q + 1, by omega, by go_num, ?_, HQ5.out.2.setCell _ _⟩
              rw [HE.out, Nat.add_assoc]
              exact OAt.put HQ5.out.1 (p * 8 + q) hk _
            case measure => simp [intOf]; omega
          · have HE : Hid (_ = _) := HE0.out.trans (if_neg (fun e => hn e.2))
            clear HE0 hz
            go_wp2_with fail
            go_quiet (first | (go_at_call 97; refine Calls.quiet_of_same (HPl.out _)))
            obtain ⟨w5, hW5⟩ : ∃ w5, w5 = wr.drewN nq := ⟨_, rfl⟩
            rw [← hW5]
            have k1 : ∀ a, w5.cell? a = wr.cell? a := fun a => by rw [hW5]; rfl
            rw [← k1] at c3
            have cf5 : w5.frozen? ⟨b, 1 + p * 8 + q, none⟩ = false := by rw [hW5]; exact cf
            have HQ5 : Hid (OAt w5 b e0 N ∧ Onl b w w5) := by rw [hW5]; exact ⟨At.drewN HQ.out.1 nq, HQ.out.2.drewN nq⟩
            have hbl5 : b < w5.heap.size := by rw [hW5]; exact hbl
            clear k1 hW5
            go_wp2_with fail
            go_roundw
            case rel => exact ⟨q + 1, by omega, by go_num, by rw [HE.out]; exact HQ5.out.1, HQ5.out.2⟩
            case measure => simp [intOf]; omega
        · have hq8 : q = 8 := by omega
          subst hq8
          go_wp2_with fail
          go_roundw
          case rel => exact ⟨p + 1, by omega, by go_num, by rw [show (p + 1) * 8 = p * 8 + 8 by omega]; exact HQ.out.1, HQ.out.2⟩
          case measure => simp [intOf]; omega
    · have hp8 : p = 8 := by omega
      subst hp8
      go_wp2_with fail
      go_end0
      exact ⟨rfl, HR.out⟩

set_option maxRecDepth 100000 in
set_option maxHeartbeats 1600000 in
theorem o_contradicts (h : OAt w b e0 M) :
    Calls Tryd.prog 80 #[.pointer (some ⟨b, 0, none⟩)] w fun e w' => e = .returned (.bool (conF M 8)) ∧ ∃ k, w' = w.drewN k := by
  have HA : Hid (OAt w b e0 M) := h
  have hbl : b < w.heap.size := At.lt h
  have HCn : Hid (∀ n, n ≤ 8 → conF M n = true → conF M 8 = true) := by
    intro n hn h
    have : ∀ d, conF M (n + d) = true := by
      intro d
      induction d with
      | zero => exact h
      | succ d ih => show (conF M (n + d) || _) = true; rw [ih]; rfl
    rw [show 8 = n + (8 - n) by omega]
    exact this _
  clear h
  go_enter Tryd.func80, Tryd.ntmps80
  go_wp2_with fail
  go_loopw [3] (fun i wr => ∃ (p k : Nat), p ≤ 8 ∧ i = .int .i64 p ∧ Hid (conF M p = false ∧ wr = w.drewN k)) (fun i _ => 8 - (intOf i).toNat)
  case atStart => exact ⟨0, 0, by omega, rfl, rfl, rfl⟩
  case round =>
    obtain ⟨p, k, hp, rfl, HR⟩ := hrel
    by_cases hlt : p < 8
    · have hpi : (p : Int) < 8 := by omega
      have HO : Hid (OAt wr b e0 M) := by show OAt _ _ _ _; rw [HR.out.2]; exact At.drewN HA.out k
      have hol := opp_lt hlt
      have HOp : Hid (∀ n, Calls Tryd.prog 98 #[.int .i64 (p : Int)] (wr.drewN n) fun e w' => e = .returned (.int .i64 ((opp p : Nat) : Int)) ∧ w' = wr.drewN n) := fun n => o_opposite p hlt _
      have HE0 : Hid (conF M (p + 1) = (conF M p || decide (M (p * 8 + opp p) < 0))) := rfl
      have hoi : ((opp p : Nat) : Int) < 8 := by omega
      generalize opp p = os at *
      have c1 : wr.cell? ⟨b, 1 + p * 8 + os, none⟩ = some (.int .i64 (M (p * 8 + os))) := by rw [Nat.add_assoc]; exact HO.out.cell (p * 8 + os) (by omega)
      generalize M (p * 8 + os) = n at *
      by_cases hn : n < 0
      · have HE : Hid (conF M 8 = true) := HCn.out (p + 1) (by omega) (HE0.out.trans (by rw [HR.out.1]; simpa using hn))
        clear HE0
        go_wp2_with fail
        go_quiet (first | (go_at_call 98; refine Calls.quiet_of_same (HOp.out _)))
        go_wp2_with fail
        go_ret
        exact ⟨by rw [HE.out]; rfl, k + nq, by rw [HR.out.2]; exact World.drewN_drewN _ _ _⟩
      · have HE : Hid (conF M (p + 1) = false) := HE0.out.trans (by rw [HR.out.1]; simpa using hn)
        clear HE0
        go_wp2_with fail
        go_quiet (first | (go_at_call 98; refine Calls.quiet_of_same (HOp.out _)))
        go_wp2_with fail
        go_roundw
        case rel => exact ⟨p + 1, k + nq, by omega, by go_num, HE.out, by rw [HR.out.2]; exact World.drewN_drewN _ _ _⟩
        case measure => simp [intOf]; omega
    · have hp8 : p = 8 := by omega
      subst hp8
      go_wp2_with fail
      go_ret
      exact ⟨by rw [HR.out.1]; rfl, k, HR.out.2⟩

end Go.Proofs.YtffajooegiempaaDoor

