import Derived.Test.YtffajooegiempaaGreatDoorJ2
import Derived.Deep.RegionWith
set_option maxRecDepth 100000
set_option maxHeartbeats 6400000
namespace Go.Proofs.YtffajooegiempaaGreatDoor
open Go.RowKit
variable {w:World} {s:ByteArray}
theorem addr_add (g i:Nat):(⟨g,0,none⟩:Addr).add i=⟨g,i,none⟩:=by unfold Addr.add; split <;> simp_all
structure LLo (w:World) (base:Nat) (v:Value) (X:List Value) (L:List (Option (List Int))):Prop where
 row:w.ownsRow base 32 1 v L.length X
 each:∀ i,i < L.length->PV w base (X.getD i (.bool false)) (L.getD i none)
 away:∀ i k,i < L.length->(X.getD i (.bool false)).ownBlock=some k->v.ownBlock ≠ some k
theorem LLo.len {base:Nat} {v:Value} {X:List Value} {L:List (Option (List Int))} (h:LLo w base v X L):X.length=L.length:=by have:=h.row.1; simpa using this
theorem LLo.keep {w w':World} {base B:Nat} {v:Value} {X:List Value} {L:List (Option (List Int))} (h:LLo w base v X L) (hb:Below B w w') (hB:w.heap.size<=B):LLo w' base v X L :=
 ⟨ownsRow_below h.row (fun k hk=>hb.block k (by have:=(h.row.lt k hk).2; omega)),fun i hi=>(h.each i hi).same (fun k hk=>hb.block k (by have:=((h.each i hi).lt k hk).2; omega)),h.away⟩
theorem LLo.snoc {w w':World} {base:Nat} {v v' x:Value} {X:List Value} {L:List (Option (List Int))} {o:Option (List Int)} (h:LLo w base v X L) (hx:PV w base x o) (hxv:∀ k,x.ownBlock=some k->v.ownBlock ≠ some k)
  (hrow:w'.ownsRow base 32 1 v' (L.length+1) (X ++ [x])) (hg:w.grownBy w' v.ownBlock) (hv:v'.ownBlock=v.ownBlock \/ ∀ g,v'.ownBlock=some g->w.heap.size<=g):LLo w' base v' (X ++ [x]) (L ++ [o]):=by
 have hl:=h.len
 have hX:∀ i,i < L.length->(X ++ [x]).getD i (.bool false)=X.getD i (.bool false):=fun i hi=>by rw [getD_snocV,if_pos (by omega)]
 have hXn:(X ++ [x]).getD L.length (.bool false)=x:=by rw [getD_snocV,if_neg (by omega),if_pos hl.symm]
 have hL:∀ i,i < L.length->(L ++ [o]).getD i none=L.getD i none:=fun i hi=>by simp [List.getD,List.getElem?_append_left hi]
 have hLn:(L ++ [o]).getD L.length none=o:=by simp [List.getD]
 have hlen:(L ++ [o]).length=L.length+1:=by simp
 have hP:∀ i,i < L.length+1->PV w base ((X ++ [x]).getD i (.bool false)) ((L ++ [o]).getD i none)/\∀ k,((X ++ [x]).getD i (.bool false)).ownBlock=some k->v.ownBlock ≠ some k:=by
  intro i hi
  rcases Nat.lt_or_eq_of_le (Nat.lt_succ_iff.1 hi) with q | q
  ·rw [hX i q,hL i q]; exact ⟨h.each i q,fun k hk=>h.away i k q hk⟩
  ·rw [q,hXn,hLn]; exact ⟨hx,hxv⟩
 refine ⟨by rw [hlen]; exact hrow,fun i hi=>?_,fun i k hi hk=>?_⟩
 ·rw [hlen] at hi
  obtain ⟨h1,h2⟩:=hP i hi
  exact h1.same (fun k hk=>hg.block k (h1.lt k hk).2 (fun e=>h2 k hk e.symm))
 ·rw [hlen] at hi
  obtain ⟨h1,h2⟩:=hP i hi
  rcases hv with e | e
  ·rw [e]; exact h2 k hk
  ·intro e'
   have:=e k e'
   have:=(h1.lt k hk).2
   omega
theorem LLo.reads {base:Nat} {v:Value} {X:List Value} {L:List (Option (List Int))} (h:LLo w base v X L) (hn:1<=L.length):ReadsL w v L/\∃ a n c,v=.slice (some a) n c:=by
 rcases h.row.2 with ⟨_,e⟩ | ⟨g,cap,cur,rfl,hg,hh,hcap,_,hsz,htk⟩
 ·omega
 ·refine ⟨⟨some ⟨g,0,none⟩,cap,rfl,hcap,fun _=>⟨g,0,rfl,(h.row.lt g rfl).2,fun i hi=>?_⟩⟩,_,_,_,rfl⟩
  have hXi:X[i]?=some (X.getD i (.bool false)):=by simp [List.getD,show i < X.length by rw [h.len]; exact hi]
  have hc:=h.row.cells (g:=g) rfl i _ hXi
  rw [addr_add] at hc
  refine ⟨_,by rw [Nat.zero_add]; exact hc,?_⟩
  have hp:=h.each i hi
  cases e:L.getD i none with
  | none=>rw [e] at hp; exact hp
  | some l =>
   rw [e] at hp
   obtain ⟨a,_,hv,hat,hl⟩:=hp
   rw [hv]
   exact ⟨Reads.at_ hat hl (Nat.le_refl _) (fun j hj=>ic_get _ _ (by omega)),_,_,_,rfl⟩
theorem byte_at (s:ByteArray) (k:Nat) (h:k < s.size):(bytesOf s).getD k 0=((s[k]).toNat:Int):=by rw [List.getD_eq_getElem?_getD,bytesOf_get s k h]; rfl
def ROut (w:World) (s:ByteArray):Ending->World->Prop:=fun e w'=>Below w.heap.size w w' /\
 ((decR s=none/\e=.returned (.tuple #[.slice none 0 0,.int .i64 4])) \/
  ∃ L v,decR s=some L/\e=.returned (.tuple #[v,.int .i64 0])/\ReadsL w' v L/\∃ a n c,v=.slice (some a) n c)
theorem r_decode_bad (_hs:s.size<=9223372036854775807) (hbad:s.size < 1 \/ (bytesOf s).getD 0 0 < 1 \/ 21 < (bytesOf s).getD 0 0):Calls Tryz.prog 26 #[.string s] w (ROut w s):=by
 have HE:Hid (decR s=none):=by
  show _=_
  unfold decR looF
  rw [bytesOf_len,if_pos hbad]
 by_cases h0:s.size < 1
 ·have hz:s.size=0:=by omega
  have h1:(s.size:Int) < 1:=by omega
  clear hbad
  go_enter Tryz.func26,Tryz.ntmps26
  go_wp2_with fail
  go_ret2
  exact ⟨Below.refl _ _,.inl ⟨HE.out,rfl⟩⟩
 ·have h1:¬ (s.size:Int) < 1:=by omega
  have h0':0 < s.size:=by omega
  rw [byte_at s 0 h0'] at hbad
  have hb:=hbad.resolve_left h0
  by_cases h2:((s[0]).toNat:Int) < 1
  ·clear hbad hb
   go_enter Tryz.func26,Tryz.ntmps26
   go_wp2_with fail
   go_ret2
   exact ⟨Below.refl _ _,.inl ⟨HE.out,rfl⟩⟩
  ·have h3:(21:Int) < ((s[0]).toNat:Int):=by omega
   clear hbad hb
   go_enter Tryz.func26,Tryz.ntmps26
   go_wp2_with fail
   go_ret2
   exact ⟨Below.refl _ _,.inl ⟨HE.out,rfl⟩⟩
end Go.Proofs.YtffajooegiempaaGreatDoor

namespace Go.Proofs.YtffajooegiempaaGreatDoor
theorem tdiv2 (x:Int):(0<=x->x.tdiv 2=x / 2)/\(x < 0->x.tdiv 2=-((-x) / 2)):=by
 constructor
 ·intro h; exact Int.tdiv_eq_ediv_of_nonneg h
 ·intro h
  have:x.tdiv 2=-((-x).tdiv 2):=by rw [Int.neg_tdiv,Int.neg_neg]
  rw [this,Int.tdiv_eq_ediv_of_nonneg (by omega)]
theorem tdiv2_le (x:Int):x.tdiv 2*2<=x+1/\x - 1<=x.tdiv 2*2:=by
 have h:=tdiv2 x
 rcases Int.lt_or_le x 0 with e | e
 ·rw [h.2 e]; omega
 ·rw [h.1 e]; omega
theorem rdF_at (M:Nat->Int):∀ n a,rdF M n a=if a % 9=0/\a / 9 < n/\M a ≠ NB then M a / 2*2 else M a:=by
 intro n
 induction n with
 | zero=>intro a; rw [rdF,if_neg (by omega)]
 | succ n ih =>
  intro a
  rw [rdF]
  unfold rd1
  have hn:rdF M n (n*8+n)=M (n*8+n):=by rw [ih,if_neg (by omega)]
  rw [hn]
  by_cases e:a=n*8+n
  ·subst e
   split
   ·rename_i h; rw [hn,if_neg (fun q=>q.2.2 h)]
   ·rename_i h; rw [upd_same,if_pos ⟨by omega,by omega,h⟩]
  ·have hne:¬ (a % 9=0/\a / 9=n):=by omega
   have:(if M (n*8+n)=NB then rdF M n else upd (rdF M n) (n*8+n) (M (n*8+n) / 2*2)) a=rdF M n a:=by
    split
    ·rfl
    ·exact upd_other _ _ e
   rw [this,ih]
   by_cases q:a % 9=0/\a / 9 < n/\M a ≠ NB
   ·rw [if_pos q,if_pos ⟨q.1,by omega,q.2.2⟩]
   ·rw [if_neg q,if_neg (fun p=>q ⟨p.1,by omega,p.2.2⟩)]
theorem rdF_lo {L:Int} {M:Nat->Int} (h:Lo L M) (n:Nat):Lo (L+1) (rdF M n):=by
 intro a ha
 have:=h a ha
 rw [rdF_at]
 split <;> omega
theorem ah1_lo {L:Int} {M:Nat->Int} (hL:0<=L) (h:Lo L M) {k:Nat} (hk:k < 64):Lo L (ah1 M k):=by
 intro a ha
 have h1:=h (k / 8*8+k / 8) (by omega)
 have h2:=h (k % 8*8+k % 8) (by omega)
 have h3:=h a ha
 have:=pl_ge h1 h2 (by omega)
 unfold ah1
 split
 ·unfold upd
  split
  ·have:=tdiv2_le (pl (M (k / 8*8+k / 8)) (M (k % 8*8+k % 8))); omega
  ·exact h3
 ·exact h3
theorem ahF_lo {L:Int} {M:Nat->Int} (hL:0<=L) (h:Lo L M):∀ k,k<=64->Lo L (ahF M k):=by
 intro k
 induction k with
 | zero=>intro _; exact h
 | succ k ih=>intro hk; rw [ahF]; exact ah1_lo hL (ih (by omega)) (by omega)
def sd (v:Nat->Int) (i:Nat):Int:=if i % 2=0 then v (i / 2) else -v (i / 2)
theorem sd_opp (v:Nat->Int) (i:Nat):sd v (opp i)=-sd v i:=by
 unfold sd opp
 by_cases h:i % 2=0
 ·rw [if_pos h,if_pos h,if_neg (by omega),show (i+1) / 2=i / 2 by omega]
 ·rw [if_neg h,if_neg h,if_pos (by omega),show (i - 1) / 2=i / 2 by omega,Int.neg_neg]
def Sat (v:Nat->Int) (M:Nat->Int):Prop:=∀ i j,i < 8->j < 8->M (i*8+j)=NB \/ sd v i+sd v j<=M (i*8+j)
theorem pl_fin {a b:Int} (h:pl a b ≠ NB):a ≠ NB/\b ≠ NB/\pl a b=a+b:=by
 unfold pl at h |-
 by_cases q:a=NB \/ b=NB
 ·rw [if_pos q] at h; exact absurd rfl h
 ·rw [if_neg q]; exact ⟨fun e=>q (.inl e),fun e=>q (.inr e),rfl⟩
theorem Sat.ch1 {v M:Nat->Int} (h:Sat v M) {s k:Nat} (hs:s < 8) (_hk:k < 64):Sat v (ch1 s M k):=by
 intro i j hi hj
 unfold Go.Proofs.YtffajooegiempaaGreatDoor.ch1
 split
 ·unfold upd
  split
  ·rename_i e
   have e1:k / 8=i:=by omega
   have e2:k % 8=j:=by omega
   rw [e1,e2]
   by_cases q:pl (M (i*8+opp s)) (M (s*8+j))=NB
   ·exact .inl q
   ·obtain ⟨q1,q2,q3⟩:=pl_fin q
    right
    rw [q3]
    have a1:=(h i (opp s) hi (opp_lt hs)).resolve_left q1
    have a2:=(h s j hs hj).resolve_left q2
    rw [sd_opp] at a1
    omega
  ·exact h i j hi hj
 ·exact h i j hi hj
theorem Sat.chF {v M:Nat->Int} (h:Sat v M) {s:Nat} (hs:s < 8):∀ k,k<=64->Sat v (chF s M k):=by
 intro k
 induction k with
 | zero=>intro _; exact h
 | succ k ih=>intro hk; rw [Go.Proofs.YtffajooegiempaaGreatDoor.chF]; exact (ih (by omega)).ch1 hs (by omega)
theorem Sat.fw {v M:Nat->Int} (h:Sat v M):∀ s,s<=8->Sat v (fw M s):=by
 intro s
 induction s with
 | zero=>intro _; exact h
 | succ s ih=>intro hs; rw [Go.Proofs.YtffajooegiempaaGreatDoor.fw]; exact (ih (by omega)).chF (by omega) 64 (Nat.le_refl _)
theorem Sat.rdF {v M:Nat->Int} (h:Sat v M) (n:Nat):Sat v (rdF M n):=by
 intro i j hi hj
 rw [rdF_at]
 split
 ·rename_i q
  have e:i=j:=by omega
  subst e
  have:=(h i i hi hi).resolve_left q.2.2
  right
  omega
 ·exact h i j hi hj
theorem Sat.ah1 {v M:Nat->Int} (h:Sat v M) {k:Nat} (_hk:k < 64):Sat v (ah1 M k):=by
 intro i j hi hj
 unfold Go.Proofs.YtffajooegiempaaGreatDoor.ah1
 split
 ·rename_i q
  unfold upd
  split
  ·rename_i e
   have e1:k / 8=i:=by omega
   have e2:k % 8=j:=by omega
   rw [e1,e2] at q |-
   obtain ⟨q1,q2,q3⟩:=pl_fin q.1
   have a1:=(h i i hi hi).resolve_left q1
   have a2:=(h j j hj hj).resolve_left q2
   have:=tdiv2 (pl (M (i*8+i)) (M (j*8+j)))
   right
   rcases Int.lt_or_le (pl (M (i*8+i)) (M (j*8+j))) 0 with e | e
   ·rw [this.2 e]; omega
   ·rw [this.1 e]; omega
  ·exact h i j hi hj
 ·exact h i j hi hj
theorem Sat.ahF {v M:Nat->Int} (h:Sat v M):∀ k,k<=64->Sat v (ahF M k):=by
 intro k
 induction k with
 | zero=>intro _; exact h
 | succ k ih=>intro hk; rw [Go.Proofs.YtffajooegiempaaGreatDoor.ahF]; exact (ih (by omega)).ah1 (by omega)
theorem Sat.sharp {v M:Nat->Int} (h:Sat v M):Sat v (sharp M):=((h.fw 8 (Nat.le_refl _)).rdF 8).ahF 64 (Nat.le_refl _)
theorem conF_true {M:Nat->Int}:∀ {n:Nat},conF M n=true->∃ i,i < n/\M (i*8+opp i) < 0:=by
 intro n
 induction n with
 | zero=>intro h; cases h
 | succ n ih =>
  intro h
  rw [conF,Bool.or_eq_true] at h
  rcases h with h | h
  ·obtain ⟨i,hi,h⟩:=ih h
   exact ⟨i,by omega,h⟩
  ·exact ⟨n,by omega,of_decide_eq_true h⟩
theorem Sat.some {v M:Nat->Int} (h:Sat v M):conF M 8=false:=by
 cases e:conF M 8 with
 | false=>rfl
 | true =>
  obtain ⟨i,hi,h1⟩:=conF_true e
  rcases h i (opp i) hi (opp_lt hi) with q | q
  ·rw [q] at h1; exact absurd h1 (by decide)
  ·rw [sd_opp] at q; omega
theorem sharp_lo {M:Nat->Int} (h:Lo 8000 M):Lo (8000*6 ^ 8+1) (sharp M):=ahF_lo (by decide) (rdF_lo (fw_lo (by decide) h 8 (Nat.le_refl _)) 8) 64 (Nat.le_refl _)
end Go.Proofs.YtffajooegiempaaGreatDoor

namespace Go.Proofs.YtffajooegiempaaGreatDoor
open Go.RowKit
abbrev tO:TypeId:=90
def oc (e:Bool) (M:Nat->Int):Array Value:=(Value.bool e :: (List.range 64).map fun k=>Value.int .i64 (M k)).toArray
theorem oc_size (e:Bool) (M:Nat->Int):(oc e M).size=65:=by simp [oc]
theorem oc_at (e:Bool) (M:Nat->Int) (k:Nat) (h:k < 64):(oc e M)[1+k]?=some (.int .i64 (M k)):=by
 rw [Nat.add_comm]; simp [oc,h]
theorem oc_0 (e:Bool) (M:Nat->Int):(oc e M)[0]?=some (.bool e):=by simp [oc]
theorem oc_set (e:Bool) (M:Nat->Int) (k:Nat) (h:k < 64) (x:Int):(oc e M).setIfInBounds (1+k) (.int .i64 x)=oc e (upd M k x):=by
 apply Array.ext
 ·simp [oc]
 ·intro i h1 h2
  simp only [oc_size] at h2
  rw [Array.getElem_setIfInBounds (by rw [oc_size]; exact h2)]
  by_cases e1:1+k=i
  ·subst e1
   rw [if_pos rfl]
   have:=oc_at e (upd M k x) k h
   rw [Array.getElem?_eq_getElem (by rw [oc_size]; exact h2),upd_same] at this
   exact (Option.some.inj this).symm
  ·rw [if_neg e1]
   cases i with
   | zero =>
    have a:=oc_0 e M
    have b:=oc_0 e (upd M k x)
    rw [Array.getElem?_eq_getElem (by rw [oc_size]; exact h2)] at a b
    rw [Option.some.inj a,Option.some.inj b]
   | succ i =>
    have a:=oc_at e M i (by omega)
    have b:=oc_at e (upd M k x) i (by omega)
    rw [show 1+i=i+1 by omega] at a b
    rw [Array.getElem?_eq_getElem (by rw [oc_size]; exact h2)] at a b
    rw [Option.some.inj a,Option.some.inj b,upd_other _ _ (by omega)]
theorem oc_setE (e e':Bool) (M:Nat->Int):(oc e M).setIfInBounds 0 (.bool e')=oc e' M:=by simp [oc]
def Sm (M:Nat->Int):Prop:=∀ k,k < 64->-100000000000000000<=M k/\M k<=1000000
theorem o_opposite (i:Nat) (hi:i < 8) (w:World):Calls Tryz.prog 153 #[.int .i64 (i:Int)] w fun e w'=>e=.returned (.int .i64 ((opp i:Nat):Int))/\w'=w:=by
 rcases (show i=0 \/ i=1 \/ i=2 \/ i=3 \/ i=4 \/ i=5 \/ i=6 \/ i=7 by omega) with rfl | rfl | rfl | rfl | rfl | rfl | rfl | rfl
 all_goals
  go_enter Tryz.func153,Tryz.ntmps153
  go_wp2_with fail
  go_ret
  exact ⟨rfl,rfl⟩
theorem o_plus (a b:Int) (ha:-100000000000000000<=a/\a<=1000000) (hb:-100000000000000000<=b/\b<=1000000) (w:World):Calls Tryz.prog 152 #[.int .i64 a,.int .i64 b] w fun e w'=>e=.returned (.int .i64 (pl a b))/\w'=w:=by
 by_cases h1:a=1000000
 ·subst h1
  have HE:Hid (pl 1000000 b=1000000):=if_pos (.inl rfl)
  go_enter Tryz.func152,Tryz.ntmps152
  go_wp2_with fail
  go_ret
  exact ⟨by rw [HE.out]; rfl,rfl⟩
 have q1:(a == 1000000)=false:=by simpa using h1
 by_cases h2:b=1000000
 ·subst h2
  have HE:Hid (pl a 1000000=1000000):=if_pos (.inr rfl)
  go_enter Tryz.func152,Tryz.ntmps152
  go_wp2_with fail
  go_ret
  exact ⟨by rw [HE.out]; rfl,rfl⟩
 have q2:(b == 1000000)=false:=by simpa using h2
 have HE:Hid (pl a b=a+b):=if_neg (fun e=>e.elim h1 h2)
 obtain ⟨a0,a1⟩:=ha
 obtain ⟨b0,b1⟩:=hb
 clear h1 h2
 go_enter Tryz.func152,Tryz.ntmps152
 go_wp2_with fail
 go_ret
 exact ⟨by rw [HE.out]; rfl,rfl⟩
theorem half_floor (n:Int):(n < n.tdiv 2*2->n / 2=n.tdiv 2 - 1)/\(¬ n < n.tdiv 2*2->n / 2=n.tdiv 2):=by
 have:=tdiv2 n
 rcases Int.lt_or_le n 0 with e | e
 ·rw [this.2 e]; omega
 ·rw [this.1 e]; omega
theorem o_halfBelow (n:Int) (hn:-100000000000000000<=n/\n<=1000000) (w:World):Calls Tryz.prog 154 #[.int .i64 n] w fun e w'=>e=.returned (.int .i64 (n / 2))/\w'=w:=by
 have hb:=tdiv2_le n
 have hf:=half_floor n
 obtain ⟨n0,n1⟩:=hn
 obtain ⟨b0,b1⟩:=hb
 by_cases h:n < n.tdiv 2*2
 ·have HE:Hid (n / 2=n.tdiv 2 - 1):=hf.1 h
  clear hf
  go_enter Tryz.func154,Tryz.ntmps154
  go_wp2_with fail
  go_ret
  exact ⟨by rw [HE.out]; rfl,rfl⟩
 ·have HE:Hid (n / 2=n.tdiv 2):=hf.2 h
  clear hf
  go_enter Tryz.func154,Tryz.ntmps154
  go_wp2_with fail
  go_ret
  exact ⟨by rw [HE.out]; rfl,rfl⟩
end Go.Proofs.YtffajooegiempaaGreatDoor

namespace Go.Proofs.YtffajooegiempaaGreatDoor
open Go.RowKit
variable {w:World} {b:Nat} {e0:Bool} {M:Nat->Int}
def OAt (w:World) (b:Nat) (e:Bool) (M:Nat->Int):Prop:=At w b (oc e M) tO
theorem OAt.cell (h:OAt w b e0 M) (k:Nat) (hk:k < 64):w.cell? ⟨b,1+k,none⟩=some (.int .i64 (M k)):=by rw [At.cell h]; exact oc_at _ _ _ hk
theorem OAt.put (h:OAt w b e0 M) (k:Nat) (hk:k < 64) (x:Int):OAt (w.setCell ⟨b,1+k,none⟩ (.int .i64 x)) b e0 (upd M k x):=by
 have:=At.put h (1+k) (.int .i64 x)
 rw [oc_set _ _ _ hk] at this
 exact this
theorem o_chain (h:OAt w b e0 M) (s:Nat) (hs:s < 8) (hS:∀ k,k<=64->Sm (chF s M k)) :
  Calls Tryz.prog 135 #[.pointer (some ⟨b,0,none⟩),.int .i64 (s:Int)] w fun e w'=>e=.returned (.tuple #[])/\OAt w' b e0 (chF s M 64)/\Onl b w w':=by
 have HA:Hid (OAt w b e0 M):=h
 have HS:Hid (∀ k,k<=64->Sm (chF s M k)):=hS
 have hsi:(s:Int) < 8:=by omega
 have hs0:¬ (s:Int) < 0:=by omega
 have hs8:¬ (8:Int)<=(s:Int):=by omega
 have hosl:=opp_lt hs
 clear h hS
 go_enter Tryz.func135,Tryz.ntmps135
 go_wp2_with fail
 go_loopw [4] (fun i wr=>∃ (p:Nat),p<=8/\i=.int .i64 p/\Hid (OAt wr b e0 (chF s M (p*8))/\Onl b w wr)) (fun i _=>8 - (intOf i).toNat)
 case atStart=>exact ⟨0,by omega,rfl,HA.out,Onl.refl _ _⟩
 case round =>
  obtain ⟨p,hp,rfl,HR⟩:=hrel
  by_cases hlt:p < 8
  ·have hpi:(p:Int) < 8:=by omega
   obtain ⟨w4,rfl⟩:∃ w4,w4=wr:=⟨_,rfl⟩
   go_wp2_with fail
   go_loopw [5] (fun j wr=>∃ (q:Nat),q<=8/\j=.int .i64 q/\Hid (OAt wr b e0 (chF s M (p*8+q))/\Onl b w wr)) (fun j _=>8 - (intOf j).toNat)
   case atStart=>exact ⟨0,by omega,rfl,HR.out⟩
   case round =>
    obtain ⟨q,hq,rfl,HQ⟩:=hrel
    by_cases hlt2:q < 8
    ·have hqi:(q:Int) < 8:=by omega
     have hk:p*8+q < 64:=by omega
     have hsm:=HS.out (p*8+q) (by omega)
     have HE0:Hid (chF s M (p*8+(q+1))=if pl (chF s M (p*8+q) (p*8+opp s)) (chF s M (p*8+q) (s*8+q)) < chF s M (p*8+q) (p*8+q) then upd (chF s M (p*8+q)) (p*8+q) (pl (chF s M (p*8+q) (p*8+opp s)) (chF s M (p*8+q) (s*8+q))) else chF s M (p*8+q)):=by show chF s M (p*8+q+1)=_; rw [chF]; unfold ch1; rw [show (p*8+q) / 8=p by omega,show (p*8+q) % 8=q by omega]
     generalize chF s M (p*8+q)=N at *
     have hm1:=hsm (p*8+opp s) (by omega)
     have hm2:=hsm (s*8+q) (by omega)
     have HOp:Hid (∀ n,Calls Tryz.prog 153 #[.int .i64 (s:Int)] (wr.drewN n) fun e w'=>e=.returned (.int .i64 ((opp s:Nat):Int))/\w'=wr.drewN n):=fun n=>o_opposite s hs _
     have hoi:((opp s:Nat):Int) < 8:=by omega
     generalize opp s=os at *
     have c1:wr.cell? ⟨b,1+p*8+os,none⟩=some (.int .i64 (N (p*8+os))):=by rw [Nat.add_assoc]; exact HQ.out.1.cell (p*8+os) (by omega)
     have c2:wr.cell? ⟨b,1+s*8+q,none⟩=some (.int .i64 (N (s*8+q))):=by rw [Nat.add_assoc]; exact HQ.out.1.cell (s*8+q) (by omega)
     have c3:wr.cell? ⟨b,1+p*8+q,none⟩=some (.int .i64 (N (p*8+q))):=by rw [Nat.add_assoc]; exact HQ.out.1.cell (p*8+q) (by omega)
     have cf:wr.frozen? ⟨b,1+p*8+q,none⟩=false:=At.free HQ.out.1 _
     have hbl:b < wr.heap.size:=At.lt HQ.out.1
     have HPl:Hid (∀ n,Calls Tryz.prog 152 #[.int .i64 (N (p*8+os)),.int .i64 (N (s*8+q))] (wr.drewN n) fun e w'=>e=.returned (.int .i64 (pl (N (p*8+os)) (N (s*8+q))))/\w'=wr.drewN n):=fun n=>o_plus _ _ hm1 hm2 _
     clear hsm hm1 hm2
     generalize pl (N (p*8+os)) (N (s*8+q))=n at *
     by_cases hn:n < N (p*8+q)
     ·have HE:Hid (_=_):=HE0.out.trans (if_pos hn)
      clear HE0
      go_wp2_with fail
      go_quiet (first
       | (go_at_call 153; refine Calls.quiet_of_same (HOp.out _))
       | (go_at_call 152; refine Calls.quiet_of_same (HPl.out _)))
      go_wp2_with fail
      go_roundw
      case rel =>
       refine ⟨q+1,by omega,by go_num,?_,(HQ.out.2.drewN _).setCell _ _⟩
       rw [HE.out,Nat.add_assoc]
       exact OAt.put (w:=wr.drewN nq) (At.drewN HQ.out.1 nq) (p*8+q) hk n
      case measure=>simp [intOf]; omega
     ·have HE:Hid (_=_):=HE0.out.trans (if_neg hn)
      clear HE0
      go_wp2_with fail
      go_quiet (first
       | (go_at_call 153; refine Calls.quiet_of_same (HOp.out _))
       | (go_at_call 152; refine Calls.quiet_of_same (HPl.out _)))
      go_wp2_with fail
      go_roundw
      case rel =>
       refine ⟨q+1,by omega,by go_num,?_,HQ.out.2.drewN _⟩
       rw [HE.out]
       exact At.drewN HQ.out.1 nq
      case measure=>simp [intOf]; omega
    ·have hq8:q=8:=by omega
     subst hq8
     go_wp2_with fail
     go_roundw
     case rel=>exact ⟨p+1,by omega,by go_num,by rw [show (p+1)*8=p*8+8 by omega]; exact HQ.out.1,HQ.out.2⟩
     case measure=>simp [intOf]; omega
  ·have hp8:p=8:=by omega
   subst hp8
   go_wp2_with fail
   go_end0
   exact ⟨rfl,HR.out⟩
end Go.Proofs.YtffajooegiempaaGreatDoor

namespace Go.Proofs.YtffajooegiempaaGreatDoor
open Go.RowKit
variable {w:World} {b:Nat} {e0:Bool} {M:Nat->Int}
theorem o_roundDown (h:OAt w b e0 M) (hS:∀ k,k<=8->Sm (rdF M k)) :
  Calls Tryz.prog 136 #[.pointer (some ⟨b,0,none⟩)] w fun e w'=>e=.returned (.tuple #[])/\OAt w' b e0 (rdF M 8)/\Onl b w w':=by
 have HA:Hid (OAt w b e0 M):=h
 have HS:Hid (∀ k,k<=8->Sm (rdF M k)):=hS
 clear h hS
 go_enter Tryz.func136,Tryz.ntmps136
 go_wp2_with fail
 go_loopw [2] (fun i wr=>∃ (p:Nat),p<=8/\i=.int .i64 p/\Hid (OAt wr b e0 (rdF M p)/\Onl b w wr)) (fun i _=>8 - (intOf i).toNat)
 case atStart=>exact ⟨0,by omega,rfl,HA.out,Onl.refl _ _⟩
 case round =>
  obtain ⟨p,hp,rfl,HR⟩:=hrel
  by_cases hlt:p < 8
  ·have hpi:(p:Int) < 8:=by omega
   have hsm:=HS.out p (by omega)
   have HE0:Hid (rdF M (p+1)=if rdF M p (p*8+p)=NB then rdF M p else upd (rdF M p) (p*8+p) (rdF M p (p*8+p) / 2*2)):=by show rdF M (p+1)=_; rw [rdF]; rfl
   generalize rdF M p=N at *
   have hm1:=hsm (p*8+p) (by omega)
   have c1:wr.cell? ⟨b,1+p*8+p,none⟩=some (.int .i64 (N (p*8+p))):=by rw [Nat.add_assoc]; exact HR.out.1.cell (p*8+p) (by omega)
   have cf:wr.frozen? ⟨b,1+p*8+p,none⟩=false:=At.free HR.out.1 _
   have hbl:b < wr.heap.size:=At.lt HR.out.1
   have HH:Hid (∀ w1,Calls Tryz.prog 154 #[.int .i64 (N (p*8+p))] w1 fun e w'=>e=.returned (.int .i64 (N (p*8+p) / 2))/\w'=w1):=fun w1=>o_halfBelow _ hm1 w1
   have hk:p*8+p < 64:=by omega
   clear hsm
   generalize N (p*8+p)=n at *
   by_cases hn:n=NB
   ·have HE:Hid (_=_):=HE0.out.trans (if_pos hn)
    have hb:(n != 1000000)=false:=by rw [hn]; rfl
    clear HE0 hn
    go_wp2_with fail
    go_roundw
    case rel=>exact ⟨p+1,by omega,by go_num,by rw [HE.out]; exact HR.out.1,HR.out.2⟩
    case measure=>simp [intOf]; omega
   ·have HE:Hid (_=_):=HE0.out.trans (if_neg hn)
    have hb:(n != 1000000)=true:=by rw [bne_iff_ne]; exact hn
    have hw:IntKind.i64.wrap (n / 2*2)=n / 2*2:=by rw [IntKind.wrap_i64]; omega
    clear HE0 hn
    go_wp2_with fail
    go_region_with (go_at_call 154; refine (HH.out _).mono ?_; rintro e w1 ⟨rfl,rfl⟩)
    all_goals
     go_wp2_with fail
     go_roundw
     case rel =>
      refine ⟨p+1,by omega,by go_num,?_,(HR.out.2.setCell _ _).drewN 1⟩
      rw [HE.out,Nat.add_assoc]
      exact At.drewN (OAt.put HR.out.1 (p*8+p) hk _) 1
     case measure=>simp [intOf]; omega
  ·have hp8:p=8:=by omega
   subst hp8
   go_wp2_with fail
   go_end0
   exact ⟨rfl,HR.out⟩
end Go.Proofs.YtffajooegiempaaGreatDoor

namespace Go.Proofs.YtffajooegiempaaGreatDoor
open Go.RowKit
variable {w:World} {b:Nat} {e0:Bool} {M:Nat->Int}
theorem o_addHalves (h:OAt w b e0 M) (hS:∀ k,k<=64->Sm (ahF M k)) :
  Calls Tryz.prog 137 #[.pointer (some ⟨b,0,none⟩)] w fun e w'=>e=.returned (.tuple #[])/\OAt w' b e0 (ahF M 64)/\Onl b w w':=by
 have HA:Hid (OAt w b e0 M):=h
 have HS:Hid (∀ k,k<=64->Sm (ahF M k)):=hS
 clear h hS
 go_enter Tryz.func137,Tryz.ntmps137
 go_wp2_with fail
 go_loopw [2] (fun i wr=>∃ (p:Nat),p<=8/\i=.int .i64 p/\Hid (OAt wr b e0 (ahF M (p*8))/\Onl b w wr)) (fun i _=>8 - (intOf i).toNat)
 case atStart=>exact ⟨0,by omega,rfl,HA.out,Onl.refl _ _⟩
 case round =>
  obtain ⟨p,hp,rfl,HR⟩:=hrel
  by_cases hlt:p < 8
  ·have hpi:(p:Int) < 8:=by omega
   obtain ⟨w4,rfl⟩:∃ w4,w4=wr:=⟨_,rfl⟩
   go_wp2_with fail
   go_loopw [3] (fun j wr=>∃ (q:Nat),q<=8/\j=.int .i64 q/\Hid (OAt wr b e0 (ahF M (p*8+q))/\Onl b w wr)) (fun j _=>8 - (intOf j).toNat)
   case atStart=>exact ⟨0,by omega,rfl,HR.out⟩
   case round =>
    obtain ⟨q,hq,rfl,HQ⟩:=hrel
    by_cases hlt2:q < 8
    ·have hqi:(q:Int) < 8:=by omega
     have hk:p*8+q < 64:=by omega
     have hsm:=HS.out (p*8+q) (by omega)
     have HE0:Hid (ahF M (p*8+(q+1))=if pl (ahF M (p*8+q) (p*8+p)) (ahF M (p*8+q) (q*8+q)) ≠ NB/\(pl (ahF M (p*8+q) (p*8+p)) (ahF M (p*8+q) (q*8+q))).tdiv 2 < ahF M (p*8+q) (p*8+q) then upd (ahF M (p*8+q)) (p*8+q) ((pl (ahF M (p*8+q) (p*8+p)) (ahF M (p*8+q) (q*8+q))).tdiv 2) else ahF M (p*8+q)):=by show ahF M (p*8+q+1)=_; rw [ahF]; unfold ah1; rw [show (p*8+q) / 8=p by omega,show (p*8+q) % 8=q by omega]
     generalize ahF M (p*8+q)=N at *
     have hm1:=hsm (p*8+p) (by omega)
     have hm2:=hsm (q*8+q) (by omega)
     have c1:wr.cell? ⟨b,1+p*8+p,none⟩=some (.int .i64 (N (p*8+p))):=by rw [Nat.add_assoc]; exact HQ.out.1.cell (p*8+p) (by omega)
     have c2:wr.cell? ⟨b,1+q*8+q,none⟩=some (.int .i64 (N (q*8+q))):=by rw [Nat.add_assoc]; exact HQ.out.1.cell (q*8+q) (by omega)
     have c3:wr.cell? ⟨b,1+p*8+q,none⟩=some (.int .i64 (N (p*8+q))):=by rw [Nat.add_assoc]; exact HQ.out.1.cell (p*8+q) (by omega)
     have cf:wr.frozen? ⟨b,1+p*8+q,none⟩=false:=At.free HQ.out.1 _
     have hbl:b < wr.heap.size:=At.lt HQ.out.1
     have HPl:Hid (∀ n,Calls Tryz.prog 152 #[.int .i64 (N (p*8+p)),.int .i64 (N (q*8+q))] (wr.drewN n) fun e w'=>e=.returned (.int .i64 (pl (N (p*8+p)) (N (q*8+q))))/\w'=wr.drewN n):=fun n=>o_plus _ _ hm1 hm2 _
     have hpl1:-200000000000000000<=pl (N (p*8+p)) (N (q*8+q))/\pl (N (p*8+p)) (N (q*8+q))<=2000000:=by
      unfold pl NB; split <;> omega
     obtain ⟨l1,l2⟩:=hpl1
     clear hsm hm1 hm2
     generalize pl (N (p*8+p)) (N (q*8+q))=n at *
     have ht:=tdiv2_le n
     obtain ⟨t1,t2⟩:=ht
     by_cases hz:n=NB
     ·have HE:Hid (_=_):=HE0.out.trans (if_neg (fun e=>e.1 hz))
      have hb:(n != 1000000)=false:=by rw [hz]; rfl
      clear HE0 hz
      go_wp2_with fail
      go_quiet (first | (go_at_call 152; refine Calls.quiet_of_same (HPl.out _)))
      obtain ⟨w5,hW5⟩:∃ w5,w5=wr.drewN nq:=⟨_,rfl⟩
      rw [<- hW5]
      have k1:∀ a,w5.cell? a=wr.cell? a:=fun a=>by rw [hW5]; rfl
      rw [<- k1] at c3
      have cf5:w5.frozen? ⟨b,1+p*8+q,none⟩=false:=by rw [hW5]; exact cf
      have HQ5:Hid (OAt w5 b e0 N/\Onl b w w5):=by rw [hW5]; exact ⟨At.drewN HQ.out.1 nq,HQ.out.2.drewN nq⟩
      have hbl5:b < w5.heap.size:=by rw [hW5]; exact hbl
      clear k1 hW5
      go_wp2_with fail
      go_roundw
      case rel=>exact ⟨q+1,by omega,by go_num,by rw [HE.out]; exact HQ5.out.1,HQ5.out.2⟩
      case measure=>simp [intOf]; omega
     have hb:(n != 1000000)=true:=by rw [bne_iff_ne]; exact hz
     by_cases hn:n.tdiv 2 < N (p*8+q)
     ·have HE:Hid (_=_):=HE0.out.trans (if_pos ⟨hz,hn⟩)
      clear HE0 hz
      go_wp2_with fail
      go_quiet (first | (go_at_call 152; refine Calls.quiet_of_same (HPl.out _)))
      obtain ⟨w5,hW5⟩:∃ w5,w5=wr.drewN nq:=⟨_,rfl⟩
      rw [<- hW5]
      have k1:∀ a,w5.cell? a=wr.cell? a:=fun a=>by rw [hW5]; rfl
      rw [<- k1] at c3
      have cf5:w5.frozen? ⟨b,1+p*8+q,none⟩=false:=by rw [hW5]; exact cf
      have HQ5:Hid (OAt w5 b e0 N/\Onl b w w5):=by rw [hW5]; exact ⟨At.drewN HQ.out.1 nq,HQ.out.2.drewN nq⟩
      have hbl5:b < w5.heap.size:=by rw [hW5]; exact hbl
      clear k1 hW5
      go_wp2_with fail
      go_roundw
      case rel =>
       refine ⟨q+1,by omega,by go_num,?_,HQ5.out.2.setCell _ _⟩
       rw [HE.out,Nat.add_assoc]
       exact OAt.put HQ5.out.1 (p*8+q) hk _
      case measure=>simp [intOf]; omega
     ·have HE:Hid (_=_):=HE0.out.trans (if_neg (fun e=>hn e.2))
      clear HE0 hz
      go_wp2_with fail
      go_quiet (first | (go_at_call 152; refine Calls.quiet_of_same (HPl.out _)))
      obtain ⟨w5,hW5⟩:∃ w5,w5=wr.drewN nq:=⟨_,rfl⟩
      rw [<- hW5]
      have k1:∀ a,w5.cell? a=wr.cell? a:=fun a=>by rw [hW5]; rfl
      rw [<- k1] at c3
      have cf5:w5.frozen? ⟨b,1+p*8+q,none⟩=false:=by rw [hW5]; exact cf
      have HQ5:Hid (OAt w5 b e0 N/\Onl b w w5):=by rw [hW5]; exact ⟨At.drewN HQ.out.1 nq,HQ.out.2.drewN nq⟩
      have hbl5:b < w5.heap.size:=by rw [hW5]; exact hbl
      clear k1 hW5
      go_wp2_with fail
      go_roundw
      case rel=>exact ⟨q+1,by omega,by go_num,by rw [HE.out]; exact HQ5.out.1,HQ5.out.2⟩
      case measure=>simp [intOf]; omega
    ·have hq8:q=8:=by omega
     subst hq8
     go_wp2_with fail
     go_roundw
     case rel=>exact ⟨p+1,by omega,by go_num,by rw [show (p+1)*8=p*8+8 by omega]; exact HQ.out.1,HQ.out.2⟩
     case measure=>simp [intOf]; omega
  ·have hp8:p=8:=by omega
   subst hp8
   go_wp2_with fail
   go_end0
   exact ⟨rfl,HR.out⟩
theorem o_contradicts (h:OAt w b e0 M) :
  Calls Tryz.prog 138 #[.pointer (some ⟨b,0,none⟩)] w fun e w'=>e=.returned (.bool (conF M 8))/\∃ k,w'=w.drewN k:=by
 have HA:Hid (OAt w b e0 M):=h
 have hbl:b < w.heap.size:=At.lt h
 have HCn:Hid (∀ n,n<=8->conF M n=true->conF M 8=true):=by
  intro n hn h
  have:∀ d,conF M (n+d)=true:=by
   intro d
   induction d with
   | zero=>exact h
   | succ d ih=>show (conF M (n+d) || _)=true; rw [ih]; rfl
  rw [show 8=n+(8 - n) by omega]
  exact this _
 clear h
 go_enter Tryz.func138,Tryz.ntmps138
 go_wp2_with fail
 go_loopw [3] (fun i wr=>∃ (p k:Nat),p<=8/\i=.int .i64 p/\Hid (conF M p=false/\wr=w.drewN k)) (fun i _=>8 - (intOf i).toNat)
 case atStart=>exact ⟨0,0,by omega,rfl,rfl,rfl⟩
 case round =>
  obtain ⟨p,k,hp,rfl,HR⟩:=hrel
  by_cases hlt:p < 8
  ·have hpi:(p:Int) < 8:=by omega
   have HO:Hid (OAt wr b e0 M):=by show OAt _ _ _ _; rw [HR.out.2]; exact At.drewN HA.out k
   have hol:=opp_lt hlt
   have HOp:Hid (∀ n,Calls Tryz.prog 153 #[.int .i64 (p:Int)] (wr.drewN n) fun e w'=>e=.returned (.int .i64 ((opp p:Nat):Int))/\w'=wr.drewN n):=fun n=>o_opposite p hlt _
   have HE0:Hid (conF M (p+1)=(conF M p || decide (M (p*8+opp p) < 0))):=rfl
   have hoi:((opp p:Nat):Int) < 8:=by omega
   generalize opp p=os at *
   have c1:wr.cell? ⟨b,1+p*8+os,none⟩=some (.int .i64 (M (p*8+os))):=by rw [Nat.add_assoc]; exact HO.out.cell (p*8+os) (by omega)
   generalize M (p*8+os)=n at *
   by_cases hn:n < 0
   ·have HE:Hid (conF M 8=true):=HCn.out (p+1) (by omega) (HE0.out.trans (by rw [HR.out.1]; simpa using hn))
    clear HE0
    go_wp2_with fail
    go_quiet (first | (go_at_call 153; refine Calls.quiet_of_same (HOp.out _)))
    go_wp2_with fail
    go_ret
    exact ⟨by rw [HE.out]; rfl,k+nq,by rw [HR.out.2]; exact World.drewN_drewN _ _ _⟩
   ·have HE:Hid (conF M (p+1)=false):=HE0.out.trans (by rw [HR.out.1]; simpa using hn)
    clear HE0
    go_wp2_with fail
    go_quiet (first | (go_at_call 153; refine Calls.quiet_of_same (HOp.out _)))
    go_wp2_with fail
    go_roundw
    case rel=>exact ⟨p+1,k+nq,by omega,by go_num,HE.out,by rw [HR.out.2]; exact World.drewN_drewN _ _ _⟩
    case measure=>simp [intOf]; omega
  ·have hp8:p=8:=by omega
   subst hp8
   go_wp2_with fail
   go_ret
   exact ⟨by rw [HR.out.1]; rfl,k,HR.out.2⟩
end Go.Proofs.YtffajooegiempaaGreatDoor

namespace Go.Proofs.YtffajooegiempaaGreatDoor
open Go.RowKit
variable {w:World} {b:Nat} {e0:Bool} {M:Nat->Int}
def fsL:List Nat:=[0,1,2,3,4,5,6,7,0,0,1,1,0,0,1,1,0,0,1,1,2,2,3,3,2,2,3,3,4,4,5,5]
def ssL:List Nat:=[0,1,2,3,4,5,6,7,2,3,2,3,4,5,4,5,6,7,6,7,4,5,4,5,6,7,6,7,6,7,6,7]
def fs (f:Nat):Nat:=fsL.getD f 0
def ss (f:Nat):Nat:=ssL.getD f 0
theorem fs_lt:∀ f,f < 32->fs f < 8:=by decide
theorem ss_lt:∀ f,f < 32->ss f < 8:=by decide
def lm (M:Nat->Int) (i j:Nat) (n:Int):Nat->Int :=
 upd (upd M (i*8+j) (if i=j/\n ≠ NB then 2*n else n)) (j*8+i) (if i=j/\n ≠ NB then 2*n else n)
def sb (M:Nat->Int) (f:Nat) (n:Int):Nat->Int :=
 upd (upd M (fs f*8+ss f) (if fs f=ss f/\n ≠ NB then 2*n else n)) (ss f*8+fs f) (if fs f=ss f/\n ≠ NB then 2*n else n)
structure Glob (w:World):Prop where
 first:∀ f,f < 32->w.cell? ⟨0,f,none⟩=some (.int .i64 ((fs f:Nat):Int))
 second:∀ f,f < 32->w.cell? ⟨1,f,none⟩=some (.int .i64 ((ss f:Nat):Int))
 size:2<=w.heap.size
theorem Glob.keep {w w':World} {B:Nat} (h:Glob w) (hb:Below B w w') (hB:2<=B):Glob w' where
 first:=fun f hf=>(hb.cell (p:=⟨0,f,none⟩) (by show 0 < B; omega)).trans (h.first f hf)
 second:=fun f hf=>(hb.cell (p:=⟨1,f,none⟩) (by show 1 < B; omega)).trans (h.second f hf)
 size:=Nat.le_trans h.size hb.size
theorem o_limit (h:OAt w b e0 M) (i j:Nat) (hi:i < 8) (hj:j < 8) (n:Int) (hn:-1000000000000<=n/\n<=1000000000000) :
  Calls Tryz.prog 134 #[.pointer (some ⟨b,0,none⟩),.int .i64 (i:Int),.int .i64 (j:Int),.int .i64 n] w fun e w'=>e=.returned (.tuple #[])/\OAt w' b e0 (lm M i j n)/\Onl b w w':=by
 have hbl:b < w.heap.size:=At.lt h
 have HA:Hid (OAt w b e0 M):=h
 have HE0:Hid (lm M i j n=upd (upd M (i*8+j) (if i=j/\n ≠ NB then 2*n else n)) (j*8+i) (if i=j/\n ≠ NB then 2*n else n)):=rfl
 have hii:(i:Int) < 8:=by omega
 have hji:(j:Int) < 8:=by omega
 have hi0:¬ (8:Int)<=(i:Int):=by omega
 have hj0:¬ (8:Int)<=(j:Int):=by omega
 have k1:i*8+j < 64:=by omega
 have k2:j*8+i < 64:=by omega
 have c1:w.cell? ⟨b,1+i*8+j,none⟩=some (.int .i64 (M (i*8+j))):=by rw [Nat.add_assoc]; exact h.cell _ k1
 have c2:w.cell? ⟨b,1+j*8+i,none⟩=some (.int .i64 (M (j*8+i))):=by rw [Nat.add_assoc]; exact h.cell _ k2
 have cf:∀ a,w.frozen? ⟨b,a,none⟩=false:=At.free h
 obtain ⟨n0,n1⟩:=hn
 have HC2:Hid (∀ x n,OAt ((((w.drewN n).setCell ⟨b,1+i*8+j,none⟩ (.int .i64 x))).setCell ⟨b,1+j*8+i,none⟩ (.int .i64 x)) b e0 (upd (upd M (i*8+j) x) (j*8+i) x)):=by
  intro x n
  rw [Nat.add_assoc,Nat.add_assoc]
  exact OAt.put (OAt.put (w:=w.drewN n) (At.drewN HA.out n) _ k1 x) _ k2 x
 clear h
 by_cases hq:i=j/\n ≠ NB
 ·obtain ⟨rfl,hq2⟩:=hq
  have HE:Hid (lm M i i n=upd (upd M (i*8+i) (2*n)) (i*8+i) (2*n)):=by show lm M i i n=_; rw [HE0.out,if_pos ⟨rfl,hq2⟩]
  have hb:(n != 1000000)=true:=by rw [bne_iff_ne]; exact hq2
  clear HE0 hq2
  go_enter Tryz.func134,Tryz.ntmps134
  go_wp2_with fail
  go_end0
  exact ⟨rfl,by rw [HE.out]; exact HC2.out _ 0,(((Onl.refl b w).drewN 0).setCell _ _).setCell _ _⟩
 ·have HE:Hid (lm M i j n=upd (upd M (i*8+j) n) (j*8+i) n):=by show lm M i j n=_; rw [HE0.out,if_neg hq]
  clear HE0
  by_cases hij:i=j
  ·subst hij
   have hb:(n != 1000000)=false:=by
    have:n=1000000:=by
     rcases Classical.em (n=NB) with e | e
     ·exact e
     ·exact absurd ⟨rfl,e⟩ hq
    rw [this]; rfl
   clear hq
   go_enter Tryz.func134,Tryz.ntmps134
   go_wp2_with fail
   go_end0
   exact ⟨rfl,by rw [HE.out]; exact HC2.out _ 0,(((Onl.refl b w).drewN 0).setCell _ _).setCell _ _⟩
  ·have hb:((i:Int) == (j:Int))=false:=by rw [beq_eq_false_iff_ne]; omega
   have hne1:1+j*8+i ≠ 1+i*8+j:=by omega
   have hne2:1+i*8+j ≠ 1+j*8+i:=by omega
   clear hq hij
   go_enter Tryz.func134,Tryz.ntmps134
   go_wp2_with fail
   go_end0
   exact ⟨rfl,by rw [HE.out]; exact HC2.out _ 0,(((Onl.refl b w).drewN 0).setCell _ _).setCell _ _⟩
theorem o_setBound (hG:Glob w) (_hb2:2<=b) (h:OAt w b e0 M) (f:Nat) (hf:f < 32) (n:Int) (hn:-4000<=n/\n<=1000000) :
  Calls Tryz.prog 108 #[.pointer (some ⟨b,0,none⟩),.int .i64 (f:Int),.int .i64 n] w fun e w'=>e=.returned (.tuple #[])/\OAt w' b e0 (sb M f n)/\Onl b w w':=by
 have hfi:(f:Int) < 32:=by omega
 have hf0:¬ (32:Int)<=(f:Int):=by omega
 have g0:=hG.first f hf
 have g1:=hG.second f hf
 have hi:=fs_lt f hf
 have hj:=ss_lt f hf
 have HE:Hid (sb M f n=lm M (fs f) (ss f) n):=rfl
 have HL:Hid (∀ w1,OAt w1 b e0 M->Calls Tryz.prog 134 #[.pointer (some ⟨b,0,none⟩),.int .i64 ((fs f:Nat):Int),.int .i64 ((ss f:Nat):Int),.int .i64 n] w1 fun e w'=>e=.returned (.tuple #[])/\Hid (OAt w' b e0 (lm M (fs f) (ss f) n)/\Onl b w1 w')):=fun w1 h1=>(o_limit h1 _ _ hi hj n ⟨by omega,by omega⟩).mono fun e w' h'=>⟨h'.1,h'.2⟩
 generalize fs f=i at *
 generalize ss f=j at *
 have HA:Hid (OAt w b e0 M):=h
 clear h hG hn hi hj
 go_enter Tryz.func108,Tryz.ntmps108
 go_wp2_with fail
 go_region_with (go_at_call 134; refine (HL.out _ (by exact HA.out)).mono ?_; rintro e w1 ⟨rfl,H1⟩)
 all_goals
  go_wp2_with fail
  go_end0
  exact ⟨rfl,by rw [HE.out]; exact H1.out.1,((Onl.refl b w).drewN 1).trans H1.out.2⟩
end Go.Proofs.YtffajooegiempaaGreatDoor

namespace Go.Proofs.YtffajooegiempaaGreatDoor
open Go.RowKit
variable {w:World} {b:Nat} {e0:Bool} {M:Nat->Int}
def lay (l:List Int):Nat->Nat->Int
 | 0=>fun _=>0
 | f+1=>sb (lay l f) f (l.getD f 0)
theorem sb_range (M:Nat->Int) (f:Nat) (n:Int) (hM:∀ k,-8000<=M k/\M k<=1000000) (hn:isB n=true):∀ k,-8000<=sb M f n k/\sb M f n k<=1000000:=by
 intro k
 have h:=hM k
 unfold isB at hn
 have hn:=of_decide_eq_true hn
 unfold NB at hn
 unfold sb upd
 split
 ·split <;> (simp only [NB] at *; omega)
 ·split
  ·split <;> (simp only [NB] at *; omega)
  ·exact h
theorem lay_range (l:List Int) (n:Nat) (h:∀ i,i < n->isB (l.getD i 0)=true):∀ k,-8000<=lay l n k/\lay l n k<=1000000:=by
 induction n with
 | zero=>intro k; show -8000<=(0:Int)/\(0:Int)<=1000000; omega
 | succ n ih=>exact sb_range _ _ _ (ih (fun i hi=>h i (by omega))) (h n (by omega))
theorem sm_of {L:Int} {M M':Nat->Int} (hL:L<=100000000000000000) (hlo:Lo L M') (hle:∀ a,M' a<=M a) (hM:∀ k,k < 64->M k<=1000000):Sm M':=fun k hk=>⟨by have:=hlo k hk; omega,by have:=hle k; have:=hM k hk; omega⟩
theorem lay_rng (l:List Int) (n:Nat) (h:∀ i,i < n->isB (l.getD i 0)=true):∀ k,k < 64->-20000000000<=lay l n k/\lay l n k<=1000000:=fun k _=>by have:=lay_range l n h k; omega
theorem fw_sm {M:Nat->Int} (hM:∀ k,k < 64->-20000000000<=M k/\M k<=1000000) (s:Nat) (hs:s < 8):∀ k,k<=64->Sm (chF s (fw M s) k):=by
 intro k hk
 have hlo:Lo 20000000000 M:=fun a ha=>(hM a ha).1
 have h1:=fw_lo (by decide) hlo s (by omega)
 have hp:(0:Int)<=20000000000*6 ^ s:=Int.mul_nonneg (by decide) (Int.le_of_lt (Int.pow_pos (by decide)))
 have h2:=(chF_lo hp hs h1 k hk).all
 refine sm_of (L:=6*(20000000000*6 ^ s)) ?_ h2 (fun a=>Int.le_trans (chF_le s _ k a) (fw_le M s a)) (fun k hk=>(hM k hk).2)
 rcases (show s=0 \/ s=1 \/ s=2 \/ s=3 \/ s=4 \/ s=5 \/ s=6 \/ s=7 by omega) with rfl | rfl | rfl | rfl | rfl | rfl | rfl | rfl <;> decide
theorem fw8_lo {M:Nat->Int} (hM:∀ k,k < 64->-20000000000<=M k/\M k<=1000000):Lo 33592320000000000 (fw M 8):=fw_lo (by decide) (fun a ha=>(hM a ha).1) 8 (Nat.le_refl _)
theorem rd_sm {M:Nat->Int} (hM:∀ k,k < 64->-20000000000<=M k/\M k<=1000000) (n:Nat):Sm (rdF (fw M 8) n) :=
 sm_of (L:=33592320000000001) (by decide) (rdF_lo (fw8_lo hM) n) (fun a=>Int.le_trans (rdF_le _ n a) (fw_le M 8 a)) (fun k hk=>(hM k hk).2)
theorem ah_sm {M:Nat->Int} (hM:∀ k,k < 64->-20000000000<=M k/\M k<=1000000) (k:Nat) (hk:k<=64):Sm (ahF (rdF (fw M 8) 8) k) :=
 sm_of (L:=33592320000000001) (by decide) (ahF_lo (by decide) (rdF_lo (fw8_lo hM) 8) k hk) (fun a=>Int.le_trans (ahF_le _ k a) (Int.le_trans (rdF_le _ 8 a) (fw_le M 8 a))) (fun k hk=>(hM k hk).2)
theorem o_sharpen (h:OAt w b e0 M) (hM:∀ k,k < 64->-20000000000<=M k/\M k<=1000000) :
  Calls Tryz.prog 109 #[.pointer (some ⟨b,0,none⟩)] w fun e w'=>e=.returned (.tuple #[])/\OAt w' b (conF (sharp M) 8) (sharp M)/\Onl b w w':=by
 have HA:Hid (OAt w b e0 M):=h
 have HM:Hid (∀ k,k < 64->-20000000000<=M k/\M k<=1000000):=hM
 have HCh:Hid (∀ s w1,s < 8->OAt w1 b e0 (fw M s)->Calls Tryz.prog 135 #[.pointer (some ⟨b,0,none⟩),.int .i64 (s:Int)] w1 fun e w'=>e=.returned (.tuple #[])/\Hid (OAt w' b e0 (fw M (s+1))/\Onl b w1 w')):=by
  intro s w1 hs h1
  refine (o_chain h1 s hs (fw_sm HM.out s hs)).mono ?_
  rintro e w2 ⟨rfl,h2,h3⟩
  exact ⟨rfl,by rw [fw]; exact h2,h3⟩
 clear h hM
 go_enter Tryz.func109,Tryz.ntmps109
 go_wp2_with fail
 go_loopw [2] (fun i wr=>∃ (p:Nat),p<=8/\i=.int .i64 p/\Hid (OAt wr b e0 (fw M p)/\Onl b w wr)) (fun i _=>8 - (intOf i).toNat)
 case atStart=>exact ⟨0,by omega,rfl,HA.out,Onl.refl _ _⟩
 case round =>
  obtain ⟨p,hp,rfl,HR⟩:=hrel
  by_cases hlt:p < 8
  ·have hpi:(p:Int) < 8:=by omega
   go_wp2_with fail
   refine (HCh.out p wr hlt HR.out.1).mono ?_
   rintro e w2 ⟨rfl,H2⟩
   go_wp2_with fail
   go_roundw
   case rel=>exact ⟨p+1,by omega,by go_num,H2.out.1,HR.out.2.trans H2.out.2⟩
   case measure=>simp [intOf]; omega
  ·have hp8:p=8:=by omega
   subst hp8
   have hrd:=o_roundDown HR.out.1 (fun k _=>rd_sm HM.out k)
   go_wp2_with fail
   refine hrd.mono ?_
   rintro e w2 ⟨rfl,h2,ho2⟩
   have H2:Hid (OAt w2 b e0 _/\Onl b w w2):=⟨h2,HR.out.2.trans ho2⟩
   have hah:=o_addHalves h2 (fun k hk=>ah_sm HM.out k hk)
   clear h2 ho2 hrd
   go_wp2_with fail
   refine hah.mono ?_
   rintro e w3 ⟨rfl,h3,ho3⟩
   have H3:Hid (OAt w3 b e0 (sharp M)/\Onl b w w3):=⟨h3,H2.out.2.trans ho3⟩
   have hco:=o_contradicts (show OAt w3 b e0 (sharp M) from h3)
   have cz:w3.cell? ⟨b,0,none⟩=some (.bool e0):=by rw [At.cell h3]; exact oc_0 _ _
   have cf:=At.free h3
   clear h3 ho3 hah
   go_wp2_with fail
   refine hco.mono ?_
   rintro e w4 ⟨rfl,k,hk⟩
   have c4:w4.cell? ⟨b,0,none⟩=some (.bool e0):=by rw [hk]; exact cz
   have f4:w4.frozen? ⟨b,0,none⟩=false:=by rw [hk]; exact cf 0
   have H4:Hid (OAt w4 b e0 (sharp M)/\Onl b w w4):=by show _/\_; rw [hk]; exact ⟨At.drewN H3.out.1 k,H3.out.2.drewN k⟩
   clear hk hco cz cf
   go_wp2_with fail
   go_end0
   refine ⟨rfl,?_,H4.out.2.setCell _ _⟩
   have:=At.put H4.out.1 0 (.bool (conF (sharp M) 8))
   rw [oc_setE] at this
   exact this
end Go.Proofs.YtffajooegiempaaGreatDoor

