import Derived.Test.YtffajooegiempaaGreatDoorJ4
set_option maxRecDepth 100000
set_option maxHeartbeats 6400000
namespace Go.Proofs.YtffajooegiempaaGreatDoor
def mn(x y:Int):Int:=if y<x then y else x
def T3(x a b:Int):Prop:=a=NB\/b=NB\/(x≠NB/\x<=a+b)
def Bd(U:Int)(M:Nat->Int):Prop:=∀a,a<64->M a=NB\/M a<=U
theorem CL:∀i:Nat,i<8->opp (opp i)=i:=by decide
theorem KP(i:Nat):opp i≠i:=by unfold opp;split<;>omega
theorem Hb(x:Int):pl x 0=x:=by
 unfold pl NB;split
 ·omega
 ·omega
theorem If(x:Int):pl 0 x=x:=by
 unfold pl NB;split
 ·omega
 ·omega
theorem Je(x:Int):mn x x=x:=by unfold mn;split<;>rfl
theorem XV{s:Nat}{M:Nat->Int}(hs:s<8)(h0:M (s*8+opp s)=0):∀k,k<=64->∀a,a<64->E6 s M k a=if a<k then mn (M a) (pl (M (a/8*8+opp s)) (M (s*8+a%8)))else M a:=by
 have ho:=Ah hs;intro k;induction k with
 |zero=>intro _ a _;rw[E6,if_neg (by omega)]
 |succ k ih=>
  intro hk a ha;have hc:=ih (by omega);have e1:E6 s M k (k/8*8+opp s)=M (k/8*8+opp s):=by
   rw[hc _ (by omega)];split
   ·rw[show(k/8*8+opp s)/8=k/8 by omega,show(k/8*8+opp s)%8=opp s by omega,h0,Hb,Je]
   ·rfl
  have e2:E6 s M k (s*8+k%8)=M (s*8+k%8):=by
   rw[hc _ (by omega)];split
   ·rw[show(s*8+k%8)/8=s by omega,show(s*8+k%8)%8=k%8 by omega,h0,If,Je]
   ·rfl
  have e3:E6 s M k k=M k:=by rw[hc k (by omega),if_neg (by omega)]
  rw[E6];unfold Sv;rw[e1,e2,e3];by_cases q:a=k
  ·subst q;rw[if_pos (show a<a+1 by omega)];unfold mn;split
   ·exact CV _ _ _
   ·exact e3
  ·have:(if pl (M (k/8*8+opp s)) (M (s*8+k%8))<M k then Bw (E6 s M k) k (pl (M (k/8*8+opp s)) (M (s*8+k%8)))else E6 s M k) a=E6 s M k a:=by
    split
    ·exact BO _ _ q
    ·rfl
   rw[this,hc a ha];by_cases z:a<k
   ·rw[if_pos z,if_pos (by omega)]
   ·rw[if_neg z,if_neg (by omega)]
theorem DV{s:Nat}{M:Nat->Int}(hs:s<8)(h0:M (s*8+opp s)=0){i j:Nat}(hi:i<8)(hj:j<8):E6 s M 64 (i*8+j)=mn (M (i*8+j)) (pl (M (i*8+opp s)) (M (s*8+j))):=by
 rw[XV hs h0 64 (Nat.le_refl _) _ (by omega),if_pos (by omega),show(i*8+j)/8=i by omega,show(i*8+j)%8=j by omega]
def Og(M:Nat->Int)(k:Nat):Prop:=∀i j,i<8->j<8->T3 (M (i*8+j)) (M (i*8+opp k)) (M (k*8+j))
theorem PE{a p r:Int}(h:mn a (pl p r)≠NB):(mn a (pl p r)=a/\a≠NB)\/(mn a (pl p r)=p+r/\p≠NB/\r≠NB):=by
 unfold mn at h|-;split
 ·rename_i q;rw[if_pos q]at h;obtain⟨h1,h2,h3⟩:=GU h;exact .inr ⟨h3,h1,h2⟩
 ·rename_i q;rw[if_neg q]at h;exact .inl ⟨rfl,h⟩
theorem Tg{x p q U:Int}(hU:U<1000000)(hx:x≠NB)(hxU:x=NB\/x<=U):mn x (pl p q)≠NB/\mn x (pl p q)<=x:=by
 have:=hxU.resolve_left hx;unfold mn NB at *;split<;>omega
theorem IW{x p q U:Int}(hU:2*U<1000000)(hp:p≠NB)(hq:q≠NB)(hpU:p=NB\/p<=U)(hqU:q=NB\/q<=U):mn x (pl p q)≠NB/\mn x (pl p q)<=p+q:=by
 have h1:=hpU.resolve_left hp;have h2:=hqU.resolve_left hq;have e:pl p q=p+q:=if_neg (λe=>e.elim hp hq);rw[e];unfold mn NB at *;split<;>omega
theorem Uu{x a b p q r t U:Int}(hU:2*U<1000000)(hU0:0<=U)(hx:x=NB\/x<=U)(hp:p=NB\/p<=U)(hq:q=NB\/q<=U)
  (h1:T3 x a b) (h2:T3 p a t) (h3:T3 q r b) (h4:T3 0 r t):T3 (mn x (pl p q)) (mn a (pl p r)) (mn b (pl t q)):=by
 by_cases hA:mn a (pl p r)=NB
 ·exact .inl hA
 by_cases hB:mn b (pl t q)=NB
 ·exact .inr (.inl hB)
 right;right
 rcases PE hA with⟨eA,a1⟩|⟨eA,a1,a2⟩
 ·rcases PE hB with⟨eB,b1⟩|⟨eB,b1,b2⟩
  ·rw[eA,eB];obtain⟨z1,z2⟩:=(h1.resolve_left a1).resolve_left b1;have:=Tg (p:=p) (q:=q) (by omega) z1 hx;exact⟨this.1,by omega⟩
  ·rw[eA,eB];obtain⟨z1,z2⟩:=(h2.resolve_left a1).resolve_left b1;have:=IW (x:=x) hU z1 b2 hp hq;exact⟨this.1,by omega⟩
 ·rcases PE hB with⟨eB,b1⟩|⟨eB,b1,b2⟩
  ·rw[eA,eB];obtain⟨z1,z2⟩:=(h3.resolve_left a2).resolve_left b1;have:=IW (x:=x) hU a1 z1 hp hq;exact⟨this.1,by omega⟩
  ·rw[eA,eB];obtain⟨z1,z2⟩:=(h4.resolve_left a2).resolve_left b1;have:=IW (x:=x) hU a1 b2 hp hq;exact⟨this.1,by omega⟩
theorem WV{x p q U:Int}(hU:2*U<1000000)(hp:p=NB\/p<=U)(hq:q=NB\/q<=U):T3 (mn x (pl p q)) p q:=by
 by_cases h1:p=NB
 ·exact .inl h1
 by_cases h2:q=NB
 ·exact .inr (.inl h2)
 exact .inr (.inr (IW hU h1 h2 hp hq))
theorem RQ{s:Nat}{M:Nat->Int}{U:Int}(hs:s<8)(h0:M (s*8+opp s)=0)(hU:2*U<1000000)(hU0:0<=U)(hB:Bd U M)(hT:∀k,k<s->Og M k):∀k,k<s+1->Og (E6 s M 64) k:=by
 have ho:=Ah hs;intro k hk i j hi hj;rcases Nat.lt_or_eq_of_le (Nat.lt_succ_iff.1 hk)with hk'|hk'
 ·have hk8:k<8:=by omega
  have hok:=Ah hk8;rw[DV hs h0 hi hj,DV hs h0 hi hok,DV hs h0 hk8 hj];have h4:=hT k hk' s (opp s) hs ho;rw[h0]at h4;exact Uu hU hU0 (hB _ (by omega)) (hB _ (by omega)) (hB _ (by omega)) (hT k hk' i j hi hj) (hT k hk' i (opp s) hi ho) (hT k hk' s j hs hj) h4
 ·subst hk';rw[DV hs h0 hi hj,DV hs h0 hi ho,DV hs h0 hs hj,h0,Hb,If,Je,Je];exact WV hU (hB _ (by omega)) (hB _ (by omega))
def Ex(M:Nat->Int)(s:Nat):Prop:=∀r,r<s->fw M r (r*8+opp r)=0
theorem Ex.lt{M:Nat->Int}{s r:Nat}(h:Ex M s)(hr:r<=s):Ex M r:=λq hq=>h q (by omega)
theorem Bd.mono{U V:Int}{M:Nat->Int}(h:Bd U M)(hUV:U<=V):Bd V M:=λa ha=>(h a ha).imp id (λq=>Int.le_trans q hUV)
def IH(f:Nat->Bool):Nat->Nat
 |0=>0
 |n+1=>IH f n+(if f n then 1 else 0)
theorem QO(f:Nat->Bool):∀n,IH f n<=n
 |0=>Nat.le_refl _
 |n+1=>by have:=QO f n;rw[IH];split<;>omega
theorem LR{f g:Nat->Bool}(h:∀j,f j=true->g j=true):∀n,IH f n<=IH g n
 |0=>Nat.le_refl _
 |n+1=>by
  have:=LR h n;rw[IH,IH];by_cases q:f n=true
  ·rw[if_pos q,if_pos (h n q)];omega
  ·rw[if_neg q];omega
theorem MJ{f g:Nat->Bool}(h:∀j,f j=true->g j=true){j:Nat}(h1:g j=true)(h2:¬f j=true):∀n,j<n->IH f n+1<=IH g n
 |0,hn=>by omega
 |n+1,hn=>by
  rw[IH,IH];rcases Nat.lt_or_eq_of_le (Nat.lt_succ_iff.1 hn)with q|q
  ·have:=MJ h h1 h2 n q;by_cases z:f n=true
   ·rw[if_pos z,if_pos (h n z)];omega
   ·rw[if_neg z];omega
  ·subst q;have:=LR h j;rw[if_neg h2,if_pos h1];omega
theorem Nc{f:Nat->Bool}:∀n,n<=IH f n->∀j,j<n->f j=true
 |0,_,j,hj=>by omega
 |n+1,h,j,hj=>by
  have:=QO f n;rw[IH]at h;by_cases z:f n=true
  ·rw[if_pos z]at h;rcases Nat.lt_or_eq_of_le (Nat.lt_succ_iff.1 hj)with q|q
   ·exact Nc n (by omega) j q
   ·rw[q];exact z
  ·rw[if_neg z]at h;omega
theorem ZN(P:Nat->Nat->Prop)(hm:∀k j,P k j->P (k+1) j)(h8:∀k j,P k j->j<8)(hs:∀k,(∀j,P (k+1) j->P k j)->∀j,P (k+2) j->P (k+1) j){i:Nat}(hi:P 0 i):∀k j,P k j->P 7 j:=by
 have hm':∀a b j,P a j->P (a+b) j:=by
  intro a b j h;induction b with
  |zero=>exact h
  |succ b ih=>exact hm _ _ ih
 have hst:∀n,(∀j,P (n+1) j->P n j)->∀b j,P (n+b) j->P n j:=by
  intro n hn;have hall:∀b j,P (n+b+1) j->P (n+b) j:=by
   intro b;induction b with
   |zero=>exact hn
   |succ b ih=>exact hs (n+b) ih
  intro b;induction b with
  |zero=>intro j h;exact h
  |succ b ih=>intro j h;exact ih j (hall b j h)
 have dec:∀k j,∃b:Bool,b=true↔P k j:=by
  intro k j;rcases Classical.em (P k j)with q|q
  ·exact⟨true,by simp[q]⟩
  ·exact⟨false,by simp[q]⟩
 obtain⟨F,hF⟩:∃F:Nat->Nat->Bool,∀k j,F k j=true↔P k j:=⟨λk j=>Classical.choose (dec k j),λk j=>Classical.choose_spec (dec k j)⟩
 have main:∀n,(∃k,k<n/\∀j,P (k+1) j->P k j)\/n+1<=IH (F n) 8:=by
  intro n;induction n with
  |zero=>
   right
   have:=MJ (f:=λ_=>false) (g:=F 0) (λj h=>by cases h) ((hF 0 i).2 hi) (by decide) 8 (h8 0 i hi);omega
  |succ n ih=>
   rcases ih with⟨k,hk,h⟩|ih
   ·exact .inl ⟨k,by omega,h⟩
   ·rcases Classical.em (∀j,P (n+1) j->P n j)with q|q
    ·exact .inl ⟨n,by omega,q⟩
    ·obtain⟨j,hj⟩:=Classical.not_forall.1 q;obtain⟨h1,h2⟩:=Classical.not_imp.1 hj;have:=MJ (f:=F n) (g:=F (n+1)) (λj h=>(hF _ _).2 (hm _ _ ((hF _ _).1 h))) ((hF _ _).2 h1) (λh=>h2 ((hF _ _).1 h)) 8 (h8 _ _ h1)
     right;omega
 intro k j h;rcases main 7 with⟨n,hn,q⟩|q
 ·have hk:P n j:=by
   rcases Nat.lt_or_ge k n with z|z
   ·have:=hm' k (n-k) j h;rwa[show k+(n-k)=n by omega]at this
   ·exact hst n q (k-n) j (by rw[show n+(k-n)=k by omega];exact h)
  have:=hm' n (7-n) j hk;rwa[show n+(7-n)=7 by omega]at this
 ·exact(hF 7 j).1 (Nc 8 q j (h8 _ _ h))
def Rc(M:Nat->Int)(s i:Nat):Nat->Nat->Prop
 |0,j=>j=i/\i<8
 |k+1,j=>Rc M s i k j\/(j<8/\∃m,Rc M s i k m/\(m=i\/m<s)/\M (m*8+opp j)≠NB)
theorem Rc.lt{M:Nat->Int}{s i:Nat}:∀k j,Rc M s i k j->j<8
 |0,j,h=>by have h':j=i/\i<8:=h;omega
 |k+1,j,h=>by
  rcases h with h|h
  ·exact Rc.lt k j h
  ·exact h.1
theorem Rc.seven{M:Nat->Int}{s i:Nat}(hi:i<8){k j:Nat}(h:Rc M s i k j):Rc M s i 7 j:=by
 refine ZN (Rc M s i) (λk j h=>.inl h) Rc.lt ?_ (i:=i) ⟨rfl,hi⟩ k j h;intro k hk j h;rcases h with h|⟨h8,m,h1,h2,h3⟩
 ·exact h
 ·exact .inr ⟨h8,m,hk m h1,h2,h3⟩
theorem Rc.up{M:Nat->Int}{s i:Nat}:∀k j,Rc M s i k j->Rc M (s+1) i k j
 |0,_,h=>h
 |k+1,j,h=>by
  rcases h with h|⟨h8,m,h1,h2,h3⟩
  ·exact .inl (Rc.up k j h)
  ·exact .inr ⟨h8,m,Rc.up k m h1,h2.imp id (λq=>by omega),h3⟩
theorem Rc.trans{M:Nat->Int}{s i a:Nat}(h1:Rc M (s+1) i a s):∀k j,Rc M s s k j->Rc M (s+1) i (a+k) j
 |0,j,h=>by have h':j=s/\s<8:=h;rw[h'.1];exact h1
 |k+1,j,h=>by
  rcases h with h|⟨h8,m,h2,h3,h4⟩
  ·exact .inl (Rc.trans h1 k j h)
  ·exact .inr ⟨h8,m,Rc.trans h1 k m h2,.inr (by omega),h4⟩
theorem TM{M:Nat->Int}:∀s,s<=8->Ex M s->∀i j,i<8->j<8->fw M s (i*8+opp j)≠NB->∃k,Rc M s i k j:=by
 intro s;induction s with
 |zero=>intro _ _ i j hi hj h;exact⟨1,.inr ⟨hj,i,⟨rfl,hi⟩,.inl rfl,h⟩⟩
 |succ s ih=>
  intro hs hx i j hi hj h;have hx':=hx.lt (show s<=s+1 by omega);rw[fw,DV (by omega) (hx s (by omega)) hi (Ah hj)]at h;rcases PE h with⟨_,z⟩|⟨_,z1,z2⟩
  ·obtain⟨k,hk⟩:=ih (by omega) hx' i j hi hj z;exact⟨k,Rc.up k j hk⟩
  ·obtain⟨a,ha⟩:=ih (by omega) hx' i s hi (by omega) z1;obtain⟨b,hb⟩:=ih (by omega) hx' s j (by omega) hj z2;exact⟨a+b,Rc.trans (Rc.up a s ha) b j hb⟩
theorem Rc.le{M T:Nat->Int}{s i:Nat}{U:Int}(hi:i<8)(hU0:0<=U)(hU:U<1000000)(hB:Bd U M)(h0:M (i*8+opp i)=0)(hle:∀a,T a<=M a)(hT:∀k,k<s->Og T k):∀k j,Rc M s i k j->T (i*8+opp j)≠NB/\T (i*8+opp j)<=k*U:=by
 intro k;induction k with
 |zero=>
  intro j h;have h':j=i/\i<8:=h;rw[h'.1];have:=hle (i*8+opp i);rw[h0]at this;unfold NB;omega
 |succ k ih=>
  intro j h;have e:(((k+1:Nat):Int))*U=k*U+U:=by rw[Int.natCast_add,Int.add_mul];simp
  have hkU:0<=(k:Int)*U:=Int.mul_nonneg (by omega) hU0;rw[e];rcases h with h|⟨h8,m,h1,h2,h3⟩
  ·have:=ih j h;exact⟨this.1,by omega⟩
  ·have hm8:=Rc.lt k m h1;have hoj:=Ah h8;have hb:=(hB (m*8+opp j) (by omega)).resolve_left h3;have hl:=hle (m*8+opp j);rcases h2 with h2|h2
   ·subst h2;unfold NB;exact⟨by omega,by omega⟩
   ·have a:=ih m h1;have t:=hT m h2 i (opp j) hi hoj;have n2:T (m*8+opp j)≠NB:=by unfold NB;omega
    obtain⟨t1,t2⟩:=(t.resolve_left a.1).resolve_left n2;exact⟨t1,by omega⟩
theorem QV{M:Nat->Int}{U:Int}(hU0:0<=U)(hU:14*U<1000000)(hM:Bd U M)(h0:∀i,i<8->M (i*8+opp i)=0):∀s,s<=8->Ex M s->Bd (7*U) (fw M s)/\∀k,k<s->Og (fw M s) k:=by
 intro s;induction s with
 |zero=>
  intro _ _;exact⟨hM.mono (by omega),λk hk=>by omega⟩
 |succ s ih=>
  intro hs h;obtain⟨b,t⟩:=ih (by omega) (h.lt (by omega));have t':∀k,k<s+1->Og (fw M (s+1)) k:=by
   rw[fw];exact RQ (by omega) (h s (by omega)) (U:=7*U) (by omega) (by omega) b t
  refine⟨λa ha=>?_,t'⟩;by_cases q:fw M (s+1) a=NB
  ·exact .inl q
  ·right
   have hi:a/8<8:=by omega
   have hj:a%8<8:=by omega
   have e:a=a/8*8+opp (opp (a%8)):=by rw[CL _ hj];omega
   rw[e]at q|-;obtain⟨k,hk⟩:=TM (s+1) hs h (a/8) (opp (a%8)) hi (Ah hj) q;have:=(Rc.le hi hU0 (by omega) hM (h0 _ hi) (λa=>F8 M (s+1) a) t' 7 _ (hk.seven hi)).2;omega
theorem QU{M:Nat->Int}{U:Int}(hU0:0<=U)(hU:14*U<1000000)(hM:Bd U M)(h0:∀i,i<8->M (i*8+opp i)=0)(s:Nat)(hs:s<=8)(h:Ex M s):Bd (7*U) (fw M s):=(QV hU0 hU hM h0 s hs h).1
theorem Xm{M:Nat->Int}{U:Int}(hU0:0<=U)(hU:14*U<1000000)(hM:Bd U M)(h0:∀i,i<8->M (i*8+opp i)=0)(s:Nat)(hs:s<=8)(h:Ex M s):∀k,k<s->Og (fw M s) k:=(QV hU0 hU hM h0 s hs h).2
def ST(N:Nat->Int):Prop:=∀k,k<8->Og N k
def Le(N M:Nat->Int):Prop:=∀a,a<64->N a<=M a
theorem RM{N M:Nat->Int}{s k:Nat}(hs:s<8)(hk:k<64)(hN:ST N)(h:Le N M)(hi:∀a,a<64->M a<=NB):Le N (Sv s M k):=by
 have ho:=Ah hs;intro a ha;unfold Sv;split
 ·rename_i q;unfold Bw;split
  ·rename_i e;subst e;have hle:=hi a ha;obtain⟨q1,q2,q3⟩:=GU (a:=M (a/8*8+opp s)) (b:=M (s*8+a%8)) (by omega);rw[q3];have l1:=h (a/8*8+opp s) (by omega);have l2:=h (s*8+a%8) (by omega);have m1:=hi (a/8*8+opp s) (by omega);have m2:=hi (s*8+a%8) (by omega);have t:=hN s hs (a/8) (a%8) (by omega) (by omega);rw[show a/8*8+a%8=a by omega]at t;obtain⟨_,t2⟩:=(t.resolve_left (by omega)).resolve_left (by omega);omega
  ·exact h a ha
 ·exact h a ha
theorem RN{N M:Nat->Int}{s:Nat}(hs:s<8)(hN:ST N)(h:Le N M)(hi:∀a,a<64->M a<=NB):∀k,k<=64->Le N (E6 s M k):=by
 intro k;induction k with
 |zero=>intro _;exact h
 |succ k ih=>intro hk;rw[E6];exact RM hs (by omega) hN (ih (by omega)) (λa ha=>Int.le_trans (J3 s M k a) (hi a ha))
theorem NO{N M:Nat->Int}(hN:ST N)(h:Le N M)(hi:∀a,a<64->M a<=NB):∀s,s<=8->Le N (fw M s):=by
 intro s;induction s with
 |zero=>intro _;exact h
 |succ s ih=>intro hs;rw[fw];exact RN (by omega) hN (ih (by omega)) (λa ha=>Int.le_trans (F8 M s a) (hi a ha)) 64 (Nat.le_refl _)
def tp(M:Nat->Int):Nat->Int:=λa=>M (a%8*8+a/8)
theorem L1(M:Nat->Int){i j:Nat}(_hi:i<8)(hj:j<8):tp M (i*8+j)=M (j*8+i):=by
 unfold tp;rw[show(i*8+j)%8=j by omega,show(i*8+j)/8=i by omega]
theorem T3.comm{x a b:Int}(h:T3 x a b):T3 x b a:=by
 rcases h with h|h|⟨h1,h2⟩
 ·exact .inr (.inl h)
 ·exact .inl h
 ·exact .inr (.inr ⟨h1,by omega⟩)
theorem ST.tp{N:Nat->Int}(h:ST N):ST (tp N):=by
 intro k hk i j hi hj;have ho:=Ah hk;rw[L1 N hi hj,L1 N hi ho,L1 N hk hj];have t:=h (opp k) ho j i hj hi;rw[CL k hk]at t;exact t.comm
def VA(M:Nat->Int):Prop:=∀i j,i<8->j<8->M (i*8+j)=M (j*8+i)
theorem Xl{M:Nat->Int}(hS:VA M)(hT:ST (fw M 8))(hi:∀a,a<64->M a<=NB):VA (fw M 8):=by
 have hle:Le (tp (fw M 8)) M:=by
  intro a ha;have ea:a=a/8*8+a%8:=by omega
  rw[ea,L1 _ (by omega) (by omega),hS _ _ (by omega) (by omega)];exact F8 M 8 _
 have:=NO hT.tp hle hi 8 (Nat.le_refl _);intro i j hi' hj;have h1:=this (i*8+j) (by omega);have h2:=this (j*8+i) (by omega);rw[L1 _ hi' hj]at h1;rw[L1 _ hj hi']at h2;omega
theorem QX(M:Nat->Int)(s:Nat):∀k a,fw M (s+k) a<=fw M s a
 |0,_=>Int.le_refl _
 |k+1,a=>by
  show E6 (s+k) (fw M (s+k)) 64 a<=_;exact Int.le_trans (J3 _ _ 64 a) (QX M s k a)
theorem Wz{M:Nat->Int}(h0:∀t,t<8->M (t*8+opp t)=0)(h:∀t,t<8->0<=fw M 8 (t*8+opp t)):Ex M 8:=by
 intro r hr;have h1:=F8 M r (r*8+opp r);rw[h0 r hr]at h1;have h2:=QX M r (8-r) (r*8+opp r);rw[show r+(8-r)=8 by omega]at h2;have:=h r hr;omega
def ev(x:Int):Int:=if x=NB then NB else x/2*2
theorem Ml(M:Nat->Int){i:Nat}(hi:i<8):Ef M 8 (i*8+i)=ev (M (i*8+i)):=by
 rw[KX];unfold ev;by_cases h:M (i*8+i)=NB
 ·rw[if_neg (λq=>q.2.2 h),if_pos h,h]
 ·rw[if_pos ⟨by omega,by omega,h⟩,if_neg h]
theorem YF(M:Nat->Int){i j:Nat}(hi:i<8)(hj:j<8)(h:i≠j):Ef M 8 (i*8+j)=M (i*8+j):=by
 rw[KX,if_neg (by omega)]
theorem S_{x:Int}(h:ev x≠NB):x≠NB/\ev x=x/2*2:=by
 unfold ev at h|-;by_cases q:x=NB
 ·rw[if_pos q]at h;exact absurd rfl h
 ·exact⟨q,if_neg q⟩
theorem JJ{x U:Int}(h:x=NB\/x<=U):ev x=NB\/(x≠NB/\ev x<=U/\ev x%2=0):=by
 unfold ev;by_cases q:x=NB
 ·rw[if_pos q];exact .inl rfl
 ·have:=h.resolve_left q;rw[if_neg q];exact .inr ⟨q,by omega,by omega⟩
theorem EF{x:Int}(h:x%2=0):x.tdiv 2*2=x:=by
 have h1:=ER x;rcases Int.lt_or_le x 0 with e|e
 ·rw[h1.2 e];omega
 ·rw[h1.1 e];omega
theorem VQ(N:Nat->Int):∀k,k<=64->∀i,i<8->Ea N k (i*8+i)=N (i*8+i):=by
 intro k;induction k with
 |zero=>intro _ i _;rfl
 |succ k ih=>
  intro hk i hi;have hc:=ih (by omega);rw[Ea];unfold SZ;split
  ·rename_i q;by_cases e:i*8+i=k
   ·subst e;rw[show(i*8+i)/8=i by omega,show(i*8+i)%8=i by omega,hc i hi]at q;obtain⟨q1,_,q3⟩:=GU q.1;have h2:=q.2;rw[q3]at h2;have:=EF (x:=N (i*8+i)+N (i*8+i)) (by omega);omega
   ·rw[BO _ _ e];exact hc i hi
  ·exact hc i hi
theorem XM(N:Nat->Int):∀k,k<=64->∀a,a<64->Ea N k a=if a<k/\pl (N (a/8*8+a/8)) (N (a%8*8+a%8))≠NB/\(pl (N (a/8*8+a/8)) (N (a%8*8+a%8))).tdiv 2<N a then(pl (N (a/8*8+a/8)) (N (a%8*8+a%8))).tdiv 2 else N a:=by
 intro k;induction k with
 |zero=>intro _ a _;rw[Ea,if_neg (by omega)]
 |succ k ih=>
  intro hk a ha;have hc:=ih (by omega);have hd:=VQ N k (by omega);rw[Ea];unfold SZ;rw[hd (k/8) (by omega),hd (k%8) (by omega)];have hkk:Ea N k k=N k:=by rw[hc k (by omega),if_neg (by omega)]
  rw[hkk];by_cases e:a=k
  ·subst e;split
   ·rename_i q;rw[CV,if_pos ⟨by omega,q⟩]
   ·rename_i q;rw[hkk,if_neg (λz=>q z.2)]
  ·have:(if pl (N (k/8*8+k/8)) (N (k%8*8+k%8))≠NB/\(pl (N (k/8*8+k/8)) (N (k%8*8+k%8))).tdiv 2<N k then Bw (Ea N k) k ((pl (N (k/8*8+k/8)) (N (k%8*8+k%8))).tdiv 2)else Ea N k) a=Ea N k a:=by
    split
    ·exact BO _ _ e
    ·rfl
   rw[this,hc a ha];by_cases q:pl (N (a/8*8+a/8)) (N (a%8*8+a%8))≠NB/\(pl (N (a/8*8+a/8)) (N (a%8*8+a%8))).tdiv 2<N a
   ·by_cases z:a<k
    ·rw[if_pos ⟨z,q⟩,if_pos ⟨by omega,q⟩]
    ·rw[if_neg (λy=>z y.1),if_neg (λy=>by omega)]
   ·rw[if_neg (λy=>q y.2),if_neg (λy=>q y.2)]
structure VP(T:Nat->Int)(c:Int)(i j:Nat):Prop where
 le1:T (i*8+j)≠NB->c≠NB/\c<=T (i*8+j)
 le2:ev (T (i*8+i))≠NB->ev (T (j*8+j))≠NB->c≠NB/\2*c<=ev (T (i*8+i))+ev (T (j*8+j))
 cas:c=NB\/(i≠j/\c=T (i*8+j)/\T (i*8+j)≠NB)\/(ev (T (i*8+i))≠NB/\ev (T (j*8+j))≠NB/\2*c=ev (T (i*8+i))+ev (T (j*8+j)))
theorem Ud{T:Nat->Int}{U:Int}(hU:2*U<1000000)(hB:Bd U T){i j:Nat}(hi:i<8)(hj:j<8):VP T (Ea (Ef T 8) 64 (i*8+j)) i j:=by
 have hE:∀i,i<8->Ef T 8 (i*8+i)=NB\/Ef T 8 (i*8+i)%2=0:=by
  intro i hi;rw[Ml T hi];rcases JJ (hB (i*8+i) (by omega))with q|q
  ·exact .inl q
  ·exact .inr q.2.2
 have hc:=XM (Ef T 8) 64 (Nat.le_refl _) (i*8+j) (by omega);rw[show(i*8+j)/8=i by omega,show(i*8+j)%8=j by omega,Ml T hi,Ml T hj]at hc;have bi:=JJ (hB (i*8+i) (by omega));have bj:=JJ (hB (j*8+j) (by omega));have bt:=hB (i*8+j) (by omega);have hN:Ef T 8 (i*8+j)=if i=j then ev (T (i*8+j))else T (i*8+j):=by
  by_cases e:i=j
  ·subst e;rw[if_pos rfl,Ml T hi]
  ·rw[if_neg e,YF T hi hj e]
 have hNle:T (i*8+j)≠NB->Ef T 8 (i*8+j)≠NB/\Ef T 8 (i*8+j)<=T (i*8+j):=by
  intro q;rw[hN];split
  ·unfold ev NB at *;rw[if_neg q];have:=bt.resolve_left q;constructor<;>omega
  ·exact⟨q,Int.le_refl _⟩
 generalize Ea (Ef T 8) 64 (i*8+j)=c at hc|-;by_cases p:ev (T (i*8+i))=NB\/ev (T (j*8+j))=NB
 ·have e1:pl (ev (T (i*8+i))) (ev (T (j*8+j)))=NB:=if_pos p;rw[e1,if_neg (λq=>q.2.1 rfl)]at hc;subst hc;refine⟨hNle,λq1 q2=>absurd p (λz=>z.elim q1 q2),?_⟩;by_cases e:i=j
  ·subst e
   left
   rw[hN,if_pos rfl];exact p.elim id id
  ·rw[hN,if_neg e];by_cases z:T (i*8+j)=NB
   ·exact .inl z
   ·exact .inr (.inl ⟨e,rfl,z⟩)
 ·have p1:ev (T (i*8+i))≠NB:=λq=>p (.inl q);have p2:ev (T (j*8+j))≠NB:=λq=>p (.inr q);obtain⟨_,b1,b2⟩:=bi.resolve_left p1;obtain⟨_,c1,c2⟩:=bj.resolve_left p2;have e1:pl (ev (T (i*8+i))) (ev (T (j*8+j)))=ev (T (i*8+i))+ev (T (j*8+j)):=if_neg p;have e2:=EF (x:=ev (T (i*8+i))+ev (T (j*8+j))) (by omega);rw[e1]at hc;have hn:ev (T (i*8+i))+ev (T (j*8+j))≠NB:=by unfold NB;omega
  by_cases q:(ev (T (i*8+i))+ev (T (j*8+j))).tdiv 2<Ef T 8 (i*8+j)
  ·rw[if_pos ⟨by omega,hn,q⟩]at hc;subst hc;have z:(ev (T (i*8+i))+ev (T (j*8+j))).tdiv 2≠NB:=by unfold NB;omega
   refine⟨λt=>⟨z,?_⟩,λ_ _=>⟨z,by omega⟩,.inr (.inr ⟨p1,p2,by omega⟩)⟩;have:=(hNle t).2;omega
  ·rw[if_neg (λy=>q y.2.2)]at hc;subst hc;have hle:Ef T 8 (i*8+j)*2<=ev (T (i*8+i))+ev (T (j*8+j)):=by omega
   refine⟨hNle,λ_ _=>⟨by unfold NB;omega,by omega⟩,?_⟩;by_cases e:i=j
   ·subst e
    right;right
    refine⟨p1,p2,?_⟩;rw[hN,if_pos rfl];omega
   ·rw[hN,if_neg e];by_cases z:T (i*8+j)=NB
    ·exact .inl z
    ·exact .inr (.inl ⟨e,rfl,z⟩)
structure TC(C:Nat->Int):Prop where
 tri:ST C
 zero:∀i,i<8->C (i*8+opp i)=0
 even:∀i,i<8->C (i*8+i)=NB\/C (i*8+i)%2=0
 half:∀i j,i<8->j<8->C (i*8+i)≠NB->C (j*8+j)≠NB->C (i*8+j)≠NB/\2*C (i*8+j)<=C (i*8+i)+C (j*8+j)
 sym:VA C
 top:Bd 432000 C
theorem J5{M:Nat->Int}:∀{n:Nat},By M n=false->∀i,i<n->0<=M (i*8+opp i):=by
 intro n;induction n with
 |zero=>intro _ i hi;omega
 |succ n ih=>
  intro h i hi;rw[By,Bool.or_eq_false_iff]at h;rcases Nat.lt_or_eq_of_le (Nat.lt_succ_iff.1 hi)with e|e
  ·exact ih h.1 i e
  ·subst e;have:=of_decide_eq_false h.2;omega
theorem Ue{T:Nat->Int}{c:Int}{i:Nat}(h:VP T c i i):c=ev (T (i*8+i)):=by
 rcases h.cas with q|q|q
 ·rw[q];by_cases z:ev (T (i*8+i))=NB
  ·exact z.symm
  ·exact absurd q (h.le2 z z).1
 ·exact absurd rfl q.1
 ·omega
theorem WU{T:Nat->Int}(hT:ST T)(hS:VA T){i k:Nat}(hi:i<8)(hk:k<8)(h1:T (i*8+opp k)≠NB)(h2:ev (T (k*8+k))≠NB)(hB:T (i*8+i)=NB\/T (i*8+i)<=432000):ev (T (i*8+i))≠NB/\ev (T (i*8+i))<=2*T (i*8+opp k)+ev (T (k*8+k)):=by
 have ho:=Ah hk;obtain⟨k1,k2⟩:=S_ h2;have a:=hT (opp k) ho k i hk hi;rw[CL k hk,<-hS i (opp k) hi ho]at a;obtain⟨a1,a2⟩:=(a.resolve_left k1).resolve_left h1;have b:=hT k hk i i hi hi;obtain⟨b1,b2⟩:=(b.resolve_left h1).resolve_left a1;have:=hB.resolve_left b1;have e:ev (T (i*8+i))=T (i*8+i)/2*2:=if_neg b1;rw[e,k2];exact⟨by unfold NB;omega,by omega⟩
theorem ZO{T:Nat->Int}(hT:ST T)(hS:VA T)(hB:Bd 432000 T)(h0:∀i,i<8->T (i*8+opp i)=0)(hc:∀i,i<8->0<=Ea (Ef T 8) 64 (i*8+opp i)):TC (Ea (Ef T 8) 64):=by
 have sh:∀{i j:Nat},i<8->j<8->VP T (Ea (Ef T 8) 64 (i*8+j)) i j:=λhi hj=>Ud (U:=432000) (by omega) hB hi hj;have dia:∀{i:Nat},i<8->Ea (Ef T 8) 64 (i*8+i)=ev (T (i*8+i)):=λhi=>Ue (sh hi hi);generalize hC:Ea (Ef T 8) 64=C at sh dia hc|-;have zero:∀i,i<8->C (i*8+opp i)=0:=by
  intro i hi;have:=((sh hi (Ah hi)).le1 (by rw[h0 i hi];decide)).2;rw[h0 i hi]at this;have:=hc i hi;omega
 have dd:∀i,i<8->ev (T (i*8+i))≠NB->ev (T (opp i*8+opp i))≠NB->0<=ev (T (i*8+i))+ev (T (opp i*8+opp i)):=by
  intro i hi h1 h2;have:=((sh hi (Ah hi)).le2 h1 h2).2;rw[zero i hi]at this;omega
 have sym:VA C:=by
  intro i j hi hj;have a:=sh hi hj;have b:=sh hj hi;have e:=hS i j hi hj;rcases a.cas with q|⟨q1,q2,q3⟩|⟨q1,q2,q3⟩
  ·rcases b.cas with w|⟨w1,w2,w3⟩|⟨w1,w2,w3⟩
   ·rw[q,w]
   ·exact absurd q (a.le1 (by rw[e];exact w3)).1
   ·exact absurd q (a.le2 w2 w1).1
  ·have z1:=b.le1 (by rw[<-e];exact q3);rcases b.cas with w|⟨w1,w2,w3⟩|⟨w1,w2,w3⟩
   ·exact absurd w z1.1
   ·rw[q2,w2,e]
   ·have:=(a.le2 w2 w1).2;omega
  ·have z1:=b.le2 q2 q1;rcases b.cas with w|⟨w1,w2,w3⟩|⟨w1,w2,w3⟩
   ·exact absurd w z1.1
   ·have:=(a.le1 (by rw[e];exact w3)).2;omega
   ·omega
 have mixL:∀{i j k:Nat},i<8->j<8->k<8->T (i*8+opp k)≠NB->ev (T (k*8+k))≠NB->ev (T (j*8+j))≠NB->C (i*8+j)≠NB/\2*C (i*8+j)<=2*T (i*8+opp k)+(ev (T (k*8+k))+ev (T (j*8+j))):=by
  intro i j k hi hj hk h1 h2 h3;have m:=WU hT hS hi hk h1 h2 (hB _ (by omega));have l:=(sh hi hj).le2 m.1 h3;exact⟨l.1,by have:=l.2;have:=m.2;omega⟩
 refine⟨?_,zero,?_,?_,sym,?_⟩
 ·intro k hk i j hi hj;have ho:=Ah hk;have a:=sh hi ho;have b:=sh hk hj;rcases a.cas with q|⟨q1,q2,q3⟩|⟨q1,q2,q3⟩
  ·exact .inl q
  ·rcases b.cas with w|⟨w1,w2,w3⟩|⟨w1,w2,w3⟩
   ·exact .inr (.inl w)
   ·right;right
    obtain⟨t1,t2⟩:=((hT k hk i j hi hj).resolve_left q3).resolve_left w3;have l:=(sh hi hj).le1 t1;exact⟨l.1,by rw[q2,w2];omega⟩
   ·right;right
    have l:=mixL hi hj hk q3 w1 w2;exact⟨l.1,by rw[q2];omega⟩
  ·rcases b.cas with w|⟨w1,w2,w3⟩|⟨w1,w2,w3⟩
   ·exact .inr (.inl w)
   ·right;right
    have e:T (j*8+opp (opp k))=T (k*8+j):=by rw[CL k hk];exact hS j k hj hk
    have l:=mixL hj hi ho (by rw[e];exact w3) q2 q1;rw[e,sym j i hj hi]at l;exact⟨l.1,by rw[w2];omega⟩
   ·right;right
    have l:=(sh hi hj).le2 q1 w2;have:=dd k hk w1 q2;exact⟨l.1,by omega⟩
 ·intro i hi;rw[dia hi];rcases JJ (hB (i*8+i) (by omega))with q|q
  ·exact .inl q
  ·exact .inr q.2.2
 ·intro i j hi hj h1 h2;rw[dia hi]at h1|-;rw[dia hj]at h2|-;exact(sh hi hj).le2 h1 h2
 ·intro a ha;have ea:a=a/8*8+a%8:=by omega
  rw[ea];rcases(sh (i:=a/8) (j:=a%8) (by omega) (by omega)).cas with q|⟨_,q2,q3⟩|⟨q1,q2,q3⟩
  ·exact .inl q
  ·right
   rw[q2];exact(hB _ (by omega)).resolve_left q3
  ·right
   have e1:=(JJ (hB (a/8*8+a/8) (by omega))).resolve_left q1;have e2:=(JJ (hB (a%8*8+a%8) (by omega))).resolve_left q2;omega
structure NI(M:Nat->Int):Prop where
 bd:Bd 60000 M
 sym:VA M
 zero:∀i,i<8->M (i*8+opp i)=0
theorem NI.hi{M:Nat->Int}(h:NI M):∀a,a<64->M a<=NB:=by
 intro a ha;rcases h.bd a ha with q|q
 ·omega
 ·unfold NB;omega
theorem NI.tc{M:Nat->Int}(h:NI M)(hc:By (Aj M) 8=false):TC (Aj M):=by
 have hc':=J5 hc;have hz:∀t,t<8->0<=fw M 8 (t*8+opp t):=by
  intro t ht;have h1:=hc' t ht;unfold Aj at h1;have h2:=Is (Ef (fw M 8) 8) 64 (t*8+opp t);have h3:=Hx (fw M 8) 8 (t*8+opp t);omega
 have hx:=Wz h.zero hz;have hT:ST (fw M 8):=Xm (by decide) (by decide) h.bd h.zero 8 (Nat.le_refl _) hx;have h0:∀t,t<8->fw M 8 (t*8+opp t)=0:=by
  intro t ht;have h1:=F8 M 8 (t*8+opp t);rw[h.zero t ht]at h1;have:=hz t ht;omega
 exact ZO hT (Xl h.sym hT h.hi) ((QU (by decide) (by decide) h.bd h.zero 8 (Nat.le_refl _) hx).mono (by decide)) h0 hc'
theorem NI.top{M:Nat->Int}(h:NI M)(hb:Bd 8000 M)(hc:By (Aj M) 8=false):Bd 56000 (Aj M):=by
 have hc':=J5 hc;have hz:∀t,t<8->0<=fw M 8 (t*8+opp t):=by
  intro t ht;have h1:=hc' t ht;unfold Aj at h1;have h2:=Is (Ef (fw M 8) 8) 64 (t*8+opp t);have h3:=Hx (fw M 8) 8 (t*8+opp t);omega
 have hx:=Wz h.zero hz;have hB:Bd (7*8000) (fw M 8):=QU (by decide) (by decide) hb h.zero 8 (Nat.le_refl _) hx;intro a ha;have sh:=Ud (U:=7*8000) (by decide) hB (i:=a/8) (j:=a%8) (by omega) (by omega);have he:a/8*8+a%8=a:=by omega
 rcases sh.cas with q|⟨_,q2,q3⟩|⟨q1,q2,q3⟩
 ·rw[he]at q;exact .inl q
 ·right
  rw[he]at q2 q3;have:=(hB a ha).resolve_left q3;unfold Aj;rw[q2];omega
 ·right
  rw[he]at q3;have e1:=(JJ (hB (a/8*8+a/8) (by omega))).resolve_left q1;have e2:=(JJ (hB (a%8*8+a%8) (by omega))).resolve_left q2;unfold Aj;omega
def sgn(i:Nat):Int:=1-2*((i%2:Nat):Int)
def C5(f:Nat):List Int:=if f<8 then[0,0,0,0].set (f/2) (sgn f)else([0,0,0,0].set (fs f/2) (sgn (fs f))).set (ss f/2) (sgn (ss f))
def AK(l:List Int)(i:Nat):Int:=l.getD i 0
theorem Eo:∀f:Nat,f<8->fs f=f/\ss f=f:=by decide
theorem G7:∀f:Nat,f<32->8<=f->fs f≠ss f:=by decide
def bv(l:List Int)(f:Nat):Int:=if fs f=ss f/\l.getD f 0≠NB then 2*l.getD f 0 else l.getD f 0
theorem KK(l:List Int):∀f,f<32->FW l 32 (fs f*8+ss f)=bv l f/\FW l 32 (ss f*8+fs f)=bv l f
 |0,_=>⟨rfl,rfl⟩
 |1,_=>⟨rfl,rfl⟩
 |2,_=>⟨rfl,rfl⟩
 |3,_=>⟨rfl,rfl⟩
 |4,_=>⟨rfl,rfl⟩
 |5,_=>⟨rfl,rfl⟩
 |6,_=>⟨rfl,rfl⟩
 |7,_=>⟨rfl,rfl⟩
 |8,_=>⟨rfl,rfl⟩
 |9,_=>⟨rfl,rfl⟩
 |10,_=>⟨rfl,rfl⟩
 |11,_=>⟨rfl,rfl⟩
 |12,_=>⟨rfl,rfl⟩
 |13,_=>⟨rfl,rfl⟩
 |14,_=>⟨rfl,rfl⟩
 |15,_=>⟨rfl,rfl⟩
 |16,_=>⟨rfl,rfl⟩
 |17,_=>⟨rfl,rfl⟩
 |18,_=>⟨rfl,rfl⟩
 |19,_=>⟨rfl,rfl⟩
 |20,_=>⟨rfl,rfl⟩
 |21,_=>⟨rfl,rfl⟩
 |22,_=>⟨rfl,rfl⟩
 |23,_=>⟨rfl,rfl⟩
 |24,_=>⟨rfl,rfl⟩
 |25,_=>⟨rfl,rfl⟩
 |26,_=>⟨rfl,rfl⟩
 |27,_=>⟨rfl,rfl⟩
 |28,_=>⟨rfl,rfl⟩
 |29,_=>⟨rfl,rfl⟩
 |30,_=>⟨rfl,rfl⟩
 |31,_=>⟨rfl,rfl⟩
 |n+32,h=>absurd h (by omega)
 
theorem Gs(l:List Int):∀i,i<8->FW l 32 (i*8+opp i)=0
 |0,_=>rfl
 |1,_=>rfl
 |2,_=>rfl
 |3,_=>rfl
 |4,_=>rfl
 |5,_=>rfl
 |6,_=>rfl
 |7,_=>rfl
 |n+8,h=>absurd h (by omega)
 
theorem Wo{o:List Int}{M:Nat->Int}(hok:∀i,i<32->G8 (o.getD i 0)=true)(hM:∀k,M k<=FW o 32 k)(f:Nat)(hf:f<32):bd M f<=AK o f:=by
 have hl:=(KK o f hf).1;have hm:=hM (fs f*8+ss f);have hr:=(EA o 32 hok (fs f*8+ss f)).2;have hb:=hok f hf;unfold G8 at hb;have hb:=of_decide_eq_true hb;rw[hl]at hm hr;unfold bd AK;unfold bv at hm hr;by_cases h8:f<8
 ·obtain⟨q1,q2⟩:=Eo f h8;rw[q1,q2]at hm hr|-;by_cases hn:o.getD f 0=NB
  ·rw[if_neg (λq=>q.2 hn)]at hm hr;rw[hn]at hm|-;by_cases hz:M (f*8+f)=NB
   ·rw[if_neg (λq=>q.2 hz)];exact hm
   ·rw[if_pos ⟨rfl,hz⟩];have:=ER (M (f*8+f));unfold NB at *;rcases Int.lt_or_le (M (f*8+f)) 0 with e|e
    ·rw[this.2 e];omega
    ·rw[this.1 e];omega
  ·rw[if_pos ⟨rfl,hn⟩]at hm hr;have hz:M (f*8+f)≠NB:=by unfold NB at *;omega
   rw[if_pos ⟨rfl,hz⟩];have:=ER (M (f*8+f));rcases Int.lt_or_le (M (f*8+f)) 0 with e|e
   ·rw[this.2 e];omega
   ·rw[this.1 e];omega
 ·have hne:=G7 f hf (by omega);rw[if_neg (λq=>hne q.1)]at hm|-;exact hm
theorem Gh(M:Nat->Int)(f:Nat)(hf:f<32):AK (Bl M) f=bd M f:=by simp[AK,Bl,List.getD,hf]
def Ci(f g:Nat):List Int:=[AK (C5 f) 0+AK (C5 g) 0,AK (C5 f) 1+AK (C5 g) 1,AK (C5 f) 2+AK (C5 g) 2,AK (C5 f) 3+AK (C5 g) 3]
def GA(v:List Int):Nat:=v.countP λx=>x==1||x== -1
def He(v:List Int):Nat:=v.countP λx=>x==2||x== -2
def ND(v:List Int):Nat->Option (Int×Int)
 |0=>some (-1, -1)
 |i+1=>match ND v i with
  |none=>none
  |some (x,y)=>if AK v i< -1\/AK v i>1\/(AK v i≠0/\0<=y)then none else some (if AK v i≠0/\x<0 then(i:Int)else x,if AK v i≠0/\0<=x then(i:Int)else y)
def Ar(v:List Int):Int:=match ND v 4 with
 |none=> -1
 |some (x,y)=>if x<0 then -1 else if y<0 then 2*x+(1-AK v x.toNat).tdiv 2 else 8+4*((x*(8-x-1)).tdiv 2+y-x-1)+(1-AK v x.toNat).tdiv 2*2+(1-AK v y.toNat).tdiv 2
def CH(v:List Int):List Int:=v.map λx=>x.tdiv 2
def kd(v:List Int):Nat:=if GA v=0/\He v=0 then 1 else if GA v=0/\He v=1 then 2 else if He v=0/\0<GA v/\GA v<3 then 3 else 0
def CS(v:List Int)(c:Int):Int×Int:=if kd v=1/\c<0 then(-2,0)else if kd v=2 then(Ar (CH v),c/2)else if kd v=3 then(Ar v,c)else(-1,0)
def kdT(f g:Nat):Nat:=kd (Ci f g)
def nmT(f g:Nat):Nat:=if kdT f g=2 then(Ar (CH (Ci f g))).toNat else(Ar (Ci f g)).toNat
def nf(i j:Nat):Nat:=if i=j then i else if i<j then 8+4*(i/2*(7-i/2)/2+j/2-i/2-1)+i%2*2+j%2 else 8+4*(j/2*(7-j/2)/2+i/2-j/2-1)+j%2*2+i%2
theorem DN:∀i:Nat,i<8->∀j,j<8->j≠opp i->nf i j<32/\((fs (nf i j)=i/\ss (nf i j)=j)\/(fs (nf i j)=j/\ss (nf i j)=i)):=by decide +kernel
theorem Gv(i:Nat):nf i i=i:=if_pos rfl
theorem FE:∀f:Nat,f<32->fs f<8/\ss f<8/\nf (fs f) (ss f)=f/\ss f≠opp (fs f)/\(f<8->fs f=f/\ss f=f)/\(8<=f->fs f≠ss f):=by decide +kernel
theorem Li:∀f:Nat,f<32->∀g,g<32->(kdT f g=2->Ar (CH (Ci f g))=(nmT f g:Int)/\nmT f g<8)/\(kdT f g=3->Ar (Ci f g)=(nmT f g:Int)/\nmT f g<32):=by decide +kernel
def XI(i s j:Nat):Prop:=(i≠s/\i≠opp s/\j≠s/\j≠opp s)->(j=opp i->kdT (nf i (opp s)) (nf s j)=1)/\(j=i->kdT (nf i (opp s)) (nf s j)=2/\nmT (nf i (opp s)) (nf s j)=i)/\(j≠i/\j≠opp i->kdT (nf i (opp s)) (nf s j)=3/\nmT (nf i (opp s)) (nf s j)=nf i j)
instance (i s j:Nat):Decidable (XI i s j):=by unfold XI;infer_instance
theorem ZW:∀i:Nat,i<8->∀s,s<8->∀j,j<8->XI i s j:=by decide +kernel
theorem WN:∀s:Nat,s<8->∀j,j<8->(j≠s/\j≠opp s)->kdT (opp s) (nf s j)=3/\nmT (opp s) (nf s j)=j/\kdT (nf j s) (opp s)=3/\nmT (nf j s) (opp s)=j:=by decide +kernel
theorem OS:∀i:Nat,i<8->∀j,j<8->(j=opp i->kdT i j=1)/\(j≠i/\j≠opp i->kdT i j=3/\nmT i j=nf i j):=by decide +kernel
def ZX(f g:Nat):Bool:=decide (kdT f g=0)||(decide (f<8)&&decide (g<8)&&((decide (g=opp f)&&decide (kdT f g=1))||(decide (g=f)&&decide (kdT f g=2)&&decide (nmT f g=f))||(decide (g≠f)&&decide (g≠opp f)&&decide (kdT f g=3)&&decide (nmT f g=nf f g))))||
 (decide (f<8)&&decide (8<=g)&&decide (kdT f g=3)&&((decide (fs g=opp f)&&decide (nmT f g=ss g))||(decide (ss g=opp f)&&decide (nmT f g=fs g))))||
 (decide (8<=f)&&decide (g<8)&&decide (kdT f g=3)&&((decide (fs f=opp g)&&decide (nmT f g=ss f))||(decide (ss f=opp g)&&decide (nmT f g=fs f))))||
 (decide (8<=f)&&decide (8<=g)&&[true,false].any λb1=>[true,false].any λb2=>
  decide ((if b1=true then ss f else fs f)=opp (if b2=true then fs g else ss g))&&((decide (kdT f g=1)&&decide ((if b2=true then ss g else fs g)=opp (if b1=true then fs f else ss f)))||(decide (kdT f g=2)&&decide ((if b2=true then ss g else fs g)=(if b1=true then fs f else ss f))&&decide (nmT f g=if b1=true then fs f else ss f))||
   (decide (kdT f g=3)&&decide ((if b2=true then ss g else fs g)≠(if b1=true then fs f else ss f))&&decide ((if b2=true then ss g else fs g)≠opp (if b1=true then fs f else ss f))&&decide (nmT f g=nf (if b1=true then fs f else ss f) (if b2=true then ss g else fs g)))))
theorem WQ:∀f:Nat,f<32->∀g,g<32->ZX f g=true:=by decide +kernel
structure Ku(R R':Nat->Int):Prop where
 le:∀f,f<32->R' f<=R f
 zer:∀f g,f<32->g<32->kdT f g=1->R f≠NB->R g≠NB->0<=R f+R g
 dou:∀f g,f<32->g<32->kdT f g=2->R f≠NB->R g≠NB->R' (nmT f g)<=(R f+R g)/2
 sum:∀f g,f<32->g<32->kdT f g=3->R f≠NB->R g≠NB->R' (nmT f g)<=R f+R g
structure Un(R M:Nat->Int):Prop where
 dia:∀i,i<8->M (i*8+i)≠NB->2*R i<=M (i*8+i)
 off:∀i j,i<8->j<8->i≠j->j≠opp i->M (i*8+j)≠NB->R (nf i j)<=M (i*8+j)
 zer:∀i,i<8->0<=M (i*8+opp i)
theorem Un.rd{R R' M:Nat->Int}(h:Un R M)(hr:Ku R R'):Un R' M:=by
 refine⟨λi hi q=>?_,λi j hi hj h1 h2 q=>?_,h.zer⟩
 ·have:=h.dia i hi q;have:=hr.le i (by omega);omega
 ·have:=h.off i j hi hj h1 h2 q;have:=hr.le (nf i j) (DN i hi j hj h2).1;omega
theorem Xz{i j:Nat}(hi:i<8)(h:j=opp i):i=opp j:=by rw[h,CL i hi]
theorem Un.chain{R R' R2 M:Nat->Int}{U:Int}{s:Nat}(hs:s<8)(hU:2*U<1000000)(hU0:0<=U)(hB:Bd U M)(h0:M (s*8+opp s)=0)(h:Un R M)(h1:Ku R R')(h2:Ku R' R2):Un R2 (E6 s M 64):=by
 have ho:=Ah hs;have hoo:=CL s hs;have hne:=KP s;have hm:Un R2 M:=(h.rd h1).rd h2;have h1s:=h.rd h1;have one:∀i,i<8->M (i*8+i)≠NB->R i≠NB/\2*R i<=U:=by
  intro i hi q;have a:=h.dia i hi q;have b:=(hB (i*8+i) (by omega)).resolve_left q;exact⟨by unfold NB;omega,by omega⟩
 have one':∀i,i<8->M (i*8+i)≠NB->R' i≠NB:=by
  intro i hi q;have a:=h1s.dia i hi q;have b:=(hB (i*8+i) (by omega)).resolve_left q;unfold NB;omega
 have two:∀i j,i<8->j<8->i≠j->j≠opp i->M (i*8+j)≠NB->R (nf i j)≠NB/\R (nf i j)<=U:=by
  intro i j hi hj e1 e2 q;have a:=h.off i j hi hj e1 e2 q;have b:=(hB (i*8+j) (by omega)).resolve_left q;exact⟨by unfold NB;omega,by omega⟩
 have le2:∀f,f<32->R2 f<=R' f:=h2.le;have gen:∀i j,i<8->j<8->i≠s->j≠opp s->M (i*8+opp s)≠NB->M (s*8+j)≠NB->
   (j=opp i->0<=M (i*8+opp s)+M (s*8+j))/\(j=i->2*R2 i<=M (i*8+opp s)+M (s*8+j))/\(j≠i->j≠opp i->R2 (nf i j)<=M (i*8+opp s)+M (s*8+j)):=by
  intro i j hi hj n1 n2 f1 f2;by_cases ei:i=opp s
  ·subst ei;by_cases ej:j=s
   ·subst ej;obtain⟨a1,a2⟩:=one (opp j) ho f1;obtain⟨b1,b2⟩:=one j hs f2;have a:=h.dia (opp j) ho f1;have b:=h.dia j hs f2;have z:=h1.zer (opp j) j (by omega) (by omega) ((OS (opp j) ho j hs).1 hoo.symm) a1 b1;exact⟨λ_=>by omega,λe=>absurd e.symm hne,λ_ e=>absurd hoo.symm e⟩
   ·have t:=WN s hs j hj ⟨ej,n2⟩;obtain⟨a1,a2⟩:=one (opp s) ho f1;obtain⟨b1,b2⟩:=two s j hs hj (λe=>ej e.symm) n2 f2;have a:=h.dia (opp s) ho f1;have b:=h.off s j hs hj (λe=>ej e.symm) n2 f2;have hnf:=(DN s hs j hj n2).1;have x:=h1.sum (opp s) (nf s j) (by omega) hnf t.1 a1 b1;rw[t.2.1]at x;have y1:R' j≠NB:=by unfold NB;omega
    have y:=h2.sum (opp s) j (by omega) (by omega) ((OS (opp s) ho j hj).2 ⟨n2,by rw[hoo];exact ej⟩).1 (one' (opp s) ho f1) y1;rw[((OS (opp s) ho j hj).2 ⟨n2,by rw[hoo];exact ej⟩).2]at y;have w:=h1.le (opp s) (by omega);exact⟨λe=>absurd (e.trans hoo) ej,λe=>absurd e n2,λ_ _=>by omega⟩
  ·by_cases ej:j=s
   ·subst ej;have n3:opp j≠opp i:=by
     intro e;exact n1 (by rw[<-CL i hi,<-e,hoo])
    have n4:i≠opp (opp j):=by rw[hoo];exact n1
    have t:=WN (opp j) ho i hi ⟨ei,n4⟩;rw[hoo]at t;obtain⟨a1,a2⟩:=two i (opp j) hi ho ei n3 f1;obtain⟨b1,b2⟩:=one j hs f2;have a:=h.off i (opp j) hi ho ei n3 f1;have b:=h.dia j hs f2;have hnf:=(DN i hi (opp j) ho n3).1;have x:=h1.sum (nf i (opp j)) j hnf (by omega) t.2.2.1 a1 b1;rw[t.2.2.2]at x;have y1:R' i≠NB:=by unfold NB;omega
    have n5:j≠opp i:=by
     intro e;exact ei (Xz hi e)
    have y:=h2.sum i j (by omega) (by omega) ((OS i hi j hj).2 ⟨λe=>n1 e.symm,n5⟩).1 y1 (one' j hs f2);rw[((OS i hi j hj).2 ⟨λe=>n1 e.symm,n5⟩).2]at y;have w:=h1.le j (by omega);exact⟨λe=>absurd e n5,λe=>absurd e.symm n1,λ_ _=>by omega⟩
   ·have t:=ZW i hi s hs j hj ⟨n1,ei,ej,n2⟩;have n3:opp s≠opp i:=by
     intro e;exact n1 (by rw[<-CL i hi,<-e,hoo])
    obtain⟨a1,a2⟩:=two i (opp s) hi ho ei n3 f1;obtain⟨b1,b2⟩:=two s j hs hj (λe=>ej e.symm) n2 f2;have a:=h.off i (opp s) hi ho ei n3 f1;have b:=h.off s j hs hj (λe=>ej e.symm) n2 f2;have g1:=(DN i hi (opp s) ho n3).1;have g2:=(DN s hs j hj n2).1;refine⟨λe=>?_,λe=>?_,λe1 e2=>?_⟩
    ·have:=h1.zer _ _ g1 g2 (t.1 e) a1 b1;omega
    ·have x:=h1.dou _ _ g1 g2 (t.2.1 e).1 a1 b1;rw[(t.2.1 e).2]at x;have:=le2 i (by omega);omega
    ·have x:=h1.sum _ _ g1 g2 (t.2.2 ⟨e1,e2⟩).1 a1 b1;rw[(t.2.2 ⟨e1,e2⟩).2]at x;have:=le2 (nf i j) (DN i hi j hj e2).1;omega
 refine⟨λi hi q=>?_,λi j hi hj e1 e2 q=>?_,λi hi=>?_⟩
 ·rw[DV hs h0 hi hi]at q|-;rcases PE q with⟨e,z⟩|⟨e,z1,z2⟩
  ·rw[e];exact hm.dia i hi z
  ·rw[e];by_cases x1:i=s
   ·subst x1;rw[h0];have:=hm.dia i hi z2;omega
   ·by_cases x2:i=opp s
    ·have:=(gen i i hi hi x1)
     subst x2;rw[hoo]at *;have:=hm.dia (opp s) ho z1;rw[show s*8+opp s=s*8+opp s from rfl,h0];omega
    ·exact(gen i i hi hi x1 x2 z1 z2).2.1 rfl
 ·rw[DV hs h0 hi hj]at q|-;rcases PE q with⟨e,z⟩|⟨e,z1,z2⟩
  ·rw[e];exact hm.off i j hi hj e1 e2 z
  ·rw[e];by_cases x1:i=s
   ·subst x1;rw[h0];have:=hm.off i j hi hj e1 e2 z2;omega
   ·by_cases x2:j=opp s
    ·subst x2;rw[h0];have:=hm.off i (opp s) hi hj e1 e2 z1;omega
    ·exact(gen i j hi hj x1 x2 z1 z2).2.2 (λe=>e1 e.symm) e2
 ·have hoi:=Ah hi;rw[DV hs h0 hi hoi];by_cases q:mn (M (i*8+opp i)) (pl (M (i*8+opp s)) (M (s*8+opp i)))=NB
  ·rw[q];decide
  ·rcases PE q with⟨e,z⟩|⟨e,z1,z2⟩
   ·rw[e];exact h.zer i hi
   ·rw[e];by_cases x1:i=s
    ·subst x1;rw[h0];exact Int.le_refl _
    ·have x2:opp i≠opp s:=by
      intro e;exact x1 (by rw[<-CL i hi,e,hoo])
     exact(gen i (opp i) hi hoi x1 x2 z1 z2).1 rfl
end Go.Proofs.YtffajooegiempaaGreatDoor
