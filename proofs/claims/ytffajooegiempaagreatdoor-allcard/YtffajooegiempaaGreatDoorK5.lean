import Derived.Test.YtffajooegiempaaGreatDoorK4
set_option maxRecDepth 100000
set_option maxHeartbeats 6400000
namespace Go.Proofs.YtffajooegiempaaGreatDoor
def mn(x y:Int):Int:=if y<x then y else x
def T3(x a b:Int):Prop:=a=NB\/b=NB\/(x≠NB/\x<=a+b)
def Bd(U:Int)(M:Nat->Int):Prop:=∀a,a<64->M a=NB\/M a<=U
theorem CL:∀i:Nat,i<8->opp (opp i)=i:=by decide
theorem KP(i:Nat):opp i≠i:=by unfold opp;split<;>omega
theorem Hb(x:Int):pl x 0=x:=by
 unfold pl NB;split
 .omega
 .omega
theorem If(x:Int):pl 0 x=x:=by
 unfold pl NB;split
 .omega
 .omega
theorem Je(x:Int):mn x x=x:=by unfold mn;split<;>rfl
theorem XV{s:Nat}{M:Nat->Int}(hs:s<8)(d:M (s*8+opp s)=0):∀k,k<=64->∀a,a<64->E6 s M k a=if a<k then mn (M a) (pl (M (a/8*8+opp s)) (M (s*8+a%8)))else M a:=by
 have D:=Ah hs;intro k;induction k with
 |zero=>intro _ a _;rw[E6,a_ (by omega)]
 |succ k ih=>
  intro hk a u;have hc:=ih (by omega);have e1:E6 s M k (k/8*8+opp s)=M (k/8*8+opp s):=by
   rw[hc _ (by omega)];split
   .rw[show(k/8*8+opp s)/8=k/8 by omega,show(k/8*8+opp s)%8=opp s by omega,d,Hb,Je]
   .rfl
  have e2:E6 s M k (s*8+k%8)=M (s*8+k%8):=by
   rw[hc _ (by omega)];split
   .rw[show(s*8+k%8)/8=s by omega,show(s*8+k%8)%8=k%8 by omega,d,If,Je]
   .rfl
  have e3:E6 s M k k=M k:=by rw[hc k (by omega),a_ (by omega)]
  rw[E6];unfold Sv;rw[e1,e2,e3];by_cases q:a=k
  .subst q;rw[bA (show a<a+1 by omega)];unfold mn;split
   .exact CV _ _ _
   .exact e3
  .have:(if pl (M (k/8*8+opp s)) (M (s*8+k%8))<M k then Bw (E6 s M k) k (pl (M (k/8*8+opp s)) (M (s*8+k%8)))else E6 s M k) a=E6 s M k a:=by
    split
    .exact BO _ _ q
    .rfl
   rw[this,hc a u];by_cases z:a<k
   .rw[bA z,bA (by omega)]
   .rw[a_ z,a_ (by omega)]
theorem DV{s:Nat}{M:Nat->Int}(hs:s<8)(d:M (s*8+opp s)=0){i j:Nat}(hi:i<8)(c:j<8):E6 s M 64 (i*8+j)=mn (M (i*8+j)) (pl (M (i*8+opp s)) (M (s*8+j))):=by
 rw[XV hs d 64 (bB _) _ (by omega),bA (by omega),show(i*8+j)/8=i by omega,show(i*8+j)%8=j by omega]
def Og(M:Nat->Int)(k:Nat):Prop:=∀i j,i<8->j<8->T3 (M (i*8+j)) (M (i*8+opp k)) (M (k*8+j))
theorem PE{a p r:Int}(h:mn a (pl p r)≠NB):(mn a (pl p r)=a/\a≠NB)\/(mn a (pl p r)=p+r/\p≠NB/\r≠NB):=by
 unfold mn at h|-;split
 .rename_i q;rw[bA q]at h;obtain⟨h1,h2,h3⟩:=GU h;exact .inr ⟨h3,h1,h2⟩
 .rename_i q;rw[a_ q]at h;exact .inl ⟨rfl,h⟩
theorem Tg{x p q U:Int}(o:U<1000000)(hx:x≠NB)(ah:x=NB\/x<=U):mn x (pl p q)≠NB/\mn x (pl p q)<=x:=by
 have:=ah.resolve_left hx;unfold mn NB at *;split<;>omega
theorem IW{x p q U:Int}(o:2*U<1000000)(E:p≠NB)(B:q≠NB)(ae:p=NB\/p<=U)(af:q=NB\/q<=U):mn x (pl p q)≠NB/\mn x (pl p q)<=p+q:=by
 have h1:=ae.resolve_left E;have h2:=af.resolve_left B;have e:pl p q=p+q:=a_ (λe=>e.elim E B);rw[e];unfold mn NB at *;split<;>omega
theorem Uu{x a b p q r t U:Int}(o:2*U<1000000)(l:0<=U)(hx:x=NB\/x<=U)(E:p=NB\/p<=U)(B:q=NB\/q<=U)
  (h1:T3 x a b) (h2:T3 p a t) (h3:T3 q r b) (h4:T3 0 r t):T3 (mn x (pl p q)) (mn a (pl p r)) (mn b (pl t q)):=by
 by_cases hA:mn a (pl p r)=NB
 .exact .inl hA
 by_cases w:mn b (pl t q)=NB
 .exact .inr (.inl w)
 right;right
 rcases PE hA with⟨R,O⟩|⟨R,O,a2⟩
 .rcases PE w with⟨I,H⟩|⟨I,H,b2⟩
  .rw[R,I];obtain⟨G,z2⟩:=(h1.resolve_left O).resolve_left H;have:=Tg (p:=p) (q:=q) (by omega) G hx;exact⟨this.1,by omega⟩
  .rw[R,I];obtain⟨G,z2⟩:=(h2.resolve_left O).resolve_left H;have:=IW (x:=x) o G b2 E B;exact⟨this.1,by omega⟩
 .rcases PE w with⟨I,H⟩|⟨I,H,b2⟩
  .rw[R,I];obtain⟨G,z2⟩:=(h3.resolve_left a2).resolve_left H;have:=IW (x:=x) o O G E B;exact⟨this.1,by omega⟩
  .rw[R,I];obtain⟨G,z2⟩:=(h4.resolve_left a2).resolve_left H;have:=IW (x:=x) o O b2 E B;exact⟨this.1,by omega⟩
theorem WV{x p q U:Int}(o:2*U<1000000)(E:p=NB\/p<=U)(B:q=NB\/q<=U):T3 (mn x (pl p q)) p q:=by
 by_cases h1:p=NB
 .exact .inl h1
 by_cases h2:q=NB
 .exact .inr (.inl h2)
 exact .inr (.inr (IW o h1 h2 E B))
theorem RQ{s:Nat}{M:Nat->Int}{U:Int}(hs:s<8)(d:M (s*8+opp s)=0)(o:2*U<1000000)(l:0<=U)(w:Bd U M)(C:∀k,k<s->Og M k):∀k,k<s+1->Og (E6 s M 64) k:=by
 have D:=Ah hs;intro k hk i j hi c;rcases bX (ch.1 hk)with hk'|hk'
 .have Y:k<8:=by omega
  have ad:=Ah Y;rw[DV hs d hi c,DV hs d hi ad,DV hs d Y c];have h4:=C k hk' s (opp s) hs D;rw[d]at h4;exact Uu o l (w _ (by omega)) (w _ (by omega)) (w _ (by omega)) (C k hk' i j hi c) (C k hk' i (opp s) hi D) (C k hk' s j hs c) h4
 .subst hk';rw[DV hs d hi c,DV hs d hi D,DV hs d hs c,d,Hb,If,Je,Je];exact WV o (w _ (by omega)) (w _ (by omega))
def Ex(M:Nat->Int)(s:Nat):Prop:=∀r,r<s->fw M r (r*8+opp r)=0
theorem Ex.lt{M:Nat->Int}{s r:Nat}(h:Ex M s)(hr:r<=s):Ex M r:=λq B=>h q (by omega)
theorem Bd.mono{U V:Int}{M:Nat->Int}(h:Bd U M)(ab:U<=V):Bd V M:=λa u=>(h a u).imp id (λq=>cd q ab)
def IH(f:Nat->Bool):Nat->Nat
 |0=>0
 |n+1=>IH f n+(if f n then 1 else 0)
theorem QO(f:Nat->Bool):∀n,IH f n<=n
 |0=>bB _
 |n+1=>by have:=QO f n;rw[IH];split<;>omega
theorem LR{f g:Nat->Bool}(h:∀j,f j=true->g j=true):∀n,IH f n<=IH g n
 |0=>bB _
 |n+1=>by
  have:=LR h n;rw[IH,IH];by_cases q:f n=true
  .rw[bA q,bA (h n q)];omega
  .rw[a_ q];omega
theorem MJ{f g:Nat->Bool}(h:∀j,f j=true->g j=true){j:Nat}(h1:g j=true)(h2:¬f j=true):∀n,j<n->IH f n+1<=IH g n
 |0,hn=>by omega
 |n+1,hn=>by
  rw[IH,IH];rcases bX (ch.1 hn)with q|q
  .have:=MJ h h1 h2 n q;by_cases z:f n=true
   .rw[bA z,bA (h n z)];omega
   .rw[a_ z];omega
  .subst q;have:=LR h j;rw[a_ h2,bA h1];omega
theorem Nc{f:Nat->Bool}:∀n,n<=IH f n->∀j,j<n->f j=true
 |0,_,j,c=>by omega
 |n+1,h,j,c=>by
  have:=QO f n;rw[IH]at h;by_cases z:f n=true
  .rw[bA z]at h;rcases bX (ch.1 c)with q|q
   .exact Nc n (by omega) j q
   .rw[q];exact z
  .rw[a_ z]at h;omega
theorem ZN(P:Nat->Nat->Prop)(hm:∀k j,P k j->P (k+1) j)(v:∀k j,P k j->j<8)(hs:∀k,(∀j,P (k+1) j->P k j)->∀j,P (k+2) j->P (k+1) j){i:Nat}(hi:P 0 i):∀k j,P k j->P 7 j:=by
 have Z:∀a b j,P a j->P (a+b) j:=by
  intro a b j h;induction b with
  |zero=>exact h
  |succ b ih=>exact hm _ _ ih
 have ag:∀n,(∀j,P (n+1) j->P n j)->∀b j,P (n+b) j->P n j:=by
  intro n hn;have W:∀b j,P (n+b+1) j->P (n+b) j:=by
   intro b;induction b with
   |zero=>exact hn
   |succ b ih=>exact hs (n+b) ih
  intro b;induction b with
  |zero=>intro j h;exact h
  |succ b ih=>intro j h;exact ih j (W b j h)
 have Q:∀k j,∃b:Bool,b=true↔P k j:=by
  intro k j;rcases Classical.em (P k j)with q|q
  .exact⟨true,by simp[q]⟩
  .exact⟨false,by simp[q]⟩
 obtain⟨F,K⟩:∃F:Nat->Nat->Bool,∀k j,F k j=true↔P k j:=⟨λk j=>Classical.choose (Q k j),λk j=>Classical.choose_spec (Q k j)⟩
 have aa:∀n,(∃k,k<n/\∀j,P (k+1) j->P k j)\/n+1<=IH (F n) 8:=by
  intro n;induction n with
  |zero=>
   right
   have:=MJ (f:=λ_=>false) (g:=F 0) (λj h=>by cases h) ((K 0 i).2 hi) (by decide) 8 (v 0 i hi);omega
  |succ n ih=>
   rcases ih with⟨k,hk,h⟩|ih
   .exact .inl ⟨k,by omega,h⟩
   .rcases Classical.em (∀j,P (n+1) j->P n j)with q|q
    .exact .inl ⟨n,by omega,q⟩
    .obtain⟨j,c⟩:=Classical.not_forall.1 q;obtain⟨h1,h2⟩:=Classical.not_imp.1 c;have:=MJ (f:=F n) (g:=F (n+1)) (λj h=>(K _ _).2 (hm _ _ ((K _ _).1 h))) ((K _ _).2 h1) (λh=>h2 ((K _ _).1 h)) 8 (v _ _ h1)
     right;omega
 intro k j h;rcases aa 7 with⟨n,hn,q⟩|q
 .have hk:P n j:=by
   rcases bW k n with z|z
   .have:=Z k (n-k) j h;rwa[show k+(n-k)=n by omega]at this
   .exact ag n q (k-n) j (by rw[show n+(k-n)=k by omega];exact h)
  have:=Z n (7-n) j hk;rwa[show n+(7-n)=7 by omega]at this
 .exact(K 7 j).1 (Nc 8 q j (v _ _ h))
def Rc(M:Nat->Int)(s i:Nat):Nat->Nat->Prop
 |0,j=>j=i/\i<8
 |k+1,j=>Rc M s i k j\/(j<8/\∃m,Rc M s i k m/\(m=i\/m<s)/\M (m*8+opp j)≠NB)
theorem Rc.lt{M:Nat->Int}{s i:Nat}:∀k j,Rc M s i k j->j<8
 |0,j,h=>by have h':j=i/\i<8:=h;omega
 |k+1,j,h=>by
  rcases h with h|h
  .exact Rc.lt k j h
  .exact h.1
theorem Rc.seven{M:Nat->Int}{s i:Nat}(hi:i<8){k j:Nat}(h:Rc M s i k j):Rc M s i 7 j:=by
 refine ZN (Rc M s i) (λk j h=>.inl h) Rc.lt ?_ (i:=i) ⟨rfl,hi⟩ k j h;intro k hk j h;rcases h with h|⟨v,m,h1,h2,h3⟩
 .exact h
 .exact .inr ⟨v,m,hk m h1,h2,h3⟩
theorem Rc.up{M:Nat->Int}{s i:Nat}:∀k j,Rc M s i k j->Rc M (s+1) i k j
 |0,_,h=>h
 |k+1,j,h=>by
  rcases h with h|⟨v,m,h1,h2,h3⟩
  .exact .inl (Rc.up k j h)
  .exact .inr ⟨v,m,Rc.up k m h1,h2.imp id (λq=>by omega),h3⟩
theorem Rc.trans{M:Nat->Int}{s i a:Nat}(h1:Rc M (s+1) i a s):∀k j,Rc M s s k j->Rc M (s+1) i (a+k) j
 |0,j,h=>by have h':j=s/\s<8:=h;rw[h'.1];exact h1
 |k+1,j,h=>by
  rcases h with h|⟨v,m,h2,h3,h4⟩
  .exact .inl (Rc.trans h1 k j h)
  .exact .inr ⟨v,m,Rc.trans h1 k m h2,.inr (by omega),h4⟩
theorem TM{M:Nat->Int}:∀s,s<=8->Ex M s->∀i j,i<8->j<8->fw M s (i*8+opp j)≠NB->∃k,Rc M s i k j:=by
 intro s;induction s with
 |zero=>intro _ _ i j hi c h;exact⟨1,.inr ⟨c,i,⟨rfl,hi⟩,.inl rfl,h⟩⟩
 |succ s ih=>
  intro hs hx i j hi c h;have J:=hx.lt (show s<=s+1 by omega);rw[fw,DV (by omega) (hx s (by omega)) hi (Ah c)]at h;rcases PE h with⟨_,z⟩|⟨_,G,z2⟩
  .obtain⟨k,hk⟩:=ih (by omega) J i j hi c z;exact⟨k,Rc.up k j hk⟩
  .obtain⟨a,u⟩:=ih (by omega) J i s hi (by omega) G;obtain⟨b,hb⟩:=ih (by omega) J s j (by omega) c z2;exact⟨a+b,Rc.trans (Rc.up a s u) b j hb⟩
theorem Rc.le{M T:Nat->Int}{s i:Nat}{U:Int}(hi:i<8)(l:0<=U)(o:U<1000000)(w:Bd U M)(d:M (i*8+opp i)=0)(A:∀a,T a<=M a)(C:∀k,k<s->Og T k):∀k j,Rc M s i k j->T (i*8+opp j)≠NB/\T (i*8+opp j)<=k*U:=by
 intro k;induction k with
 |zero=>
  intro j h;have h':j=i/\i<8:=h;rw[h'.1];have:=A (i*8+opp i);rw[d]at this;unfold NB;omega
 |succ k ih=>
  intro j h;have e:(((k+1:Nat):Int))*U=k*U+U:=by rw[Int.natCast_add,Int.add_mul];simp
  have ai:0<=(k:Int)*U:=Int.mul_nonneg (by omega) l;rw[e];rcases h with h|⟨v,m,h1,h2,h3⟩
  .have:=ih j h;exact⟨this.1,by omega⟩
  .have aj:=Rc.lt k m h1;have ac:=Ah v;have hb:=(w (m*8+opp j) (by omega)).resolve_left h3;have hl:=A (m*8+opp j);rcases h2 with h2|h2
   .subst h2;unfold NB;exact⟨by omega,by omega⟩
   .have a:=ih m h1;have t:=C m h2 i (opp j) hi ac;have n2:T (m*8+opp j)≠NB:=by unfold NB;omega
    obtain⟨t1,t2⟩:=(t.resolve_left a.1).resolve_left n2;exact⟨t1,by omega⟩
theorem QV{M:Nat->Int}{U:Int}(l:0<=U)(o:14*U<1000000)(L:Bd U M)(d:∀i,i<8->M (i*8+opp i)=0):∀s,s<=8->Ex M s->Bd (7*U) (fw M s)/\∀k,k<s->Og (fw M s) k:=by
 intro s;induction s with
 |zero=>
  intro _ _;exact⟨L.mono (by omega),λk hk=>by omega⟩
 |succ s ih=>
  intro hs h;obtain⟨b,t⟩:=ih (by omega) (h.lt (by omega));have t':∀k,k<s+1->Og (fw M (s+1)) k:=by
   rw[fw];exact RQ (by omega) (h s (by omega)) (U:=7*U) (by omega) (by omega) b t
  refine⟨λa u=>?_,t'⟩;by_cases q:fw M (s+1) a=NB
  .exact .inl q
  .right
   have hi:a/8<8:=by omega
   have c:a%8<8:=by omega
   have e:a=a/8*8+opp (opp (a%8)):=by rw[CL _ c];omega
   rw[e]at q|-;obtain⟨k,hk⟩:=TM (s+1) hs h (a/8) (opp (a%8)) hi (Ah c) q;have:=(Rc.le hi l (by omega) L (d _ hi) (λa=>F8 M (s+1) a) t' 7 _ (hk.seven hi)).2;omega
theorem QU{M:Nat->Int}{U:Int}(l:0<=U)(o:14*U<1000000)(L:Bd U M)(d:∀i,i<8->M (i*8+opp i)=0)(s:Nat)(hs:s<=8)(h:Ex M s):Bd (7*U) (fw M s):=(QV l o L d s hs h).1
theorem Xm{M:Nat->Int}{U:Int}(l:0<=U)(o:14*U<1000000)(L:Bd U M)(d:∀i,i<8->M (i*8+opp i)=0)(s:Nat)(hs:s<=8)(h:Ex M s):∀k,k<s->Og (fw M s) k:=(QV l o L d s hs h).2
def ST(N:Nat->Int):Prop:=∀k,k<8->Og N k
def Le(N M:Nat->Int):Prop:=∀a,a<64->N a<=M a
theorem RM{N M:Nat->Int}{s k:Nat}(hs:s<8)(hk:k<64)(S:ST N)(h:Le N M)(hi:∀a,a<64->M a<=NB):Le N (Sv s M k):=by
 have D:=Ah hs;intro a u;unfold Sv;split
 .rename_i q;unfold Bw;split
  .rename_i e;subst e;have A:=hi a u;obtain⟨q1,q2,q3⟩:=GU (a:=M (a/8*8+opp s)) (b:=M (s*8+a%8)) (by omega);rw[q3];have l1:=h (a/8*8+opp s) (by omega);have l2:=h (s*8+a%8) (by omega);have m1:=hi (a/8*8+opp s) (by omega);have m2:=hi (s*8+a%8) (by omega);have t:=S s hs (a/8) (a%8) (by omega) (by omega);rw[show a/8*8+a%8=a by omega]at t;obtain⟨_,t2⟩:=(t.resolve_left (by omega)).resolve_left (by omega);omega
  .exact h a u
 .exact h a u
theorem RN{N M:Nat->Int}{s:Nat}(hs:s<8)(S:ST N)(h:Le N M)(hi:∀a,a<64->M a<=NB):∀k,k<=64->Le N (E6 s M k):=by
 intro k;induction k with
 |zero=>intro _;exact h
 |succ k ih=>intro hk;rw[E6];exact RM hs (by omega) S (ih (by omega)) (λa u=>cd (J3 s M k a) (hi a u))
theorem NO{N M:Nat->Int}(S:ST N)(h:Le N M)(hi:∀a,a<64->M a<=NB):∀s,s<=8->Le N (fw M s):=by
 intro s;induction s with
 |zero=>intro _;exact h
 |succ s ih=>intro hs;rw[fw];exact RN (by omega) S (ih (by omega)) (λa u=>cd (F8 M s a) (hi a u)) 64 (bB _)
def tp(M:Nat->Int):Nat->Int:=λa=>M (a%8*8+a/8)
theorem L1(M:Nat->Int){i j:Nat}(_hi:i<8)(c:j<8):tp M (i*8+j)=M (j*8+i):=by
 unfold tp;rw[show(i*8+j)%8=j by omega,show(i*8+j)/8=i by omega]
theorem T3.comm{x a b:Int}(h:T3 x a b):T3 x b a:=by
 rcases h with h|h|⟨h1,h2⟩
 .exact .inr (.inl h)
 .exact .inl h
 .exact .inr (.inr ⟨h1,by omega⟩)
theorem ST.tp{N:Nat->Int}(h:ST N):ST (tp N):=by
 intro k hk i j hi c;have D:=Ah hk;rw[L1 N hi c,L1 N hi D,L1 N hk c];have t:=h (opp k) D j i c hi;rw[CL k hk]at t;exact t.comm
def VA(M:Nat->Int):Prop:=∀i j,i<8->j<8->M (i*8+j)=M (j*8+i)
theorem Xl{M:Nat->Int}(hS:VA M)(C:ST (fw M 8))(hi:∀a,a<64->M a<=NB):VA (fw M 8):=by
 have A:Le (tp (fw M 8)) M:=by
  intro a u;have ea:a=a/8*8+a%8:=by omega
  rw[ea,L1 _ (by omega) (by omega),hS _ _ (by omega) (by omega)];exact F8 M 8 _
 have:=NO C.tp A hi 8 (bB _);intro i j X c;have h1:=this (i*8+j) (by omega);have h2:=this (j*8+i) (by omega);rw[L1 _ X c]at h1;rw[L1 _ c X]at h2;omega
theorem QX(M:Nat->Int)(s:Nat):∀k a,fw M (s+k) a<=fw M s a
 |0,_=>bN _
 |k+1,a=>by
  show E6 (s+k) (fw M (s+k)) 64 a<=_;exact cd (J3 _ _ 64 a) (QX M s k a)
theorem Wz{M:Nat->Int}(I:∀t,t<8->M (t*8+opp t)=0)(h:∀t,t<8->0<=fw M 8 (t*8+opp t)):Ex M 8:=by
 intro r hr;have h1:=F8 M r (r*8+opp r);rw[I r hr]at h1;have h2:=QX M r (8-r) (r*8+opp r);rw[show r+(8-r)=8 by omega]at h2;have:=h r hr;omega
def ev(x:Int):Int:=if x=NB then NB else x/2*2
theorem Ml(M:Nat->Int){i:Nat}(hi:i<8):Ef M 8 (i*8+i)=ev (M (i*8+i)):=by
 rw[KX];unfold ev;by_cases h:M (i*8+i)=NB
 .rw[a_ (λq=>q.2.2 h),bA h,h]
 .rw[bA ⟨by omega,by omega,h⟩,a_ h]
theorem YF(M:Nat->Int){i j:Nat}(hi:i<8)(d:j<8)(h:i≠j):Ef M 8 (i*8+j)=M (i*8+j):=by
 rw[KX,a_ (by omega)]
theorem S_{x:Int}(h:ev x≠NB):x≠NB/\ev x=x/2*2:=by
 unfold ev at h|-;by_cases q:x=NB
 .rw[bA q]at h;exact absurd rfl h
 .exact⟨q,a_ q⟩
theorem JJ{x U:Int}(h:x=NB\/x<=U):ev x=NB\/(x≠NB/\ev x<=U/\ev x%2=0):=by
 unfold ev;by_cases q:x=NB
 .rw[bA q];exact .inl rfl
 .have:=h.resolve_left q;rw[a_ q];exact .inr ⟨q,by omega,by omega⟩
theorem EF{x:Int}(h:x%2=0):x.tdiv 2*2=x:=by
 have h1:=ER x;rcases cR x 0 with e|e
 .rw[h1.2 e];omega
 .rw[h1.1 e];omega
theorem VQ(N:Nat->Int):∀k,k<=64->∀i,i<8->Ea N k (i*8+i)=N (i*8+i):=by
 intro k;induction k with
 |zero=>intro _ i _;rfl
 |succ k ih=>
  intro hk i hi;have hc:=ih (by omega);rw[Ea];unfold SZ;split
  .rename_i q;by_cases e:i*8+i=k
   .subst e;rw[show(i*8+i)/8=i by omega,show(i*8+i)%8=i by omega,hc i hi]at q;obtain⟨A,_,o⟩:=GU q.1;have h2:=q.2;rw[o]at h2;have:=EF (x:=N (i*8+i)+N (i*8+i)) (by omega);omega
   .rw[BO _ _ e];exact hc i hi
  .exact hc i hi
theorem XM(N:Nat->Int):∀k,k<=64->∀a,a<64->Ea N k a=if a<k/\pl (N (a/8*8+a/8)) (N (a%8*8+a%8))≠NB/\(pl (N (a/8*8+a/8)) (N (a%8*8+a%8))).tdiv 2<N a then(pl (N (a/8*8+a/8)) (N (a%8*8+a%8))).tdiv 2 else N a:=by
 intro k;induction k with
 |zero=>intro _ a _;rw[Ea,a_ (by omega)]
 |succ k ih=>
  intro hk a J;have hc:=ih (by omega);have Y:=VQ N k (by omega);rw[Ea];unfold SZ;rw[Y (k/8) (by omega),Y (k%8) (by omega)];have P:Ea N k k=N k:=by rw[hc k (by omega),a_ (by omega)]
  rw[P];by_cases e:a=k
  .subst e;split
   .rename_i q;rw[CV,bA ⟨by omega,q⟩]
   .rename_i q;rw[P,a_ (λz=>q z.2)]
  .have:(if pl (N (k/8*8+k/8)) (N (k%8*8+k%8))≠NB/\(pl (N (k/8*8+k/8)) (N (k%8*8+k%8))).tdiv 2<N k then Bw (Ea N k) k ((pl (N (k/8*8+k/8)) (N (k%8*8+k%8))).tdiv 2)else Ea N k) a=Ea N k a:=by
    split
    .exact BO _ _ e
    .rfl
   rw[this,hc a J];by_cases q:pl (N (a/8*8+a/8)) (N (a%8*8+a%8))≠NB/\(pl (N (a/8*8+a/8)) (N (a%8*8+a%8))).tdiv 2<N a
   .by_cases z:a<k
    .rw[bA ⟨z,q⟩,bA ⟨by omega,q⟩]
    .rw[a_ (λy=>z y.1),a_ (λy=>by omega)]
   .rw[a_ (λy=>q y.2),a_ (λy=>q y.2)]
structure VP(T:Nat->Int)(c:Int)(i j:Nat):Prop where
 le1:T (i*8+j)≠NB->c≠NB/\c<=T (i*8+j)
 le2:ev (T (i*8+i))≠NB->ev (T (j*8+j))≠NB->c≠NB/\2*c<=ev (T (i*8+i))+ev (T (j*8+j))
 cas:c=NB\/(i≠j/\c=T (i*8+j)/\T (i*8+j)≠NB)\/(ev (T (i*8+i))≠NB/\ev (T (j*8+j))≠NB/\2*c=ev (T (i*8+i))+ev (T (j*8+j)))
theorem Ud{T:Nat->Int}{U:Int}(hU:2*U<1000000)(g:Bd U T){i j:Nat}(hi:i<8)(d:j<8):VP T (Ea (Ef T 8) 64 (i*8+j)) i j:=by
 have hE:∀i,i<8->Ef T 8 (i*8+i)=NB\/Ef T 8 (i*8+i)%2=0:=by
  intro i hi;rw[Ml T hi];rcases JJ (g (i*8+i) (by omega))with q|q
  .exact .inl q
  .exact .inr q.2.2
 have hc:=XM (Ef T 8) 64 (bB _) (i*8+j) (by omega);rw[show(i*8+j)/8=i by omega,show(i*8+j)%8=j by omega,Ml T hi,Ml T d]at hc;have bi:=JJ (g (i*8+i) (by omega));have bj:=JJ (g (j*8+j) (by omega));have bt:=g (i*8+j) (by omega);have L:Ef T 8 (i*8+j)=if i=j then ev (T (i*8+j))else T (i*8+j):=by
  by_cases e:i=j
  .subst e;rw[bA rfl,Ml T hi]
  .rw[a_ e,YF T hi d e]
 have E:T (i*8+j)≠NB->Ef T 8 (i*8+j)≠NB/\Ef T 8 (i*8+j)<=T (i*8+j):=by
  intro q;rw[L];split
  .unfold ev NB at *;rw[a_ q];have:=bt.resolve_left q;constructor<;>omega
  .exact⟨q,bN _⟩
 generalize Ea (Ef T 8) 64 (i*8+j)=c at hc|-;by_cases p:ev (T (i*8+i))=NB\/ev (T (j*8+j))=NB
 .have e1:pl (ev (T (i*8+i))) (ev (T (j*8+j)))=NB:=bA p;rw[e1,a_ (λq=>q.2.1 rfl)]at hc;subst hc;refine⟨E,λA f=>absurd p (λz=>z.elim A f),?_⟩;by_cases e:i=j
  .subst e
   left
   rw[L,bA rfl];exact p.elim id id
  .rw[L,a_ e];by_cases z:T (i*8+j)=NB
   .exact .inl z
   .exact .inr (.inl ⟨e,rfl,z⟩)
 .have V:ev (T (i*8+i))≠NB:=λq=>p (.inl q);have W:ev (T (j*8+j))≠NB:=λq=>p (.inr q);obtain⟨_,R,b2⟩:=bi.resolve_left V;obtain⟨_,c1,c2⟩:=bj.resolve_left W;have e1:pl (ev (T (i*8+i))) (ev (T (j*8+j)))=ev (T (i*8+i))+ev (T (j*8+j)):=a_ p;have e2:=EF (x:=ev (T (i*8+i))+ev (T (j*8+j))) (by omega);rw[e1]at hc;have hn:ev (T (i*8+i))+ev (T (j*8+j))≠NB:=by unfold NB;omega
  by_cases q:(ev (T (i*8+i))+ev (T (j*8+j))).tdiv 2<Ef T 8 (i*8+j)
  .rw[bA ⟨by omega,hn,q⟩]at hc;subst hc;have z:(ev (T (i*8+i))+ev (T (j*8+j))).tdiv 2≠NB:=by unfold NB;omega
   refine⟨λt=>⟨z,?_⟩,λ_ _=>⟨z,by omega⟩,.inr (.inr ⟨V,W,by omega⟩)⟩;have:=(E t).2;omega
  .rw[a_ (λy=>q y.2.2)]at hc;subst hc;have aa:Ef T 8 (i*8+j)*2<=ev (T (i*8+i))+ev (T (j*8+j)):=by omega
   refine⟨E,λ_ _=>⟨by unfold NB;omega,by omega⟩,?_⟩;by_cases e:i=j
   .subst e
    right;right
    refine⟨V,W,?_⟩;rw[L,bA rfl];omega
   .rw[L,a_ e];by_cases z:T (i*8+j)=NB
    .exact .inl z
    .exact .inr (.inl ⟨e,rfl,z⟩)
structure TC(C:Nat->Int):Prop where
 tri:ST C
 zero:∀i,i<8->C (i*8+opp i)=0
 even:∀i,i<8->C (i*8+i)=NB\/C (i*8+i)%2=0
 half:∀i j,i<8->j<8->C (i*8+i)≠NB->C (j*8+j)≠NB->C (i*8+j)≠NB/\2*C (i*8+j)<=C (i*8+i)+C (j*8+j)
 sym:VA C
 top:Bd 432000 C
theorem J5{M:Nat->Int}:∀{n:Nat},By M n=false->∀i,i<n->0<=M (i*8+opp i):=by
 intro n;induction n with
 |zero=>intro _ i hi;omega
 |succ n ih=>
  intro h i hi;rw[By,Bool.or_eq_false_iff]at h;rcases bX (ch.1 hi)with e|e
  .exact ih h.1 i e
  .subst e;have:=of_decide_eq_false h.2;omega
theorem Ue{T:Nat->Int}{c:Int}{i:Nat}(h:VP T c i i):c=ev (T (i*8+i)):=by
 rcases h.cas with q|q|q
 .rw[q];by_cases z:ev (T (i*8+i))=NB
  .exact z.symm
  .exact absurd q (h.le2 z z).1
 .exact absurd rfl q.1
 .omega
theorem WU{T:Nat->Int}(G:ST T)(O:VA T){i k:Nat}(hi:i<8)(hk:k<8)(h1:T (i*8+opp k)≠NB)(h2:ev (T (k*8+k))≠NB)(g:T (i*8+i)=NB\/T (i*8+i)<=432000):ev (T (i*8+i))≠NB/\ev (T (i*8+i))<=2*T (i*8+opp k)+ev (T (k*8+k)):=by
 have Q:=Ah hk;obtain⟨k1,k2⟩:=S_ h2;have a:=G (opp k) Q k i hk hi;rw[CL k hk,<-O i (opp k) hi Q]at a;obtain⟨Z,a2⟩:=(a.resolve_left k1).resolve_left h1;have b:=G k hk i i hi hi;obtain⟨R,b2⟩:=(b.resolve_left h1).resolve_left Z;have:=g.resolve_left R;have e:ev (T (i*8+i))=T (i*8+i)/2*2:=a_ R;rw[e,k2];exact⟨by unfold NB;omega,by omega⟩
theorem ZO{T:Nat->Int}(G:ST T)(O:VA T)(g:Bd 432000 T)(I:∀i,i<8->T (i*8+opp i)=0)(hc:∀i,i<8->0<=Ea (Ef T 8) 64 (i*8+opp i)):TC (Ea (Ef T 8) 64):=by
 have v:∀{i j:Nat},i<8->j<8->VP T (Ea (Ef T 8) 64 (i*8+j)) i j:=λhi d=>Ud (U:=432000) (by omega) g hi d;have dia:∀{i:Nat},i<8->Ea (Ef T 8) 64 (i*8+i)=ev (T (i*8+i)):=λhi=>Ue (v hi hi);generalize hC:Ea (Ef T 8) 64=C at v dia hc|-;have zero:∀i,i<8->C (i*8+opp i)=0:=by
  intro i hi;have:=((v hi (Ah hi)).le1 (by rw[I i hi];decide)).2;rw[I i hi]at this;have:=hc i hi;omega
 have dd:∀i,i<8->ev (T (i*8+i))≠NB->ev (T (opp i*8+opp i))≠NB->0<=ev (T (i*8+i))+ev (T (opp i*8+opp i)):=by
  intro i hi h1 h2;have:=((v hi (Ah hi)).le2 h1 h2).2;rw[zero i hi]at this;omega
 have sym:VA C:=by
  intro i j hi d;have a:=v hi d;have b:=v d hi;have e:=O i j hi d;rcases a.cas with q|⟨A,f,o⟩|⟨A,f,o⟩
  .rcases b.cas with w|⟨B,u,D⟩|⟨B,u,D⟩
   .rw[q,w]
   .exact absurd q (a.le1 (by rw[e];exact D)).1
   .exact absurd q (a.le2 u B).1
  .have X:=b.le1 (by rw[<-e];exact o);rcases b.cas with w|⟨B,u,D⟩|⟨B,u,D⟩
   .exact absurd w X.1
   .rw[f,u,e]
   .have:=(a.le2 u B).2;omega
  .have X:=b.le2 f A;rcases b.cas with w|⟨B,u,D⟩|⟨B,u,D⟩
   .exact absurd w X.1
   .have:=(a.le1 (by rw[e];exact D)).2;omega
   .omega
 have H:∀{i j k:Nat},i<8->j<8->k<8->T (i*8+opp k)≠NB->ev (T (k*8+k))≠NB->ev (T (j*8+j))≠NB->C (i*8+j)≠NB/\2*C (i*8+j)<=2*T (i*8+opp k)+(ev (T (k*8+k))+ev (T (j*8+j))):=by
  intro i j k hi d hk h1 h2 h3;have m:=WU G O hi hk h1 h2 (g _ (by omega));have l:=(v hi d).le2 m.1 h3;exact⟨l.1,by have:=l.2;have:=m.2;omega⟩
 refine⟨?_,zero,?_,?_,sym,?_⟩
 .intro k hk i j hi d;have Q:=Ah hk;have a:=v hi Q;have b:=v hk d;rcases a.cas with q|⟨A,f,o⟩|⟨A,f,o⟩
  .exact .inl q
  .rcases b.cas with w|⟨B,u,D⟩|⟨B,u,D⟩
   .exact .inr (.inl w)
   .right;right
    obtain⟨t1,t2⟩:=((G k hk i j hi d).resolve_left o).resolve_left D;have l:=(v hi d).le1 t1;exact⟨l.1,by rw[f,u];omega⟩
   .right;right
    have l:=H hi d hk o B u;exact⟨l.1,by rw[f];omega⟩
  .rcases b.cas with w|⟨B,u,D⟩|⟨B,u,D⟩
   .exact .inr (.inl w)
   .right;right
    have e:T (j*8+opp (opp k))=T (k*8+j):=by rw[CL k hk];exact O j k d hk
    have l:=H d hi Q (by rw[e];exact D) f A;rw[e,sym j i d hi]at l;exact⟨l.1,by rw[u];omega⟩
   .right;right
    have l:=(v hi d).le2 A u;have:=dd k hk B f;exact⟨l.1,by omega⟩
 .intro i hi;rw[dia hi];rcases JJ (g (i*8+i) (by omega))with q|q
  .exact .inl q
  .exact .inr q.2.2
 .intro i j hi d h1 h2;rw[dia hi]at h1|-;rw[dia d]at h2|-;exact(v hi d).le2 h1 h2
 .intro a J;have ea:a=a/8*8+a%8:=by omega
  rw[ea];rcases(v (i:=a/8) (j:=a%8) (by omega) (by omega)).cas with q|⟨_,f,o⟩|⟨A,f,o⟩
  .exact .inl q
  .right
   rw[f];exact(g _ (by omega)).resolve_left o
  .right
   have e1:=(JJ (g (a/8*8+a/8) (by omega))).resolve_left A;have e2:=(JJ (g (a%8*8+a%8) (by omega))).resolve_left f;omega
structure NI(M:Nat->Int):Prop where
 bd:Bd 60000 M
 sym:VA M
 zero:∀i,i<8->M (i*8+opp i)=0
theorem NI.hi{M:Nat->Int}(h:NI M):∀a,a<64->M a<=NB:=by
 intro a J;rcases h.bd a J with q|q
 .omega
 .unfold NB;omega
theorem NI.tc{M:Nat->Int}(h:NI M)(hc:By (Aj M) 8=false):TC (Aj M):=by
 have F:=J5 hc;have hz:∀t,t<8->0<=fw M 8 (t*8+opp t):=by
  intro t K;have h1:=F t K;unfold Aj at h1;have h2:=Is (Ef (fw M 8) 8) 64 (t*8+opp t);have h3:=Hx (fw M 8) 8 (t*8+opp t);omega
 have hx:=Wz h.zero hz;have G:ST (fw M 8):=Xm (by decide) (by decide) h.bd h.zero 8 (bB _) hx;have I:∀t,t<8->fw M 8 (t*8+opp t)=0:=by
  intro t K;have h1:=F8 M 8 (t*8+opp t);rw[h.zero t K]at h1;have:=hz t K;omega
 exact ZO G (Xl h.sym G h.hi) ((QU (by decide) (by decide) h.bd h.zero 8 (bB _) hx).mono (by decide)) I F
theorem NI.top{M:Nat->Int}(h:NI M)(hb:Bd 8000 M)(hc:By (Aj M) 8=false):Bd 56000 (Aj M):=by
 have F:=J5 hc;have hz:∀t,t<8->0<=fw M 8 (t*8+opp t):=by
  intro t K;have h1:=F t K;unfold Aj at h1;have h2:=Is (Ef (fw M 8) 8) 64 (t*8+opp t);have h3:=Hx (fw M 8) 8 (t*8+opp t);omega
 have hx:=Wz h.zero hz;have g:Bd (7*8000) (fw M 8):=QU (by decide) (by decide) hb h.zero 8 (bB _) hx;intro a J;have v:=Ud (U:=7*8000) (by decide) g (i:=a/8) (j:=a%8) (by omega) (by omega);have S:a/8*8+a%8=a:=by omega
 rcases v.cas with q|⟨_,f,o⟩|⟨A,f,o⟩
 .rw[S]at q;exact .inl q
 .right
  rw[S]at f o;have:=(g a J).resolve_left o;unfold Aj;rw[f];omega
 .right
  rw[S]at o;have e1:=(JJ (g (a/8*8+a/8) (by omega))).resolve_left A;have e2:=(JJ (g (a%8*8+a%8) (by omega))).resolve_left f;unfold Aj;omega
def sgn(i:Nat):Int:=1-2*((i%2:Nat):Int)
def C5(f:Nat):List Int:=if f<8 then[0,0,0,0].set (f/2) (sgn f)else([0,0,0,0].set (fs f/2) (sgn (fs f))).set (ss f/2) (sgn (ss f))
def AK(l:List Int)(i:Nat):Int:=l.getD i 0
theorem Eo:∀f:Nat,f<8->fs f=f/\ss f=f:=by decide
theorem G7:∀f:Nat,f<32->8<=f->fs f≠ss f:=by decide
def bv(l:List Int)(f:Nat):Int:=if fs f=ss f/\l.getD f 0≠NB then 2*l.getD f 0 else l.getD f 0
theorem KK(l:List Int):∀f,f<32->FW l 32 (fs f*8+ss f)=bv l f/\FW l 32 (ss f*8+fs f)=bv l f
 |0,_=>⟨rfl,rfl⟩
 |1,_=>⟨rfl,rfl⟩
 |2,_=>⟨rfl,rfl⟩
 |3,_=>⟨rfl,rfl⟩
 |4,_=>⟨rfl,rfl⟩
 |5,_=>⟨rfl,rfl⟩
 |6,_=>⟨rfl,rfl⟩
 |7,_=>⟨rfl,rfl⟩
 |8,_=>⟨rfl,rfl⟩
 |9,_=>⟨rfl,rfl⟩
 |10,_=>⟨rfl,rfl⟩
 |11,_=>⟨rfl,rfl⟩
 |12,_=>⟨rfl,rfl⟩
 |13,_=>⟨rfl,rfl⟩
 |14,_=>⟨rfl,rfl⟩
 |15,_=>⟨rfl,rfl⟩
 |16,_=>⟨rfl,rfl⟩
 |17,_=>⟨rfl,rfl⟩
 |18,_=>⟨rfl,rfl⟩
 |19,_=>⟨rfl,rfl⟩
 |20,_=>⟨rfl,rfl⟩
 |21,_=>⟨rfl,rfl⟩
 |22,_=>⟨rfl,rfl⟩
 |23,_=>⟨rfl,rfl⟩
 |24,_=>⟨rfl,rfl⟩
 |25,_=>⟨rfl,rfl⟩
 |26,_=>⟨rfl,rfl⟩
 |27,_=>⟨rfl,rfl⟩
 |28,_=>⟨rfl,rfl⟩
 |29,_=>⟨rfl,rfl⟩
 |30,_=>⟨rfl,rfl⟩
 |31,_=>⟨rfl,rfl⟩
 |n+32,h=>absurd h (by omega)
 
theorem Gs(l:List Int):∀i,i<8->FW l 32 (i*8+opp i)=0
 |0,_=>rfl
 |1,_=>rfl
 |2,_=>rfl
 |3,_=>rfl
 |4,_=>rfl
 |5,_=>rfl
 |6,_=>rfl
 |7,_=>rfl
 |n+8,h=>absurd h (by omega)
 
theorem Wo{o:List Int}{M:Nat->Int}(c:∀i,i<32->G8 (o.getD i 0)=true)(m:∀k,M k<=FW o 32 k)(f:Nat)(b:f<32):bd M f<=AK o f:=by
 have p:=(KK o f b).1;have a:=m (fs f*8+ss f);have hr:=(EA o 32 c (fs f*8+ss f)).2;have hb:=c f b;unfold G8 at hb;have hb:=ce hb;rw[p]at a hr;unfold bd AK;unfold bv at a hr;by_cases g:f<8
 .obtain⟨r,s⟩:=Eo f g;rw[r,s]at a hr|-;by_cases hn:o.getD f 0=NB
  .rw[a_ (λq=>q.2 hn)]at a hr;rw[hn]at a|-;by_cases hz:M (f*8+f)=NB
   .rw[a_ (λq=>q.2 hz)];exact a
   .rw[bA ⟨rfl,hz⟩];have:=ER (M (f*8+f));unfold NB at *;rcases cR (M (f*8+f)) 0 with e|e
    .rw[this.2 e];omega
    .rw[this.1 e];omega
  .rw[bA ⟨rfl,hn⟩]at a hr;have hz:M (f*8+f)≠NB:=by unfold NB at *;omega
   rw[bA ⟨rfl,hz⟩];have:=ER (M (f*8+f));rcases cR (M (f*8+f)) 0 with e|e
   .rw[this.2 e];omega
   .rw[this.1 e];omega
 .have d:=G7 f b (by omega);rw[a_ (λq=>d q.1)]at a|-;exact a
theorem Gh(M:Nat->Int)(f:Nat)(b:f<32):AK (Bl M) f=bd M f:=by simp[AK,Bl,List.getD,b]
def Ci(f g:Nat):List Int:=[AK (C5 f) 0+AK (C5 g) 0,AK (C5 f) 1+AK (C5 g) 1,AK (C5 f) 2+AK (C5 g) 2,AK (C5 f) 3+AK (C5 g) 3]
def GA(v:List Int):Nat:=v.countP λx=>x==1||x== -1
def He(v:List Int):Nat:=v.countP λx=>x==2||x== -2
def ND(v:List Int):Nat->Option (Int×Int)
 |0=>some (-1, -1)
 |i+1=>match ND v i with
  |none=>none
  |some (x,y)=>if AK v i< -1\/AK v i>1\/(AK v i≠0/\0<=y)then none else some (if AK v i≠0/\x<0 then(i:Int)else x,if AK v i≠0/\0<=x then(i:Int)else y)
def Ar(v:List Int):Int:=match ND v 4 with
 |none=> -1
 |some (x,y)=>if x<0 then -1 else if y<0 then 2*x+(1-AK v x.toNat).tdiv 2 else 8+4*((x*(8-x-1)).tdiv 2+y-x-1)+(1-AK v x.toNat).tdiv 2*2+(1-AK v y.toNat).tdiv 2
def CH(v:List Int):List Int:=v.map λx=>x.tdiv 2
def kd(v:List Int):Nat:=if GA v=0/\He v=0 then 1 else if GA v=0/\He v=1 then 2 else if He v=0/\0<GA v/\GA v<3 then 3 else 0
def CS(v:List Int)(c:Int):Int×Int:=if kd v=1/\c<0 then(-2,0)else if kd v=2 then(Ar (CH v),c/2)else if kd v=3 then(Ar v,c)else(-1,0)
def kdT(f g:Nat):Nat:=kd (Ci f g)
def nmT(f g:Nat):Nat:=if kdT f g=2 then(Ar (CH (Ci f g))).toNat else(Ar (Ci f g)).toNat
def nf(i j:Nat):Nat:=if i=j then i else if i<j then 8+4*(i/2*(7-i/2)/2+j/2-i/2-1)+i%2*2+j%2 else 8+4*(j/2*(7-j/2)/2+i/2-j/2-1)+j%2*2+i%2
theorem DN:∀i:Nat,i<8->∀j,j<8->j≠opp i->nf i j<32/\((fs (nf i j)=i/\ss (nf i j)=j)\/(fs (nf i j)=j/\ss (nf i j)=i)):=by decide +kernel
theorem Gv(i:Nat):nf i i=i:=bA rfl
theorem FE:∀f:Nat,f<32->fs f<8/\ss f<8/\nf (fs f) (ss f)=f/\ss f≠opp (fs f)/\(f<8->fs f=f/\ss f=f)/\(8<=f->fs f≠ss f):=by decide +kernel
theorem Li:∀f:Nat,f<32->∀g,g<32->(kdT f g=2->Ar (CH (Ci f g))=(nmT f g:Int)/\nmT f g<8)/\(kdT f g=3->Ar (Ci f g)=(nmT f g:Int)/\nmT f g<32):=by decide +kernel
def XI(i s j:Nat):Prop:=(i≠s/\i≠opp s/\j≠s/\j≠opp s)->(j=opp i->kdT (nf i (opp s)) (nf s j)=1)/\(j=i->kdT (nf i (opp s)) (nf s j)=2/\nmT (nf i (opp s)) (nf s j)=i)/\(j≠i/\j≠opp i->kdT (nf i (opp s)) (nf s j)=3/\nmT (nf i (opp s)) (nf s j)=nf i j)
instance (i s j:Nat):Decidable (XI i s j):=by unfold XI;infer_instance
theorem ZW:∀i:Nat,i<8->∀s,s<8->∀j,j<8->XI i s j:=by decide +kernel
theorem WN:∀s:Nat,s<8->∀j,j<8->(j≠s/\j≠opp s)->kdT (opp s) (nf s j)=3/\nmT (opp s) (nf s j)=j/\kdT (nf j s) (opp s)=3/\nmT (nf j s) (opp s)=j:=by decide +kernel
theorem OS:∀i:Nat,i<8->∀j,j<8->(j=opp i->kdT i j=1)/\(j≠i/\j≠opp i->kdT i j=3/\nmT i j=nf i j):=by decide +kernel
def ZX(f g:Nat):Bool:=decide (kdT f g=0)||(decide (f<8)&&decide (g<8)&&((decide (g=opp f)&&decide (kdT f g=1))||(decide (g=f)&&decide (kdT f g=2)&&decide (nmT f g=f))||(decide (g≠f)&&decide (g≠opp f)&&decide (kdT f g=3)&&decide (nmT f g=nf f g))))||
 (decide (f<8)&&decide (8<=g)&&decide (kdT f g=3)&&((decide (fs g=opp f)&&decide (nmT f g=ss g))||(decide (ss g=opp f)&&decide (nmT f g=fs g))))||
 (decide (8<=f)&&decide (g<8)&&decide (kdT f g=3)&&((decide (fs f=opp g)&&decide (nmT f g=ss f))||(decide (ss f=opp g)&&decide (nmT f g=fs f))))||
 (decide (8<=f)&&decide (8<=g)&&[true,false].any λl=>[true,false].any λp=>
  decide ((if l=true then ss f else fs f)=opp (if p=true then fs g else ss g))&&((decide (kdT f g=1)&&decide ((if p=true then ss g else fs g)=opp (if l=true then fs f else ss f)))||(decide (kdT f g=2)&&decide ((if p=true then ss g else fs g)=(if l=true then fs f else ss f))&&decide (nmT f g=if l=true then fs f else ss f))||
   (decide (kdT f g=3)&&decide ((if p=true then ss g else fs g)≠(if l=true then fs f else ss f))&&decide ((if p=true then ss g else fs g)≠opp (if l=true then fs f else ss f))&&decide (nmT f g=nf (if l=true then fs f else ss f) (if p=true then ss g else fs g)))))
theorem WQ:∀f:Nat,f<32->∀g,g<32->ZX f g=true:=by decide +kernel
structure Ku(R R':Nat->Int):Prop where
 le:∀f,f<32->R' f<=R f
 zer:∀f g,f<32->g<32->kdT f g=1->R f≠NB->R g≠NB->0<=R f+R g
 dou:∀f g,f<32->g<32->kdT f g=2->R f≠NB->R g≠NB->R' (nmT f g)<=(R f+R g)/2
 sum:∀f g,f<32->g<32->kdT f g=3->R f≠NB->R g≠NB->R' (nmT f g)<=R f+R g
structure Un(R M:Nat->Int):Prop where
 dia:∀i,i<8->M (i*8+i)≠NB->2*R i<=M (i*8+i)
 off:∀i j,i<8->j<8->i≠j->j≠opp i->M (i*8+j)≠NB->R (nf i j)<=M (i*8+j)
 zer:∀i,i<8->0<=M (i*8+opp i)
theorem Un.rd{R R' M:Nat->Int}(h:Un R M)(hr:Ku R R'):Un R' M:=by
 refine⟨λi hi q=>?_,λi j hi d h1 h2 q=>?_,h.zer⟩
 .have:=h.dia i hi q;have:=hr.le i (by omega);omega
 .have:=h.off i j hi d h1 h2 q;have:=hr.le (nf i j) (DN i hi j d h2).1;omega
theorem Xz{i j:Nat}(hi:i<8)(h:j=opp i):i=opp j:=by rw[h,CL i hi]
theorem Un.chain{R R' N M:Nat->Int}{U:Int}{s:Nat}(hs:s<8)(hU:2*U<1000000)(aa:0<=U)(W:Bd U M)(E:M (s*8+opp s)=0)(h:Un R M)(h1:Ku R R')(h2:Ku R' N):Un N (E6 s M 64):=by
 have m:=Ah hs;have k:=CL s hs;have X:=KP s;have O:Un N M:=(h.rd h1).rd h2;have V:=h.rd h1;have one:∀i,i<8->M (i*8+i)≠NB->R i≠NB/\2*R i<=U:=by
  intro i hi q;have a:=h.dia i hi q;have b:=(W (i*8+i) (by omega)).resolve_left q;exact⟨by unfold NB;omega,by omega⟩
 have F:∀i,i<8->M (i*8+i)≠NB->R' i≠NB:=by
  intro i hi q;have a:=V.dia i hi q;have b:=(W (i*8+i) (by omega)).resolve_left q;unfold NB;omega
 have two:∀i j,i<8->j<8->i≠j->j≠opp i->M (i*8+j)≠NB->R (nf i j)≠NB/\R (nf i j)<=U:=by
  intro i j hi d e1 e2 q;have a:=h.off i j hi d e1 e2 q;have b:=(W (i*8+j) (by omega)).resolve_left q;exact⟨by unfold NB;omega,by omega⟩
 have le2:∀f,f<32->N f<=R' f:=h2.le;have C:∀i j,i<8->j<8->i≠s->j≠opp s->M (i*8+opp s)≠NB->M (s*8+j)≠NB->
   (j=opp i->0<=M (i*8+opp s)+M (s*8+j))/\(j=i->2*N i<=M (i*8+opp s)+M (s*8+j))/\(j≠i->j≠opp i->N (nf i j)<=M (i*8+opp s)+M (s*8+j)):=by
  intro i j hi d H o A B;by_cases D:i=opp s
  .subst D;by_cases n:j=s
   .subst n;obtain⟨u,Q⟩:=one (opp j) m A;obtain⟨l,p⟩:=one j hs B;have a:=h.dia (opp j) m A;have b:=h.dia j hs B;have z:=h1.zer (opp j) j (by omega) (by omega) ((OS (opp j) m j hs).1 k.symm) u l;exact⟨λ_=>by omega,λe=>absurd e.symm X,λ_ e=>absurd k.symm e⟩
   .have t:=WN s hs j d ⟨n,o⟩;obtain⟨u,Q⟩:=one (opp s) m A;obtain⟨l,p⟩:=two s j hs d (λe=>n e.symm) o B;have a:=h.dia (opp s) m A;have b:=h.off s j hs d (λe=>n e.symm) o B;have G:=(DN s hs j d o).1;have x:=h1.sum (opp s) (nf s j) (by omega) G t.1 u l;rw[t.2.1]at x;have Z:R' j≠NB:=by unfold NB;omega
    have y:=h2.sum (opp s) j (by omega) (by omega) ((OS (opp s) m j d).2 ⟨o,by rw[k];exact n⟩).1 (F (opp s) m A) Z;rw[((OS (opp s) m j d).2 ⟨o,by rw[k];exact n⟩).2]at y;have w:=h1.le (opp s) (by omega);exact⟨λe=>absurd (e.trans k) n,λe=>absurd e o,λ_ _=>by omega⟩
  .by_cases n:j=s
   .subst n;have I:opp j≠opp i:=by
     intro e;exact H (by rw[<-CL i hi,<-e,k])
    have n4:i≠opp (opp j):=by rw[k];exact H
    have t:=WN (opp j) m i hi ⟨D,n4⟩;rw[k]at t;obtain⟨u,Q⟩:=two i (opp j) hi m D I A;obtain⟨l,p⟩:=one j hs B;have a:=h.off i (opp j) hi m D I A;have b:=h.dia j hs B;have G:=(DN i hi (opp j) m I).1;have x:=h1.sum (nf i (opp j)) j G (by omega) t.2.2.1 u l;rw[t.2.2.2]at x;have Z:R' i≠NB:=by unfold NB;omega
    have Y:j≠opp i:=by
     intro e;exact D (Xz hi e)
    have y:=h2.sum i j (by omega) (by omega) ((OS i hi j d).2 ⟨λe=>H e.symm,Y⟩).1 Z (F j hs B);rw[((OS i hi j d).2 ⟨λe=>H e.symm,Y⟩).2]at y;have w:=h1.le j (by omega);exact⟨λe=>absurd e Y,λe=>absurd e.symm H,λ_ _=>by omega⟩
   .have t:=ZW i hi s hs j d ⟨H,D,n,o⟩;have I:opp s≠opp i:=by
     intro e;exact H (by rw[<-CL i hi,<-e,k])
    obtain⟨u,Q⟩:=two i (opp s) hi m D I A;obtain⟨l,p⟩:=two s j hs d (λe=>n e.symm) o B;have a:=h.off i (opp s) hi m D I A;have b:=h.off s j hs d (λe=>n e.symm) o B;have S:=(DN i hi (opp s) m I).1;have T:=(DN s hs j d o).1;refine⟨λe=>?_,λe=>?_,λe1 e2=>?_⟩
    .have:=h1.zer _ _ S T (t.1 e) u l;omega
    .have x:=h1.dou _ _ S T (t.2.1 e).1 u l;rw[(t.2.1 e).2]at x;have:=le2 i (by omega);omega
    .have x:=h1.sum _ _ S T (t.2.2 ⟨e1,e2⟩).1 u l;rw[(t.2.2 ⟨e1,e2⟩).2]at x;have:=le2 (nf i j) (DN i hi j d e2).1;omega
 refine⟨λi hi q=>?_,λi j hi d e1 e2 q=>?_,λi hi=>?_⟩
 .rw[DV hs E hi hi]at q|-;rcases PE q with⟨e,z⟩|⟨e,K,L⟩
  .rw[e];exact O.dia i hi z
  .rw[e];by_cases r:i=s
   .subst r;rw[E];have:=O.dia i hi L;omega
   .by_cases J:i=opp s
    .have:=(C i i hi hi r)
     subst J;rw[k]at *;have:=O.dia (opp s) m K;rw[show s*8+opp s=s*8+opp s from rfl,E];omega
    .exact(C i i hi hi r J K L).2.1 rfl
 .rw[DV hs E hi d]at q|-;rcases PE q with⟨e,z⟩|⟨e,K,L⟩
  .rw[e];exact O.off i j hi d e1 e2 z
  .rw[e];by_cases r:i=s
   .subst r;rw[E];have:=O.off i j hi d e1 e2 L;omega
   .by_cases J:j=opp s
    .subst J;rw[E];have:=O.off i (opp s) hi d e1 e2 K;omega
    .exact(C i j hi d r J K L).2.2 (λe=>e1 e.symm) e2
 .have P:=Ah hi;rw[DV hs E hi P];by_cases q:mn (M (i*8+opp i)) (pl (M (i*8+opp s)) (M (s*8+opp i)))=NB
  .rw[q];decide
  .rcases PE q with⟨e,z⟩|⟨e,K,L⟩
   .rw[e];exact h.zer i hi
   .rw[e];by_cases r:i=s
    .subst r;rw[E];exact bN _
    .have J:opp i≠opp s:=by
      intro e;exact r (by rw[<-CL i hi,e,k])
     exact(C i (opp i) hi P r J K L).1 rfl
theorem Vm{f g:Nat}{c:Int}(h:kdT f g=1):(c<0->CS (Ci f g) c=(-2,0))/\(¬c<0->CS (Ci f g) c=(-1,0)):=by
 have B:kd (Ci f g)=1:=h;unfold CS;rw[B];exact⟨λq=>bA ⟨rfl,q⟩,λq=>by rw[a_ (λz=>q z.2),a_ (by decide),a_ (by decide)]⟩
theorem Y1{f g:Nat}{c:Int}(d:f<32)(l:g<32)(h:kdT f g=2):CS (Ci f g) c=((nmT f g:Int),c/2):=by
 have B:kd (Ci f g)=2:=h;unfold CS;rw[B,a_ (λz=>absurd z.1 (by decide)),bA rfl,((Li f d g l).1 h).1]
theorem Y2{f g:Nat}{c:Int}(d:f<32)(l:g<32)(h:kdT f g=3):CS (Ci f g) c=((nmT f g:Int),c):=by
 have B:kd (Ci f g)=3:=h;unfold CS;rw[B,a_ (λz=>absurd z.1 (by decide)),a_ (by decide),bA rfl,((Li f d g l).2 h).1]
theorem Y0{f g:Nat}{c:Int}(h1:kdT f g≠1)(h2:kdT f g≠2)(h3:kdT f g≠3):CS (Ci f g) c=(-1,0):=by
 unfold CS;rw[a_ (λz=>h1 z.1),a_ (show¬kd (Ci f g)=2 from h2),a_ (show¬kd (Ci f g)=3 from h3)]
def Lw(R:Nat->Int)(b:Bool)(f g:Nat):Option ((Nat->Int)×Bool):=
 if R f=NB\/R g=NB then some (R,b)
 else if(CS (Ci f g) (R f+R g)).1= -2 then none
 else if 0<=(CS (Ci f g) (R f+R g)).1/\(CS (Ci f g) (R f+R g)).2<R (CS (Ci f g) (R f+R g)).1.toNat then some (Bw R (CS (Ci f g) (R f+R g)).1.toNat (CS (Ci f g) (R f+R g)).2,true)
 else some (R,b)
def rF(R:Nat->Int):Nat->Option ((Nat->Int)×Bool)
 |0=>some (R,false)
 |k+1=>match rF R k with
  |none=>none
  |some (R',b)=>Lw R' b (k/32) (k%32)
inductive Rs(R:Nat->Int)(b:Bool)(f g:Nat):Option ((Nat->Int)×Bool)->Prop
 |none:R f≠NB->R g≠NB->kdT f g=1->R f+R g<0->Rs R b f g none
 |same:(R f≠NB->R g≠NB->(kdT f g=1->0<=R f+R g)/\(kdT f g=2->R (nmT f g)<=(R f+R g)/2)/\(kdT f g=3->R (nmT f g)<=R f+R g))->Rs R b f g (some (R,b))
 |put (n:Nat) (c:Int):R f≠NB->R g≠NB->n<32->n=nmT f g->c<R n->(kdT f g=2/\c=(R f+R g)/2)\/(kdT f g=3/\c=R f+R g)->Rs R b f g (some (Bw R n c,true))
theorem Mp(R:Nat->Int)(b:Bool){f g:Nat}(d:f<32)(l:g<32):Rs R b f g (Lw R b f g):=by
 unfold Lw;by_cases q:R f=NB\/R g=NB
 .rw[bA q];exact .same λh1 h2=>absurd q (λz=>z.elim h1 h2)
 .rw[a_ q];have o:R f≠NB:=λz=>q (.inl z);have u:R g≠NB:=λz=>q (.inr z);by_cases v:kdT f g=1
  .by_cases c:R f+R g<0
   .rw[(Vm v).1 c,bA rfl];exact .none o u v c
   .rw[(Vm v).2 c,a_ (by decide),a_ (λz=>absurd z.1 (by decide))];exact .same λ_ _=>⟨λ_=>by omega,λz=>absurd (v.symm.trans z) (by decide),λz=>absurd (v.symm.trans z) (by decide)⟩
  .by_cases k2:kdT f g=2
   .rw[Y1 d l k2,a_ (by show¬((nmT f g:Nat):Int)= -2;omega)];show Rs R b f g (if 0<=((nmT f g:Nat):Int)/\(R f+R g)/2<R (((nmT f g:Nat):Int)).toNat then some (Bw R (((nmT f g:Nat):Int)).toNat ((R f+R g)/2),true)else some (R,b));rw[bK];by_cases c:(R f+R g)/2<R (nmT f g)
    .rw[bA ⟨by omega,c⟩];exact .put _ _ o u (by have:=((Li f d g l).1 k2).2;omega) rfl c (.inl ⟨k2,rfl⟩)
    .rw[a_ (λz=>c z.2)];exact .same λ_ _=>⟨λz=>absurd z v,λ_=>by omega,λz=>absurd (k2.symm.trans z) (by decide)⟩
   .by_cases w:kdT f g=3
    .rw[Y2 d l w,a_ (by show¬((nmT f g:Nat):Int)= -2;omega)];show Rs R b f g (if 0<=((nmT f g:Nat):Int)/\(R f+R g)<R (((nmT f g:Nat):Int)).toNat then some (Bw R (((nmT f g:Nat):Int)).toNat (R f+R g),true)else some (R,b));rw[bK];by_cases c:R f+R g<R (nmT f g)
     .rw[bA ⟨by omega,c⟩];exact .put _ _ o u ((Li f d g l).2 w).2 rfl c (.inr ⟨w,rfl⟩)
     .rw[a_ (λz=>c z.2)];exact .same λ_ _=>⟨λz=>absurd z v,λz=>absurd (w.symm.trans z) (by decide),λ_=>by omega⟩
    .rw[Y0 v k2 w,a_ (by decide),a_ (λz=>absurd z.1 (by decide))];exact .same λ_ _=>⟨λz=>absurd z v,λz=>absurd z k2,λz=>absurd z w⟩
structure RI(R:Nat->Int)(k:Nat)(R':Nat->Int)(b:Bool):Prop where
 le:∀f,f<32->R' f<=R f
 same:b=false->∀f,f<32->R' f=R f
 more:b=true->∃f,f<32/\R' f<R f
 done:∀m,m<k->R (m/32)≠NB->R (m%32)≠NB->(kdT (m/32) (m%32)=1->0<=R (m/32)+R (m%32))/\(kdT (m/32) (m%32)=2->R' (nmT (m/32) (m%32))<=(R (m/32)+R (m%32))/2)/\(kdT (m/32) (m%32)=3->R' (nmT (m/32) (m%32))<=R (m/32)+R (m%32))
theorem G_{f g:Nat}(d:f<32)(l:g<32)(h:kdT f g=2\/kdT f g=3):nmT f g<32:=by
 rcases h with h|h
 .have:=((Li f d g l).1 h).2;omega
 .exact((Li f d g l).2 h).2
theorem EW{R:Nat->Int}(L:∀f,f<32->R f<=NB):∀k,k<=1024->∀R' b,rF R k=some (R',b)->RI R k R' b:=by
 intro k;induction k with
 |zero=>
  intro _ R' b h;rw[rF]at h;cases h
  exact⟨λ_ _=>bN _,λ_ _ _=>rfl,λq=>Bool.noConfusion q,λm G=>by omega⟩
 |succ k ih=>
  intro hk R' b h;rw[rF]at h;generalize hp:rF R k=p at h
  match p,hp,h with
  |some (R1,A),hp,h=>
   have hi:=ih (by omega) R1 A hp;have d:k/32<32:=by omega
   have l:k%32<32:=by omega
   have s:=Mp R1 A d l;replace h:Lw R1 A (k/32) (k%32)=some (R',b):=h;rw[h]at s;have fin:∀f,f<32->R f≠NB->R1 f≠NB:=by
    intro f d q;have:=L f d;have:=hi.le f d;omega
   cases s with
   |same hs=>
    refine⟨hi.le,hi.same,hi.more,λm G o u=>?_⟩;rcases bX (ch.1 G)with e|e
    .exact hi.done m e o u
    .subst e;obtain⟨y,F,J⟩:=hs (fin _ d o) (fin _ l u);have S:=hi.le _ d;have V:=hi.le _ l;exact⟨λz=>by have:=y z;omega,λz=>by have:=F z;omega,λz=>by have:=J z;omega⟩
   |put n c o u hn en hc hk'=>
    have D:∀f,f<32->Bw R1 n c f<=R1 f:=by
     intro f d;unfold Bw;split
     .rename_i e;subst e;omega
     .exact bN _
    refine⟨λf d=>cd (D f d) (hi.le f d),λq=>Bool.noConfusion q,λ_=>⟨n,hn,?_⟩,λm G W X=>?_⟩
    .rw[CV];have:=hi.le n hn;omega
    .rcases bX (ch.1 G)with e|e
     .obtain⟨y,F,J⟩:=hi.done m e W X;refine⟨y,λz=>?_,λz=>?_⟩
      .exact cd (D _ (G_ (by omega) (by omega) (.inl z))) (F z)
      .exact cd (D _ (G_ (by omega) (by omega) (.inr z))) (J z)
     .subst e;have S:=hi.le _ d;have V:=hi.le _ l;rw[<-en,CV];rcases hk' with⟨k2,Q⟩|⟨w,Q⟩
      .exact⟨λz=>absurd (k2.symm.trans z) (by decide),λ_=>by omega,λz=>absurd (k2.symm.trans z) (by decide)⟩
      .exact⟨λz=>absurd (w.symm.trans z) (by decide),λz=>absurd (w.symm.trans z) (by decide),λ_=>by omega⟩
theorem T7{R R':Nat->Int}{b:Bool}(L:∀f,f<32->R f<=NB)(h:rF R 1024=some (R',b)):Ku R R':=by
 have hi:=EW L 1024 (bB _) R' b h;have N:∀f g,f<32->g<32->R f≠NB->R g≠NB->(kdT f g=1->0<=R f+R g)/\(kdT f g=2->R' (nmT f g)<=(R f+R g)/2)/\(kdT f g=3->R' (nmT f g)<=R f+R g):=by
  intro f g d l;have:=hi.done (f*32+g) (by omega);rw[show(f*32+g)/32=f by omega,show(f*32+g)%32=g by omega]at this;exact this
 exact⟨hi.le,λf g d l k o u=>(N f g d l o u).1 k,λf g d l k o u=>(N f g d l o u).2.1 k,λf g d l k o u=>(N f g d l o u).2.2 k⟩
theorem NI.rounds{M:Nat->Int}(h:NI M){R:Nat->Nat->Int}(hr:∀r,r<16->Ku (R r) (R (r+1)))(K:Un (R 0) M):∀s,s<=8->Ex M s/\Un (R (2*s)) (fw M s):=by
 intro s;induction s with
 |zero=>intro _;exact⟨λr hr=>by omega,K⟩
 |succ s ih=>
  intro hs;obtain⟨hx,H⟩:=ih (by omega);have hz:fw M s (s*8+opp s)=0:=by
   have a:=H.zer s (by omega);have b:=F8 M s (s*8+opp s);rw[h.zero s (by omega)]at b;omega
  refine⟨λr hr=>?_,?_⟩
  .rcases bX (ch.1 hr)with e|e
   .exact hx r e
   .rw[e];exact hz
  .rw[fw,show 2*(s+1)=2*s+1+1 by omega];exact H.chain (by omega) (U:=7*60000) (by decide) (by decide) (QU (by decide) (by decide) h.bd h.zero s (by omega) hx) hz (hr (2*s) (by omega)) (hr (2*s+1) (by omega))
theorem Un.sharp{R R' T:Nat->Int}(O:Bd 432000 T)(h:Un R T)(hr:Ku R R'):Un R' (Ea (Ef T 8) 64):=by
 have I:∀{i j:Nat},i<8->j<8->VP T (Ea (Ef T 8) 64 (i*8+j)) i j:=λhi E=>Ud (U:=432000) (by omega) O hi E;generalize Ea (Ef T 8) 64=C at I|-;have B:=h.rd hr;have one:∀i,i<8->ev (T (i*8+i))≠NB->R i≠NB/\2*R i<=ev (T (i*8+i)):=by
  intro i hi q;obtain⟨v,k2⟩:=S_ q;have a:=h.dia i hi v;have b:=(O (i*8+i) (by omega)).resolve_left v;rw[k2];exact⟨by unfold NB;omega,by omega⟩
 refine⟨λi hi q=>?_,λi j hi E e1 e2 q=>?_,λi hi=>?_⟩
 .rw[Ue (I hi hi)]at q|-;have:=(one i hi q).2;have:=hr.le i (by omega);omega
 .rcases(I hi E).cas with z|⟨_,z2,z3⟩|⟨z1,z2,z3⟩
  .exact absurd z q
  .rw[z2];exact B.off i j hi E e1 e2 z3
  .obtain⟨y,F⟩:=one i hi z1;obtain⟨A,P⟩:=one j E z2;have t:=(OS i hi j E).2 ⟨λe=>e1 e.symm,e2⟩;have x:=hr.sum i j (by omega) (by omega) t.1 y A;rw[t.2]at x;omega
 .rcases(I hi (Ah hi)).cas with z|⟨_,z2,z3⟩|⟨z1,z2,z3⟩
  .rw[z];decide
  .rw[z2];exact h.zer i hi
  .obtain⟨y,F⟩:=one i hi z1;obtain⟨A,P⟩:=one (opp i) (Ah hi) z2;have x:=hr.zer i (opp i) (by omega) (by have:=Ah hi;omega) ((OS i hi (opp i) (Ah hi)).1 rfl) y A;omega
theorem NI.rounds17{M:Nat->Int}(h:NI M){R:Nat->Nat->Int}(hr:∀r,r<17->Ku (R r) (R (r+1)))(K:Un (R 0) M):Un (R 17) (Aj M):=by
 obtain⟨hx,H⟩:=h.rounds (λr aa=>hr r (by omega)) K 8 (bB _);exact H.sharp ((QU (by decide) (by decide) h.bd h.zero 8 (bB _) hx).mono (by decide)) (hr 16 (by omega))
end Go.Proofs.YtffajooegiempaaGreatDoor
