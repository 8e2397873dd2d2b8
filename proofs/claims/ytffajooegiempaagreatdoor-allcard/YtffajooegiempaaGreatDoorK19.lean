import Derived.Test.YtffajooegiempaaGreatDoorK18
set_option maxRecDepth 100000
set_option maxHeartbeats 6400000
namespace Go.Proofs.YtffajooegiempaaGreatDoor
open Go.RowKit Go.Proofs.Tryz
variable {F:List Ds}{S:List St}
theorem CO{α:Type}{l:List α}{i:Nat}{x d:α}(h:l[i]?=some x):l.getD i d=x:=by rw[bG,h];rfl
theorem JK{p b fr:Int}:∀(l:List Ds)(i j:Nat)(x:Ds),l[j]?=some x->fr<=((i+j:Nat):Int)->x.parent=p->x.block=b->(∀k y,k<j->l[k]?=some y->fr<=((i+k:Nat):Int)->¬(y.parent=p/\y.block=b))->CR p b fr l i=((i+j:Nat):Int):=by
 intro l;induction l with
 |nil=>intro i j x h;simp at h
 |cons y l ih=>
  intro i j x h J N hb D;cases j with
  |zero=>
   simp at h;subst h;simp only[CR];rw[bA ⟨by simpa using J,N,hb⟩];rfl
  |succ j=>
   simp only[CR]
   rw[a_ (by
    rintro⟨h1,h2⟩
    exact D 0 y (by omega) rfl (by simpa using h1) h2)]
   rw[ih (i+1) j x (by simpa using h) (by rw[show i+1+j=i+(j+1) by omega];exact J) N hb (λk z hk hz K=>D (k+1) z (by omega) (by simpa using hz) (by rw[show i+(k+1)=i+1+k by omega];exact K))];rw[show i+1+j=i+(j+1) by omega]
theorem IP{p b fr:Int}:∀(l:List Ds)(i:Nat),(∀k y,l[k]?=some y->fr<=((i+k:Nat):Int)->¬(y.parent=p/\y.block=b))->CR p b fr l i= -1:=by
 intro l;induction l with
 |nil=>intro i _;rfl
 |cons y l ih=>
  intro i D;simp only[CR]
  rw[a_ (by
   rintro⟨h1,h2⟩
   exact D 0 y rfl (by simpa using h1) h2)]
  exact ih (i+1) (λk z hz K=>D (k+1) z (by simpa using hz) (by rw[show i+(k+1)=i+1+k by omega];exact K))
theorem MV{i q:Nat}:∀(k:Nat),q<k->i<(S.getD q AY).fin->(∀j,q<j->j<k->(S.getD j AY).fin<=i)->Ay S i k=q:=by
 intro k;induction k with
 |zero=>intro h;omega
 |succ k ih=>
  intro h1 h2 h3;unfold Ay;by_cases e:q=k
  .subst e;rw[bA h2]
  .rw[a_ (by have:=h3 k (by omega) (by omega);omega)];exact ih (by omega) h2 (λj hj ar=>h3 j hj (by omega))
theorem LA{i:Nat}:∀(k:Nat),(∀j,j<k->(S.getD j AY).fin<=i)->Ay S i k= -1:=by
 intro k;induction k with
 |zero=>intro _;rfl
 |succ k ih=>
  intro h;unfold Ay;rw[a_ (by have:=h k (by omega);omega)];exact ih (λj hj=>h j (by omega))
theorem E7.par{g:Nat}{p b:Int}{a e:Nat}(h:E7 F S (E1 F S g) p b a e)(j:Nat)(h1:a<j)(h2:j<e):∃x,F[j]?=some x/\(a:Int)<=x.parent:=by
 obtain⟨x,u,hx,G,N,hb,J,I,hk⟩:=h;rcases hk with⟨_,hk⟩|⟨_,hk⟩|⟨_,q1,q2,A,L⟩
 .omega
 .obtain⟨y,f,h3⟩:=hk.par j (by omega) h2;exact⟨y,f,by rcases h3 with⟨h3,_⟩|h3<;>omega⟩
 .by_cases af:j<u.mid
  .obtain⟨y,f,h3⟩:=A.par j (by omega) af;exact⟨y,f,by rcases h3 with⟨h3,_⟩|h3<;>omega⟩
  .obtain⟨y,f,h3⟩:=L.par j (by omega) h2;exact⟨y,f,by rcases h3 with⟨h3,_⟩|h3<;>omega⟩
theorem SF.det{p b:Int}{a c a' c':Nat}(h:SF F S p b a c)(k:SF F S p b a' c'):a=a'/\c=c':=by
 rcases h with⟨h1,h2,h3,h4⟩|⟨q,x,u,h1,hx,G,h2⟩
 .rcases k with⟨k1,k2,k3,k4⟩|⟨q',x',u',k1,kx,ku,k2⟩
  .exact⟨by omega,by omega⟩
  .omega
 .rcases k with⟨k1,k2,k3,k4⟩|⟨q',x',u',k1,kx,ku,k2⟩
  .omega
  .have e:q=q':=by omega
   subst e;rw[hx]at kx;rw[G]at ku;cases kx
   cases ku
   rcases h2 with h2|h2|h2<;>rcases k2 with k2|k2|k2<;>omega
theorem Bj.at_(h:Bj F S)(i:Nat)(hi:i<F.length):∃x u r c0 g,F[i]?=some x/\S[i]?=some u/\OX x u/\r<=i/\i<u.fin/\u.fin<=c0/\SF F S x.parent x.block r c0/\
  E7 F S (E1 F S g) x.parent x.block i u.fin/\E1 F S g x.parent x.block u.fin c0/\(∀k,r<=k->k<i->(S.getD k AY).fin<=i):=by
 obtain⟨x,r,c0,hx,P,hc,w,g,hg⟩:=h.pos i hi;obtain⟨h1,g',e,he,hs,hr⟩:=hg.at_ w.lt i x P hc hx rfl;obtain⟨y,u,f,G,N,hb,J,I,hk⟩:=hs;rw[hx]at f;cases f
 subst J
 exact⟨x,u,r,c0,g',hx,G,h.1.cor i x u hx G,P,I,he,w,⟨x,u,hx,G,N,hb,rfl,I,hk⟩,hr,λk A L=>by
  obtain⟨v,H,aj⟩:=h1 k A L
  rw[CO H];exact aj⟩
theorem Bj.first(h:Bj F S){i:Nat}{x:Ds}{u:St}{r c0 g:Nat}(_hx:F[i]?=some x)(P:r<=i)(T:u.fin<=c0)(U:i<u.fin)(w:SF F S x.parent x.block r c0)(hs:E7 F S (E1 F S g) x.parent x.block i u.fin)(hr:E1 F S g x.parent x.block u.fin c0):
  Bu F x.parent x.block (i+1)=if u.fin<c0 then(u.fin:Int)else -1:=by
 have an:=w.lt;have V:∀k y,i<k->k<u.fin->F[k]?=some y->¬(y.parent=x.parent/\y.block=x.block):=by
  rintro k y h1 h2 f ⟨h3,_⟩;obtain⟨z,hz,h4⟩:=hs.par k h1 h2;rw[f]at hz;cases hz
  omega
 by_cases m:u.fin<c0
 .rw[bA m];obtain⟨y,f,ab⟩:∃y,F[u.fin]?=some y/\y.parent=x.parent/\y.block=x.block:=by
   cases g with
   |zero=>have s:u.fin=c0:=hr;omega
   |succ g=>
    rcases hr with hr|⟨e,he,ah,_⟩
    .omega
    .obtain⟨y,v,f,_,N,hb,_⟩:=ah;exact⟨y,f,N,hb⟩
  have:=JK (p:=x.parent) (b:=x.block) (fr:=(i:Int)+1) F 0 u.fin y f (by omega) ab.1 ab.2 (λk z hk hz J=>V k z (by omega) hk hz);rw[cU]at this;exact this
 .rw[a_ m];refine IP F 0 (λk y f J hm=>?_);have hk:k<F.length:=by
   rcases bW k F.length with s|s
   .exact s
   .simp[bO s]at f
  obtain⟨z,a1,c1,hz,_,av,Q,_⟩:=h.pos k hk;rw[f]at hz;cases hz
  rw[hm.1,hm.2]at Q;have:=w.det Q;exact V k y (by omega) (by omega) f hm
theorem Bj.open_(h:Bj F S){i:Nat}(_hi:i<F.length){x:Ds}{r c0:Nat}(w:SF F S x.parent x.block r c0)(ap:i<c0)(ao:r<=i)(hk:∀k,r<=k->k<i->(S.getD k AY).fin<=i):Ay S i i=x.parent:=by
 rcases w with⟨h1,h2,h3,h4⟩|⟨q,y,v,h1,f,H,h2⟩
 .rw[h1];exact LA i (λj hj=>hk j (by omega) hj)
 .rw[h1];have hq:q<F.length:=by
   rcases bW q F.length with s|s
   .exact s
   .simp[bO s]at f
  have O:S.getD q AY=v:=CO H;obtain⟨y',v',a1,c1,g1,Z,X,_,_,aw,_,_,hs,_,_⟩:=h.at_ q hq;rw[f]at Z;rw[H]at X;cases Z
  cases X
  refine MV i (by rcases h2 with h2|h2|h2<;>omega) (by rw[O];rcases h2 with h2|h2|h2<;>omega) (λj aq ac=>?_);by_cases ad:r<=j
  .exact hk j ad ac
  .obtain⟨y2,v2,aa,Y,_,_,_,_,ag⟩:=hs;rw[f]at aa;rw[H]at Y;cases aa
   cases Y
   rcases ag with⟨au,_⟩|⟨B,_⟩|⟨_,q1,q2,A,_⟩
   .rcases h2 with h2|h2|h2<;>omega
   .rcases h2 with h2|h2|h2<;>omega
   .have ae:j<v.mid:=by rcases h2 with h2|h2|h2<;>omega
    obtain⟨t,ht,_,ay⟩:=A.fins j (by omega) ae;rw[CO ht];rcases h2 with h2|h2|h2<;>omega
theorem Nl(h:Bj F S):∀(n i:Nat),i<F.length->i<n->BX F n i=Bx S n i:=by
 intro n;induction n with
 |zero=>intro i _ hi;omega
 |succ n ih=>
  intro i hi hn;obtain⟨x,u,r,c0,g,hx,G,am,P,U,T,w,hs,hr,hk⟩:=h.at_ i hi;have ak:F.getD i (AC 0 0)=x:=CO hx;have ai:S.getD i AY=u:=CO G;have E:=h.first hx P T U w hs hr;have M:=h.open_ hi w (by omega) P hk;have e1:BX F (n+1) i=if Bu F x.parent x.block (i+1)≠ -1 then Bu F x.parent x.block (i+1)else if DU F x.parent=true then x.parent else BX F n x.parent:=by
   rw[BX,a_ (by omega)];simp only[bK];rw[ak]
  have e2:Bx S (n+1) i=if x.parent<0 then(u.fin:Int)else if u.fin<G6 (S.getD x.parent.toNat AY) i then(u.fin:Int)else if(S.getD x.parent.toNat AY).kind=64 then x.parent else Bx S n x.parent.toNat:=by
   rw[Bx,M,ai]
  rw[e1,e2,E];rcases w with⟨h1,h2,h3,h4⟩|⟨q,y,v,h1,f,H,h2⟩
  .rw[h1,bA (by decide:(-1:Int)<0)];by_cases m:u.fin<c0
   .rw[bA m,bA (show((u.fin:Int)≠ -1) by omega)]
   .rw[a_ m,a_ (show¬((-1:Int)≠ -1) by decide),a_ (show¬(DU F (-1)=true) by simp[DU])];cases n with
    |zero=>show(F.length:Int)=_;omega
    |succ n=>rw[BX,bA (.inl (by decide))];omega
  .have al:F.getD q (AC 0 0)=y:=CO f;have O:S.getD q AY=v:=CO H;have hq:q<F.length:=by
    rcases bW q F.length with s|s
    .exact s
    .simp[bO s]at f
   have o:=h.1.cor q y v f H;rw[h1,a_ (show¬((q:Int)<0) by omega)];simp only[bK];rw[O];have R:G6 v i=c0:=by
    unfold G6;rcases h2 with⟨k3,_,_,hc⟩|⟨k2,_,_,hc,_⟩|⟨k2,_,hm,hc,_⟩
    .rw[a_ (by rw[o.1,k3];rintro⟨e,_⟩;exact absurd e (by decide))];exact hc.symm
    .rw[bA ⟨by rw[o.1,k2];rfl,by omega⟩];exact hc.symm
    .rw[a_ (by omega)];exact hc.symm
   rw[R];by_cases m:u.fin<c0
   .rw[bA m,bA (show((u.fin:Int)≠ -1) by omega),bA m]
   .rw[a_ m,a_ (show¬((-1:Int)≠ -1) by decide),a_ m];have ax:q<i:=by rcases h2 with h2|h2|h2<;>omega
    have W:DU F q=decide (y.kind=3):=by
     have e:(F.getD ((q:Int)).toNat (AC 0 0)).kind=y.kind:=by rw[bK,al]
     unfold DU;simp only[e];rw[cC (show(0:Int)<=q by omega),cC (show(q:Int)<F.length by omega)];rfl
    have C:v.kind=64↔y.kind=3:=by
     rw[o.1];rcases h2 with h2|h2|h2
     .rw[h2.1];decide
     .rw[h2.1];decide
     .rw[h2.1];decide
    rw[W];by_cases B:y.kind=3
    .rw[bA (by simp[B]),bA (C.2 B)]
    .rw[a_ (by simp[B]),a_ (λe=>B (C.1 e))];exact ih q hq (by omega)
theorem Bj.par(h:Bj F S)(k:Nat)(x:Ds)(hx:F[k]?=some x): -1<=x.parent/\x.parent<(k:Int):=by
 have hk:k<F.length:=by
  rcases bW k F.length with w|w
  .exact w
  .simp[bO w]at hx
 obtain⟨y,a0,c0,t,ha,_,B,_⟩:=h.pos k hk;rw[hx]at t;cases t
 have j:=B.lt;rcases B with⟨h1,_⟩|⟨q,_,_,h1,_⟩<;>omega
theorem Bj.inner(h:Bj F S){i:Nat}{b:Int}{a c g:Nat}(B:SF F S i b a c)(C:E1 F S g i b a c):Bu F i b ((i:Int)+1)=if a<c then(a:Int)else -1:=by
 have ab:(i:Int)<a:=B.lt;have K:∀(k:Nat)(y:Ds),F[k]?=some y->y.parent=(i:Int)->y.block=b->a<=k/\k<c:=by
  intro k y t W hb;have hk:k<F.length:=by
   rcases bW k F.length with w|w
   .exact w
   .simp[bO w]at t
  obtain⟨z,a1,c1,hz,h1,h2,D,_⟩:=h.pos k hk;rw[t]at hz;cases hz
  rw[W,hb]at D;have:=B.det D;omega
 by_cases j:a<c
 .rw[bA j];obtain⟨y,t,Q⟩:∃y,F[a]?=some y/\y.parent=i/\y.block=b:=by
   cases g with
   |zero=>have w:a=c:=C;omega
   |succ g=>
    rcases C with C|⟨e,he,X,_⟩
    .omega
    .obtain⟨y,v,t,_,W,hb,_⟩:=X;exact⟨y,t,W,hb⟩
  have:=JK (p:=i) (b:=b) (fr:=(i:Int)+1) F 0 a y t (by omega) Q.1 Q.2 (λk z hk hz _ J=>by have:=K k z hz J.1 J.2;omega);rw[cU]at this;exact this
 .rw[a_ j];refine IP F 0 (λk y t _ J=>?_);have:=K k y t J.1 J.2;omega
theorem FX(h:Bj F S)(hl:F.length<=20)(k:Nat)(hk:k<F.length)(d:Int):
  Ap F k d=if d<0\/DE (S.getD k AY)<=d then(0,2)else(BZ S k d,0):=by
 obtain⟨x,u,a0,c0,g,hx,L,E,ha,ac,aa,B,hs,hr,ad⟩:=h.at_ k hk;have Y:F.getD k (AC 0 0)=x:=CO hx;have O:S.getD k AY=u:=CO L;have G:=Nl h 21 k hk (by omega);have e1:Ap F k d=if d<0\/Ae x.kind<=d then(0,2)else if An x.kind<=d then(BX F 21 k,0)else if Bu F k d ((k:Int)+1)≠ -1 then(Bu F k d ((k:Int)+1),0)else if x.kind=3 then((k:Int),0)else(BX F 21 k,0):=by
  unfold Ap;rw[a_ (by omega),bK,Y]
 have e2:BZ S k d=if u.kind=61\/u.kind=33\/(u.kind=64/\d=1)then Bx S 21 k else if u.kind=64/\u.fin=k+1 then(k:Int)else if u.kind=64 then(k:Int)+1 else if d=0/\k+1<u.mid then(k:Int)+1 else if d=1/\u.mid<u.fin then(u.mid:Int)else Bx S 21 k:=by
  unfold BZ;simp only[O]
 rw[e1,O,e2,G];obtain⟨x',u',P,M,_,_,_,_,V⟩:=hs;rw[hx]at P;rw[L]at M;cases P
 cases M
 have l:=E.1;rcases V with⟨n,_⟩|⟨r,C⟩|⟨o,q1,q2,R,T⟩
 .have A:u.kind=61\/u.kind=33:=by
   rcases n with e|e
   .left;rw[l,e];rfl
   .right;rw[l,e];rfl
  have s:Ae x.kind=1/\DE u=1/\An x.kind=0:=by
   refine⟨?_,?_,?_⟩
   .rcases n with e|e<;>rw[e]<;>decide
   .unfold DE;rw[bA A]
   .rcases n with e|e<;>rw[e]<;>decide
  rw[s.1,s.2.1,s.2.2];by_cases f:d<0\/(1:Int)<=d
  .rw[bA f,bA f]
  .rw[a_ f,a_ f,bA (show(0:Int)<=d by omega),bA (show u.kind=61\/u.kind=33\/(u.kind=64/\d=1)from A.elim .inl (λe=>.inr (.inl e)))]
 .have m:u.kind=64:=by rw[l,r];rfl
  have s:Ae x.kind=2/\DE u=2/\An x.kind=1:=by
   refine⟨by rw[r];decide,?_,by rw[r];decide⟩;unfold DE;rw[m];decide
  rw[s.1,s.2.1,s.2.2];by_cases f:d<0\/(2:Int)<=d
  .rw[bA f,bA f]
  .rw[a_ f,a_ f];have U:=h.inner (b:=0) (.inr ⟨k,x,u,rfl,hx,L,.inl ⟨r,rfl,rfl,rfl⟩⟩) C;by_cases w1:d=1
   .rw[bA (show(1:Int)<=d by omega),bA (show u.kind=61\/u.kind=33\/(u.kind=64/\d=1)from .inr (.inr ⟨m,w1⟩))]
   .have Z:d=0:=by omega
    subst Z;rw[a_ (show¬(1:Int)<=0 by decide),U,a_ (show¬(u.kind=61\/u.kind=33\/(u.kind=64/\(0:Int)=1)) by rw[m];decide)];by_cases j:k+1<u.fin
    .rw[bA j,bA (show((k+1:Nat):Int)≠ -1 by omega),a_ (show¬(u.kind=64/\u.fin=k+1) by omega),bA m];rfl
    .rw[a_ j,a_ (show¬((-1:Int)≠ -1) by decide),bA r,bA (show u.kind=64/\u.fin=k+1 from⟨m,by omega⟩)]
 .have N:u.kind=63:=by rw[l,o];rfl
  have s:Ae x.kind=2/\DE u=2/\An x.kind=2:=by
   refine⟨by rw[o];decide,?_,by rw[o];decide⟩;unfold DE;rw[N];decide
  rw[s.1,s.2.1,s.2.2];by_cases f:d<0\/(2:Int)<=d
  .rw[bA f,bA f]
  .rw[a_ f,a_ f,a_ (show¬(2:Int)<=d by omega)];have n1:¬(u.kind=61\/u.kind=33\/(u.kind=64/\d=1)):=by omega
   have n2:¬(u.kind=64/\u.fin=k+1):=by omega
   have n3:¬u.kind=64:=by omega
   have n4:¬x.kind=3:=by omega
   rw[a_ n1,a_ n2,a_ n3];have H:=h.inner (b:=0) (.inr ⟨k,x,u,rfl,hx,L,.inr (.inl ⟨o,rfl,rfl,rfl,q2⟩)⟩) R;have I:=h.inner (b:=1) (.inr ⟨k,x,u,rfl,hx,L,.inr (.inr ⟨o,rfl,rfl,rfl,q1⟩)⟩) T;by_cases Z:d=0
   .subst Z;rw[H];by_cases j:k+1<u.mid
    .rw[bA j,bA (show((k+1:Nat):Int)≠ -1 by omega),bA (show(0:Int)=0/\k+1<u.mid from⟨rfl,j⟩)];rfl
    .rw[a_ j,a_ (show¬((-1:Int)≠ -1) by decide),a_ n4,a_ (show¬((0:Int)=0/\k+1<u.mid)from λe=>j e.2),a_ (show¬((0:Int)=1/\u.mid<u.fin)from λe=>absurd e.1 (by decide))]
   .have w1:d=1:=by omega
    subst w1;rw[I,a_ (show¬((1:Int)=0/\k+1<u.mid)from λe=>absurd e.1 (by decide))];by_cases j:u.mid<u.fin
    .rw[bA j,bA (show((u.mid:Nat):Int)≠ -1 by omega),bA (show(1:Int)=1/\u.mid<u.fin from⟨rfl,j⟩)]
    .rw[a_ j,a_ (show¬((-1:Int)≠ -1) by decide),a_ n4,a_ (show¬((1:Int)=1/\u.mid<u.fin)from λe=>j e.2)]
theorem BU(s:ByteArray)(aa:s.size<=160):(BP s=false/\AV (AA s)=none)\/∃m,BP s=true/\AV (AA s)=some m/\Bj (AI s).2 m.st:=by
 have hl:=AR s;have a:=I9 s;rcases Lr s with i|⟨m,c,k,ac⟩
 .left
  have b:BP s=false:=by unfold BP;rw[i.st];rfl
  refine⟨b,?_⟩;cases h:AV (AA s)with
  |none=>rfl
  |some m=>
   exfalso;have e:=(Au h).2.2.2;rw[<-a]at e;unfold DX at e;rw[a_ (by omega),b]at e;simp at e
 .by_cases ab:(AI s).1.1<s.size
  .left
   have b:BP s=false:=by unfold BP;rw[c.sync.ns];simp;omega
   refine⟨b,?_⟩;cases h:AV (AA s)with
   |none=>rfl
   |some m=>
    exfalso;have e:=(Au h).2.2.2;rw[<-a]at e;unfold DX at e;rw[a_ (by omega),b]at e;simp at e
  .right
   have b:BP s=true:=by unfold BP;rw[c.sync.ns];simp;omega
   have d:=c.sync.fd;have j:(AI s).1.1=s.size:=by have:=c.sync.le;omega
   rw[j,Kf]at d;refine⟨m,b,?_,c.cor,k⟩;have g:m.op=[]:=c.op;unfold AV;rw[a_ (by omega),EH (n:=0) d];have f:BS m=true:=by unfold BS;rw[c.st,g];rfl
   simp[f]
variable {w:World}
theorem X0{l:List Int}(ho:B_ l):Sm (BT l):=Sa (Qh l 32 ho.2) 64 (bB _)
theorem Lq{v:Value}{l:List Int}(m:Cr w)(O:B_ l)(C:AQ w v l):SH w v (ovE l) (BT l) 0:=λ_ hb=>Fb (m.keep hb m.size) v l O (C.keep hb)
theorem OJ{v:Value}{l:List Int}(m:Cr w)(O:¬B_ l)(C:AQ w v l):SH w v false (λ_=>0) 3:=λd hb=>(Xx (m.keep hb m.size) v l (C.keep hb)).mono λe w' h=>⟨by
 rcases h.2 with⟨h',_⟩|⟨_,h'⟩
 .exact absurd h' O
 .exact h',h.1⟩
theorem AQ.isSlice{v:Value}{l:List Int}(h:AQ w v l):∃a n k,v=.slice a n k:=by
 obtain⟨X,cap,rfl, -, -⟩:=h;exact⟨_,_,_,rfl⟩
theorem AQ.lent{l:List Int}{g:Nat}(h:At w g (AJ l) tN):AQ w (.slice (some ⟨g,0,none⟩) l.length (l.length+2)) l:=by
 have:=h.lt;refine⟨_,_,rfl,by omega,λ_=>⟨g,0,rfl,this,λi hi=>?_⟩⟩;rw[cU,h.cell];unfold AJ;rw[Aa _ _ (by simp;omega)];simp[List.getD,bU hi]
theorem P0(u:Value)(M:Nat->Int)(e1:Bool)(c:Int)(hc:c≠0)(hr:SH w u e1 M c)(Q:∃a n k,u=.slice a n k):
  Calls prog 35 #[u] w λx w'=>dc w w'/\x=.returned (.tuple #[.slice none 0 0,.int .i64 c]):=by
 have hz:=Bn;have ad:=hr w (bC _ _);have af:(c != 0)=true:=by rw[cI];exact hc
 obtain⟨au,nu,cu,rfl⟩:=Q;clear hr hc;go_enter func35,ntmps35;go_wp2_with fail;refine ad.mono ?_;rintro e d ⟨rfl,b⟩;obtain⟨o,ae,T,j,W⟩:=Bb d e1 M;have H2:Hid (dc w o):=b.trans (j.mono b.size);clear b T j;go_wp2_with fail
 go_ret2
 exact⟨H2.out,rfl⟩
theorem OU(m:Cr w)(u:Value)(l:List Int)(Q:AQ w u l):Calls prog 35 #[u] w (L5 w l):=by
 by_cases f:B_ l
 .exact(Wc m u (Lq m f Q) (X0 f) Q.isSlice).mono λe w' h=>.inl ⟨f,h⟩
 .exact(P0 u _ _ 3 (by decide) (OJ m f Q) Q.isSlice).mono λe w' h=>.inr ⟨f,h⟩
theorem BJ(M:Nat->Int):(Bl M).length=32:=by simp[Bl]
theorem Fs{d o p:World}{e:Bool}{M:Nat->Int}{y z:Value}(h1:BF d e M (.returned y) o)(h2:BF o e M (.returned z) p):
  Calls prog 33 #[y,z] p λx w'=>x=.returned (.bool true)/\Below d.heap.size p w':=by
 obtain⟨b,h1⟩:=h1;obtain⟨j,h2⟩:=h2;rcases h1 with⟨e1,h1⟩|⟨e1,g,h1,hg,ha⟩
 .rcases h2 with⟨e2,h2⟩|⟨e2,_⟩
  .cases h1
   cases h2
   refine(Dr p).mono ?_;rintro x w' ⟨rfl,k,rfl⟩;exact⟨rfl,bD (bC _ _) k⟩
  .rw[e1]at e2;cases e2
 .rcases h2 with⟨e2,h2⟩|⟨e2,q,h2,hq,ac⟩
  .rw[e1]at e2;cases e2
  .cases h1
   cases h2
   have O:=BJ M;have:=Nu p g 32 (.slice (some ⟨q,0,none⟩) 32 32) (Bl M) (ic (Bl M)) (ha.keep j ha.lt) (by rw[Qc,O]) (by omega) (by omega) (λi hi=>Aa _ _ hi) (AQ.at_ ac O (bB _) (λi hi=>Aa _ _ (by omega))) (by intro n k e;cases e);rw[O]at this;exact this.mono λx w' h=>⟨h.1,h.2.mono hg⟩
theorem Nb(m:Cr w)(v:Value)(L:List Int)(hL:L.length<=maxLen)(C:AQ w v L):
  Calls prog 12 #[v] w λe w'=>e=.returned (.bool true)/\dc w w':=by
 unfold maxLen at hL;by_cases U:1073741824<L.length
 .obtain⟨X,cap,rfl, -, -⟩:=C;have ab:(1073741824:Int)<(L.length:Int):=by omega
  clear m;go_enter func12,ntmps12;go_wp2_with fail;go_ret;exact⟨rfl,bC _ _⟩
 have A:L.length<=1073741824:=by omega
 have ab:¬(1073741824:Int)<(L.length:Int):=by omega
 have s:=I1 w v L A C;have HV:Hid (AQ w v L):=C;have Y:Hid (∀d,dc w d->At d w.heap.size (AJ L) tN->Calls prog 35 #[.slice (some ⟨w.heap.size,0,none⟩) L.length (L.length+2)] d (L5 d L)):=λd b aa=>OU (m.keep b m.size) _ L (AQ.lent aa);have D:Hid (∀d,dc w d->Calls prog 36 #[v] d (L5 d L)):=λd b=>WE v L A (HV.out.keep b);obtain⟨X,cap,rfl, -, -⟩:=id C;clear C hL U m;go_enter func12,ntmps12;go_wp2_with fail;refine s.mono ?_;rintro e d ⟨rfl,b,E,V⟩;have J:Hid (dc w d):=b;have G:Hid (At d w.heap.size (AJ L) tN):=E;clear b E s;go_wp2_with fail;refine(Y.out d J.out G.out).mono ?_;rintro e o (⟨f,y,R,rfl⟩|⟨B,j,rfl⟩)
 .have Z:Hid (B_ L):=f;have r:Hid (dc w o):=J.out.trans (R.1.mono (by omega));have H:Hid (At o w.heap.size (AJ L) tN):=G.out.keep R.1 V;have W:d.heap.size<=o.heap.size:=R.1.size;obtain⟨y',e',a,n,c,rfl⟩:=R.val;cases e'
  have HY:Hid (BF d (ovE L) (BT L) (.returned (.slice a n c)) o):=R;clear R f;go_wp2_with fail;refine(D.out o r.out).mono ?_;rintro e p (⟨-,z,hz,rfl⟩|⟨B, -, -⟩)
  .have t:Hid (dc w p):=r.out.trans (hz.1.mono (by omega));have I:Hid (At p w.heap.size (AJ L) tN):=H.out.keep hz.1 (by omega);have F:=Fs HY.out hz;obtain⟨z',e',a',n',c',rfl⟩:=hz.val;cases e'
   clear hz;go_wp2_with fail;refine F.mono ?_;rintro e w4 ⟨rfl,N⟩;have S:Hid (dc w w4):=t.out.trans (N.mono (by omega));have P:=Dt w4 w.heap.size (.slice X L.length cap) L A (I.out.keep N (by omega)) (HV.out.keep S.out);clear N F;go_wp2_with fail;refine P.mono ?_;rintro e w5 ⟨rfl,k',rfl⟩;go_wp2_with fail;go_ret;exact⟨rfl,bD S.out k'⟩
  .exact absurd Z.out B
 .have Z:Hid (¬B_ L):=B;have r:Hid (dc w o):=J.out.trans (j.mono (by omega));have H:Hid (At o w.heap.size (AJ L) tN):=G.out.keep j V;have W:d.heap.size<=o.heap.size:=j.size;clear j B;go_wp2_with fail;refine(D.out o r.out).mono ?_;rintro e p (⟨f, -⟩|⟨-,K,rfl⟩)
  .exact absurd f Z.out
  .have t:Hid (dc w p):=r.out.trans (K.mono (by omega));have I:Hid (At p w.heap.size (AJ L) tN):=H.out.keep K (by omega);clear K;go_wp2_with fail;refine(Dr p).mono ?_;rintro e w4 ⟨rfl,k,rfl⟩;have P:=Dt (p.drewN k) w.heap.size (.slice X L.length cap) L A (I.out.drewN k) (HV.out.keep (bD t.out k));go_wp2_with fail;refine P.mono ?_;rintro e w5 ⟨rfl,k',rfl⟩;go_wp2_with fail;go_ret;exact⟨rfl,bD t.out (k+k')⟩
def FH(s:ByteArray)(p:Int)(o:List Int):Bool×Int:=
 match AV (AA s)with
 |none=>(false,1)
 |some m=>if p<0\/(m.st.length:Int)<=p then(false,2)else if FM o=true then(DF (ovE o) (BT o) ((AI s).2.getD p.toNat (AC 0 0)),0)else(false,3)
def bi(x:Bool×Int):Ending:=.returned (.tuple #[.bool x.1,.int .i64 x.2])
structure SI(u:St):Prop where
 len:u.sg.length=4
 sg:∀i, -1<=AK u.sg i/\AK u.sg i<=1
 num: -99<=u.num/\u.num<=99
 nz:nz u.sg<=2
theorem YO:SI AY:=⟨rfl,λi=>by
 rcases(show i=0\/i=1\/i=2\/i=3\/4<=i by omega)with rfl|rfl|rfl|rfl|h4
 .exact⟨by decide,by decide⟩
 .exact⟨by decide,by decide⟩
 .exact⟨by decide,by decide⟩
 .exact⟨by decide,by decide⟩
 .have:AK AY.sg i=0:=by unfold AK AY;rw[bG,bO (by simp;omega)];rfl
  omega,by decide,by decide⟩
theorem Ga{l:List Int}{m:Rd}(G:AV l=some m)(k:Nat):SI (m.st.getD k AY):=by
 obtain⟨_,⟨n,hr⟩,_,_⟩:=Au G;obtain⟨L,ok⟩:=MR (m:=CY) (m':=m) (λs hs=>absurd hs (by simp[CY])) Ok.init hr;have hc:=Vg (m:=CY) (m':=m) ⟨λs hs=>absurd hs (by simp[CY]),by decide⟩ Ok.init hr;rw[bG];cases e:m.st[k]? with
 |none=>exact YO
 |some u=>
  have J:=bR e;have hl:=ok.sgl u J;refine⟨hl,λi=>?_,ok.nums u J,hc.all u J⟩;show -1<=AK u.sg i/\AK u.sg i<=1;unfold AK;rw[bG];cases e2:u.sg[i]? with
  |none=>exact⟨by decide,by decide⟩
  |some x=>exact(L u J).2.2 x (bR e2)
theorem EV{l:List Int}{m:Rd}{F:List Ds}(G:AV l=some m)(W:Bj F m.st){k:Nat}(hk:k<F.length):OY (F.getD k (AC 0 0))/\OX (F.getD k (AC 0 0)) (m.st.getD k AY):=by
 have hl:=W.1.len;have hx:=KE hk;have J:m.st[k]?=some (m.st.getD k AY):=by rw[bG,bP (by omega)];rfl
 have hc:=W.1.cor k _ _ hx J;have L:=Ga G k;obtain⟨_,_,_,c3,c4⟩:=id hc;exact⟨⟨by rw[<-c3];exact L.sg,by rw[<-c4];exact L.num⟩,hc⟩
theorem YY(hG:Cr w)(s:ByteArray)(p:Int)(u:Value)(o:List Int)(hm:s.size<=maxLen)(J:AQ w u o):
  Calls prog 43 #[.string s,.int .i64 p,u] w λe w'=>e=bi (FH s p o)/\dc w w':=by
 have hr:=Hj s w hm;have hl:=AR s;have hz:=Bn;have S:AV (AA s)=none->(∀e w',D8 w s e w'->∃c:Int,e=.returned (.tuple #[.agg #[.slice none 0 0],.int .i64 1,.int .i64 c])/\dc w w')->
   Calls prog 43 #[.string s,.int .i64 p,u] w λe w'=>e=bi (FH s p o)/\dc w w':=by
  intro G hq;have V:Hid (FH s p o=(false,1)):=by show FH _ _ _=_;unfold FH;rw[G]
  have q:=hr.mono hq;obtain⟨Z,cu,rfl, -, -⟩:=J;clear hr G hq hm hl hG;go_enter func43,ntmps43;go_wp2_with fail;refine q.mono ?_;rintro e b ⟨c,rfl,hb⟩;go_wp2_with fail
  go_ret2
  exact⟨by rw[V.out];rfl,hb.alloc hb.size _⟩
 by_cases I:160<s.size
 .refine S (by unfold AV;rw[bA (by omega)]) ?_;rintro e w' ⟨hb,h|h|h⟩
  .exact⟨0,h.2,hb⟩
  .exact absurd h.1 (by omega)
  .exact absurd h.1 (by omega)
 rcases BU s (by omega)with⟨L,G⟩|⟨m,L,G,W⟩
 .refine S G ?_;rintro e w' ⟨hb,h|h|h⟩
  .exact absurd h.1 I
  .exact⟨_,h.2.2,hb⟩
  .exact absurd h.2.1 (by rw[L];decide)
 clear S;have ab:(AI s).2.length<=20:=(A_ s 22 (-1) 0 0 ((0,false),[]) ⟨bY _,bY _⟩).ok.len;have aa:(AI s).2.length=m.st.length:=W.1.len
 have q:=hr.mono (R':=λe w'=>∃v,e=.returned (.tuple #[.agg #[v],.int .i64 0,.int .i64 0])/\dc w w'/\w'.ownsRow w.heap.size BB 10 v (AI s).2.length (GE (AI s).2)) (by
  rintro e w' ⟨hb,h|h|h⟩
  .exact absurd h.1 I
  .exact absurd h.2.1 (by rw[L];decide)
  .obtain⟨_,_,v,he,a⟩:=h
   exact⟨v,he,hb,a⟩)
 have V:Hid (FH s p o=if p<0\/(m.st.length:Int)<=p then(false,2)else if FM o=true then(DF (ovE o) (BT o) ((AI s).2.getD p.toNat (AC 0 0)),0)else(false,3)):=by show FH _ _ _=_;unfold FH;rw[G]
 have HW:Hid (Bj (AI s).2 m.st/\AV (AA s)=some m):=⟨W,G⟩
 have Y:Hid ((AI s).2.length=m.st.length):=aa;have HG:Hid (Cr w):=hG;have HU:Hid (AQ w u o):=J;obtain⟨Z,cu,rfl, -, -⟩:=id J;clear hr hm hl I L G W aa hG J;generalize(AI s).2=F at *;by_cases N:p<0\/(F.length:Int)<=p
 .have D:Hid (FH s p o=(false,2)):=V.out.trans (bA (by have:=Y.out;omega));have A:Hid (∀b R cap,Calls prog 81 #[.agg #[.slice R F.length cap],.int .i64 p] b λe w'=>e=.returned (.tuple #[B0 EI,.int .i64 2])/\dc b w'):=λb R cap=>IJ R _ ab p N;unfold B0 EI AC at A;clear V;go_enter func43,ntmps43;go_wp2_with fail;refine q.mono ?_;rintro e b ⟨v,rfl,hb,a⟩;obtain⟨R,cap,rfl⟩:∃R cap,v=.slice R F.length cap:=by
   obtain⟨_,h2⟩:=a;rcases h2 with⟨rfl,e⟩|⟨g,cap,c,rfl,_⟩
   .exact⟨none,0,by rw[e]⟩
   .exact⟨_,cap,rfl⟩
  clear a;go_wp2_with fail;refine(A.out _ R cap).mono ?_;rintro e d ⟨rfl,f⟩;have r:Hid (dc w d):=(hb.alloc hb.size _).trans (f.mono (by have:=hb.size;simp;omega));clear hb f q;go_wp2_with fail
  go_ret2
  exact⟨by rw[D.out];rfl,r.out.alloc r.out.size _⟩
 .obtain⟨k,rfl⟩:∃k:Nat,p=k:=⟨p.toNat,by omega⟩
  have hk:k<F.length:=by omega
  have HD:=EV HW.out.2 HW.out.1 hk;have ae:Hid (OY (F.getD k (AC 0 0))):=HD.1;have A:Hid (∀b g cap,Cc b g F->Calls prog 81 #[.agg #[.slice (some ⟨g,0,none⟩) F.length cap],.int .i64 (k:Int)] b λe w'=>e=.returned (.tuple #[B0 (F.getD k (AC 0 0)),.int .i64 0])/\dc b w'):=λb g cap hP=>Fm hP k hk;have D:Hid (FH s k o=if FM o=true then(DF (ovE o) (BT o) (F.getD k (AC 0 0)),0)else(false,3)):=V.out.trans (a_ (by have:=Y.out;omega));clear V N HD;generalize F.getD k (AC 0 0)=x at *;by_cases B:B_ o
  .have O:Hid (FH s k o=(DF (ovE o) (BT o) x,0)):=D.out.trans (bA (CG.2 B));have Q:Hid (∀b,dc w b->Calls prog 73 #[.slice Z o.length cu] b λe w'=>e=.returned (.tuple #[.agg (oc (ovE o) (BT o)),.int .i64 0])/\dc b w'):=λb hb=>Fb (HG.out.keep hb HG.out.size) _ o B (HU.out.keep hb);have X:Hid (∀b,Calls prog 82 #[B0 x,.agg (oc (ovE o) (BT o))] b λe w'=>e=.returned (.bool (DF (ovE o) (BT o) x))/\dc b w'):=λb=>O1 x ae.out (X0 B);clear D B;generalize DF (ovE o) (BT o) x=sf at *;generalize ovE o=e1 at *;generalize BT o=M at *;unfold B0 at A X;go_enter func43,ntmps43;go_wp2_with fail;refine q.mono ?_;rintro e b ⟨v,rfl,hb,a⟩;obtain⟨g,cap,rfl⟩:∃g cap,v=.slice (some ⟨g,0,none⟩) F.length cap:=by
    obtain⟨_,h2⟩:=a;rcases h2 with⟨_,e⟩|⟨g,cap,c,rfl,_⟩
    .omega
    .exact⟨g,cap,rfl⟩
   have P:Hid (Cc b g F):=Ee a rfl (a.lt g rfl).2;clear a;go_wp2_with fail;refine(A.out _ g cap (P.out.keep ((bC _ _).alloc (bB _) _))).mono ?_;rintro e d ⟨rfl,f⟩;have r:Hid (dc w d):=(hb.alloc hb.size _).trans (f.mono (by have:=hb.size;simp;omega));have ac:=λK=>Q.out (d.alloc K) (r.out.alloc r.out.size _);have H:Hid (∀K,Calls prog 73 #[.slice Z o.length cu] (d.alloc K) λe w'=>e=.returned (.tuple #[.agg (oc e1 M),.int .i64 0])/\Below (d.alloc K).heap.size (d.alloc K) w'):=ac;clear hb f q ac;go_wp2_with fail;refine(H.out _).mono ?_;rintro e U ⟨rfl,j⟩;obtain⟨t,ad,C,E,ah⟩:=Bb U e1 M;have ag:d.heap.size+1<=U.heap.size:=by have:=j.size;simpa using this
   have T:At U d.heap.size (AD x) BB:=At.keep (At.new d (AD x) BB) j (by simp);have y:Hid (AL t U.heap.size e1 M/\At t d.heap.size (AD x) BB/\dc w t):=⟨C,T.keep E T.lt,((r.out.alloc r.out.size _).trans (j.mono (by have:=r.out.size;simp;omega))).trans (E.mono (by have:=r.out.size;omega))⟩
   clear j C E T;have y0:t.cell? ⟨d.heap.size,0,none⟩=some (.int .i64 x.kind):=y.out.2.1.cell 0;have y1:t.cell? ⟨d.heap.size,1,none⟩=some (.int .i64 x.target):=y.out.2.1.cell 1;have y2:t.cell? ⟨d.heap.size,2,none⟩=some (.bool x.any):=y.out.2.1.cell 2;have y3:t.cell? ⟨d.heap.size,3,none⟩=some (.int .i64 (AB x.sg 0)):=y.out.2.1.cell 3;have y4:t.cell? ⟨d.heap.size,4,none⟩=some (.int .i64 (AB x.sg 1)):=y.out.2.1.cell 4;have y5:t.cell? ⟨d.heap.size,5,none⟩=some (.int .i64 (AB x.sg 2)):=y.out.2.1.cell 5;have y6:t.cell? ⟨d.heap.size,6,none⟩=some (.int .i64 (AB x.sg 3)):=y.out.2.1.cell 6;have y7:t.cell? ⟨d.heap.size,7,none⟩=some (.int .i64 x.num):=y.out.2.1.cell 7;have y8:t.cell? ⟨d.heap.size,8,none⟩=some (.int .i64 x.parent):=y.out.2.1.cell 8;have y9:t.cell? ⟨d.heap.size,9,none⟩=some (.int .i64 x.block):=y.out.2.1.cell 9;go_wp2_with (refine AH rfl (.tmp 12) rfl rfl y.out.1 ?_);refine(X.out t).mono ?_;rintro e w5 ⟨rfl,af⟩;go_wp2_with fail
   go_ret2
   exact⟨by rw[O.out];rfl,y.out.2.2.trans (af.mono y.out.2.2.size)⟩
  .have O:Hid (FH s k o=(false,3)):=D.out.trans (a_ (λz=>B (CG.1 z)));have Q:Hid (∀b,dc w b->Calls prog 73 #[.slice Z o.length cu] b λe w'=>e=.returned (.tuple #[.agg (oc false λ_=>0),.int .i64 3])/\dc b w'):=λb hb=>OJ HG.out B HU.out b hb;clear D B;unfold B0 at A;go_enter func43,ntmps43;go_wp2_with fail;refine q.mono ?_;rintro e b ⟨v,rfl,hb,a⟩;obtain⟨g,cap,rfl⟩:∃g cap,v=.slice (some ⟨g,0,none⟩) F.length cap:=by
    obtain⟨_,h2⟩:=a;rcases h2 with⟨_,e⟩|⟨g,cap,c,rfl,_⟩
    .omega
    .exact⟨g,cap,rfl⟩
   have P:Hid (Cc b g F):=Ee a rfl (a.lt g rfl).2;clear a;go_wp2_with fail;refine(A.out _ g cap (P.out.keep ((bC _ _).alloc (bB _) _))).mono ?_;rintro e d ⟨rfl,f⟩;have r:Hid (dc w d):=(hb.alloc hb.size _).trans (f.mono (by have:=hb.size;simp;omega));have H:Hid (∀K,Calls prog 73 #[.slice Z o.length cu] (d.alloc K) λe w'=>e=.returned (.tuple #[.agg (oc false λ_=>0),.int .i64 3])/\Below (d.alloc K).heap.size (d.alloc K) w'):=λK=>Q.out (d.alloc K) (r.out.alloc r.out.size _);clear hb f q;go_wp2_with fail;refine(H.out _).mono ?_;rintro e U ⟨rfl,j⟩;obtain⟨t,ad,C,E,ah⟩:=Bb U false (λ_=>0);have ag:d.heap.size+1<=U.heap.size:=by have:=j.size;simpa using this
   have y:Hid (dc w t):=((r.out.alloc r.out.size _).trans (j.mono (by have:=r.out.size;simp;omega))).trans (E.mono (by have:=r.out.size;omega));clear j C E;go_wp2_with fail
   go_ret2
   exact⟨by rw[O.out];rfl,y.out⟩
variable {B:Nat}{r:Nat}{m:Rd}{vs vo:Value}{P Q O:Nat->Nat}
def H_(e:Bool)(C:Nat->Int)(u:St):Bool:=
 if e=true then true else if u.kind=61 then u.star||decide (GP C u.sg≠NB/\GP C (Dv u.sg)≠NB/\GP C u.sg+u.num<=999/\GP C (Dv u.sg)-u.num<=999)
 else if u.kind=33 then !u.star&&decide (GP C u.sg<=u.num)else true
theorem Jv{M:Nat->Int}(hS:Sm M){f:Nat}(hf:f<32): -200000000000000000<=bd M f/\bd M f<=1000000000000:=Th hS (D5 f hf) (D7 f hf)
theorem Qa{M:Nat->Int}(hS:Sm M)(hC:M (0*8+1)=0){l:List Int}(hl:l.length=4)(h:∀i, -1<=AK l i/\AK l i<=1)(h2:nz l<=2): -200000000000000000<=GP M l/\GP M l<=1000000000000:=by
 rw[<-(Gp hC hl h h2).1];exact JZ hS l
def SL(l:List Int):Nat->List Int
 |0=>[0,0,0,0]
 |j+1=>(SL l j).set j (-AK l j)
theorem Ty(l:List Int){j:Nat}(hj:j<4):(SL l j).length=4/\(SL l j).getD j 0=0:=by
 rcases(show j=0\/j=1\/j=2\/j=3 by omega)with rfl|rfl|rfl|rfl<;>exact⟨rfl,rfl⟩
theorem Cp(l:List Int):(Dv l).length=4:=rfl
structure Zp(w:World)(r k:Nat)(u:St)(len:Nat):Prop where
 ex:∃g cap p q,w.cell? ⟨r,1,none⟩=some (.slice (some ⟨g,0,none⟩) len cap)/\w.cell? ⟨g,k,none⟩=some (.pointer (some ⟨p,0,none⟩))/\w.cell? ⟨p,0,none⟩=some (.int .u8 u.kind)/\w.cell? ⟨p,2,none⟩=some (.bool u.star)/\
  w.cell? ⟨p,3,none⟩=some (.slice (some ⟨q,0,none⟩) 4 4)/\w.cell? ⟨p,4,none⟩=some (.int .i64 u.num)/\At w q (ic u.sg) tNk/\p<w.heap.size/\g<w.heap.size/\r<w.heap.size
theorem AZ.stw(h:AZ B w r m vs vo P Q O){k:Nat}(hk:k<m.st.length):Zp w r k (m.st.getD k AY) m.st.length:=by
 obtain⟨g,cap,aw,ag,_⟩:=h.row (by omega);obtain⟨r0,r1,_⟩:=h.rdc;have hg:=AZ.gets hk;obtain⟨c0,_,c2,c3,c4,_⟩:=h.stc k _ hg;obtain⟨a,b⟩:=h.st k _ hg;rw[aw]at r1;have S:=World.block_lt_of_cell? w _ (ag k hk);exact⟨g,cap,P k,Q k,r1,ag k hk,c0,c2,c3,c4,b,a.lt,S,h.rd.lt⟩
theorem OI(h:AZ B w r m vs vo P Q O)(k:Nat)(hk:k<m.st.length)(Z:SI (m.st.getD k AY))(v:Value){e0:Bool}{C:Nat->Int}(av:∃a n c,v=.slice a n c)(y:Calls prog 59 #[v] w (BF w e0 C))(hS:Sm C)(hT:e0=false->C (0*8+1)=0):
  Calls prog 64 #[.pointer (some ⟨r,0,none⟩),.int .i64 (k:Int),v] w λe w'=>e=.returned (.bool (H_ e0 C (m.st.getD k AY)))/\dc w w':=by
 have aD:∀(w:World)(a:Option Addr)(n c:Nat),(binOp .eql 32 (.slice a n c) (.slice none 0 0)).run prog w=.ok (.bool a.isNone) w:=λw a n c=>cz w 32 tN a n c 0 0 underlying32;have aC:∀w,(Instr.makeSlice 32 (.int .i64 4) (.int .i64 4)).run prog w=.ok (.slice (some ⟨w.heap.size,0,none⟩) 4 4) (w.alloc (.cells #[.int .i64 0,.int .i64 0,.int .i64 0,.int .i64 0] tNk)):=λ_=>by kernel_rfl
 have T:Hid (∀d,dc w d->Zp d r k (m.st.getD k AY) m.st.length):=λd hb=>(h.keep hb).stw hk;have aB:(k:Int)<(m.st.length:Int):=by omega
 have ah:Hid (e0=false->C (0*8+1)=0):=hT;obtain⟨ao,an,ca,rfl⟩:=av;clear h hT;generalize m.st.getD k AY=u at *;cases e0 with
 |true=>
  have H:Hid (H_ true C u=true):=rfl;clear ah hS;go_enter func64,ntmps64;go_wp2_with fail;refine y.mono ?_;rintro e d ⟨s,⟨-,rfl⟩|⟨V, -⟩⟩
  .have t:=T.out d s;obtain⟨g,cap,p,q,x1,x2,x3,x4,x5,x6,K,F,S,Y⟩:=t.ex;have E:Hid (At d q (ic u.sg) tNk/\dc w d):=⟨K,s⟩
   clear t K;clear s y;go_wp2_with fail;go_ret;exact⟨BM H.out,E.out.2⟩
  .cases V
 |false=>
 have ac:=ah.out rfl;have ab:Hid (∀d gq vv (l:List Int),At d gq (ic (Bl C)) Gc->AQ d vv l->l.length=4->(∀i, -1<=AK l i/\AK l i<=1)->nz l<=2->Calls prog 97 #[.slice (some ⟨gq,0,none⟩) 32 32,vv] d λe w'=>e=.returned (.int .i64 (GP C l))/\dc d w'):=λd gq vv l U hr h4 hs h2=>Pb C _ vv l h4 hs h2 ac (AQ.at_ U (by simp[Bl]) (bB _) (λi hi=>Aa _ _ (by simpa[Bl]using hi))) hr;obtain⟨r1,r2⟩:=Qa hS ac Z.len Z.sg Z.nz;obtain⟨r3,r4⟩:=Qa hS ac (Cp u.sg) (DJ Z.sg) (by rw[C9 Z.len];exact Z.nz);obtain⟨n1,n2⟩:=Z.num;have R:Hid (SI u):=Z;clear hS ah Z ac;by_cases A:u.kind=61
 .have D:Hid (H_ false C u=(u.star||decide (GP C u.sg≠NB/\GP C (Dv u.sg)≠NB/\GP C u.sg+u.num<=999/\GP C (Dv u.sg)-u.num<=999))):=by show H_ false C u=_;unfold H_;rw[a_ (by decide),bA A]
  cases G:u.star with
  |true=>
   have H:Hid (H_ false C u=true):=by show _=true;rw[D.out,G];rfl
   clear D;go_enter func64,ntmps64;go_wp2_with fail;refine y.mono ?_;rintro e d ⟨s,⟨V, -⟩|⟨-,gq,rfl,ad,U⟩⟩
   .cases V
   .have t:=T.out d s;obtain⟨g,cap,p,q,x1,x2,x3,x4,x5,x6,K,F,S,Y⟩:=t.ex;have E:Hid (At d q (ic u.sg) tNk/\dc w d):=⟨K,s⟩
    clear t K;rw[A]at x3;rw[G]at x4;clear s y U A;go_wp2_with fail;go_ret;exact⟨BM H.out,E.out.2⟩
  |false=>
   have I:Hid (H_ false C u=decide (GP C u.sg≠NB/\GP C (Dv u.sg)≠NB/\GP C u.sg+u.num<=999/\GP C (Dv u.sg)-u.num<=999)):=by show _=decide _;rw[D.out,G];rfl
   clear D;go_enter func64,ntmps64;go_wp2_with fail;refine y.mono ?_;rintro e d ⟨s,⟨V, -⟩|⟨-,gq,rfl,ad,U⟩⟩
   .cases V
   .have t:=T.out d s;obtain⟨g,cap,p,q,x1,x2,x3,x4,x5,x6,K,F,S,Y⟩:=t.ex;have E:Hid (At d q (ic u.sg) tNk/\dc w d):=⟨K,s⟩
    clear t K;rw[A]at x3;rw[G]at x4;have HA:Hid (At (d.alloc (.cells #[.int .i64 0,.int .i64 0,.int .i64 0,.int .i64 0] tNk)) d.heap.size (ic (SL u.sg 0)) tNk/\dc d (d.alloc (.cells #[.int .i64 0,.int .i64 0,.int .i64 0,.int .i64 0] tNk))):=⟨At.new _ _ _,(bC _ _).alloc (bB _) _⟩
    have aa:Hid (At d gq (ic (Bl C)) Gc):=U;have ar:q<d.heap.size:=E.out.1.lt;clear s y U A;go_wp2_with fail;go_loopw [10] (λiv wr=>∃(j:Nat),j<=4/\iv=.int .i64 j/\Hid (At wr d.heap.size (ic (SL u.sg j)) tNk/\dc d wr)) (λiv _=>4-(intOf iv).toNat);case atStart=>exact⟨0,by omega,rfl,HA.out⟩
    case round=>
     obtain⟨j,hj,rfl,N⟩:=hrel;have y5:wr.cell? ⟨p,3,none⟩=some (.slice (some ⟨q,0,none⟩) 4 4):=(N.out.2.cell (p:=⟨p,3,none⟩) F).trans x5;by_cases am:j<4
     .have aA:(j:Int)<4:=by omega
      have aq:=Ty u.sg am;have ca:wr.cell? ⟨q,j,none⟩=some (.int .i64 (AK u.sg j)):=by
       rw[N.out.2.cell (p:=⟨q,j,none⟩) ar,E.out.1.cell,Aa _ _ (by rw[R.out.len];exact am)];rfl
      have cb:wr.cell? ⟨d.heap.size,j,none⟩=some (.int .i64 0):=by
       rw[N.out.1.cell,Aa _ _ (by omega),aq.2]
      have cf:=N.out.1.free;have az:=N.out.1.lt;have hx:=R.out.sg j;have HP:Hid (SL u.sg (j+1)=(SL u.sg j).set j (-AK u.sg j)):=rfl;clear aq;generalize AK u.sg j=x at *;go_wp2_with fail;go_roundw;case rel=>
       refine⟨j+1,by omega,by go_num,?_,N.out.2.setCell (bB _) _⟩;rw[HP.out,<-Be];exact N.out.1.put j _
      case measure=>simp[intOf];omega
     .have au:j=4:=by omega
      subst au;have X:=ab.out wr gq (.slice (some ⟨q,0,none⟩) 4 4) u.sg (aa.out.keep N.out.2 aa.out.lt) (AQ.at_ (E.out.1.keep N.out.2 E.out.1.lt) R.out.len (bB _) (λi hi=>Aa _ _ (by rw[R.out.len];exact hi))) R.out.len R.out.sg R.out.nz;have ae:Hid (∀W,dc wr W->Calls prog 97 #[.slice (some ⟨gq,0,none⟩) 32 32,.slice (some ⟨d.heap.size,0,none⟩) 4 4] W λe w'=>e=.returned (.int .i64 (GP C (Dv u.sg)))/\dc W w'):=by
       intro W J;have a1:=(aa.out.keep N.out.2 aa.out.lt)
       have a2:At W d.heap.size (ic (Dv u.sg)) tNk:=N.out.1.keep J N.out.1.lt;exact ab.out W gq _ (Dv u.sg) (a1.keep J a1.lt) (AQ.at_ a2 (Cp _) (bB _) (λi hi=>Aa _ _ (by rw[Cp];exact hi))) (Cp _) (DJ R.out.sg) (by rw[C9 R.out.len];exact R.out.nz)
      have ak:Hid (dc w wr):=E.out.2.trans (N.out.2.mono E.out.2.size);have z6:wr.cell? ⟨p,4,none⟩=some (.int .i64 u.num):=(N.out.2.cell (p:=⟨p,4,none⟩) F).trans x6;have af:p<wr.heap.size:=bM F N.out.2.size;clear ab HA E;generalize GP C u.sg=hi at *;generalize GP C (Dv u.sg)=lo at *;generalize u.num=n at *;go_wp2_with fail;refine X.mono ?_;rintro e W ⟨rfl,J⟩;have al:=ae.out W J;have H3:Hid (dc w W):=ak.out.trans (J.mono ak.out.size);have t6:W.cell? ⟨p,4,none⟩=some (.int .i64 n):=(J.cell (p:=⟨p,4,none⟩) af).trans z6;have ap:p<W.heap.size:=bM af J.size;clear J X ae;go_wp2_with fail;refine al.mono ?_;rintro e w4 ⟨rfl,aj⟩;have H4:Hid (dc w w4):=H3.out.trans (aj.mono H3.out.size);have s6:w4.cell? ⟨p,4,none⟩=some (.int .i64 n):=(aj.cell (p:=⟨p,4,none⟩) ap).trans t6;clear aj al;by_cases q1:hi=NB
      .have H:Hid (H_ false C u=false):=I.out.trans (bT (λz=>z.1 q1));have b1:(hi != 1000000)=false:=by rw[q1];rfl
       clear I q1;go_wp2_with fail;go_ret;exact⟨BM H.out,H4.out⟩
      have b1:(hi != 1000000)=true:=by rw[cI];exact q1
      by_cases q2:lo=NB
      .have H:Hid (H_ false C u=false):=I.out.trans (bT (λz=>z.2.1 q2));have b2:(lo != 1000000)=false:=by rw[q2];rfl
       clear I q1 q2;go_wp2_with fail;go_ret;exact⟨BM H.out,H4.out⟩
      have b2:(lo != 1000000)=true:=by rw[cI];exact q2
      by_cases q3:hi+n<=999
      .have H:Hid (H_ false C u=decide (lo-n<=999)):=I.out.trans (decide_eq_decide.2 ⟨λz=>z.2.2.2,λz=>⟨q1,q2,q3,z⟩⟩);clear I q1 q2;go_wp2_with fail;go_ret;exact⟨BM H.out,H4.out⟩
      .have H:Hid (H_ false C u=false):=I.out.trans (bT (λz=>q3 z.2.2.1));clear I q1 q2;go_wp2_with fail;go_ret;exact⟨BM H.out,H4.out⟩
 by_cases L:u.kind=33
 .have D:Hid (H_ false C u=(!u.star&&decide (GP C u.sg<=u.num))):=by show H_ false C u=_;unfold H_;rw[a_ (by decide),a_ A,bA L]
  cases G:u.star with
  |true=>
   have H:Hid (H_ false C u=false):=by show _=false;rw[D.out,G];rfl
   clear D;go_enter func64,ntmps64;go_wp2_with fail;refine y.mono ?_;rintro e d ⟨s,⟨V, -⟩|⟨-,gq,rfl,ad,U⟩⟩
   .cases V
   .have t:=T.out d s;obtain⟨g,cap,p,q,x1,x2,x3,x4,x5,x6,K,F,S,Y⟩:=t.ex;have E:Hid (At d q (ic u.sg) tNk/\dc w d):=⟨K,s⟩
    clear t K;rw[L]at x3;rw[G]at x4;clear s y U L A;go_wp2_with fail;go_ret;exact⟨BM H.out,E.out.2⟩
  |false=>
   have H:Hid (H_ false C u=decide (GP C u.sg<=u.num)):=by show _=decide (GP C u.sg<=u.num);rw[D.out,G];rfl
   clear D;go_enter func64,ntmps64;go_wp2_with fail;refine y.mono ?_;rintro e d ⟨s,⟨V, -⟩|⟨-,gq,rfl,ad,U⟩⟩
   .cases V
   .have t:=T.out d s;obtain⟨g,cap,p,q,x1,x2,x3,x4,x5,x6,K,F,S,Y⟩:=t.ex;have E:Hid (At d q (ic u.sg) tNk/\dc w d):=⟨K,s⟩
    clear t K;have X:=ab.out d gq (.slice (some ⟨q,0,none⟩) 4 4) u.sg U (AQ.at_ E.out.1 R.out.len (bB _) (λi hi=>Aa _ _ (by rw[R.out.len];exact hi))) R.out.len R.out.sg R.out.nz;rw[L]at x3;rw[G]at x4;clear s y U L A;generalize GP C u.sg=gr at *;go_wp2_with fail;refine X.mono ?_;rintro e w2 ⟨rfl,ai⟩;have y6:w2.cell? ⟨p,4,none⟩=some (.int .i64 u.num):=(ai.cell (p:=⟨p,4,none⟩) F).trans x6;have H2:Hid (dc w w2):=E.out.2.trans (ai.mono E.out.2.size);clear ai X;go_wp2_with fail;go_ret;exact⟨BM H.out,H2.out⟩
 .have H:Hid (H_ false C u=true):=by show H_ false C u=_;unfold H_;rw[a_ (by decide),a_ A,a_ L]
  have ay:(u.kind==61)=false:=by simpa using A
  have ax:(u.kind==33)=false:=by simpa using L
  go_enter func64,ntmps64;go_wp2_with fail;refine y.mono ?_;rintro e d ⟨s,⟨V, -⟩|⟨-,gq,rfl,ad,U⟩⟩
  .cases V
  .have t:=T.out d s;obtain⟨g,cap,p,q,x1,x2,x3,x4,x5,x6,K,F,S,Y⟩:=t.ex;have E:Hid (At d q (ic u.sg) tNk/\dc w d):=⟨K,s⟩
   clear t K;clear s y U L A;go_wp2_with fail;go_ret;exact⟨BM H.out,E.out.2⟩
theorem UC(h:AZ B w r m vs vo P Q O)(k:Nat)(hk:k<m.st.length)(Z:SI (m.st.getD k AY))(v:Value)(o:List Int)(ho:B_ o)(hv:AQ w v o):
  Calls prog 64 #[.pointer (some ⟨r,0,none⟩),.int .i64 (k:Int),v] w λe w'=>e=.returned (.bool (H_ (ovE o) (BT o) (m.st.getD k AY)))/\dc w w':=
 OI h k hk Z v (by obtain⟨a,c,e,_,_⟩:=hv;exact⟨_,_,_,e⟩) (DC v o ho hv) (X0 ho) (λV=>((Db ho).tc V).zero 0 (by omega))
end Go.Proofs.YtffajooegiempaaGreatDoor
