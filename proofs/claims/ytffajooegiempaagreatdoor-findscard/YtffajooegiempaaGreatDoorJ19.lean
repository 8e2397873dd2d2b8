import Derived.Test.YtffajooegiempaaGreatDoorJ18
set_option maxRecDepth 100000
set_option maxHeartbeats 6400000
namespace Go.Proofs.YtffajooegiempaaGreatDoor
variable {F:List Ds}{S:List St}
theorem E1.par{f:Nat}:∀{p b:Int}{a c:Nat},E1 F S f p b a c->∀j,a<=j->j<c->∃x,F[j]?=some x/\((x.parent=p/\x.block=b)\/((a:Int)<=x.parent/\x.parent<j)):=by
 induction f with
 |zero=>intro p b a c h j h1 h2;have h':a=c:=h;omega
 |succ f ih=>
  intro p b a c h j h1 h2;rcases h with h|⟨e,he,hs,hr⟩
  ·omega
  ·obtain⟨x,u,hx,hu,hp,hb,hf,hae,hk⟩:=hs;by_cases hj:j=a
   ·subst hj;exact⟨x,hx,.inl ⟨hp,hb⟩⟩
   ·by_cases hje:j<e
    ·rcases hk with⟨_,hk⟩|⟨_,hk⟩|⟨_,q1,q2,hk1,hk2⟩
     ·omega
     ·obtain⟨y,hy,h3⟩:=ih hk j (by omega) hje;refine⟨y,hy,.inr ?_⟩;rcases h3 with⟨h3,_⟩|h3<;>omega
     ·by_cases hjq:j<u.mid
      ·obtain⟨y,hy,h3⟩:=ih hk1 j (by omega) hjq;refine⟨y,hy,.inr ?_⟩;rcases h3 with⟨h3,_⟩|h3<;>omega
      ·obtain⟨y,hy,h3⟩:=ih hk2 j (by omega) hje;refine⟨y,hy,.inr ?_⟩;rcases h3 with⟨h3,_⟩|h3<;>omega
    ·obtain⟨y,hy,h3⟩:=ih hr j (by omega) h2;refine⟨y,hy,?_⟩;rcases h3 with h3|h3
     ·exact .inl h3
     ·exact .inr (by omega)
theorem E1.fins{f:Nat}:∀{p b:Int}{a c:Nat},E1 F S f p b a c->∀j,a<=j->j<c->∃u,S[j]?=some u/\j<u.fin/\u.fin<=c:=by
 induction f with
 |zero=>intro p b a c h j h1 h2;have h':a=c:=h;omega
 |succ f ih=>
  intro p b a c h j h1 h2;rcases h with h|⟨e,he,hs,hr⟩
  ·omega
  ·obtain⟨x,u,hx,hu,hp,hb,hf,hae,hk⟩:=hs;by_cases hj:j=a
   ·subst hj;exact⟨u,hu,by omega,by omega⟩
   ·by_cases hje:j<e
    ·rcases hk with⟨_,hk⟩|⟨_,hk⟩|⟨_,q1,q2,hk1,hk2⟩
     ·omega
     ·obtain⟨v,hv,h3,h4⟩:=ih hk j (by omega) hje;exact⟨v,hv,h3,by omega⟩
     ·by_cases hjq:j<u.mid
      ·obtain⟨v,hv,h3,h4⟩:=ih hk1 j (by omega) hjq;exact⟨v,hv,h3,by omega⟩
      ·obtain⟨v,hv,h3,h4⟩:=ih hk2 j (by omega) hje;exact⟨v,hv,h3,by omega⟩
    ·exact ih hr j (by omega) h2
theorem E1.at_{f:Nat}:∀{p b:Int}{a c:Nat},E1 F S f p b a c->p<a->∀i x,a<=i->i<c->F[i]?=some x->x.parent=p->(∀k,a<=k->k<i->∃u,S[k]?=some u/\u.fin<=i)/\∃g e,e<=c/\E7 F S (E1 F S g) p b i e/\E1 F S g p b e c:=by
 induction f with
 |zero=>intro p b a c h _ i x h1 h2;have h':a=c:=h;omega
 |succ f ih=>
  intro p b a c h hpa i x h1 h2 hx hp;rcases h with h|⟨e,he,hs,hr⟩
  ·omega
  ·have hae:=hs.lt;by_cases hi:i=a
   ·subst hi;exact⟨λk h3 h4=>by omega,f,e,he,hs,hr⟩
   ·have hall:E1 F S (f+1) p b a c:=.inr ⟨e,he,hs,hr⟩;have hone:E1 F S (f+1) p b a e:=.inr ⟨e,Nat.le_refl _,hs,by cases f with|zero=>exact rfl|succ f=>exact .inl rfl⟩;by_cases hie:i<e
    ·exfalso;obtain⟨y,u,hy,hu,hp',hb',hf,hae',hk⟩:=hs;have inner:∀(b:Int)(a1 c1:Nat),a+1<=a1->E1 F S f a b a1 c1->a1<=i->i<c1->False:=by
      intro b a1 c1 ha1 hB h3 h4;obtain⟨z,hz,h5⟩:=hB.par i h3 h4;rw[hx]at hz;cases hz
      rcases h5 with⟨h5,_⟩|h5<;>omega
     rcases hk with⟨_,hk⟩|⟨_,hk⟩|⟨_,q1,q2,hk1,hk2⟩
     ·omega
     ·exact inner _ _ _ (by omega) hk (by omega) hie
     ·by_cases hjq:i<u.mid
      ·exact inner _ _ _ (by omega) hk1 (by omega) hjq
      ·exact inner _ _ _ (by omega) hk2 (by omega) hie
    ·obtain⟨h3,h4⟩:=ih hr (by omega) i x (by omega) h2 hx hp;refine⟨λk hk1 hk2=>?_,h4⟩;by_cases hke:k<e
     ·obtain⟨v,hv,_,h6⟩:=hone.fins k hk1 hke;exact⟨v,hv,by omega⟩
     ·exact h3 k (by omega) hk2
def SF(F:List Ds)(S:List St)(p b:Int)(a c:Nat):Prop:=
 (p= -1/\b=0/\a=0/\c=F.length)\/∃(q:Nat)(x:Ds)(u:St),p=q/\F[q]?=some x/\S[q]?=some u/\
  ((x.kind=3/\b=0/\a=q+1/\c=u.fin)\/(x.kind=2/\b=0/\a=q+1/\c=u.mid/\u.mid<=u.fin)\/(x.kind=2/\b=1/\a=u.mid/\c=u.fin/\q+1<=u.mid))
theorem SF.lt{p b:Int}{a c:Nat}(h:SF F S p b a c):p<a:=by
 rcases h with⟨h1,_,h3,_⟩|⟨q,x,u,h1,_,_,h2⟩
 ·omega
 ·rcases h2 with h2|h2|h2<;>omega
theorem E1.pos{f:Nat}:∀{p b:Int}{a c:Nat},E1 F S f p b a c->(∃a0,a0<=a/\SF F S p b a0 c/\∃g,E1 F S g p b a0 c)->∀i,a<=i->i<c->∃x a0 c0,F[i]?=some x/\a0<=i/\i<c0/\SF F S x.parent x.block a0 c0/\∃g,E1 F S g x.parent x.block a0 c0:=by
 induction f with
 |zero=>intro p b a c h _ i h1 h2;have h':a=c:=h;omega
 |succ f ih=>
  intro p b a c h hctx i h1 h2;obtain⟨a0,ha0,hC,g,hg⟩:=hctx;rcases h with h|⟨e,he,hs,hr⟩
  ·omega
  ·obtain⟨x,u,hx,hu,hp,hb,hf,hae,hk⟩:=hs;by_cases hi:i=a
   ·subst hi;exact⟨x,a0,c,hx,ha0,h2,by rw[hp,hb];exact hC,g,by rw[hp,hb];exact hg⟩
   ·by_cases hie:i<e
    ·rcases hk with⟨_,hk⟩|⟨k3,hk⟩|⟨k2,q1,q2,hk1,hk2⟩
     ·omega
     ·exact ih hk ⟨a+1,Nat.le_refl _,.inr ⟨a,x,u,rfl,hx,hu,.inl ⟨k3,rfl,rfl,hf.symm⟩⟩,f,hk⟩ i (by omega) hie
     ·by_cases hiq:i<u.mid
      ·exact ih hk1 ⟨a+1,Nat.le_refl _,.inr ⟨a,x,u,rfl,hx,hu,.inr (.inl ⟨k2,rfl,rfl,rfl,by omega⟩)⟩,f,hk1⟩ i (by omega) hiq
      ·exact ih hk2 ⟨u.mid,Nat.le_refl _,.inr ⟨a,x,u,rfl,hx,hu,.inr (.inr ⟨k2,rfl,rfl,hf.symm,by omega⟩)⟩,f,hk2⟩ i (by omega) hie
    ·exact ih hr ⟨a0,by omega,hC,g,hg⟩ i (by omega) h2
def Bj(F:List Ds)(S:List St):Prop:=Hf F S/\∃f,E1 F S f (-1) 0 0 F.length
theorem Bj.pos(h:Bj F S)(i:Nat)(hi:i<F.length):∃x a0 c0,F[i]?=some x/\a0<=i/\i<c0/\SF F S x.parent x.block a0 c0/\∃g,E1 F S g x.parent x.block a0 c0:=by
 obtain⟨_,f,hf⟩:=h;exact hf.pos ⟨0,Nat.le_refl _,.inl ⟨rfl,rfl,rfl,rfl⟩,f,hf⟩ i (Nat.zero_le _) hi
theorem CO{α:Type}{l:List α}{i:Nat}{x d:α}(h:l[i]?=some x):l.getD i d=x:=by rw[List.getD_eq_getElem?_getD,h];rfl
theorem JK{p b fr:Int}:∀(l:List Ds)(i j:Nat)(x:Ds),l[j]?=some x->fr<=((i+j:Nat):Int)->x.parent=p->x.block=b->(∀k y,k<j->l[k]?=some y->fr<=((i+k:Nat):Int)->¬(y.parent=p/\y.block=b))->CR p b fr l i=((i+j:Nat):Int):=by
 intro l;induction l with
 |nil=>intro i j x h;simp at h
 |cons y l ih=>
  intro i j x h hf hp hb hno;cases j with
  |zero=>
   simp at h;subst h;simp only[CR];rw[if_pos ⟨by simpa using hf,hp,hb⟩];rfl
  |succ j=>
   simp only[CR]
   rw[if_neg (by
    rintro⟨h1,h2⟩
    exact hno 0 y (by omega) rfl (by simpa using h1) h2)]
   rw[ih (i+1) j x (by simpa using h) (by rw[show i+1+j=i+(j+1) by omega];exact hf) hp hb (λk z hk hz hfk=>hno (k+1) z (by omega) (by simpa using hz) (by rw[show i+(k+1)=i+1+k by omega];exact hfk))];rw[show i+1+j=i+(j+1) by omega]
theorem IP{p b fr:Int}:∀(l:List Ds)(i:Nat),(∀k y,l[k]?=some y->fr<=((i+k:Nat):Int)->¬(y.parent=p/\y.block=b))->CR p b fr l i= -1:=by
 intro l;induction l with
 |nil=>intro i _;rfl
 |cons y l ih=>
  intro i hno;simp only[CR]
  rw[if_neg (by
   rintro⟨h1,h2⟩
   exact hno 0 y rfl (by simpa using h1) h2)]
  exact ih (i+1) (λk z hz hfk=>hno (k+1) z (by simpa using hz) (by rw[show i+(k+1)=i+1+k by omega];exact hfk))
theorem MV{i q:Nat}:∀(k:Nat),q<k->i<(S.getD q AY).fin->(∀j,q<j->j<k->(S.getD j AY).fin<=i)->Ay S i k=q:=by
 intro k;induction k with
 |zero=>intro h;omega
 |succ k ih=>
  intro h1 h2 h3;unfold Ay;by_cases e:q=k
  ·subst e;rw[if_pos h2]
  ·rw[if_neg (by have:=h3 k (by omega) (by omega);omega)];exact ih (by omega) h2 (λj hj hjk=>h3 j hj (by omega))
theorem LA{i:Nat}:∀(k:Nat),(∀j,j<k->(S.getD j AY).fin<=i)->Ay S i k= -1:=by
 intro k;induction k with
 |zero=>intro _;rfl
 |succ k ih=>
  intro h;unfold Ay;rw[if_neg (by have:=h k (by omega);omega)];exact ih (λj hj=>h j (by omega))
theorem E7.par{g:Nat}{p b:Int}{a e:Nat}(h:E7 F S (E1 F S g) p b a e)(j:Nat)(h1:a<j)(h2:j<e):∃x,F[j]?=some x/\(a:Int)<=x.parent:=by
 obtain⟨x,u,hx,hu,hp,hb,hf,hae,hk⟩:=h;rcases hk with⟨_,hk⟩|⟨_,hk⟩|⟨_,q1,q2,hk1,hk2⟩
 ·omega
 ·obtain⟨y,hy,h3⟩:=hk.par j (by omega) h2;exact⟨y,hy,by rcases h3 with⟨h3,_⟩|h3<;>omega⟩
 ·by_cases hjq:j<u.mid
  ·obtain⟨y,hy,h3⟩:=hk1.par j (by omega) hjq;exact⟨y,hy,by rcases h3 with⟨h3,_⟩|h3<;>omega⟩
  ·obtain⟨y,hy,h3⟩:=hk2.par j (by omega) h2;exact⟨y,hy,by rcases h3 with⟨h3,_⟩|h3<;>omega⟩
theorem SF.det{p b:Int}{a c a' c':Nat}(h:SF F S p b a c)(k:SF F S p b a' c'):a=a'/\c=c':=by
 rcases h with⟨h1,h2,h3,h4⟩|⟨q,x,u,h1,hx,hu,h2⟩
 ·rcases k with⟨k1,k2,k3,k4⟩|⟨q',x',u',k1,kx,ku,k2⟩
  ·exact⟨by omega,by omega⟩
  ·omega
 ·rcases k with⟨k1,k2,k3,k4⟩|⟨q',x',u',k1,kx,ku,k2⟩
  ·omega
  ·have e:q=q':=by omega
   subst e;rw[hx]at kx;rw[hu]at ku;cases kx
   cases ku
   rcases h2 with h2|h2|h2<;>rcases k2 with k2|k2|k2<;>omega
theorem Bj.at_(h:Bj F S)(i:Nat)(hi:i<F.length):∃x u a0 c0 g,F[i]?=some x/\S[i]?=some u/\OX x u/\a0<=i/\i<u.fin/\u.fin<=c0/\SF F S x.parent x.block a0 c0/\
  E7 F S (E1 F S g) x.parent x.block i u.fin/\E1 F S g x.parent x.block u.fin c0/\(∀k,a0<=k->k<i->(S.getD k AY).fin<=i):=by
 obtain⟨x,a0,c0,hx,ha,hc,hC,g,hg⟩:=h.pos i hi;obtain⟨h1,g',e,he,hs,hr⟩:=hg.at_ hC.lt i x ha hc hx rfl;obtain⟨y,u,hy,hu,hp,hb,hf,hae,hk⟩:=hs;rw[hx]at hy;cases hy
 subst hf
 exact⟨x,u,a0,c0,g',hx,hu,h.1.cor i x u hx hu,ha,hae,he,hC,⟨x,u,hx,hu,hp,hb,rfl,hae,hk⟩,hr,λk hk1 hk2=>by
  obtain⟨v,hv,hvf⟩:=h1 k hk1 hk2
  rw[CO hv];exact hvf⟩
theorem Bj.first(h:Bj F S){i:Nat}{x:Ds}{u:St}{a0 c0 g:Nat}(_hx:F[i]?=some x)(ha:a0<=i)(hfc:u.fin<=c0)(hif:i<u.fin)(hC:SF F S x.parent x.block a0 c0)(hs:E7 F S (E1 F S g) x.parent x.block i u.fin)(hr:E1 F S g x.parent x.block u.fin c0):
  Bu F x.parent x.block (i+1)=if u.fin<c0 then(u.fin:Int)else -1:=by
 have hplt:=hC.lt;have hin:∀k y,i<k->k<u.fin->F[k]?=some y->¬(y.parent=x.parent/\y.block=x.block):=by
  rintro k y h1 h2 hy ⟨h3,_⟩;obtain⟨z,hz,h4⟩:=hs.par k h1 h2;rw[hy]at hz;cases hz
  omega
 by_cases hlt:u.fin<c0
 ·rw[if_pos hlt];obtain⟨y,hy,hyp⟩:∃y,F[u.fin]?=some y/\y.parent=x.parent/\y.block=x.block:=by
   cases g with
   |zero=>have h':u.fin=c0:=hr;omega
   |succ g=>
    rcases hr with hr|⟨e,he,hs2,_⟩
    ·omega
    ·obtain⟨y,v,hy,_,hp,hb,_⟩:=hs2;exact⟨y,hy,hp,hb⟩
  have:=JK (p:=x.parent) (b:=x.block) (fr:=(i:Int)+1) F 0 u.fin y hy (by omega) hyp.1 hyp.2 (λk z hk hz hf=>hin k z (by omega) hk hz);rw[Nat.zero_add]at this;exact this
 ·rw[if_neg hlt];refine IP F 0 (λk y hy hf hm=>?_);have hk:k<F.length:=by
   rcases Nat.lt_or_ge k F.length with h'|h'
   ·exact h'
   ·simp[List.getElem?_eq_none h']at hy
  obtain⟨z,a1,c1,hz,_,hkc,hC1,_⟩:=h.pos k hk;rw[hy]at hz;cases hz
  rw[hm.1,hm.2]at hC1;have:=hC.det hC1;exact hin k y (by omega) (by omega) hy hm
theorem Bj.open_(h:Bj F S){i:Nat}(_hi:i<F.length){x:Ds}{a0 c0:Nat}(hC:SF F S x.parent x.block a0 c0)(hic:i<c0)(hai:a0<=i)(hk:∀k,a0<=k->k<i->(S.getD k AY).fin<=i):Ay S i i=x.parent:=by
 rcases hC with⟨h1,h2,h3,h4⟩|⟨q,y,v,h1,hy,hv,h2⟩
 ·rw[h1];exact LA i (λj hj=>hk j (by omega) hj)
 ·rw[h1];have hq:q<F.length:=by
   rcases Nat.lt_or_ge q F.length with h'|h'
   ·exact h'
   ·simp[List.getElem?_eq_none h']at hy
  have hvD:S.getD q AY=v:=CO hv;obtain⟨y',v',a1,c1,g1,hy',hv',_,_,hq1,_,_,hs,_,_⟩:=h.at_ q hq;rw[hy]at hy';rw[hv]at hv';cases hy'
  cases hv'
  refine MV i (by rcases h2 with h2|h2|h2<;>omega) (by rw[hvD];rcases h2 with h2|h2|h2<;>omega) (λj hj1 hj2=>?_);by_cases hja:a0<=j
  ·exact hk j hja hj2
  ·obtain⟨y2,v2,hy2,hv2,_,_,_,_,hkk⟩:=hs;rw[hy]at hy2;rw[hv]at hv2;cases hy2
   cases hv2
   rcases hkk with⟨hk0,_⟩|⟨hk3,_⟩|⟨_,q1,q2,hk1,_⟩
   ·rcases h2 with h2|h2|h2<;>omega
   ·rcases h2 with h2|h2|h2<;>omega
   ·have hjm:j<v.mid:=by rcases h2 with h2|h2|h2<;>omega
    obtain⟨t,ht,_,htf⟩:=hk1.fins j (by omega) hjm;rw[CO ht];rcases h2 with h2|h2|h2<;>omega
theorem Nl(h:Bj F S):∀(n i:Nat),i<F.length->i<n->BX F n i=Bx S n i:=by
 intro n;induction n with
 |zero=>intro i _ hi;omega
 |succ n ih=>
  intro i hi hn;obtain⟨x,u,a0,c0,g,hx,hu,hcor,ha,hif,hfc,hC,hs,hr,hk⟩:=h.at_ i hi;have hxD:F.getD i (AC 0 0)=x:=CO hx;have huD:S.getD i AY=u:=CO hu;have hfirst:=h.first hx ha hfc hif hC hs hr;have hopen:=h.open_ hi hC (by omega) ha hk;have e1:BX F (n+1) i=if Bu F x.parent x.block (i+1)≠ -1 then Bu F x.parent x.block (i+1)else if DU F x.parent=true then x.parent else BX F n x.parent:=by
   rw[BX,if_neg (by omega)];simp only[Int.toNat_natCast];rw[hxD]
  have e2:Bx S (n+1) i=if x.parent<0 then(u.fin:Int)else if u.fin<G6 (S.getD x.parent.toNat AY) i then(u.fin:Int)else if(S.getD x.parent.toNat AY).kind=64 then x.parent else Bx S n x.parent.toNat:=by
   rw[Bx,hopen,huD]
  rw[e1,e2,hfirst];rcases hC with⟨h1,h2,h3,h4⟩|⟨q,y,v,h1,hy,hv,h2⟩
  ·rw[h1,if_pos (by decide:(-1:Int)<0)];by_cases hlt:u.fin<c0
   ·rw[if_pos hlt,if_pos (show((u.fin:Int)≠ -1) by omega)]
   ·rw[if_neg hlt,if_neg (show¬((-1:Int)≠ -1) by decide),if_neg (show¬(DU F (-1)=true) by simp[DU])];cases n with
    |zero=>show(F.length:Int)=_;omega
    |succ n=>rw[BX,if_pos (.inl (by decide))];omega
  ·have hyD:F.getD q (AC 0 0)=y:=CO hy;have hvD:S.getD q AY=v:=CO hv;have hq:q<F.length:=by
    rcases Nat.lt_or_ge q F.length with h'|h'
    ·exact h'
    ·simp[List.getElem?_eq_none h']at hy
   have hcor2:=h.1.cor q y v hy hv;rw[h1,if_neg (show¬((q:Int)<0) by omega)];simp only[Int.toNat_natCast];rw[hvD];have hend:G6 v i=c0:=by
    unfold G6;rcases h2 with⟨k3,_,_,hc⟩|⟨k2,_,_,hc,_⟩|⟨k2,_,hm,hc,_⟩
    ·rw[if_neg (by rw[hcor2.1,k3];rintro⟨e,_⟩;exact absurd e (by decide))];exact hc.symm
    ·rw[if_pos ⟨by rw[hcor2.1,k2];rfl,by omega⟩];exact hc.symm
    ·rw[if_neg (by omega)];exact hc.symm
   rw[hend];by_cases hlt:u.fin<c0
   ·rw[if_pos hlt,if_pos (show((u.fin:Int)≠ -1) by omega),if_pos hlt]
   ·rw[if_neg hlt,if_neg (show¬((-1:Int)≠ -1) by decide),if_neg hlt];have hqi:q<i:=by rcases h2 with h2|h2|h2<;>omega
    have hrep:DU F q=decide (y.kind=3):=by
     have e:(F.getD ((q:Int)).toNat (AC 0 0)).kind=y.kind:=by rw[Int.toNat_natCast,hyD]
     unfold DU;simp only[e];rw[decide_eq_true (show(0:Int)<=q by omega),decide_eq_true (show(q:Int)<F.length by omega)];rfl
    have hkind:v.kind=64↔y.kind=3:=by
     rw[hcor2.1];rcases h2 with h2|h2|h2
     ·rw[h2.1];decide
     ·rw[h2.1];decide
     ·rw[h2.1];decide
    rw[hrep];by_cases hk3:y.kind=3
    ·rw[if_pos (by simp[hk3]),if_pos (hkind.2 hk3)]
    ·rw[if_neg (by simp[hk3]),if_neg (λe=>hk3 (hkind.1 e))];exact ih q hq (by omega)
theorem Bj.par(h:Bj F S)(k:Nat)(x:Ds)(hx:F[k]?=some x): -1<=x.parent/\x.parent<(k:Int):=by
 have hk:k<F.length:=by
  rcases Nat.lt_or_ge k F.length with h'|h'
  ·exact h'
  ·simp[List.getElem?_eq_none h']at hx
 obtain⟨y,a0,c0,hy,ha,_,hC,_⟩:=h.pos k hk;rw[hx]at hy;cases hy
 have hlt:=hC.lt;rcases hC with⟨h1,_⟩|⟨q,_,_,h1,_⟩<;>omega
theorem Bj.inner(h:Bj F S){i:Nat}{b:Int}{a c g:Nat}(hC:SF F S i b a c)(hB:E1 F S g i b a c):Bu F i b ((i:Int)+1)=if a<c then(a:Int)else -1:=by
 have hia:(i:Int)<a:=hC.lt;have hno:∀(k:Nat)(y:Ds),F[k]?=some y->y.parent=(i:Int)->y.block=b->a<=k/\k<c:=by
  intro k y hy hp hb;have hk:k<F.length:=by
   rcases Nat.lt_or_ge k F.length with h'|h'
   ·exact h'
   ·simp[List.getElem?_eq_none h']at hy
  obtain⟨z,a1,c1,hz,h1,h2,hC1,_⟩:=h.pos k hk;rw[hy]at hz;cases hz
  rw[hp,hb]at hC1;have:=hC.det hC1;omega
 by_cases hlt:a<c
 ·rw[if_pos hlt];obtain⟨y,hy,hyp⟩:∃y,F[a]?=some y/\y.parent=i/\y.block=b:=by
   cases g with
   |zero=>have h':a=c:=hB;omega
   |succ g=>
    rcases hB with hB|⟨e,he,hs2,_⟩
    ·omega
    ·obtain⟨y,v,hy,_,hp,hb,_⟩:=hs2;exact⟨y,hy,hp,hb⟩
  have:=JK (p:=i) (b:=b) (fr:=(i:Int)+1) F 0 a y hy (by omega) hyp.1 hyp.2 (λk z hk hz _ hm=>by have:=hno k z hz hm.1 hm.2;omega);rw[Nat.zero_add]at this;exact this
 ·rw[if_neg hlt];refine IP F 0 (λk y hy _ hm=>?_);have:=hno k y hy hm.1 hm.2;omega
theorem FX(h:Bj F S)(hl:F.length<=20)(k:Nat)(hk:k<F.length)(way:Int):
  Ap F k way=if way<0\/DE (S.getD k AY)<=way then(0,2)else(BZ S k way,0):=by
 obtain⟨x,u,a0,c0,g,hx,hu,hcor,ha,hif,hfc,hC,hs,hr,hkk⟩:=h.at_ k hk;have hxD:F.getD k (AC 0 0)=x:=CO hx;have huD:S.getD k AY=u:=CO hu;have hfol:=Nl h 21 k hk (by omega);have e1:Ap F k way=if way<0\/Ae x.kind<=way then(0,2)else if An x.kind<=way then(BX F 21 k,0)else if Bu F k way ((k:Int)+1)≠ -1 then(Bu F k way ((k:Int)+1),0)else if x.kind=3 then((k:Int),0)else(BX F 21 k,0):=by
  unfold Ap;rw[if_neg (by omega),Int.toNat_natCast,hxD]
 have e2:BZ S k way=if u.kind=61\/u.kind=33\/(u.kind=64/\way=1)then Bx S 21 k else if u.kind=64/\u.fin=k+1 then(k:Int)else if u.kind=64 then(k:Int)+1 else if way=0/\k+1<u.mid then(k:Int)+1 else if way=1/\u.mid<u.fin then(u.mid:Int)else Bx S 21 k:=by
  unfold BZ;simp only[huD]
 rw[e1,huD,e2,hfol];obtain⟨x',u',hx',hu',_,_,_,_,hkd⟩:=hs;rw[hx]at hx';rw[hu]at hu';cases hx'
 cases hu'
 have hkind:=hcor.1;rcases hkd with⟨hk01,_⟩|⟨hk3,hB⟩|⟨hk2,q1,q2,hB1,hB2⟩
 ·have hu61:u.kind=61\/u.kind=33:=by
   rcases hk01 with e|e
   ·left;rw[hkind,e];rfl
   ·right;rw[hkind,e];rfl
  have hw:Ae x.kind=1/\DE u=1/\An x.kind=0:=by
   refine⟨?_,?_,?_⟩
   ·rcases hk01 with e|e<;>rw[e]<;>decide
   ·unfold DE;rw[if_pos hu61]
   ·rcases hk01 with e|e<;>rw[e]<;>decide
  rw[hw.1,hw.2.1,hw.2.2];by_cases hbad:way<0\/(1:Int)<=way
  ·rw[if_pos hbad,if_pos hbad]
  ·rw[if_neg hbad,if_neg hbad,if_pos (show(0:Int)<=way by omega),if_pos (show u.kind=61\/u.kind=33\/(u.kind=64/\way=1)from hu61.elim .inl (λe=>.inr (.inl e)))]
 ·have hu64:u.kind=64:=by rw[hkind,hk3];rfl
  have hw:Ae x.kind=2/\DE u=2/\An x.kind=1:=by
   refine⟨by rw[hk3];decide,?_,by rw[hk3];decide⟩;unfold DE;rw[hu64];decide
  rw[hw.1,hw.2.1,hw.2.2];by_cases hbad:way<0\/(2:Int)<=way
  ·rw[if_pos hbad,if_pos hbad]
  ·rw[if_neg hbad,if_neg hbad];have hin:=h.inner (b:=0) (.inr ⟨k,x,u,rfl,hx,hu,.inl ⟨hk3,rfl,rfl,rfl⟩⟩) hB;by_cases w1:way=1
   ·rw[if_pos (show(1:Int)<=way by omega),if_pos (show u.kind=61\/u.kind=33\/(u.kind=64/\way=1)from .inr (.inr ⟨hu64,w1⟩))]
   ·have w0:way=0:=by omega
    subst w0;rw[if_neg (show¬(1:Int)<=0 by decide),hin,if_neg (show¬(u.kind=61\/u.kind=33\/(u.kind=64/\(0:Int)=1)) by rw[hu64];decide)];by_cases hlt:k+1<u.fin
    ·rw[if_pos hlt,if_pos (show((k+1:Nat):Int)≠ -1 by omega),if_neg (show¬(u.kind=64/\u.fin=k+1) by omega),if_pos hu64];rfl
    ·rw[if_neg hlt,if_neg (show¬((-1:Int)≠ -1) by decide),if_pos hk3,if_pos (show u.kind=64/\u.fin=k+1 from⟨hu64,by omega⟩)]
 ·have hu63:u.kind=63:=by rw[hkind,hk2];rfl
  have hw:Ae x.kind=2/\DE u=2/\An x.kind=2:=by
   refine⟨by rw[hk2];decide,?_,by rw[hk2];decide⟩;unfold DE;rw[hu63];decide
  rw[hw.1,hw.2.1,hw.2.2];by_cases hbad:way<0\/(2:Int)<=way
  ·rw[if_pos hbad,if_pos hbad]
  ·rw[if_neg hbad,if_neg hbad,if_neg (show¬(2:Int)<=way by omega)];have n1:¬(u.kind=61\/u.kind=33\/(u.kind=64/\way=1)):=by omega
   have n2:¬(u.kind=64/\u.fin=k+1):=by omega
   have n3:¬u.kind=64:=by omega
   have n4:¬x.kind=3:=by omega
   rw[if_neg n1,if_neg n2,if_neg n3];have hin0:=h.inner (b:=0) (.inr ⟨k,x,u,rfl,hx,hu,.inr (.inl ⟨hk2,rfl,rfl,rfl,q2⟩)⟩) hB1;have hin1:=h.inner (b:=1) (.inr ⟨k,x,u,rfl,hx,hu,.inr (.inr ⟨hk2,rfl,rfl,rfl,q1⟩)⟩) hB2;by_cases w0:way=0
   ·subst w0;rw[hin0];by_cases hlt:k+1<u.mid
    ·rw[if_pos hlt,if_pos (show((k+1:Nat):Int)≠ -1 by omega),if_pos (show(0:Int)=0/\k+1<u.mid from⟨rfl,hlt⟩)];rfl
    ·rw[if_neg hlt,if_neg (show¬((-1:Int)≠ -1) by decide),if_neg n4,if_neg (show¬((0:Int)=0/\k+1<u.mid)from λe=>hlt e.2),if_neg (show¬((0:Int)=1/\u.mid<u.fin)from λe=>absurd e.1 (by decide))]
   ·have w1:way=1:=by omega
    subst w1;rw[hin1,if_neg (show¬((1:Int)=0/\k+1<u.mid)from λe=>absurd e.1 (by decide))];by_cases hlt:u.mid<u.fin
    ·rw[if_pos hlt,if_pos (show((u.mid:Nat):Int)≠ -1 by omega),if_pos (show(1:Int)=1/\u.mid<u.fin from⟨rfl,hlt⟩)]
    ·rw[if_neg hlt,if_neg (show¬((-1:Int)≠ -1) by decide),if_neg n4,if_neg (show¬((1:Int)=1/\u.mid<u.fin)from λe=>hlt e.2)]
end Go.Proofs.YtffajooegiempaaGreatDoor
namespace Go.Proofs.YtffajooegiempaaGreatDoor
open Go.RowKit
theorem BU(s:ByteArray)(h160:s.size<=160):(BP s=false/\AV (AA s)=none)\/∃m,BP s=true/\AV (AA s)=some m/\Bj (AI s).2 m.st:=by
 have hl:=AR s;have hsame:=I9 s;rcases Lr s with hd|⟨m,ho,hf,hpk⟩
 ·left
  have hg:BP s=false:=by unfold BP;rw[hd.st];rfl
  refine⟨hg,?_⟩;cases hp:AV (AA s)with
  |none=>rfl
  |some m=>
   exfalso;have e:=(Au hp).2.2.2;rw[<-hsame]at e;unfold DX at e;rw[if_neg (by omega),hg]at e;simp at e
 ·by_cases hlt:(AI s).1.1<s.size
  ·left
   have hg:BP s=false:=by unfold BP;rw[ho.sync.ns];simp;omega
   refine⟨hg,?_⟩;cases hp:AV (AA s)with
   |none=>rfl
   |some m=>
    exfalso;have e:=(Au hp).2.2.2;rw[<-hsame]at e;unfold DX at e;rw[if_neg (by omega),hg]at e;simp at e
  ·right
   have hg:BP s=true:=by unfold BP;rw[ho.sync.ns];simp;omega
   have hfd:=ho.sync.fd;have he:(AI s).1.1=s.size:=by have:=ho.sync.le;omega
   rw[he,Kf]at hfd;refine⟨m,hg,?_,ho.cor,hf⟩;have hop:m.op=[]:=ho.op;unfold AV;rw[if_neg (by omega),EH (n:=0) hfd];have hdn:BS m=true:=by unfold BS;rw[ho.st,hop];rfl
   simp[hdn]
variable {w:World}
theorem X0{l:List Int}(ho:B_ l):Sm (BT l):=Sa (Qh l 32 ho.2) 64 (Nat.le_refl _)
theorem BJ(M:Nat->Int):(Bl M).length=32:=by simp[Bl]
def bi(x:Bool×Int):Ending:=.returned (.tuple #[.bool x.1,.int .i64 x.2])
structure SI(u:St):Prop where
 len:u.sg.length=4
 sg:∀i, -1<=AK u.sg i/\AK u.sg i<=1
 num: -99<=u.num/\u.num<=99
 nz:nz u.sg<=2
theorem YO:SI AY:=⟨rfl,λi=>by
 rcases(show i=0\/i=1\/i=2\/i=3\/4<=i by omega)with rfl|rfl|rfl|rfl|h4
 ·exact⟨by decide,by decide⟩
 ·exact⟨by decide,by decide⟩
 ·exact⟨by decide,by decide⟩
 ·exact⟨by decide,by decide⟩
 ·have:AK AY.sg i=0:=by unfold AK AY;rw[List.getD_eq_getElem?_getD,List.getElem?_eq_none (by simp;omega)];rfl
  omega,by decide,by decide⟩
theorem Ga{l:List Int}{m:Rd}(hp:AV l=some m)(k:Nat):SI (m.st.getD k AY):=by
 obtain⟨_,⟨n,hr⟩,_,_⟩:=Au hp;obtain⟨hg,ok⟩:=MR (m:=CY) (m':=m) (λs hs=>absurd hs (by simp[CY])) Ok.init hr;have hc:=Vg (m:=CY) (m':=m) ⟨λs hs=>absurd hs (by simp[CY]),by decide⟩ Ok.init hr;rw[List.getD_eq_getElem?_getD];cases e:m.st[k]? with
 |none=>exact YO
 |some u=>
  have hu:=List.mem_of_getElem? e;have hl:=ok.sgl u hu;refine⟨hl,λi=>?_,ok.nums u hu,hc.all u hu⟩;show -1<=AK u.sg i/\AK u.sg i<=1;unfold AK;rw[List.getD_eq_getElem?_getD];cases e2:u.sg[i]? with
  |none=>exact⟨by decide,by decide⟩
  |some x=>exact(hg u hu).2.2 x (List.mem_of_getElem? e2)
theorem EV{l:List Int}{m:Rd}{F:List Ds}(hp:AV l=some m)(hW:Bj F m.st){k:Nat}(hk:k<F.length):OY (F.getD k (AC 0 0))/\OX (F.getD k (AC 0 0)) (m.st.getD k AY):=by
 have hl:=hW.1.len;have hx:=KE hk;have hu:m.st[k]?=some (m.st.getD k AY):=by rw[List.getD_eq_getElem?_getD,List.getElem?_eq_getElem (by omega)];rfl
 have hc:=hW.1.cor k _ _ hx hu;have hg:=Ga hp k;obtain⟨_,_,_,c3,c4⟩:=id hc;exact⟨⟨by rw[<-c3];exact hg.sg,by rw[<-c4];exact hg.num⟩,hc⟩
end Go.Proofs.YtffajooegiempaaGreatDoor
namespace Go.Proofs.YtffajooegiempaaGreatDoor
open Go.RowKit
variable {B:Nat}{w:World}{r:Nat}{m:Rd}{vs vo:Value}{P Q O:Nat->Nat}
def H_(e:Bool)(C:Nat->Int)(u:St):Bool:=
 if e=true then true else if u.kind=61 then u.star||decide (GP C u.sg≠NB/\GP C (Dv u.sg)≠NB/\GP C u.sg+u.num<=999/\GP C (Dv u.sg)-u.num<=999)
 else if u.kind=33 then !u.star&&decide (GP C u.sg<=u.num)else true
theorem Jv{M:Nat->Int}(hS:Sm M){f:Nat}(hf:f<32): -200000000000000000<=bd M f/\bd M f<=1000000000000:=Th hS (D5 f hf) (D7 f hf)
theorem Qa{M:Nat->Int}(hS:Sm M)(hC:M (0*8+1)=0){l:List Int}(hl:l.length=4)(h:∀i, -1<=AK l i/\AK l i<=1)(h2:nz l<=2): -200000000000000000<=GP M l/\GP M l<=1000000000000:=by
 rw[<-(Gp hC hl h h2).1];exact JZ hS l
def SL(l:List Int):Nat->List Int
 |0=>[0,0,0,0]
 |j+1=>(SL l j).set j (-AK l j)
theorem Ty(l:List Int){j:Nat}(hj:j<4):(SL l j).length=4/\(SL l j).getD j 0=0:=by
 rcases(show j=0\/j=1\/j=2\/j=3 by omega)with rfl|rfl|rfl|rfl<;>exact⟨rfl,rfl⟩
theorem Cp(l:List Int):(Dv l).length=4:=rfl
structure Zp(w:World)(r k:Nat)(u:St)(len:Nat):Prop where
 ex:∃g cap p q,w.cell? ⟨r,1,none⟩=some (.slice (some ⟨g,0,none⟩) len cap)/\w.cell? ⟨g,k,none⟩=some (.pointer (some ⟨p,0,none⟩))/\w.cell? ⟨p,0,none⟩=some (.int .u8 u.kind)/\w.cell? ⟨p,2,none⟩=some (.bool u.star)/\
  w.cell? ⟨p,3,none⟩=some (.slice (some ⟨q,0,none⟩) 4 4)/\w.cell? ⟨p,4,none⟩=some (.int .i64 u.num)/\At w q (ic u.sg) tNk/\p<w.heap.size/\g<w.heap.size/\r<w.heap.size
theorem AZ.stw(h:AZ B w r m vs vo P Q O){k:Nat}(hk:k<m.st.length):Zp w r k (m.st.getD k AY) m.st.length:=by
 obtain⟨g,cap,hvs,hrow,_⟩:=h.row (by omega);obtain⟨r0,r1,_⟩:=h.rdc;have hg:=AZ.gets hk;obtain⟨c0,_,c2,c3,c4,_⟩:=h.stc k _ hg;obtain⟨a,b⟩:=h.st k _ hg;rw[hvs]at r1;have hgl:=World.block_lt_of_cell? w _ (hrow k hk);exact⟨g,cap,P k,Q k,r1,hrow k hk,c0,c2,c3,c4,b,a.lt,hgl,h.rd.lt⟩
theorem OI(h:AZ B w r m vs vo P Q O)(k:Nat)(hk:k<m.st.length)(hu:SI (m.st.getD k AY))(v:Value){e0:Bool}{C:Nat->Int}(hva:∃a n c,v=.slice a n c)(hcl:Calls Tryz.prog 59 #[v] w (BF w e0 C))(hS:Sm C)(hT:e0=false->C (0*8+1)=0):
  Calls Tryz.prog 64 #[.pointer (some ⟨r,0,none⟩),.int .i64 (k:Int),v] w λe w'=>e=.returned (.bool (H_ e0 C (m.st.getD k AY)))/\Below w.heap.size w w':=by
 have hq1:∀(w:World)(a:Option Addr)(n c:Nat),(binOp .eql 32 (.slice a n c) (.slice none 0 0)).run Tryz.prog w=.ok (.bool a.isNone) w:=λw a n c=>Lib.run_eql_slice_nil w 32 tN a n c 0 0 Tryz.underlying32;have hmk:∀w,(Instr.makeSlice 32 (.int .i64 4) (.int .i64 4)).run Tryz.prog w=.ok (.slice (some ⟨w.heap.size,0,none⟩) 4 4) (w.alloc (.cells #[.int .i64 0,.int .i64 0,.int .i64 0,.int .i64 0] tNk)):=λ_=>by kernel_rfl
 have StK:Hid (∀w1,Below w.heap.size w w1->Zp w1 r k (m.st.getD k AY) m.st.length):=λw1 hb=>(h.keep hb).stw hk;have hki:(k:Int)<(m.st.length:Int):=by omega
 have HTC:Hid (e0=false->C (0*8+1)=0):=hT;obtain⟨ao,an,ca,rfl⟩:=hva;clear h hT;generalize m.st.getD k AY=u at *;cases e0 with
 |true=>
  have HE:Hid (H_ true C u=true):=rfl;clear HTC hS;go_enter Tryz.func64,Tryz.ntmps64;go_wp2_with fail;refine hcl.mono ?_;rintro e w1 ⟨hb1,⟨-,rfl⟩|⟨he, -⟩⟩
  ·have hrw:=StK.out w1 hb1;obtain⟨g,cap,p,q,x1,x2,x3,x4,x5,x6,hq,hpl,hgl,hrl⟩:=hrw.ex;have HQ:Hid (At w1 q (ic u.sg) tNk/\Below w.heap.size w w1):=⟨hq,hb1⟩
   clear hrw hq;clear hb1 hcl;go_wp2_with fail;go_ret;exact⟨BM HE.out,HQ.out.2⟩
  ·cases he
 |false=>
 have hC0:=HTC.out rfl;have HGr:Hid (∀w1 gq vv (l:List Int),At w1 gq (ic (Bl C)) Gc->AQ w1 vv l->l.length=4->(∀i, -1<=AK l i/\AK l i<=1)->nz l<=2->Calls Tryz.prog 97 #[.slice (some ⟨gq,0,none⟩) 32 32,vv] w1 λe w'=>e=.returned (.int .i64 (GP C l))/\Below w1.heap.size w1 w'):=λw1 gq vv l ha hr h4 hs h2=>Pb C _ vv l h4 hs h2 hC0 (AQ.at_ ha (by simp[Bl]) (Nat.le_refl _) (λi hi=>Aa _ _ (by simpa[Bl]using hi))) hr;obtain⟨r1,r2⟩:=Qa hS hC0 hu.len hu.sg hu.nz;obtain⟨r3,r4⟩:=Qa hS hC0 (Cp u.sg) (DJ hu.sg) (by rw[C9 hu.len];exact hu.nz);obtain⟨n1,n2⟩:=hu.num;have HU:Hid (SI u):=hu;clear hS HTC hu hC0;by_cases k61:u.kind=61
 ·have HE0:Hid (H_ false C u=(u.star||decide (GP C u.sg≠NB/\GP C (Dv u.sg)≠NB/\GP C u.sg+u.num<=999/\GP C (Dv u.sg)-u.num<=999))):=by show H_ false C u=_;unfold H_;rw[if_neg (by decide),if_pos k61]
  cases hst:u.star with
  |true=>
   have HE:Hid (H_ false C u=true):=by show _=true;rw[HE0.out,hst];rfl
   clear HE0;go_enter Tryz.func64,Tryz.ntmps64;go_wp2_with fail;refine hcl.mono ?_;rintro e w1 ⟨hb1,⟨he, -⟩|⟨-,gq,rfl,hgq,ha⟩⟩
   ·cases he
   ·have hrw:=StK.out w1 hb1;obtain⟨g,cap,p,q,x1,x2,x3,x4,x5,x6,hq,hpl,hgl,hrl⟩:=hrw.ex;have HQ:Hid (At w1 q (ic u.sg) tNk/\Below w.heap.size w w1):=⟨hq,hb1⟩
    clear hrw hq;rw[k61]at x3;rw[hst]at x4;clear hb1 hcl ha k61;go_wp2_with fail;go_ret;exact⟨BM HE.out,HQ.out.2⟩
  |false=>
   have HE1:Hid (H_ false C u=decide (GP C u.sg≠NB/\GP C (Dv u.sg)≠NB/\GP C u.sg+u.num<=999/\GP C (Dv u.sg)-u.num<=999)):=by show _=decide _;rw[HE0.out,hst];rfl
   clear HE0;go_enter Tryz.func64,Tryz.ntmps64;go_wp2_with fail;refine hcl.mono ?_;rintro e w1 ⟨hb1,⟨he, -⟩|⟨-,gq,rfl,hgq,ha⟩⟩
   ·cases he
   ·have hrw:=StK.out w1 hb1;obtain⟨g,cap,p,q,x1,x2,x3,x4,x5,x6,hq,hpl,hgl,hrl⟩:=hrw.ex;have HQ:Hid (At w1 q (ic u.sg) tNk/\Below w.heap.size w w1):=⟨hq,hb1⟩
    clear hrw hq;rw[k61]at x3;rw[hst]at x4;have HA:Hid (At (w1.alloc (.cells #[.int .i64 0,.int .i64 0,.int .i64 0,.int .i64 0] tNk)) w1.heap.size (ic (SL u.sg 0)) tNk/\Below w1.heap.size w1 (w1.alloc (.cells #[.int .i64 0,.int .i64 0,.int .i64 0,.int .i64 0] tNk))):=⟨At.new _ _ _,(Below.refl _ _).alloc (Nat.le_refl _) _⟩
    have HGa:Hid (At w1 gq (ic (Bl C)) Gc):=ha;have hqlt:q<w1.heap.size:=HQ.out.1.lt;clear hb1 hcl ha k61;go_wp2_with fail;go_loopw [10] (λiv wr=>∃(j:Nat),j<=4/\iv=.int .i64 j/\Hid (At wr w1.heap.size (ic (SL u.sg j)) tNk/\Below w1.heap.size w1 wr)) (λiv _=>4-(intOf iv).toNat);case atStart=>exact⟨0,by omega,rfl,HA.out⟩
    case round=>
     obtain⟨j,hj,rfl,HR⟩:=hrel;have y5:wr.cell? ⟨p,3,none⟩=some (.slice (some ⟨q,0,none⟩) 4 4):=(HR.out.2.cell (p:=⟨p,3,none⟩) hpl).trans x5;by_cases hlt:j<4
     ·have hji:(j:Int)<4:=by omega
      have hpn:=Ty u.sg hlt;have ca:wr.cell? ⟨q,j,none⟩=some (.int .i64 (AK u.sg j)):=by
       rw[HR.out.2.cell (p:=⟨q,j,none⟩) hqlt,HQ.out.1.cell,Aa _ _ (by rw[HU.out.len];exact hlt)];rfl
      have cb:wr.cell? ⟨w1.heap.size,j,none⟩=some (.int .i64 0):=by
       rw[HR.out.1.cell,Aa _ _ (by omega),hpn.2]
      have cf:=HR.out.1.free;have hbl:=HR.out.1.lt;have hx:=HU.out.sg j;have HP:Hid (SL u.sg (j+1)=(SL u.sg j).set j (-AK u.sg j)):=rfl;clear hpn;generalize AK u.sg j=x at *;go_wp2_with fail;go_roundw;case rel=>
       refine⟨j+1,by omega,by go_num,?_,HR.out.2.setCell (Nat.le_refl _) _⟩;rw[HP.out,<-Be];exact HR.out.1.put j _
      case measure=>simp[intOf];omega
     ·have hj4:j=4:=by omega
      subst hj4;have hgr:=HGr.out wr gq (.slice (some ⟨q,0,none⟩) 4 4) u.sg (HGa.out.keep HR.out.2 HGa.out.lt) (AQ.at_ (HQ.out.1.keep HR.out.2 HQ.out.1.lt) HU.out.len (Nat.le_refl _) (λi hi=>Aa _ _ (by rw[HU.out.len];exact hi))) HU.out.len HU.out.sg HU.out.nz;have HGr2:Hid (∀w3,Below wr.heap.size wr w3->Calls Tryz.prog 97 #[.slice (some ⟨gq,0,none⟩) 32 32,.slice (some ⟨w1.heap.size,0,none⟩) 4 4] w3 λe w'=>e=.returned (.int .i64 (GP C (Dv u.sg)))/\Below w3.heap.size w3 w'):=by
       intro w3 hb3;have a1:=(HGa.out.keep HR.out.2 HGa.out.lt)
       have a2:At w3 w1.heap.size (ic (Dv u.sg)) tNk:=HR.out.1.keep hb3 HR.out.1.lt;exact HGr.out w3 gq _ (Dv u.sg) (a1.keep hb3 a1.lt) (AQ.at_ a2 (Cp _) (Nat.le_refl _) (λi hi=>Aa _ _ (by rw[Cp];exact hi))) (Cp _) (DJ HU.out.sg) (by rw[C9 HU.out.len];exact HU.out.nz)
      have HBr:Hid (Below w.heap.size w wr):=HQ.out.2.trans (HR.out.2.mono HQ.out.2.size);have z6:wr.cell? ⟨p,4,none⟩=some (.int .i64 u.num):=(HR.out.2.cell (p:=⟨p,4,none⟩) hpl).trans x6;have hplr:p<wr.heap.size:=Nat.lt_of_lt_of_le hpl HR.out.2.size;clear HGr HA HQ;generalize GP C u.sg=hi at *;generalize GP C (Dv u.sg)=lo at *;generalize u.num=n at *;go_wp2_with fail;refine hgr.mono ?_;rintro e w3 ⟨rfl,hb3⟩;have hg2:=HGr2.out w3 hb3;have H3:Hid (Below w.heap.size w w3):=HBr.out.trans (hb3.mono HBr.out.size);have t6:w3.cell? ⟨p,4,none⟩=some (.int .i64 n):=(hb3.cell (p:=⟨p,4,none⟩) hplr).trans z6;have hpl3:p<w3.heap.size:=Nat.lt_of_lt_of_le hplr hb3.size;clear hb3 hgr HGr2;go_wp2_with fail;refine hg2.mono ?_;rintro e w4 ⟨rfl,hb4⟩;have H4:Hid (Below w.heap.size w w4):=H3.out.trans (hb4.mono H3.out.size);have s6:w4.cell? ⟨p,4,none⟩=some (.int .i64 n):=(hb4.cell (p:=⟨p,4,none⟩) hpl3).trans t6;clear hb4 hg2;by_cases q1:hi=NB
      ·have HE:Hid (H_ false C u=false):=HE1.out.trans (decide_eq_false (λz=>z.1 q1));have b1:(hi != 1000000)=false:=by rw[q1];rfl
       clear HE1 q1;go_wp2_with fail;go_ret;exact⟨BM HE.out,H4.out⟩
      have b1:(hi != 1000000)=true:=by rw[bne_iff_ne];exact q1
      by_cases q2:lo=NB
      ·have HE:Hid (H_ false C u=false):=HE1.out.trans (decide_eq_false (λz=>z.2.1 q2));have b2:(lo != 1000000)=false:=by rw[q2];rfl
       clear HE1 q1 q2;go_wp2_with fail;go_ret;exact⟨BM HE.out,H4.out⟩
      have b2:(lo != 1000000)=true:=by rw[bne_iff_ne];exact q2
      by_cases q3:hi+n<=999
      ·have HE:Hid (H_ false C u=decide (lo-n<=999)):=HE1.out.trans (decide_eq_decide.2 ⟨λz=>z.2.2.2,λz=>⟨q1,q2,q3,z⟩⟩);clear HE1 q1 q2;go_wp2_with fail;go_ret;exact⟨BM HE.out,H4.out⟩
      ·have HE:Hid (H_ false C u=false):=HE1.out.trans (decide_eq_false (λz=>q3 z.2.2.1));clear HE1 q1 q2;go_wp2_with fail;go_ret;exact⟨BM HE.out,H4.out⟩
 by_cases k33:u.kind=33
 ·have HE0:Hid (H_ false C u=(!u.star&&decide (GP C u.sg<=u.num))):=by show H_ false C u=_;unfold H_;rw[if_neg (by decide),if_neg k61,if_pos k33]
  cases hst:u.star with
  |true=>
   have HE:Hid (H_ false C u=false):=by show _=false;rw[HE0.out,hst];rfl
   clear HE0;go_enter Tryz.func64,Tryz.ntmps64;go_wp2_with fail;refine hcl.mono ?_;rintro e w1 ⟨hb1,⟨he, -⟩|⟨-,gq,rfl,hgq,ha⟩⟩
   ·cases he
   ·have hrw:=StK.out w1 hb1;obtain⟨g,cap,p,q,x1,x2,x3,x4,x5,x6,hq,hpl,hgl,hrl⟩:=hrw.ex;have HQ:Hid (At w1 q (ic u.sg) tNk/\Below w.heap.size w w1):=⟨hq,hb1⟩
    clear hrw hq;rw[k33]at x3;rw[hst]at x4;clear hb1 hcl ha k33 k61;go_wp2_with fail;go_ret;exact⟨BM HE.out,HQ.out.2⟩
  |false=>
   have HE:Hid (H_ false C u=decide (GP C u.sg<=u.num)):=by show _=decide (GP C u.sg<=u.num);rw[HE0.out,hst];rfl
   clear HE0;go_enter Tryz.func64,Tryz.ntmps64;go_wp2_with fail;refine hcl.mono ?_;rintro e w1 ⟨hb1,⟨he, -⟩|⟨-,gq,rfl,hgq,ha⟩⟩
   ·cases he
   ·have hrw:=StK.out w1 hb1;obtain⟨g,cap,p,q,x1,x2,x3,x4,x5,x6,hq,hpl,hgl,hrl⟩:=hrw.ex;have HQ:Hid (At w1 q (ic u.sg) tNk/\Below w.heap.size w w1):=⟨hq,hb1⟩
    clear hrw hq;have hgr:=HGr.out w1 gq (.slice (some ⟨q,0,none⟩) 4 4) u.sg ha (AQ.at_ HQ.out.1 HU.out.len (Nat.le_refl _) (λi hi=>Aa _ _ (by rw[HU.out.len];exact hi))) HU.out.len HU.out.sg HU.out.nz;rw[k33]at x3;rw[hst]at x4;clear hb1 hcl ha k33 k61;generalize GP C u.sg=gr at *;go_wp2_with fail;refine hgr.mono ?_;rintro e w2 ⟨rfl,hb2⟩;have y6:w2.cell? ⟨p,4,none⟩=some (.int .i64 u.num):=(hb2.cell (p:=⟨p,4,none⟩) hpl).trans x6;have H2:Hid (Below w.heap.size w w2):=HQ.out.2.trans (hb2.mono HQ.out.2.size);clear hb2 hgr;go_wp2_with fail;go_ret;exact⟨BM HE.out,H2.out⟩
 ·have HE:Hid (H_ false C u=true):=by show H_ false C u=_;unfold H_;rw[if_neg (by decide),if_neg k61,if_neg k33]
  have b61:(u.kind==61)=false:=by simpa using k61
  have b33:(u.kind==33)=false:=by simpa using k33
  go_enter Tryz.func64,Tryz.ntmps64;go_wp2_with fail;refine hcl.mono ?_;rintro e w1 ⟨hb1,⟨he, -⟩|⟨-,gq,rfl,hgq,ha⟩⟩
  ·cases he
  ·have hrw:=StK.out w1 hb1;obtain⟨g,cap,p,q,x1,x2,x3,x4,x5,x6,hq,hpl,hgl,hrl⟩:=hrw.ex;have HQ:Hid (At w1 q (ic u.sg) tNk/\Below w.heap.size w w1):=⟨hq,hb1⟩
   clear hrw hq;clear hb1 hcl ha k33 k61;go_wp2_with fail;go_ret;exact⟨BM HE.out,HQ.out.2⟩
theorem UC(h:AZ B w r m vs vo P Q O)(k:Nat)(hk:k<m.st.length)(hu:SI (m.st.getD k AY))(v:Value)(o:List Int)(ho:B_ o)(hv:AQ w v o):
  Calls Tryz.prog 64 #[.pointer (some ⟨r,0,none⟩),.int .i64 (k:Int),v] w λe w'=>e=.returned (.bool (H_ (ovE o) (BT o) (m.st.getD k AY)))/\Below w.heap.size w w':=
 OI h k hk hu v (by obtain⟨a,c,e,_,_⟩:=hv;exact⟨_,_,_,e⟩) (DC v o ho hv) (X0 ho) (λhe=>((Db ho).tc he).zero 0 (by omega))
end Go.Proofs.YtffajooegiempaaGreatDoor
