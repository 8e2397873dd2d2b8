import Derived.Test.YtffajooegiempaaGreatDoorJ17
set_option maxRecDepth 100000
set_option maxHeartbeats 6400000
namespace Go.Proofs.YtffajooegiempaaGreatDoor
variable {s:ByteArray}{d:Nat×Bool}{m m':Rd}
theorem Vc(h:m.state=99)(c:Int):AM m c=if c=42 then some {AE m {cur m with star:=true}with state:=AG m}else if c=45 then some {m with sign:= -1,state:=67}else if 97<=c/\c<=100 then some (Bp m (c-97).toNat 1 100)else none:=by
 rw[Cd (.inl h)];unfold AF;rw[if_pos h]
theorem VZ(h:m.state=67)(c:Int):AM m c=if 97<=c/\c<=100 then some (Bp m (c-97).toNat m.sign 100)else none:=by
 rw[Cd (.inr (.inl h))];unfold AF;rw[h,if_neg (by decide),if_pos rfl]
theorem NT(h:m.state=100)(c:Int):AM m c=if c=43 then some {m with sign:=1,state:=101}else if c=45 then some {m with sign:= -1,state:=101}else if c=60 then some {m with state:=60}else none:=by
 rw[Cd (by rw[h];decide)];unfold AF;rw[h,if_neg (by decide),if_neg (by decide),if_pos rfl]
theorem Sk(h:m.state=101)(c:Int):AM m c=if 97<=c/\c<=100 then(if(cur m).sg.getD (c-97).toNat 0=0 then some (Bp m (c-97).toNat m.sign 102)else none)else none:=by
 rw[Cd (by rw[h];decide)];unfold AF;rw[h,if_neg (by decide),if_neg (by decide),if_neg (by decide),if_pos rfl]
theorem Sl(h:m.state=102)(c:Int):AM m c=if c=60 then some {m with state:=60}else none:=by
 rw[Cd (by rw[h];decide)];unfold AF;rw[h,if_neg (by decide),if_neg (by decide),if_neg (by decide),if_neg (by decide),if_pos rfl]
theorem QK(h:m.state=60)(c:Int):AM m c=if c=61 then some {m with neg:=false,state:=98}else none:=by
 rw[Cd (by rw[h];decide)];unfold AF;rw[h,if_neg (by decide),if_neg (by decide),if_neg (by decide),if_neg (by decide),if_neg (by decide),if_pos rfl]
theorem Vb(h:m.state=98)(c:Int):AM m c=if c=45 then some {m with neg:=true,state:=66}else AT m c false 109:=by
 rw[Cd (by rw[h];decide)];unfold AF;rw[h,if_neg (by decide),if_neg (by decide),if_neg (by decide),if_neg (by decide),if_neg (by decide),if_neg (by decide),if_pos rfl]
theorem VY(h:m.state=66)(c:Int):AM m c=AT m c true 109:=by
 rw[Cd (by rw[h];decide)];unfold AF;rw[h,if_neg (by decide),if_neg (by decide),if_neg (by decide),if_neg (by decide),if_neg (by decide),if_neg (by decide),if_neg (by decide),if_pos rfl]
theorem OB(s:ByteArray)(d:Nat×Bool)(x:Ds)(f:Int):(Aw s d x f).1.any=x.any:=by
 unfold Aw;split
 ·rfl
 ·rfl
def Il(s:ByteArray)(d:Nat×Bool):Int×(Nat×Bool):=Bh s (BE s d).2 (BE s d).1
def Fe(s:ByteArray)(d:Nat×Bool):Int×(Nat×Bool):=Il s (nd s (nd s d 60) 61)
theorem B8.dTailN(h:B8 s d):Il s d=(0,d):=by unfold Il;rw[h.dSign];exact h.dNum 1
theorem B8.dTailE(h:B8 s d):Fe s d=(0,d):=by unfold Fe;rw[h.dnd (by decide),h.dnd (by decide)];exact h.dTailN
def QC(m:Rd)(n:Int)(y:Rd):Prop:=y.state=115/\y.st=(AE m {cur m with num:=n}).st/\y.op=D6 m
theorem Cl.tailN(h:Cl s d m)(hs:m.state=98)(hneg:m.neg=false)(hk:(cur m).kind=33\/m.op.length≠4):JV s (nd s (Il s d).2 (AG m)) (QC m (Il s d).1):=by
 have hb:=Vb hs (pk s d);by_cases h45:pk s d=45
 ·rw[if_pos h45]at hb;have h1:=h.aadv (by omega) hb;have e:Il s d=Bh s (BA d) (-1):=by unfold Il;rw[show BE s d=(-1,BA d)from if_pos h45]
  rw[e];exact h1.numCond (pos:=true) (sg:= -1) (VY rfl _) ⟨(by decide:(66:Int)≠109),(by decide:(66:Int)≠115)⟩ hk (.inr ⟨rfl,rfl,rfl⟩)
 ·rw[if_neg h45]at hb;have e:Il s d=Bh s d 1:=by unfold Il;rw[show BE s d=(1,d)from if_neg h45]
  rw[e];exact h.numCond (pos:=false) (sg:=1) hb ⟨by rw[hs];decide,by rw[hs];decide⟩ hk (.inl ⟨rfl,rfl,hneg⟩)
theorem Cl.tailE(h:Cl s d m)(hs:m.state=100\/m.state=102)(hp:m.state=100->pk s d≠43/\pk s d≠45)(hk:(cur m).kind=33\/m.op.length≠4):JV s (nd s (Fe s d).2 (AG m)) (QC m (Fe s d).1):=by
 have hb:AM m (pk s d)=if pk s d=60 then some {m with state:=60}else none:=by
  rcases hs with e|e
  ·rw[NT e,if_neg (hp e).1,if_neg (hp e).2]
  ·rw[Sl e]
 have hnd:BS m=false:=CT (by omega);rcases h.aneed (c:=60) (m':={m with state:=60}) (by decide) (λe=>by rw[e,if_pos rfl]at hb;exact hb) (λe=>by rw[if_neg e]at hb;exact hb) hnd with hd|⟨m1,h1,rfl⟩
 ·have e:Fe s d=(0,nd s d 60):=by unfold Fe;rw[hd.dnd (by decide)];exact hd.dTailN
  rw[e];show JV s (nd s (nd s d 60) _) _;rw[hd.dnd (DG m).1];exact .inl hd
 ·rcases h1.aneed (c:=61) (m':={m with neg:=false,state:=98}) (by decide) (λe=>by rw[QK rfl,if_pos rfl]) (λe=>by rw[QK rfl,if_neg e]) (CT (by decide:(60:Int)≠115))with hd|⟨m2,h2,rfl⟩
  ·have e:Fe s d=(0,nd s (nd s d 60) 61):=hd.dTailN;rw[e];show JV s (nd s (nd s (nd s d 60) 61) _) _;rw[hd.dnd (DG m).1];exact .inl hd
  ·exact h2.tailN rfl rfl hk
theorem Cl.second(h:Cl s d m)(hs:m.state=100)(hk:(cur m).kind=33\/m.op.length≠4)(x:Ds)(f:Int)(hx:x.sg=(cur m).sg)(hf:∀v:Int,0<=v->v<=3->((cur m).sg.getD v.toNat 0=0↔v≠f)):
  JV s (nd s (Fe s (Aw s d x f).2).2 (AG m)) (QC (AE m {cur m with sg:=(Aw s d x f).1.sg}) (Fe s (Aw s d x f).2).1):=by
 have hn:0<m.st.length:=h.aok.some_ (by rw[hs];decide);have hb:=NT hs (pk s d);have hcs:=CD hn;by_cases hc:pk s d=43\/pk s d=45
 ·obtain⟨g,hg,hb1⟩:∃g,(if pk s d=45 then(-1:Int)else 1)=g/\AM m (pk s d)=some {m with sign:=g,state:=101}:=by
   rcases hc with e|e
   ·exact⟨1,by rw[e];rfl,by rw[hb,if_pos e]⟩
   ·exact⟨-1,by rw[e];rfl,by rw[hb,if_neg (by omega),if_pos e]⟩
  have h1:=h.aadv (by omega) hb1;have e:Aw s d x f=({x with sg:=x.sg.set (Bq s (BA d) f).1.toNat g},(Bq s (BA d) f).2):=by unfold Aw;rw[if_pos hc,hg]
  rw[e];have hb2:=Sk (m:={m with sign:=g,state:=101}) rfl (pk s (BA d));by_cases hv:97<=pk s (BA d)/\pk s (BA d)<=100
  ·rw[if_pos hv]at hb2;by_cases hff:pk s (BA d)-97=f
   ·have ev:Bq s (BA d) f=(0,Ez (BA d)):=by unfold Bq;rw[Dj hv,if_pos (.inr hff)]
    rw[ev];have hd:B8 s (Ez (BA d)):=by
     refine h1.adead ?_ (λ_=>CT (by decide:(101:Int)≠115));rw[hb2,if_neg];intro e0;exact((hf (pk s (BA d)-97) (by omega) (by omega)).1 e0) hff
    show JV s (nd s (Fe s (Ez (BA d))).2 _) _;rw[hd.dTailE];show JV s (nd s (Ez (BA d)) _) _;rw[hd.dnd (DG m).1];exact .inl hd
   ·have ev:Bq s (BA d) f=(pk s (BA d)-97,BA (BA d)):=by unfold Bq;rw[Dj hv,if_neg (by omega)]
    rw[ev];have e0:(cur {m with sign:=g,state:=101}).sg.getD (pk s (BA d)-97).toNat 0=0:=(hf (pk s (BA d)-97) (by omega) (by omega)).2 hff;rw[if_pos e0]at hb2;have h2:=h1.aadv (by omega) hb2;have hkd:(cur (Bp {m with sign:=g,state:=101} (pk s (BA d)-97).toNat g 102)).kind=(cur m).kind:=by
     show(cur (AE m _)).kind=_;rw[hcs];rfl
    have ebh:AG (Bp {m with sign:=g,state:=101} (pk s (BA d)-97).toNat g 102)=AG m:=by unfold AG;rw[hkd]
    have h3:=h2.tailE (.inr rfl) (λe=>absurd e (by decide:(102:Int)≠100)) (by rw[hkd];exact hk);rw[ebh]at h3;refine h3.mono ?_;rintro y-⟨a,b,c⟩;refine⟨a,b.trans ?_,c.trans ?_⟩
    ·show(AE (AE m {cur m with sg:=(cur m).sg.set _ g}) {cur (AE m {cur m with sg:=(cur m).sg.set _ g})with num:=_}).st=(AE (AE m {cur m with sg:=x.sg.set _ g}) {cur (AE m {cur m with sg:=x.sg.set _ g})with num:=_}).st;rw[hx]
    ·show D6 (AE m {cur m with sg:=(cur m).sg.set _ g})=D6 (AE m {cur m with sg:=x.sg.set _ g});rw[hx]
  ·have ev:Bq s (BA d) f=(0,Ez (BA d)):=by unfold Bq;rw[if_pos (.inl (Ff hv))]
   rw[ev];have hd:B8 s (Ez (BA d)):=by
    refine h1.adead ?_ (λ_=>CT (by decide:(101:Int)≠115));rw[hb2,if_neg hv]
   show JV s (nd s (Fe s (Ez (BA d))).2 _) _;rw[hd.dTailE];show JV s (nd s (Ez (BA d)) _) _;rw[hd.dnd (DG m).1];exact .inl hd
 ·have e:Aw s d x f=(x,d):=if_neg hc;rw[e];have h3:=h.tailE (.inl hs) (λ_=>⟨λe=>hc (.inl e),λe=>hc (.inr e)⟩) hk;refine h3.mono ?_;rintro y-⟨a,b,c⟩;have e2:AE m {cur m with sg:=x.sg}=m:=by
   rw[hx];exact Hy hn
  rw[show(x,d).1.sg=x.sg from rfl,e2];exact⟨a,b,c⟩
theorem Cl.cond(h:Cl s d m)(hs:m.state=99)(hk:(cur m).kind=33\/m.op.length≠4)(x:Ds)(hx:x.any=false/\x.sg=(cur m).sg/\x.num=(cur m).num/\(cur m).star=false)(hz:(cur m).sg=[0,0,0,0]):
  JV s (nd s (BR s d x).2 (AG m)) (λy=>y.state=115/\y.st=(AE m {cur m with star:=(BR s d x).1.any,sg:=(BR s d x).1.sg,num:=(BR s d x).1.num}).st/\y.op=D6 m):=by
 have hn:0<m.st.length:=h.aok.some_ (by rw[hs];decide);have hb:=Vc hs (pk s d);obtain⟨hx1,hx2,hx3,hx4⟩:=hx;have hcs:=CD hn;by_cases h42:pk s d=42
 ·have e:BR s d x=({x with any:=true},BA d):=if_pos h42;rw[e];rw[if_pos h42]at hb;have h1:=h.aadv (by omega) hb;have hbh:AG m=59\/AG m=123:=Dh m;obtain⟨y,hy,y1,y2,y3⟩:=Lm (m:=m) (a:={AE m {cur m with star:=true}with state:=AG m}) rfl hk;have hpl:∀c,AM {AE m {cur m with star:=true}with state:=AG m} c=Ac {AE m {cur m with star:=true}with state:=AG m} c:=λc=>Hh hbh c;refine(h1.aneed (m':=y) (DG m).1 (λe=>by rw[hpl];exact hy) (λe=>by rw[hpl];exact N7 rfl e) (CT (DG m).2)).mono ?_;rintro z-rfl;refine⟨y1,y2.trans ?_,y3.trans ?_⟩
  ·show(AE m {cur m with star:=true}).st=(AE m {cur m with star:=true,sg:=x.sg,num:=x.num}).st;rw[hx2,hx3]
  ·unfold D6;show(if(cur m).kind=33 then m.op else m.op++[⟨(AE m _).st.length-1,false⟩])=_;rw[BV]
 rw[if_neg h42]at hb;obtain⟨g,d1,m1,hg,h1,e1,e2,e3,hb1⟩:∃g d1 m1,BE s d=(g,d1)/\Cl s d1 m1/\m1.st=m.st/\m1.op=m.op/\m1.state≠115/\AM m1 (pk s d1)=if 97<=pk s d1/\pk s d1<=100 then some (Bp m1 (pk s d1-97).toNat g 100)else none:=by
  by_cases h45:pk s d=45
  ·rw[if_pos h45]at hb;exact⟨-1,BA d,_,if_pos h45,h.aadv (by omega) hb,rfl,rfl,(by decide:(67:Int)≠115),VZ rfl _⟩
  ·rw[if_neg h45]at hb;exact⟨1,d,m,if_neg h45,h,rfl,rfl,by rw[hs];decide,hb⟩
 have ec:cur m1=cur m:=S3 e1;by_cases hv:97<=pk s d1/\pk s d1<=100
 ·have ev:Bq s d1 (-1)=(pk s d1-97,BA d1):=by unfold Bq;rw[Dj hv,if_neg (by omega)]
  rw[if_pos hv]at hb1;have h2:=h1.aadv (by omega) hb1;obtain⟨v,hve⟩:∃v,v=pk s d1-97:=⟨_,rfl⟩
  rw[<-hve]at ev h2 hb1;have hst2:(Bp m1 v.toNat g 100).st=(AE m {cur m with sg:=(cur m).sg.set v.toNat g}).st:=by
   show(AE m1 {cur m1 with sg:=(cur m1).sg.set v.toNat g}).st=_;rw[ec];exact Ik e1 _
  have hcur2:cur (Bp m1 v.toNat g 100)={cur m with sg:=(cur m).sg.set v.toNat g}:=(S3 hst2).trans (hcs _);have hgn:g≠0:=by
   have:=Ih s d;rw[hg]at this;rcases this with e|e
   ·have e':g=1:=e;omega
   ·have e':g= -1:=e;omega
  have e:BR s d x=({(Aw s (BA d1) {x with any:=false,sg:=x.sg.set v.toNat g} v).1 with num:=(Fe s (Aw s (BA d1) {x with any:=false,sg:=x.sg.set v.toNat g} v).2).1},(Fe s (Aw s (BA d1) {x with any:=false,sg:=x.sg.set v.toNat g} v).2).2):=by
   unfold BR;rw[if_neg h42,hg];simp only;rw[ev];rfl
  have ebh:AG (Bp m1 v.toNat g 100)=AG m:=by unfold AG;rw[hcur2]
  have h3:=h2.second rfl (by rw[hcur2];show(cur m).kind=33\/m1.op.length≠4;rw[e2];exact hk) {x with any:=false,sg:=x.sg.set v.toNat g} v (by rw[hcur2,hx2]) (by
   intro u hu0 hu3;rw[hcur2];show((cur m).sg.set v.toNat g).getD u.toNat 0=0↔u≠v;rw[hz,List.getD_eq_getElem?_getD,List.getElem?_set];by_cases euv:u=v
   ·subst euv;rw[if_pos rfl,if_pos (by simp;omega)];simp[hgn]
   ·rw[if_neg (by omega)]
    rcases(show u=0\/u=1\/u=2\/u=3 by omega)with rfl|rfl|rfl|rfl<;>simp<;>omega)
  rw[ebh]at h3;rw[e];refine h3.mono ?_;rintro y-⟨a,b,c⟩;have hl1:0<(Bp m1 v.toNat g 100).st.length:=by rw[hst2,BV];exact hn
  have hany:(Aw s (BA d1) {x with any:=false,sg:=x.sg.set v.toNat g} v).1.any=false:=OB _ _ _ _;generalize Aw s (BA d1) {x with any:=false,sg:=x.sg.set v.toNat g} v=z at *;refine⟨a,b.trans ?_,c.trans ?_⟩
  ·rw[Bz,CD hl1,hcur2,Ik hst2,Bz];show(AE m {cur m with sg:=z.1.sg,num:=_}).st=(AE m {cur m with star:=z.1.any,sg:=z.1.sg,num:=_}).st;rw[hany,<-hx4]
  ·unfold D6;rw[CD hl1,hcur2,BV];show(if(cur m).kind=33 then m1.op else m1.op++[⟨(Bp m1 v.toNat g 100).st.length-1,false⟩])=_;rw[e2,hst2,BV]
 ·have ev:Bq s d1 (-1)=(0,Ez d1):=by unfold Bq;rw[if_pos (.inl (Ff hv))]
  rw[if_neg hv]at hb1;have hd:B8 s (Ez d1):=h1.adead hb1 (λ_=>CT e3);have e:(BR s d x).2=Ez d1:=by
   unfold BR;rw[if_neg h42,hg];simp only;rw[ev];simp only;rw[hd.dSecond];exact congrArg Prod.snd hd.dTailE
  rw[e,hd.dnd (DG m).1];exact .inl hd
def Fr(k:Int):Int:=if k=0 then 61 else if k=1 then 33 else if k=2 then 63 else 64
def OX(x:Ds)(u:St):Prop:=u.kind=Fr x.kind/\u.var=x.target/\u.star=x.any/\u.sg=x.sg/\u.num=x.num
structure Hf(F:List Ds)(S:List St):Prop where
 len:F.length=S.length
 cor:∀(i:Nat)(x:Ds)(u:St),F[i]?=some x->S[i]?=some u->OX x u
def P_{α:Type}(l l':List α):Prop:=∀i,i<l.length->l'[i]?=l[i]?
theorem P_.refl{α:Type}(l:List α):P_ l l:=λ_ _=>rfl
theorem P_.trans{α:Type}{a b c:List α}(h:P_ a b)(k:P_ b c)(hl:a.length<=b.length):P_ a c:=λi hi=>(k i (by omega)).trans (h i hi)
theorem P_.snoc{α:Type}(l:List α)(x:α):P_ l (l++[x]):=λ_ hi=>List.getElem?_append_left hi
def E7(F:List Ds)(S:List St)(R:Int->Int->Nat->Nat->Prop)(p b:Int)(a e:Nat):Prop:=
 ∃x u,F[a]?=some x/\S[a]?=some u/\x.parent=p/\x.block=b/\u.fin=e/\a<e/\
  (((x.kind=0\/x.kind=1)/\e=a+1)\/(x.kind=3/\R a 0 (a+1) e)\/(x.kind=2/\a+1<=u.mid/\u.mid<=e/\R a 0 (a+1) u.mid/\R a 1 u.mid e))
def E1(F:List Ds)(S:List St):Nat->Int->Int->Nat->Nat->Prop
 |0,_,_,a,c=>a=c
 |f+1,p,b,a,c=>a=c\/∃e,e<=c/\E7 F S (E1 F S f) p b a e/\E1 F S f p b e c
theorem E7.into{F F':List Ds}{S S':List St}{R R':Int->Int->Nat->Nat->Prop}{p b:Int}{a e:Nat}(h:E7 F S R p b a e)(h1:F'[a]?=F[a]?)(h2:S'[a]?=S[a]?)(h3:∀p b i j,a<i->i<=j->j<=e->R p b i j->R' p b i j):E7 F' S' R' p b a e:=by
 obtain⟨x,u,hx,hu,hp,hb,hf,hae,hk⟩:=h;refine⟨x,u,by rw[h1];exact hx,by rw[h2];exact hu,hp,hb,hf,hae,?_⟩;rcases hk with hk|⟨k3,hk⟩|⟨k2,q1,q2,hk1,hk2⟩
 ·exact .inl hk
 ·exact .inr (.inl ⟨k3,h3 _ _ _ _ (by omega) (by omega) (Nat.le_refl _) hk⟩)
 ·exact .inr (.inr ⟨k2,q1,q2,h3 _ _ _ _ (by omega) q1 (by omega) hk1,h3 _ _ _ _ (by omega) q2 (Nat.le_refl _) hk2⟩)
theorem E7.lt{F:List Ds}{S:List St}{R:Int->Int->Nat->Nat->Prop}{p b:Int}{a e:Nat}(h:E7 F S R p b a e):a<e:=by
 obtain⟨x,u,hx,hu,hp,hb,hf,hae,hk⟩:=h;exact hae
theorem E1.succ{F:List Ds}{S:List St}{f:Nat}:∀{p b:Int}{a c:Nat},E1 F S f p b a c->E1 F S (f+1) p b a c:=by
 induction f with
 |zero=>intro p b a c h;exact .inl h
 |succ f ih=>
  intro p b a c h;rcases h with h|⟨e,he,hs,hr⟩
  ·exact .inl h
  ·exact .inr ⟨e,he,hs.into rfl rfl (λ_ _ _ _ _ _ _ hR=>ih hR),ih hr⟩
theorem E1.more{F:List Ds}{S:List St}{f:Nat}(g:Nat){p b:Int}{a c:Nat}(h:E1 F S f p b a c):E1 F S (f+g) p b a c:=by
 induction g with
 |zero=>exact h
 |succ g ih=>exact ih.succ
theorem E1.keep{F F':List Ds}{S S':List St}{f:Nat}:∀{p b:Int}{a c:Nat},E1 F S f p b a c->(∀i,a<=i->i<c->F'[i]?=F[i]?)->(∀i,a<=i->i<c->S'[i]?=S[i]?)->E1 F' S' f p b a c:=by
 induction f with
 |zero=>intro p b a c h _ _;exact h
 |succ f ih=>
  intro p b a c h h1 h2;rcases h with h|⟨e,he,hs,hr⟩
  ·exact .inl h
  ·have hae:=hs.lt;refine .inr ⟨e,he,hs.into (h1 a (by omega) (by omega)) (h2 a (by omega) (by omega)) (λ_ _ i j hi hij hj hR=>ih hR (λk hk1 hk2=>h1 k (by omega) (by omega)) (λk hk1 hk2=>h2 k (by omega) (by omega))),ih hr (λk hk1 hk2=>h1 k (by omega) hk2) (λk hk1 hk2=>h2 k (by omega) hk2)⟩
theorem Hf.snoc{F:List Ds}{S:List St}(h:Hf F S){x:Ds}{u:St}(hc:OX x u):Hf (F++[x]) (S++[u]):=by
 refine⟨by simp[h.len],λi y v hy hv=>?_⟩;by_cases hi:i<F.length
 ·rw[List.getElem?_append_left hi]at hy;rw[List.getElem?_append_left (by rw[<-h.len];exact hi)]at hv;exact h.cor i y v hy hv
 ·have hl:=h.len;have:i=F.length:=by
   have:i<(F++[x]).length:=by
    rcases Nat.lt_or_ge i (F++[x]).length with h'|h'
    ·exact h'
    ·simp[List.getElem?_eq_none h']at hy
   simp at this;omega
  subst this;simp at hy;rw[hl]at hv;simp at hv;subst hy;subst hv;exact hc
theorem Hf.set{F:List Ds}{S:List St}(h:Hf F S){k:Nat}{u u':St}(hk:S[k]?=some u)(hc:∀x,OX x u->OX x u'):Hf F (S.set k u'):=by
 refine⟨by simp[h.len],λi y v hy hv=>?_⟩;rw[List.getElem?_set]at hv;split at hv
 ·rename_i e;subst e;split at hv
  ·simp at hv;subst hv;exact hc y (h.cor k y u hy hk)
  ·cases hv
 ·exact h.cor i y v hy hv
structure Yd(s:ByteArray)(z:Zt)(m:Rd)(z':Zt)(m':Rd):Prop where
 sync:Cl s z'.1 m'
 st:m'.state=115
 op:m'.op=m.op
 cor:Hf z'.2 m'.st
 preF:P_ z.2 z'.2
 preS:P_ m.st m'.st
 len:z.2.length<=z'.2.length
def VO(s:ByteArray)(n:Nat):Prop:=∀(p b dp:Int)(z:Zt)(m:Rd),Cl s z.1 m->m.state=115->(m.op.length:Int)=dp->Hf z.2 m.st->Mz z<n->
 B8 s (AS s n p b dp z).1\/∃m',Yd s z m (AS s n p b dp z) m'/\(∃f,E1 (AS s n p b dp z).2 m'.st f p b z.2.length (AS s n p b dp z).2.length)/\(pk s (AS s n p b dp z).1=0\/pk s (AS s n p b dp z).1=125)
theorem B8.dStmts{z:Zt}(h:B8 s z.1)(n:Nat)(p b dp:Int):AS s n p b dp z=z:=by
 cases n with
 |zero=>rfl
 |succ n=>unfold AS;rw[if_pos (.inl h.dpk)]
theorem B8.dBlock{z:Zt}(h:B8 s z.1)(n:Nat)(p b dp:Int):CI s (AS s n) p b dp z=z:=by
 unfold CI;rw[h.dnd (by decide),B8.dStmts (z:=(z.1,z.2)) h,h.dnd (by decide)]
theorem J2(h:m.state=115)(c:Int):AM m c=AP m c:=by unfold AM;rw[if_pos h]
theorem Sp(h:m.state=125)(c:Int):AM m c=if c=123 then some {m with op:=m.op.set (m.op.length-1) {top m with second:=true},state:=115}else none:=by
 rw[Cd (by rw[h];decide)];unfold AF;rw[h,if_neg (by decide),if_neg (by decide),if_neg (by decide),if_neg (by decide),if_neg (by decide),if_neg (by decide),if_neg (by decide),if_neg (by decide),if_neg (by decide)]
theorem NQ{n:Nat}(H:VO s n){z:Zt}(p b dp:Int)(h:Cl s z.1 m)(hs:m.state=115)(hop:0<m.op.length)(hdp:(m.op.length:Int)=dp)(hc:Hf z.2 m.st)(hm:Mz z<n):
  B8 s (nd s (AS s n p b dp z).1 125)\/∃m2 m3,Yd s z m (AS s n p b dp z) m2/\(∃f,E1 (AS s n p b dp z).2 m2.st f p b z.2.length (AS s n p b dp z).2.length)/\Ba m2=some m3/\Cl s (nd s (AS s n p b dp z).1 125) m3:=by
 rcases H p b dp z m h hs hdp hc hm with hd|⟨m2,ho,hf,hpk⟩
 ·left;rw[hd.dnd (by decide)];exact hd
 ·have hb:=J2 ho.st (pk s (AS s n p b dp z).1);have hop2:0<m2.op.length:=by rw[ho.op];exact hop
  by_cases e:pk s (AS s n p b dp z).1=125
  ·right
   rw[e]at hb;have hst:AP m2 125=Ba m2:=by unfold AP;rw[if_neg (by decide),if_neg (by decide),if_neg (by decide),if_pos ⟨rfl,hop2⟩]
   rw[hst]at hb;obtain⟨m3,hm3⟩:∃m3,Ba m2=some m3:=by
    simp only[Ba];split
    ·exact⟨_,rfl⟩
    ·exact⟨_,rfl⟩
   refine⟨m2,m3,ho,hf,hm3,?_⟩;have en:nd s (AS s n p b dp z).1 125=BA (AS s n p b dp z).1:=if_pos e;rw[en];exact ho.sync.aadv (by omega) (by rw[e,hb,hm3])
  ·left
   have e0:pk s (AS s n p b dp z).1=0:=hpk.elim id (λh=>absurd h e);have en:nd s (AS s n p b dp z).1 125=Ez (AS s n p b dp z).1:=if_neg e;rw[en];refine ho.sync.adead ?_ (λ_=>?_)
   ·rw[hb,e0];unfold AP;rw[if_neg (by decide),if_neg (by decide),if_neg (by decide),if_neg (by omega)]
   ·unfold BS;simp;intro _ h0;rw[h0]at hop2;exact absurd hop2 (by simp)
theorem Ge{o:List Bk}{b:Bk}(h:m.op=o++[b]):top m=b/\m.op.take (m.op.length-1)=o/\0<m.op.length:=by
 unfold top;rw[h];simp
theorem JM(s:ByteArray)(d:Nat×Bool)(x:Ds):(Ao s d x).1.kind=x.kind/\(Ao s d x).1.target=x.target/\(Ao s d x).1.parent=x.parent/\(Ao s d x).1.block=x.block:=by
 unfold Ao;split
 ·exact⟨rfl,rfl,rfl,rfl⟩
 split
 ·exact⟨rfl,rfl,rfl,rfl⟩
 ·exact⟨rfl,rfl,rfl,rfl⟩
theorem Mh(s:ByteArray)(d:Nat×Bool)(x:Ds)(f:Int):(Aw s d x f).1.kind=x.kind/\(Aw s d x f).1.target=x.target/\(Aw s d x f).1.parent=x.parent/\(Aw s d x f).1.block=x.block:=by
 unfold Aw;split
 ·exact⟨rfl,rfl,rfl,rfl⟩
 ·exact⟨rfl,rfl,rfl,rfl⟩
theorem Hu(s:ByteArray)(d:Nat×Bool)(x:Ds):(BR s d x).1.kind=x.kind/\(BR s d x).1.target=x.target/\(BR s d x).1.parent=x.parent/\(BR s d x).1.block=x.block:=by
 unfold BR;split
 ·exact⟨rfl,rfl,rfl,rfl⟩
 ·exact Mh _ _ _ _
def u0(m:Rd)(k v:Int):St:=⟨k,v,false,[0,0,0,0],0,0,m.st.length+1⟩
def Do(m:Rd)(k v x:Int):Rd:={m with st:=m.st++[u0 m k v],state:=x}
theorem Iu{k v x:Int}(h:m.st.length≠20):BN m k v x=some (Do m k v x):=by unfold BN;rw[if_neg h];rfl
theorem Ce(k v x:Int):cur (Do m k v x)=u0 m k v:=by unfold cur Do;simp
theorem F4(k v x:Int)(u:St):(AE (Do m k v x) u).st=m.st++[u]:=by unfold AE Do;simp
theorem Pr(hl:m.st.length=20){c:Int}(hc:c≠125):AP m c=none:=by
 unfold AP BN;split
 ·first|rfl|rw[if_pos hl]
 split
 ·split
  ·first|rfl|rw[if_pos hl]
  ·rfl
 split
 ·first|rfl|rw[if_pos hl]
 ·rw[if_neg (λe=>hc e.1)]
theorem JO{n:Nat}{z:Zt}{p b dp:Int}{x:Ds}{d1:Nat×Bool}{u:St}(hc:Hf z.2 m.st)(h20:¬20<=z.2.length)(hh:Bo s z.1 (AC p b) dp=(x,d1))(hk:x.kind=0\/x.kind=1)(hp:x.parent=p/\x.block=b)(hcor:OX x u)(hfin:u.fin=m.st.length+1)
  (hr:JV s d1 (λy=>y.state=115/\y.op=m.op/\y.st=m.st++[u])):
  B8 s (AU s (AS s n) p b dp z).1\/∃m1,Yd s z m (AU s (AS s n) p b dp z) m1/\∃f,E7 (AU s (AS s n) p b dp z).2 m1.st (E1 (AU s (AS s n) p b dp z).2 m1.st f) p b z.2.length (AU s (AS s n) p b dp z).2.length:=by
 have hb0:An x.kind=0:=by
  rcases hk with e|e<;>rw[e]<;>decide
 have hl:=hc.len;rcases hr with hd|⟨m1,h1,hst,hop,hS⟩
 ·left
  have e:AU s (AS s n) p b dp z=(d1,z.2):=by unfold AU;rw[if_neg h20,hh,if_pos hd.st]
  rw[e];exact hd
 ·right
  have e:AU s (AS s n) p b dp z=(d1,z.2++[x]):=by unfold AU;rw[if_neg h20,hh,if_neg (by rw[h1.ns];decide)];simp only;rw[hb0];rfl
  rw[e];refine⟨m1,⟨h1,hst,hop,by rw[hS];exact hc.snoc hcor,P_.snoc _ _,by rw[hS];exact P_.snoc _ _,by simp⟩,0,x,u,by simp,by rw[hS,hl];simp,hp.1,hp.2,by rw[hfin,<-hl];simp,by simp,.inl ⟨hk,by simp⟩⟩
theorem NR{n:Nat}(H:VO s n){z:Zt}{p b dp:Int}{x:Ds}{d1:Nat×Bool}{u:St}(hz:z.1.2=false)(hm:Mz z<=n)(hdp:(m.op.length:Int)=dp)(hc:Hf z.2 m.st)(h20:¬20<=z.2.length)(hh:Bo s z.1 (AC p b) dp=(x,d1))(hk:x.kind=2\/x.kind=3)(hp:x.parent=p/\x.block=b)(hcor:OX x u)
  (hr:JV s (nd s d1 123) (λy=>y.state=115/\y.op=m.op++[⟨m.st.length,false⟩]/\y.st=m.st++[u])):
  B8 s (AU s (AS s n) p b dp z).1\/∃m1,Yd s z m (AU s (AS s n) p b dp z) m1/\∃f,E7 (AU s (AS s n) p b dp z).2 m1.st (E1 (AU s (AS s n) p b dp z).2 m1.st f) p b z.2.length (AU s (AS s n) p b dp z).2.length:=by
 have hl:=hc.len;have hMz:Mz z=21-z.2.length:=by unfold Mz;rw[hz];rfl
 by_cases hst1:d1.2=true
 ·left
  have e:AU s (AS s n) p b dp z=(d1,z.2):=by unfold AU;rw[if_neg h20,hh,if_pos hst1]
  rw[e];have epk:pk s d1=0:=by unfold pk;rw[hst1];rfl
  have en:nd s d1 123=d1:=by unfold nd;rw[if_neg (by rw[epk];decide),<-hst1]
  rw[en]at hr;rcases hr with hd|⟨m1,h1,_⟩
  ·exact hd
  ·exact absurd h1.ns (by rw[hst1];decide)
 obtain⟨z1,hz1⟩:∃z1,z1=CI s (AS s n) z.2.length 0 (dp+1) (d1,z.2++[x]):=⟨_,rfl⟩
 have e3:x.kind=3->AU s (AS s n) p b dp z=z1:=by
  intro e;unfold AU;rw[if_neg h20,hh,if_neg hst1];simp only;rw[e,hz1];rfl
 have e2:x.kind=2->AU s (AS s n) p b dp z=CI s (AS s n) z.2.length 1 (dp+1) z1:=by
  intro e;unfold AU;rw[if_neg h20,hh,if_neg hst1];simp only;rw[e,hz1];rfl
 have deadAll:B8 s z1.1->B8 s (AU s (AS s n) p b dp z).1:=by
  intro hd;rcases hk with e|e
  ·rw[e2 e,hd.dBlock];exact hd
  ·rw[e3 e];exact hd
 rcases hr with hd|⟨m2,h2,s2,o2,t2⟩
 ·left
  refine deadAll ?_;rw[hz1];unfold CI;rw[B8.dStmts (z:=(nd s d1 123,z.2++[x])) hd];show B8 s (nd s (nd s d1 123) 125);rw[hd.dnd (by decide)];exact hd
 have ht2:=Ge o2;have hc2:Hf (z.2++[x]) m2.st:=by rw[t2];exact hc.snoc hcor
 have hM2:Mz (nd s d1 123,z.2++[x])<n:=by
  unfold Mz;rw[h2.ns];simp;omega
 have hdp2:(m2.op.length:Int)=dp+1:=by rw[o2];simp;omega
 have hz1':z1=(nd s (AS s n z.2.length 0 (dp+1) (nd s d1 123,z.2++[x])).1 125,(AS s n z.2.length 0 (dp+1) (nd s d1 123,z.2++[x])).2):=hz1;rcases NQ H (z:=(nd s d1 123,z.2++[x])) z.2.length 0 (dp+1) h2 s2 ht2.2.2 hdp2 hc2 hM2 with hd|⟨m3,m4,ho3,⟨f3,hf3⟩,hsh,h4⟩
 ·left;refine deadAll ?_;rw[hz1'];exact hd
 obtain⟨y,hy⟩:∃y,y=AS s n z.2.length 0 (dp+1) (nd s d1 123,z.2++[x]):=⟨_,rfl⟩
 rw[<-hy]at ho3 hf3 h4 hz1';have hlen1:z.2.length+1<=y.2.length:=by have:=ho3.len;simp at this;omega
 have hu3:m3.st[z.2.length]?=some u:=by
  rw[ho3.preS _ (by rw[t2];simp;omega),t2,hl];simp
 have hx3:y.2[z.2.length]?=some x:=by
  rw[ho3.preF _ (by simp)];simp
 have hS3:m3.st.length=y.2.length:=ho3.cor.len.symm;have o3:m3.op=m.op++[⟨m.st.length,false⟩]:=ho3.op.trans o2;have ht3:=Ge o3;have hg3:m3.st.getD m.st.length AY=u:=by rw[<-hl,List.getD_eq_getElem?_getD,hu3];rfl
 have preS0:∀i,i<m.st.length->m3.st[i]?=m.st[i]?:=λi hi=>by
  rw[ho3.preS i (by rw[t2];simp;omega),t2,List.getElem?_append_left hi]
 have preF0:∀i,i<z.2.length->y.2[i]?=z.2[i]?:=λi hi=>by
  rw[ho3.preF i (by simp;omega)];exact List.getElem?_append_left hi
 simp only[Ba]at hsh;rw[ht3.1,ht3.2.1]at hsh;simp only at hsh;rw[hg3]at hsh;rcases hk with hk|hk
 ·have hku:u.kind=63:=by rw[hcor.1,hk];rfl
  rw[if_pos ⟨hku,by first|rfl|trivial⟩]at hsh;simp only[Option.some.injEq]at hsh;rw[e2 hk,hz1'];have hb4:=Sp (m:=m4) (by rw[<-hsh]) (pk s (nd s y.1 125));have o4:m4.op=m.op++[⟨m.st.length,false⟩]:=by rw[<-hsh];exact o3
  have ht4:=Ge o4;have hS4:m4.st=m3.st.set m.st.length {u with fin:=m3.st.length,mid:=m3.st.length}:=by rw[<-hsh]
  unfold CI;simp only;rcases h4.aneed (c:=123) (m':={m4 with op:=m4.op.set (m4.op.length-1) {top m4 with second:=true},state:=115}) (by decide) (λe=>by rw[e,if_pos rfl]at hb4;exact hb4) (λe=>by rw[if_neg e]at hb4;exact hb4) (CT (by rw[<-hsh];show(125:Int)≠115;decide))with hd|⟨m5,h5,e5⟩
  ·left
   rw[B8.dStmts (z:=(nd s (nd s y.1 125) 123,y.2)) hd];show B8 s (nd s (nd s (nd s y.1 125) 123) 125);rw[hd.dnd (by decide)];exact hd
  have o5:m5.op=m.op++[⟨m.st.length,true⟩]:=by rw[e5];show m4.op.set _ _=_;rw[ht4.1,o4];simp
  have t5:m5.st=m4.st:=by rw[e5]
  have ht5:=Ge o5;have hc5:Hf y.2 m5.st:=by rw[t5,hS4,<-hl];exact ho3.cor.set hu3 (λw hw=>hw)
  have hM5:Mz (nd s (nd s y.1 125) 123,y.2)<n:=by
   unfold Mz;rw[h5.ns];simp;omega
  have hdp5:(m5.op.length:Int)=dp+1:=by rw[o5];simp;omega
  rcases NQ H (z:=(nd s (nd s y.1 125) 123,y.2)) z.2.length 1 (dp+1) h5 (by rw[e5]) ht5.2.2 hdp5 hc5 hM5 with hd|⟨m6,m7,ho6,⟨f6,hf6⟩,hsh7,h7⟩
  ·left;exact hd
  right
  obtain⟨y2,hy2⟩:∃y2,y2=AS s n z.2.length 1 (dp+1) (nd s (nd s y.1 125) 123,y.2):=⟨_,rfl⟩
  rw[<-hy2]at ho6 hf6 h7|-;have hlen2:y.2.length<=y2.2.length:=ho6.len;have o6:m6.op=m.op++[⟨m.st.length,true⟩]:=ho6.op.trans o5;have ht6:=Ge o6;have hl5:m5.st.length=y.2.length:=hc5.len.symm;have hu6:m6.st[m.st.length]?=some {u with fin:=m3.st.length,mid:=m3.st.length}:=by
   rw[ho6.preS _ (by rw[hl5];omega),t5,hS4,List.getElem?_set,if_pos rfl,if_pos (by rw[hS3];omega)]
  have hg6:m6.st.getD m.st.length AY={u with fin:=m3.st.length,mid:=m3.st.length}:=by rw[List.getD_eq_getElem?_getD,hu6];rfl
  simp only[Ba]at hsh7;rw[ht6.1,ht6.2.1]at hsh7;simp only at hsh7;rw[hg6,if_neg (by simp)]at hsh7;simp only[Option.some.injEq]at hsh7;have hS7:m7.st=m6.st.set m.st.length {u with fin:=m6.st.length,mid:=m3.st.length}:=by rw[<-hsh7]
  have hS6:m6.st.length=y2.2.length:=ho6.cor.len.symm;have far7:∀i,i≠m.st.length->m7.st[i]?=m6.st[i]?:=λi hi=>by rw[hS7,List.getElem?_set,if_neg (λe=>hi e.symm)]
  have far4:∀i,i≠m.st.length->m4.st[i]?=m3.st[i]?:=λi hi=>by rw[hS4,List.getElem?_set,if_neg (λe=>hi e.symm)]
  have pre6:∀i,i<y.2.length->m6.st[i]?=m4.st[i]?:=λi hi=>by rw[ho6.preS i (by rw[hl5];exact hi),t5]
  refine⟨m7,⟨h7,by rw[<-hsh7];exact ho6.st,by rw[<-hsh7],by rw[hS7];exact ho6.cor.set hu6 (λw hw=>hw),λi hi=>(ho6.preF i (by show i<y.2.length;omega)).trans (preF0 i hi),λi hi=>by
   rw[far7 i (by omega),pre6 i (by omega),far4 i (by omega),preS0 i hi],by show z.2.length<=y2.2.length;omega⟩,f3+f6,x,{u with fin:=m6.st.length,mid:=m3.st.length},?_,?_,hp.1,hp.2,by show m6.st.length=y2.2.length;exact hS6,by show z.2.length<y2.2.length;omega,.inr (.inr ⟨hk,by show z.2.length+1<=m3.st.length;omega,by show m3.st.length<=y2.2.length;omega,?_,?_⟩)⟩
  ·show y2.2[z.2.length]?=some x;rw[ho6.preF _ (by show z.2.length<y.2.length;omega)];exact hx3
  ·rw[hS7,hl,List.getElem?_set,if_pos rfl,if_pos (by omega)]
  ·show E1 y2.2 m7.st (f3+f6) z.2.length 0 (z.2.length+1) m3.st.length;rw[hS3];have hb:E1 y.2 m3.st f3 z.2.length 0 (z.2.length+1) y.2.length:=by
    have h:=hf3;simp at h;exact h
   exact(hb.keep (λi h1 h2=>ho6.preF i h2) (λi h1 h2=>by rw[far7 i (by omega),pre6 i h2,far4 i (by omega)])).more f6
  ·show E1 y2.2 m7.st (f3+f6) z.2.length 1 m3.st.length y2.2.length;rw[hS3,Nat.add_comm];exact(hf6.keep (λi _ _=>rfl) (λi h1 h2=>far7 i (by have h1':y.2.length<=i:=h1;omega))).more f3
 ·have hku:u.kind=64:=by rw[hcor.1,hk];rfl
  rw[if_neg (by rw[hku];simp)]at hsh;simp only[Option.some.injEq]at hsh
  right
  rw[e3 hk,hz1'];have hS4:m4.st=m3.st.set m.st.length {u with fin:=m3.st.length}:=by rw[<-hsh]
  have far4:∀i,i≠m.st.length->m4.st[i]?=m3.st[i]?:=λi hi=>by rw[hS4,List.getElem?_set,if_neg (λe=>hi e.symm)]
  refine⟨m4,⟨h4,by rw[<-hsh];exact ho3.st,by rw[<-hsh],by rw[hS4,<-hl];exact ho3.cor.set hu3 (λw hw=>hw),preF0,λi hi=>by rw[far4 i (by omega),preS0 i hi],by show z.2.length<=y.2.length;omega⟩,f3,x,{u with fin:=m3.st.length},hx3,?_,hp.1,hp.2,by show m3.st.length=y.2.length;exact hS3,by show z.2.length<y.2.length;omega,.inr (.inl ⟨hk,?_⟩)⟩
  ·rw[hS4,hl,List.getElem?_set,if_pos rfl,if_pos (by omega)]
  ·show E1 y.2 m4.st f3 z.2.length 0 (z.2.length+1) y.2.length;have hb:E1 y.2 m3.st f3 z.2.length 0 (z.2.length+1) y.2.length:=by
    have h:=hf3;simp at h;exact h
   exact hb.keep (λi _ _=>rfl) (λi h1 h2=>far4 i (by omega))
theorem Ln{x x1:Ds}{d1:Nat×Bool}{dp:Int}{y:Ds×(Nat×Bool)}(ek:BD s d x dp=(x1,d1))(h0:x1.kind=0)(hy:y=Ao s (nd s d1 61) x1)(hb:An y.1.kind=0):Bo s d x dp=(y.1,nd s y.2 59):=by
 unfold Bo;rw[ek];have e:(if x1.kind=0 then Ao s (nd s d1 61) x1 else BR s d1 x1)=y:=by rw[if_pos h0,hy]
 show(if An (if x1.kind=0 then Ao s (nd s d1 61) x1 else BR s d1 x1).1.kind=0 then((if x1.kind=0 then Ao s (nd s d1 61) x1 else BR s d1 x1).1,nd s (if x1.kind=0 then Ao s (nd s d1 61) x1 else BR s d1 x1).2 59)else(if x1.kind=0 then Ao s (nd s d1 61) x1 else BR s d1 x1))=_;rw[e,if_pos hb]
theorem Hv{x x1:Ds}{d1:Nat×Bool}{dp:Int}{y:Ds×(Nat×Bool)}(ek:BD s d x dp=(x1,d1))(h0:x1.kind≠0)(hy:y=BR s d1 x1):Bo s d x dp=if An y.1.kind=0 then(y.1,nd s y.2 59)else y:=by
 unfold Bo;rw[ek];have e:(if x1.kind=0 then Ao s (nd s d1 61) x1 else BR s d1 x1)=y:=by rw[if_neg h0,hy]
 show(if An (if x1.kind=0 then Ao s (nd s d1 61) x1 else BR s d1 x1).1.kind=0 then((if x1.kind=0 then Ao s (nd s d1 61) x1 else BR s d1 x1).1,nd s (if x1.kind=0 then Ao s (nd s d1 61) x1 else BR s d1 x1).2 59)else(if x1.kind=0 then Ao s (nd s d1 61) x1 else BR s d1 x1))=_;rw[e]
theorem SA{n:Nat}(H:VO s n){z:Zt}(p b dp:Int)(h:Cl s z.1 m)(hs:m.state=115)(hdp:(m.op.length:Int)=dp)(hc:Hf z.2 m.st)(hm:Mz z<=n)(h0:pk s z.1≠0)(h125:pk s z.1≠125):
  B8 s (AU s (AS s n) p b dp z).1\/∃m1,Yd s z m (AU s (AS s n) p b dp z) m1/\∃f,E7 (AU s (AS s n) p b dp z).2 m1.st (E1 (AU s (AS s n) p b dp z).2 m1.st f) p b z.2.length (AU s (AS s n) p b dp z).2.length:=by
 have hl:=hc.len;have hlen:=h.aok.len;have hb:=J2 hs (pk s z.1);have hlt:=(DA rfl h0).1;have dead0:AM m (pk s z.1)=none->B8 s (Ez z.1):=λhn=>h.adead hn (λe=>absurd hlt (by omega));by_cases h20:20<=z.2.length
 ·left
  have e:AU s (AS s n) p b dp z=(Ez z.1,z.2):=if_pos h20;rw[e];exact dead0 (by rw[hb];exact Pr (by omega) h125)
 have hne:m.st.length≠20:=by omega
 by_cases h33:pk s z.1=33
 ·have hst:AP m (pk s z.1)=some (Do m 33 0 99):=by unfold AP;rw[h33,if_neg (by decide),if_neg (by decide),if_pos rfl,Iu hne]
  rw[hst]at hb;have h1:=h.aadv h0 hb;have hcond:=h1.cond rfl (.inl (by rw[Ce];rfl)) {AC p b with kind:=1} (by rw[Ce];exact⟨rfl,rfl,rfl,rfl⟩) (by rw[Ce];rfl);have hsame:=Hu s (BA z.1) {AC p b with kind:=1};have hbh:AG (Do m 33 0 99)=59:=by unfold AG;rw[Ce];rfl
  have hopA:D6 (Do m 33 0 99)=m.op:=by unfold D6;rw[Ce];rfl
  rw[hbh]at hcond;obtain⟨y,hy⟩:∃y,y=BR s (BA z.1) {AC p b with kind:=1}:=⟨_,rfl⟩
  rw[<-hy]at hcond hsame;have hh:Bo s z.1 (AC p b) dp=(y.1,nd s y.2 59):=by
   have ek:BD s z.1 (AC p b) dp=({AC p b with kind:=1},BA z.1):=if_pos h33;exact(Hv ek (by show(1:Int)≠0;decide) hy).trans (if_pos (by rw[hsame.1];show An 1=0;decide))
  refine JO (u:={u0 m 33 0 with star:=y.1.any,sg:=y.1.sg,num:=y.1.num}) hc h20 hh (.inr hsame.1) ⟨hsame.2.2.1,hsame.2.2.2⟩ ⟨by rw[hsame.1];rfl,by rw[hsame.2.1];rfl,rfl,rfl,rfl⟩ rfl ?_;refine hcond.mono ?_;rintro w-⟨a,b',c⟩;rw[Ce,F4]at b';exact⟨a,c.trans hopA,b'⟩
 by_cases hq:pk s z.1=63\/pk s z.1=64
 ·obtain⟨kk,hkk⟩:∃kk:Int,(kk=2/\pk s z.1=63)\/(kk=3/\pk s z.1=64):=by
   rcases hq with e|e
   ·exact⟨2,.inl ⟨rfl,e⟩⟩
   ·exact⟨3,.inr ⟨rfl,e⟩⟩
  have ek:BD s z.1 (AC p b) dp=({AC p b with kind:=kk},if 4<=dp then Ez z.1 else BA z.1):=by
   unfold BD;rw[if_neg h33];rcases hkk with⟨rfl,e⟩|⟨rfl,e⟩
   ·rw[if_pos e]
   ·rw[if_neg (by omega),if_pos e]
  have hkb:An kk≠0/\kk≠0:=by rcases hkk with⟨rfl,_⟩|⟨rfl,_⟩<;>decide
  by_cases h4:m.op.length<4
  ·have hst:AP m (pk s z.1)=some (Do m (pk s z.1) 0 99):=by unfold AP;rw[if_neg (by omega),if_pos hq,if_pos h4,Iu hne]
   rw[hst]at hb;have h1:=h.aadv h0 hb;have hcond:=h1.cond rfl (.inr (by show m.op.length≠4;omega)) {AC p b with kind:=kk} (by rw[Ce];exact⟨rfl,rfl,rfl,rfl⟩) (by rw[Ce];rfl);have hsame:=Hu s (BA z.1) {AC p b with kind:=kk};have hn33:¬(cur (Do m (pk s z.1) 0 99)).kind=33:=by rw[Ce];exact h33
   have hbh:AG (Do m (pk s z.1) 0 99)=123:=if_neg hn33;have hopA:D6 (Do m (pk s z.1) 0 99)=m.op++[⟨m.st.length,false⟩]:=by
    unfold D6;rw[if_neg hn33];show m.op++[⟨(m.st++[u0 m (pk s z.1) 0]).length-1,false⟩]=_;simp
   rw[hbh]at hcond;obtain⟨y,hy⟩:∃y,y=BR s (BA z.1) {AC p b with kind:=kk}:=⟨_,rfl⟩
   rw[<-hy]at hcond hsame;have hh:Bo s z.1 (AC p b) dp=(y.1,y.2):=by
    rw[if_neg (by omega)]at ek;exact(Hv ek hkb.2 hy).trans (if_neg (by rw[hsame.1];exact hkb.1))
   refine NR H (u:={u0 m (pk s z.1) 0 with star:=y.1.any,sg:=y.1.sg,num:=y.1.num}) h.ns hm hdp hc h20 hh (by rw[hsame.1];exact hkk.elim (λe=>.inl e.1) (λe=>.inr e.1)) ⟨hsame.2.2.1,hsame.2.2.2⟩ ⟨?_,by rw[hsame.2.1];rfl,rfl,rfl,rfl⟩ ?_
   ·show pk s z.1=Fr y.1.kind;rw[hsame.1];rcases hkk with⟨rfl,e⟩|⟨rfl,e⟩<;>rw[e]<;>rfl
   ·refine hcond.mono ?_;rintro w-⟨a,b',c⟩;rw[Ce,F4]at b';exact⟨a,c.trans hopA,b'⟩
  ·left
   have hst:AP m (pk s z.1)=none:=by unfold AP;rw[if_neg (by omega),if_pos hq,if_neg h4]
   have hd:=dead0 (by rw[hb];exact hst);have hh:(Bo s z.1 (AC p b) dp).2=Ez z.1:=by
    rw[if_pos (by omega)]at ek;rw[(Hv ek hkb.2 rfl).trans (if_neg (by rw[(Hu s (Ez z.1) {AC p b with kind:=kk}).1];exact hkb.1))];exact hd.dCond _
   have e:(AU s (AS s n) p b dp z).1=Ez z.1:=by unfold AU;rw[if_neg h20,hh];rfl
   rw[e];exact hd
 by_cases hv:97<=pk s z.1/\pk s z.1<=100
 ·have hst:AP m (pk s z.1)=some (Do m 61 (pk s z.1-97) 61):=by unfold AP;rw[if_pos hv,Iu hne]
  rw[hst]at hb;have h1:=h.aadv h0 hb;have ev:Bq s z.1 (-1)=(pk s z.1-97,BA z.1):=by unfold Bq;rw[Dj hv,if_neg (by omega)]
  have ek:BD s z.1 (AC p b) dp=({AC p b with kind:=0,target:=pk s z.1-97},BA z.1):=by
   unfold BD;rw[if_neg h33,if_neg (λe=>hq (.inl e)),if_neg (λe=>hq (.inr e)),ev]
  obtain⟨y,hy⟩:∃y,y=Ao s (nd s (BA z.1) 61) {AC p b with kind:=0,target:=pk s z.1-97}:=⟨_,rfl⟩
  have hsame:=JM s (nd s (BA z.1) 61) {AC p b with kind:=0,target:=pk s z.1-97};rw[<-hy]at hsame;have hh:Bo s z.1 (AC p b) dp=(y.1,nd s y.2 59):=by
   exact Ln ek rfl hy (by rw[hsame.1];show An 0=0;decide)
  refine JO (u:={u0 m 61 (pk s z.1-97)with star:=y.1.any,sg:=y.1.sg,num:=y.1.num}) hc h20 hh (.inl hsame.1) ⟨hsame.2.2.1,hsame.2.2.2⟩ ⟨by rw[hsame.1];rfl,by rw[hsame.2.1];rfl,rfl,rfl,rfl⟩ rfl ?_;rcases h1.aneed (c:=61) (m':={Do m 61 (pk s z.1-97) 61 with state:=118}) (by decide) (λe=>by rw[QL rfl,if_pos rfl]) (λe=>by rw[QL rfl,if_neg e]) (CT (by decide:(61:Int)≠115))with hd|⟨m2,h2,e2⟩
  ·have e:y.2=nd s (BA z.1) 61:=by rw[hy];exact hd.dValue _
   rw[e,hd.dnd (by decide)];exact .inl hd
  ·have ec:cur m2=u0 m 61 (pk s z.1-97):=by rw[e2];exact Ce 61 _ 61
   have hval:=h2.value (by rw[e2]) (by rw[ec];rfl) {AC p b with kind:=0,target:=pk s z.1-97} (by rw[ec];exact⟨rfl,rfl,rfl,rfl⟩);rw[<-hy]at hval;refine hval.mono ?_;rintro w-⟨a,b',c⟩;refine⟨a,b'.trans (by rw[e2];rfl),c.trans ?_⟩;rw[ec,e2];exact F4 61 _ 61 _
 ·left
  have hst:AP m (pk s z.1)=none:=by unfold AP;rw[if_neg hv,if_neg hq,if_neg h33,if_neg (λe=>h125 e.1)]
  have hd:=dead0 (by rw[hb];exact hst);have ev:Bq s z.1 (-1)=(0,Ez z.1):=by unfold Bq;rw[if_pos (.inl (Ff hv))]
  have ek:BD s z.1 (AC p b) dp=({AC p b with kind:=0,target:=0},Ez z.1):=by
   unfold BD;rw[if_neg h33,if_neg (λe=>hq (.inl e)),if_neg (λe=>hq (.inr e)),ev]
  have hh:(Bo s z.1 (AC p b) dp).2=Ez z.1:=by
   rw[Ln ek rfl rfl (by rw[(JM s (nd s (Ez z.1) 61) {AC p b with kind:=0,target:=0}).1];show An 0=0;decide)];show nd s (Ao s (nd s (Ez z.1) 61) _).2 59=_;rw[hd.dnd (by decide),hd.dValue,hd.dnd (by decide)]
  have e:(AU s (AS s n) p b dp z).1=Ez z.1:=by unfold AU;rw[if_neg h20,hh];rfl
  rw[e];exact hd
theorem UW(s:ByteArray)(n:Nat):VO s n:=by
 induction n with
 |zero=>intro p b dp z m _ _ _ _ hm;omega
 |succ n ih=>
  intro p b dp z m h hs hdp hc hm;by_cases he:pk s z.1=0\/pk s z.1=125
  ·right
   have e:AS s (n+1) p b dp z=z:=by unfold AS;rw[if_pos he]
   rw[e];exact⟨m,⟨h,hs,rfl,hc,P_.refl _,P_.refl _,Nat.le_refl _⟩,⟨0,rfl⟩,he⟩
  ·have e:AS s (n+1) p b dp z=AS s n p b dp (AU s (AS s n) p b dp z):=by rw[AS,if_neg he]
   have hzok:QB s z:=⟨h.le,by rw[hc.len];exact h.aok.len⟩
   have hMd:=P9 (AS s n) (A_ s n) p b dp hzok h.ns;rw[e];rcases SA ih p b dp h hs hdp hc (by omega) (λe=>he (.inl e)) (λe=>he (.inr e))with hd|⟨m1,ho,f1,hst⟩
   ·left;rw[hd.dStmts];exact hd
   obtain⟨y,hy⟩:∃y,y=AU s (AS s n) p b dp z:=⟨_,rfl⟩
   rw[<-hy]at ho hst hMd|-;rcases ih p b dp y m1 ho.sync ho.st (by rw[ho.op];exact hdp) ho.cor (by omega)with hd|⟨m2,ho2,⟨f2,hf2⟩,hpk⟩
   ·left;exact hd
   ·right
    have hlen1:=ho.cor.len;refine⟨m2,⟨ho2.sync,ho2.st,ho2.op.trans ho.op,ho2.cor,ho.preF.trans ho2.preF ho.len,ho.preS.trans ho2.preS (by rw[<-hlen1,<-hc.len];exact ho.len),Nat.le_trans ho.len ho2.len⟩,⟨f1+f2+1,.inr ⟨y.2.length,ho2.len,?_,?_⟩⟩,hpk⟩
    ·have hlt:=hst.lt;refine hst.into (ho2.preF _ hlt) (ho2.preS _ (by rw[<-hlen1];exact hlt)) (λ_ _ i j hi hij hj hR=>?_);exact(E1.keep hR (λk h1 h2=>ho2.preF k (by omega)) (λk h1 h2=>ho2.preS k (by rw[<-hlen1];omega))).more f2
    ·rw[Nat.add_comm f1 f2];exact hf2.more f1
theorem Lr(s:ByteArray):B8 s (AI s).1\/∃m,Yd s ((0,false),[]) CY (AI s) m/\(∃f,E1 (AI s).2 m.st f (-1) 0 0 (AI s).2.length)/\(pk s (AI s).1=0\/pk s (AI s).1=125):=
 UW s 22 (-1) 0 0 ((0,false),[]) CY ⟨rfl,Nat.zero_le _,rfl⟩ rfl rfl ⟨rfl,λi x u h=>by simp at h⟩ (by decide)
theorem Kf(s:ByteArray):(AA s).take s.size=AA s:=List.take_of_length_le (by rw[AR];exact Nat.le_refl _)
theorem TR{s:ByteArray}{k:Nat}(h:k<s.size):(AA s)[k]?=some ((AA s).getD k 0):=by rw[List.getD_eq_getElem?_getD,Ck s k h];rfl
theorem I9(s:ByteArray):DX s=Bv (AA s):=by
 have hl:=AR s;by_cases h:160<s.size
 ·unfold DX Bv;rw[if_pos h,if_pos (by omega)]
 have hof:∀x,Bv (AA s)=x↔(match BH CY (AA s) 0 with
  |(n,none)=>(0,1,n)
  |(n,some m)=>if BS m then((m.st.length:Int)+1,0,0)else(0,1,n))=x:=by intro x;unfold Bv;rw[if_neg (by omega)];exact Iff.rfl
 symm
 rw[hof]
 have rest:∀(m:Rd),En CY ((AA s).take (AI s).1.1)=some m->(AI s).1.1<s.size->AM m ((AA s).getD (AI s).1.1 0)=none->BP s=false->(match BH CY (AA s) 0 with
  |(n,none)=>(0,1,(n:Int))
  |(n,some m)=>if BS m then((m.st.length:Int)+1,0,0)else(0,1,n))=DX s:=by
  intro m hf hlt hb hg;rw[Hc (n:=0) hf (TR hlt) hb];unfold DX;rw[if_neg h,hg];simp
 rcases Lr s with hd|⟨m,ho,_,hpk⟩
 ·obtain⟨m,hf,hle,h1,h2⟩:=hd.ex;have hg:BP s=false:=by unfold BP;rw[hd.st];rfl
  by_cases hlt:(AI s).1.1<s.size
  ·exact rest m hf hlt (h1 hlt) hg
  ·have he:(AI s).1.1=s.size:=by omega
   rw[he,Kf]at hf;rw[EH (n:=0) hf];simp only;rw[h2 he];unfold DX;rw[if_neg h,hg];simp;omega
 ·have hf:=ho.sync.fd;have hop:m.op=[]:=ho.op;by_cases hlt:(AI s).1.1<s.size
  ·have hg:BP s=false:=by unfold BP;rw[ho.sync.ns];simp;omega
   refine rest m hf hlt ?_ hg;rw[<-ho.sync.apk,J2 ho.st];rcases hpk with e|e
   ·rw[e];unfold AP;rw[if_neg (by decide),if_neg (by decide),if_neg (by decide),if_neg (by omega)]
   ·rw[e];unfold AP;rw[if_neg (by decide),if_neg (by decide),if_neg (by decide),if_neg (by rw[hop];simp)]
  ·have hg:BP s=true:=by unfold BP;rw[ho.sync.ns];simp;omega
   have he:(AI s).1.1=s.size:=by have:=ho.sync.le;omega
   rw[he,Kf]at hf;rw[EH (n:=0) hf];have hdn:BS m=true:=by unfold BS;rw[ho.st,hop];rfl
   simp only;rw[hdn];unfold DX;rw[if_neg h,hg,ho.cor.len];rfl
end Go.Proofs.YtffajooegiempaaGreatDoor
