import Derived.Test.YtffajooegiempaaGreatDoorK17
set_option maxRecDepth 100000
set_option maxHeartbeats 6400000
namespace Go.Proofs.YtffajooegiempaaGreatDoor
variable {s:ByteArray}{d:Nat×Bool}{m m':Rd}
theorem Vc(h:m.state=99)(c:Int):AM m c=if c=42 then some {AE m {cur m with star:=true}with state:=AG m}else if c=45 then some {m with sign:= -1,state:=67}else if 97<=c/\c<=100 then some (Bp m (c-97).toNat 1 100)else none:=by
 rw[Cd (.inl h)];unfold AF;rw[bA h]
theorem VZ(h:m.state=67)(c:Int):AM m c=if 97<=c/\c<=100 then some (Bp m (c-97).toNat m.sign 100)else none:=by
 rw[Cd (.inr (.inl h))];unfold AF;rw[h,a_ (by decide),bA rfl]
theorem NT(h:m.state=100)(c:Int):AM m c=if c=43 then some {m with sign:=1,state:=101}else if c=45 then some {m with sign:= -1,state:=101}else if c=60 then some {m with state:=60}else none:=by
 rw[Cd (by rw[h];decide)];unfold AF;rw[h,a_ (by decide),a_ (by decide),bA rfl]
theorem Sk(h:m.state=101)(c:Int):AM m c=if 97<=c/\c<=100 then(if(cur m).sg.getD (c-97).toNat 0=0 then some (Bp m (c-97).toNat m.sign 102)else none)else none:=by
 rw[Cd (by rw[h];decide)];unfold AF;rw[h,a_ (by decide),a_ (by decide),a_ (by decide),bA rfl]
theorem Sl(h:m.state=102)(c:Int):AM m c=if c=60 then some {m with state:=60}else none:=by
 rw[Cd (by rw[h];decide)];unfold AF;rw[h,a_ (by decide),a_ (by decide),a_ (by decide),a_ (by decide),bA rfl]
theorem QK(h:m.state=60)(c:Int):AM m c=if c=61 then some {m with neg:=false,state:=98}else none:=by
 rw[Cd (by rw[h];decide)];unfold AF;rw[h,a_ (by decide),a_ (by decide),a_ (by decide),a_ (by decide),a_ (by decide),bA rfl]
theorem Vb(h:m.state=98)(c:Int):AM m c=if c=45 then some {m with neg:=true,state:=66}else AT m c false 109:=by
 rw[Cd (by rw[h];decide)];unfold AF;rw[h,a_ (by decide),a_ (by decide),a_ (by decide),a_ (by decide),a_ (by decide),a_ (by decide),bA rfl]
theorem VY(h:m.state=66)(c:Int):AM m c=AT m c true 109:=by
 rw[Cd (by rw[h];decide)];unfold AF;rw[h,a_ (by decide),a_ (by decide),a_ (by decide),a_ (by decide),a_ (by decide),a_ (by decide),a_ (by decide),bA rfl]
theorem OB(s:ByteArray)(d:Nat×Bool)(x:Ds)(f:Int):(Aw s d x f).1.any=x.any:=by
 unfold Aw;split
 .rfl
 .rfl
def Il(s:ByteArray)(d:Nat×Bool):Int×(Nat×Bool):=Bh s (BE s d).2 (BE s d).1
def Fe(s:ByteArray)(d:Nat×Bool):Int×(Nat×Bool):=Il s (nd s (nd s d 60) 61)
theorem B8.dTailN(h:B8 s d):Il s d=(0,d):=by unfold Il;rw[h.dSign];exact h.dNum 1
theorem B8.dTailE(h:B8 s d):Fe s d=(0,d):=by unfold Fe;rw[h.dnd (by decide),h.dnd (by decide)];exact h.dTailN
def QC(m:Rd)(n:Int)(y:Rd):Prop:=y.state=115/\y.st=(AE m {cur m with num:=n}).st/\y.op=D6 m
theorem Cl.tailN(h:Cl s d m)(hs:m.state=98)(G:m.neg=false)(hk:(cur m).kind=33\/m.op.length≠4):JV s (nd s (Il s d).2 (AG m)) (QC m (Il s d).1):=by
 have hb:=Vb hs (pk s d);by_cases l:pk s d=45
 .rw[bA l]at hb;have h1:=h.aadv (by omega) hb;have e:Il s d=Bh s (BA d) (-1):=by unfold Il;rw[show BE s d=(-1,BA d)from bA l]
  rw[e];exact h1.numCond (pos:=true) (sg:= -1) (VY rfl _) ⟨(by decide:(66:Int)≠109),(by decide:(66:Int)≠115)⟩ hk (.inr ⟨rfl,rfl,rfl⟩)
 .rw[a_ l]at hb;have e:Il s d=Bh s d 1:=by unfold Il;rw[show BE s d=(1,d)from a_ l]
  rw[e];exact h.numCond (pos:=false) (sg:=1) hb ⟨by rw[hs];decide,by rw[hs];decide⟩ hk (.inl ⟨rfl,rfl,G⟩)
theorem Cl.tailE(h:Cl s d m)(hs:m.state=100\/m.state=102)(R:m.state=100->pk s d≠43/\pk s d≠45)(hk:(cur m).kind=33\/m.op.length≠4):JV s (nd s (Fe s d).2 (AG m)) (QC m (Fe s d).1):=by
 have hb:AM m (pk s d)=if pk s d=60 then some {m with state:=60}else none:=by
  rcases hs with e|e
  .rw[NT e,a_ (R e).1,a_ (R e).2]
  .rw[Sl e]
 have M:BS m=false:=CT (by omega);rcases h.aneed (c:=60) (m':={m with state:=60}) (by decide) (λe=>by rw[e,bA rfl]at hb;exact hb) (λe=>by rw[a_ e]at hb;exact hb) M with k|⟨m1,h1,rfl⟩
 .have e:Fe s d=(0,nd s d 60):=by unfold Fe;rw[k.dnd (by decide)];exact k.dTailN
  rw[e];show JV s (nd s (nd s d 60) _) _;rw[k.dnd (DG m).1];exact .inl k
 .rcases h1.aneed (c:=61) (m':={m with neg:=false,state:=98}) (by decide) (λe=>by rw[QK rfl,bA rfl]) (λe=>by rw[QK rfl,a_ e]) (CT (by decide:(60:Int)≠115))with k|⟨m2,h2,rfl⟩
  .have e:Fe s d=(0,nd s (nd s d 60) 61):=k.dTailN;rw[e];show JV s (nd s (nd s (nd s d 60) 61) _) _;rw[k.dnd (DG m).1];exact .inl k
  .exact h2.tailN rfl rfl hk
theorem Cl.second(h:Cl s d m)(hs:m.state=100)(hk:(cur m).kind=33\/m.op.length≠4)(x:Ds)(f:Int)(hx:x.sg=(cur m).sg)(Q:∀v:Int,0<=v->v<=3->((cur m).sg.getD v.toNat 0=0↔v≠f)):
  JV s (nd s (Fe s (Aw s d x f).2).2 (AG m)) (QC (AE m {cur m with sg:=(Aw s d x f).1.sg}) (Fe s (Aw s d x f).2).1):=by
 have hn:0<m.st.length:=h.aok.some_ (by rw[hs];decide);have hb:=NT hs (pk s d);have A:=CD hn;by_cases hc:pk s d=43\/pk s d=45
 .obtain⟨g,D,o⟩:∃g,(if pk s d=45 then(-1:Int)else 1)=g/\AM m (pk s d)=some {m with sign:=g,state:=101}:=by
   rcases hc with e|e
   .exact⟨1,by rw[e];rfl,by rw[hb,bA e]⟩
   .exact⟨-1,by rw[e];rfl,by rw[hb,a_ (by omega),bA e]⟩
  have h1:=h.aadv (by omega) o;have e:Aw s d x f=({x with sg:=x.sg.set (Bq s (BA d) f).1.toNat g},(Bq s (BA d) f).2):=by unfold Aw;rw[bA hc,D]
  rw[e];have r:=Sk (m:={m with sign:=g,state:=101}) rfl (pk s (BA d));by_cases t:97<=pk s (BA d)/\pk s (BA d)<=100
  .rw[bA t]at r;by_cases B:pk s (BA d)-97=f
   .have ev:Bq s (BA d) f=(0,Ez (BA d)):=by unfold Bq;rw[Dj t,bA (.inr B)]
    rw[ev];have k:B8 s (Ez (BA d)):=by
     refine h1.adead ?_ (λ_=>CT (by decide:(101:Int)≠115));rw[r,a_];intro e0;exact((Q (pk s (BA d)-97) (by omega) (by omega)).1 e0) B
    show JV s (nd s (Fe s (Ez (BA d))).2 _) _;rw[k.dTailE];show JV s (nd s (Ez (BA d)) _) _;rw[k.dnd (DG m).1];exact .inl k
   .have ev:Bq s (BA d) f=(pk s (BA d)-97,BA (BA d)):=by unfold Bq;rw[Dj t,a_ (by omega)]
    rw[ev];have e0:(cur {m with sign:=g,state:=101}).sg.getD (pk s (BA d)-97).toNat 0=0:=(Q (pk s (BA d)-97) (by omega) (by omega)).2 B;rw[bA e0]at r;have h2:=h1.aadv (by omega) r;have E:(cur (Bp {m with sign:=g,state:=101} (pk s (BA d)-97).toNat g 102)).kind=(cur m).kind:=by
     show(cur (AE m _)).kind=_;rw[A];rfl
    have w:AG (Bp {m with sign:=g,state:=101} (pk s (BA d)-97).toNat g 102)=AG m:=by unfold AG;rw[E]
    have h3:=h2.tailE (.inr rfl) (λe=>absurd e (by decide:(102:Int)≠100)) (by rw[E];exact hk);rw[w]at h3;refine h3.mono ?_;rintro y-⟨a,b,c⟩;refine⟨a,b.trans ?_,c.trans ?_⟩
    .show(AE (AE m {cur m with sg:=(cur m).sg.set _ g}) {cur (AE m {cur m with sg:=(cur m).sg.set _ g})with num:=_}).st=(AE (AE m {cur m with sg:=x.sg.set _ g}) {cur (AE m {cur m with sg:=x.sg.set _ g})with num:=_}).st;rw[hx]
    .show D6 (AE m {cur m with sg:=(cur m).sg.set _ g})=D6 (AE m {cur m with sg:=x.sg.set _ g});rw[hx]
  .have ev:Bq s (BA d) f=(0,Ez (BA d)):=by unfold Bq;rw[bA (.inl (Ff t))]
   rw[ev];have k:B8 s (Ez (BA d)):=by
    refine h1.adead ?_ (λ_=>CT (by decide:(101:Int)≠115));rw[r,a_ t]
   show JV s (nd s (Fe s (Ez (BA d))).2 _) _;rw[k.dTailE];show JV s (nd s (Ez (BA d)) _) _;rw[k.dnd (DG m).1];exact .inl k
 .have e:Aw s d x f=(x,d):=a_ hc;rw[e];have h3:=h.tailE (.inl hs) (λ_=>⟨λe=>hc (.inl e),λe=>hc (.inr e)⟩) hk;refine h3.mono ?_;rintro y-⟨a,b,c⟩;have e2:AE m {cur m with sg:=x.sg}=m:=by
   rw[hx];exact Hy hn
  rw[show(x,d).1.sg=x.sg from rfl,e2];exact⟨a,b,c⟩
theorem Cl.cond(h:Cl s d m)(hs:m.state=99)(hk:(cur m).kind=33\/m.op.length≠4)(x:Ds)(hx:x.any=false/\x.sg=(cur m).sg/\x.num=(cur m).num/\(cur m).star=false)(hz:(cur m).sg=[0,0,0,0]):
  JV s (nd s (BR s d x).2 (AG m)) (λy=>y.state=115/\y.st=(AE m {cur m with star:=(BR s d x).1.any,sg:=(BR s d x).1.sg,num:=(BR s d x).1.num}).st/\y.op=D6 m):=by
 have hn:0<m.st.length:=h.aok.some_ (by rw[hs];decide);have hb:=Vc hs (pk s d);obtain⟨ac,I,O,P⟩:=hx;have A:=CD hn;by_cases q:pk s d=42
 .have e:BR s d x=({x with any:=true},BA d):=bA q;rw[e];rw[bA q]at hb;have h1:=h.aadv (by omega) hb;have K:AG m=59\/AG m=123:=Dh m;obtain⟨y,V,W,X,Y⟩:=Lm (m:=m) (a:={AE m {cur m with star:=true}with state:=AG m}) rfl hk;have H:∀c,AM {AE m {cur m with star:=true}with state:=AG m} c=Ac {AE m {cur m with star:=true}with state:=AG m} c:=λc=>Hh K c;refine(h1.aneed (m':=y) (DG m).1 (λe=>by rw[H];exact V) (λe=>by rw[H];exact N7 rfl e) (CT (DG m).2)).mono ?_;rintro z-rfl;refine⟨W,X.trans ?_,Y.trans ?_⟩
  .show(AE m {cur m with star:=true}).st=(AE m {cur m with star:=true,sg:=x.sg,num:=x.num}).st;rw[I,O]
  .unfold D6;show(if(cur m).kind=33 then m.op else m.op++[⟨(AE m _).st.length-1,false⟩])=_;rw[BV]
 rw[a_ q]at hb;obtain⟨g,j,m1,D,h1,e1,e2,T,o⟩:∃g j m1,BE s d=(g,j)/\Cl s j m1/\m1.st=m.st/\m1.op=m.op/\m1.state≠115/\AM m1 (pk s j)=if 97<=pk s j/\pk s j<=100 then some (Bp m1 (pk s j-97).toNat g 100)else none:=by
  by_cases l:pk s d=45
  .rw[bA l]at hb;exact⟨-1,BA d,_,bA l,h.aadv (by omega) hb,rfl,rfl,(by decide:(67:Int)≠115),VZ rfl _⟩
  .rw[a_ l]at hb;exact⟨1,d,m,a_ l,h,rfl,rfl,by rw[hs];decide,hb⟩
 have U:cur m1=cur m:=S3 e1;by_cases t:97<=pk s j/\pk s j<=100
 .have ev:Bq s j (-1)=(pk s j-97,BA j):=by unfold Bq;rw[Dj t,a_ (by omega)]
  rw[bA t]at o;have h2:=h1.aadv (by omega) o;obtain⟨v,N⟩:∃v,v=pk s j-97:=⟨_,rfl⟩
  rw[<-N]at ev h2 o;have p:(Bp m1 v.toNat g 100).st=(AE m {cur m with sg:=(cur m).sg.set v.toNat g}).st:=by
   show(AE m1 {cur m1 with sg:=(cur m1).sg.set v.toNat g}).st=_;rw[U];exact Ik e1 _
  have i:cur (Bp m1 v.toNat g 100)={cur m with sg:=(cur m).sg.set v.toNat g}:=(S3 p).trans (A _);have L:g≠0:=by
   have:=Ih s d;rw[D]at this;rcases this with e|e
   .have S:g=1:=e;omega
   .have S:g= -1:=e;omega
  have e:BR s d x=({(Aw s (BA j) {x with any:=false,sg:=x.sg.set v.toNat g} v).1 with num:=(Fe s (Aw s (BA j) {x with any:=false,sg:=x.sg.set v.toNat g} v).2).1},(Fe s (Aw s (BA j) {x with any:=false,sg:=x.sg.set v.toNat g} v).2).2):=by
   unfold BR;rw[a_ q,D];simp only;rw[ev];rfl
  have w:AG (Bp m1 v.toNat g 100)=AG m:=by unfold AG;rw[i]
  have h3:=h2.second rfl (by rw[i];show(cur m).kind=33\/m1.op.length≠4;rw[e2];exact hk) {x with any:=false,sg:=x.sg.set v.toNat g} v (by rw[i,I]) (by
   intro u aa ab;rw[i];show((cur m).sg.set v.toNat g).getD u.toNat 0=0↔u≠v;rw[hz,bG,cH];by_cases J:u=v
   .subst J;rw[bA rfl,bA (by simp;omega)];simp[L]
   .rw[a_ (by omega)]
    rcases(show u=0\/u=1\/u=2\/u=3 by omega)with rfl|rfl|rfl|rfl<;>simp<;>omega)
  rw[w]at h3;rw[e];refine h3.mono ?_;rintro y-⟨a,b,c⟩;have F:0<(Bp m1 v.toNat g 100).st.length:=by rw[p,BV];exact hn
  have C:(Aw s (BA j) {x with any:=false,sg:=x.sg.set v.toNat g} v).1.any=false:=OB _ _ _ _;generalize Aw s (BA j) {x with any:=false,sg:=x.sg.set v.toNat g} v=z at *;refine⟨a,b.trans ?_,c.trans ?_⟩
  .rw[Bz,CD F,i,Ik p,Bz];show(AE m {cur m with sg:=z.1.sg,num:=_}).st=(AE m {cur m with star:=z.1.any,sg:=z.1.sg,num:=_}).st;rw[C,<-P]
  .unfold D6;rw[CD F,i,BV];show(if(cur m).kind=33 then m1.op else m1.op++[⟨(Bp m1 v.toNat g 100).st.length-1,false⟩])=_;rw[e2,p,BV]
 .have ev:Bq s j (-1)=(0,Ez j):=by unfold Bq;rw[bA (.inl (Ff t))]
  rw[a_ t]at o;have k:B8 s (Ez j):=h1.adead o (λ_=>CT T);have e:(BR s d x).2=Ez j:=by
   unfold BR;rw[a_ q,D];simp only;rw[ev];simp only;rw[k.dSecond];exact congrArg Prod.snd k.dTailE
  rw[e,k.dnd (DG m).1];exact .inl k
def Fr(k:Int):Int:=if k=0 then 61 else if k=1 then 33 else if k=2 then 63 else 64
def OX(x:Ds)(u:St):Prop:=u.kind=Fr x.kind/\u.var=x.target/\u.star=x.any/\u.sg=x.sg/\u.num=x.num
structure Hf(F:List Ds)(S:List St):Prop where
 len:F.length=S.length
 cor:∀(i:Nat)(x:Ds)(u:St),F[i]?=some x->S[i]?=some u->OX x u
def P_{α:Type}(l l':List α):Prop:=∀i,i<l.length->l'[i]?=l[i]?
theorem P_.refl{α:Type}(l:List α):P_ l l:=λ_ _=>rfl
theorem P_.trans{α:Type}{a b c:List α}(h:P_ a b)(k:P_ b c)(W:a.length<=b.length):P_ a c:=λi hi=>(k i (by omega)).trans (h i hi)
theorem P_.snoc{α:Type}(l:List α)(x:α):P_ l (l++[x]):=λ_ hi=>bU hi
def E7(F:List Ds)(S:List St)(R:Int->Int->Nat->Nat->Prop)(p b:Int)(a e:Nat):Prop:=
 ∃x u,F[a]?=some x/\S[a]?=some u/\x.parent=p/\x.block=b/\u.fin=e/\a<e/\
  (((x.kind=0\/x.kind=1)/\e=a+1)\/(x.kind=3/\R a 0 (a+1) e)\/(x.kind=2/\a+1<=u.mid/\u.mid<=e/\R a 0 (a+1) u.mid/\R a 1 u.mid e))
def E1(F:List Ds)(S:List St):Nat->Int->Int->Nat->Nat->Prop
 |0,_,_,a,c=>a=c
 |f+1,p,b,a,c=>a=c\/∃e,e<=c/\E7 F S (E1 F S f) p b a e/\E1 F S f p b e c
theorem E7.into{F E:List Ds}{S G:List St}{R R':Int->Int->Nat->Nat->Prop}{p b:Int}{a e:Nat}(h:E7 F S R p b a e)(h1:E[a]?=F[a]?)(h2:G[a]?=S[a]?)(h3:∀p b i j,a<i->i<=j->j<=e->R p b i j->R' p b i j):E7 E G R' p b a e:=by
 obtain⟨x,u,hx,Y,X,hb,K,A,hk⟩:=h;refine⟨x,u,by rw[h1];exact hx,by rw[h2];exact Y,X,hb,K,A,?_⟩;rcases hk with hk|⟨k3,hk⟩|⟨k2,Z,q2,t,q⟩
 .exact .inl hk
 .exact .inr (.inl ⟨k3,h3 _ _ _ _ (by omega) (by omega) (bB _) hk⟩)
 .exact .inr (.inr ⟨k2,Z,q2,h3 _ _ _ _ (by omega) Z (by omega) t,h3 _ _ _ _ (by omega) q2 (bB _) q⟩)
theorem E7.lt{F:List Ds}{S:List St}{R:Int->Int->Nat->Nat->Prop}{p b:Int}{a e:Nat}(h:E7 F S R p b a e):a<e:=by
 obtain⟨x,u,hx,Y,X,hb,K,A,hk⟩:=h;exact A
theorem E1.succ{F:List Ds}{S:List St}{f:Nat}:∀{p b:Int}{a c:Nat},E1 F S f p b a c->E1 F S (f+1) p b a c:=by
 induction f with
 |zero=>intro p b a c h;exact .inl h
 |succ f ih=>
  intro p b a c h;rcases h with h|⟨e,P,hs,hr⟩
  .exact .inl h
  .exact .inr ⟨e,P,hs.into rfl rfl (λ_ _ _ _ _ _ _ N=>ih N),ih hr⟩
theorem E1.more{F:List Ds}{S:List St}{f:Nat}(g:Nat){p b:Int}{a c:Nat}(h:E1 F S f p b a c):E1 F S (f+g) p b a c:=by
 induction g with
 |zero=>exact h
 |succ g ih=>exact ih.succ
theorem E1.keep{F E:List Ds}{S G:List St}{f:Nat}:∀{p b:Int}{a c:Nat},E1 F S f p b a c->(∀i,a<=i->i<c->E[i]?=F[i]?)->(∀i,a<=i->i<c->G[i]?=S[i]?)->E1 E G f p b a c:=by
 induction f with
 |zero=>intro p b a c h _ _;exact h
 |succ f ih=>
  intro p b a c h h1 h2;rcases h with h|⟨e,P,hs,hr⟩
  .exact .inl h
  .have A:=hs.lt;refine .inr ⟨e,P,hs.into (h1 a (by omega) (by omega)) (h2 a (by omega) (by omega)) (λ_ _ i j hi aa hj N=>ih N (λk t q=>h1 k (by omega) (by omega)) (λk t q=>h2 k (by omega) (by omega))),ih hr (λk t q=>h1 k (by omega) q) (λk t q=>h2 k (by omega) q)⟩
theorem Hf.snoc{F:List Ds}{S:List St}(h:Hf F S){x:Ds}{u:St}(hc:OX x u):Hf (F++[x]) (S++[u]):=by
 refine⟨by simp[h.len],λi y v C r=>?_⟩;by_cases hi:i<F.length
 .rw[bU hi]at C;rw[bU (by rw[<-h.len];exact hi)]at r;exact h.cor i y v C r
 .have W:=h.len;have:i=F.length:=by
   have:i<(F++[x]).length:=by
    rcases bW i (F++[x]).length with M|M
    .exact M
    .simp[bO M]at C
   simp at this;omega
  subst this;simp at C;rw[W]at r;simp at r;subst C;subst r;exact hc
theorem Hf.set{F:List Ds}{S:List St}(h:Hf F S){k:Nat}{u u':St}(hk:S[k]?=some u)(hc:∀x,OX x u->OX x u'):Hf F (S.set k u'):=by
 refine⟨by simp[h.len],λi y v C r=>?_⟩;rw[cH]at r;split at r
 .rename_i e;subst e;split at r
  .simp at r;subst r;exact hc y (h.cor k y u C hk)
  .cases r
 .exact h.cor i y v C r
structure Yd(s:ByteArray)(z:Zt)(m:Rd)(z':Zt)(m':Rd):Prop where
 sync:Cl s z'.1 m'
 st:m'.state=115
 op:m'.op=m.op
 cor:Hf z'.2 m'.st
 preF:P_ z.2 z'.2
 preS:P_ m.st m'.st
 len:z.2.length<=z'.2.length
def VO(s:ByteArray)(n:Nat):Prop:=∀(p b o:Int)(z:Zt)(m:Rd),Cl s z.1 m->m.state=115->(m.op.length:Int)=o->Hf z.2 m.st->Mz z<n->
 B8 s (AS s n p b o z).1\/∃m',Yd s z m (AS s n p b o z) m'/\(∃f,E1 (AS s n p b o z).2 m'.st f p b z.2.length (AS s n p b o z).2.length)/\(pk s (AS s n p b o z).1=0\/pk s (AS s n p b o z).1=125)
theorem B8.dStmts{z:Zt}(h:B8 s z.1)(n:Nat)(p b o:Int):AS s n p b o z=z:=by
 cases n with
 |zero=>rfl
 |succ n=>unfold AS;rw[bA (.inl h.dpk)]
theorem B8.dBlock{z:Zt}(h:B8 s z.1)(n:Nat)(p b o:Int):CI s (AS s n) p b o z=z:=by
 unfold CI;rw[h.dnd (by decide),B8.dStmts (z:=(z.1,z.2)) h,h.dnd (by decide)]
theorem J2(h:m.state=115)(c:Int):AM m c=AP m c:=by unfold AM;rw[bA h]
theorem Sp(h:m.state=125)(c:Int):AM m c=if c=123 then some {m with op:=m.op.set (m.op.length-1) {top m with second:=true},state:=115}else none:=by
 rw[Cd (by rw[h];decide)];unfold AF;rw[h,a_ (by decide),a_ (by decide),a_ (by decide),a_ (by decide),a_ (by decide),a_ (by decide),a_ (by decide),a_ (by decide),a_ (by decide)]
theorem NQ{n:Nat}(H:VO s n){z:Zt}(p b o:Int)(h:Cl s z.1 m)(hs:m.state=115)(Q:0<m.op.length)(O:(m.op.length:Int)=o)(hc:Hf z.2 m.st)(hm:Mz z<n):
  B8 s (nd s (AS s n p b o z).1 125)\/∃B D,Yd s z m (AS s n p b o z) B/\(∃f,E1 (AS s n p b o z).2 B.st f p b z.2.length (AS s n p b o z).2.length)/\Ba B=some D/\Cl s (nd s (AS s n p b o z).1 125) D:=by
 rcases H p b o z m h hs O hc hm with V|⟨B,J,K,T⟩
 .left;rw[V.dnd (by decide)];exact V
 .have hb:=J2 J.st (pk s (AS s n p b o z).1);have w:0<B.op.length:=by rw[J.op];exact Q
  by_cases e:pk s (AS s n p b o z).1=125
  .right
   rw[e]at hb;have U:AP B 125=Ba B:=by unfold AP;rw[a_ (by decide),a_ (by decide),a_ (by decide),bA ⟨rfl,w⟩]
   rw[U]at hb;obtain⟨D,I⟩:∃D,Ba B=some D:=by
    simp only[Ba];split
    .exact⟨_,rfl⟩
    .exact⟨_,rfl⟩
   refine⟨B,D,J,K,I,?_⟩;have L:nd s (AS s n p b o z).1 125=BA (AS s n p b o z).1:=bA e;rw[L];exact J.sync.aadv (by omega) (by rw[e,hb,I])
  .left
   have e0:pk s (AS s n p b o z).1=0:=T.elim id (λh=>absurd h e);have L:nd s (AS s n p b o z).1 125=Ez (AS s n p b o z).1:=a_ e;rw[L];refine J.sync.adead ?_ (λ_=>?_)
   .rw[hb,e0];unfold AP;rw[a_ (by decide),a_ (by decide),a_ (by decide),a_ (by omega)]
   .unfold BS;simp;intro _ h0;rw[h0]at w;exact absurd w (by simp)
theorem Ge{o:List Bk}{b:Bk}(h:m.op=o++[b]):top m=b/\m.op.take (m.op.length-1)=o/\0<m.op.length:=by
 unfold top;rw[h];simp
theorem JM(s:ByteArray)(d:Nat×Bool)(x:Ds):(Ao s d x).1.kind=x.kind/\(Ao s d x).1.target=x.target/\(Ao s d x).1.parent=x.parent/\(Ao s d x).1.block=x.block:=by
 unfold Ao;split
 .exact⟨rfl,rfl,rfl,rfl⟩
 split
 .exact⟨rfl,rfl,rfl,rfl⟩
 .exact⟨rfl,rfl,rfl,rfl⟩
theorem Mh(s:ByteArray)(d:Nat×Bool)(x:Ds)(f:Int):(Aw s d x f).1.kind=x.kind/\(Aw s d x f).1.target=x.target/\(Aw s d x f).1.parent=x.parent/\(Aw s d x f).1.block=x.block:=by
 unfold Aw;split
 .exact⟨rfl,rfl,rfl,rfl⟩
 .exact⟨rfl,rfl,rfl,rfl⟩
theorem Hu(s:ByteArray)(d:Nat×Bool)(x:Ds):(BR s d x).1.kind=x.kind/\(BR s d x).1.target=x.target/\(BR s d x).1.parent=x.parent/\(BR s d x).1.block=x.block:=by
 unfold BR;split
 .exact⟨rfl,rfl,rfl,rfl⟩
 .exact Mh _ _ _ _
def u0(m:Rd)(k v:Int):St:=⟨k,v,false,[0,0,0,0],0,0,m.st.length+1⟩
def Do(m:Rd)(k v x:Int):Rd:={m with st:=m.st++[u0 m k v],state:=x}
theorem Iu{k v x:Int}(h:m.st.length≠20):BN m k v x=some (Do m k v x):=by unfold BN;rw[a_ h];rfl
theorem Ce(k v x:Int):cur (Do m k v x)=u0 m k v:=by unfold cur Do;simp
theorem F4(k v x:Int)(u:St):(AE (Do m k v x) u).st=m.st++[u]:=by unfold AE Do;simp
theorem Pr(K:m.st.length=20){c:Int}(hc:c≠125):AP m c=none:=by
 unfold AP BN;split
 .first|rfl|rw[bA K]
 split
 .split
  .first|rfl|rw[bA K]
  .rfl
 split
 .first|rfl|rw[bA K]
 .rw[a_ (λe=>hc e.1)]
theorem JO{n:Nat}{z:Zt}{p b g:Int}{x:Ds}{t:Nat×Bool}{u:St}(hc:Hf z.2 m.st)(J:¬20<=z.2.length)(hh:Bo s z.1 (AC p b) g=(x,t))(hk:x.kind=0\/x.kind=1)(Y:x.parent=p/\x.block=b)(E:OX x u)(ae:u.fin=m.st.length+1)
  (hr:JV s t (λy=>y.state=115/\y.op=m.op/\y.st=m.st++[u])):
  B8 s (AU s (AS s n) p b g z).1\/∃m1,Yd s z m (AU s (AS s n) p b g z) m1/\∃f,E7 (AU s (AS s n) p b g z).2 m1.st (E1 (AU s (AS s n) p b g z).2 m1.st f) p b z.2.length (AU s (AS s n) p b g z).2.length:=by
 have ao:An x.kind=0:=by
  rcases hk with e|e<;>rw[e]<;>decide
 have K:=hc.len;rcases hr with A|⟨m1,h1,ax,aw,hS⟩
 .left
  have e:AU s (AS s n) p b g z=(t,z.2):=by unfold AU;rw[a_ J,hh,bA A.st]
  rw[e];exact A
 .right
  have e:AU s (AS s n) p b g z=(t,z.2++[x]):=by unfold AU;rw[a_ J,hh,a_ (by rw[h1.ns];decide)];simp only;rw[ao];rfl
  rw[e];refine⟨m1,⟨h1,ax,aw,by rw[hS];exact hc.snoc E,P_.snoc _ _,by rw[hS];exact P_.snoc _ _,by simp⟩,0,x,u,by simp,by rw[hS,K];simp,Y.1,Y.2,by rw[ae,<-K];simp,by simp,.inl ⟨hk,by simp⟩⟩
theorem NR{n:Nat}(H:VO s n){z:Zt}{p b g:Int}{x:Ds}{t:Nat×Bool}{u:St}(hz:z.1.2=false)(hm:Mz z<=n)(aE:(m.op.length:Int)=g)(hc:Hf z.2 m.st)(J:¬20<=z.2.length)(hh:Bo s z.1 (AC p b) g=(x,t))(hk:x.kind=2\/x.kind=3)(Y:x.parent=p/\x.block=b)(E:OX x u)
  (hr:JV s (nd s t 123) (λy=>y.state=115/\y.op=m.op++[⟨m.st.length,false⟩]/\y.st=m.st++[u])):
  B8 s (AU s (AS s n) p b g z).1\/∃m1,Yd s z m (AU s (AS s n) p b g z) m1/\∃f,E7 (AU s (AS s n) p b g z).2 m1.st (E1 (AU s (AS s n) p b g z).2 m1.st f) p b z.2.length (AU s (AS s n) p b g z).2.length:=by
 have K:=hc.len;have aD:Mz z=21-z.2.length:=by unfold Mz;rw[hz];rfl
 by_cases B:t.2=true
 .left
  have e:AU s (AS s n) p b g z=(t,z.2):=by unfold AU;rw[a_ J,hh,bA B]
  rw[e];have ak:pk s t=0:=by unfold pk;rw[B];rfl
  have en:nd s t 123=t:=by unfold nd;rw[a_ (by rw[ak];decide),<-B]
  rw[en]at hr;rcases hr with A|⟨m1,h1,_⟩
  .exact A
  .exact absurd h1.ns (by rw[B];decide)
 obtain⟨z1,S⟩:∃z1,z1=CI s (AS s n) z.2.length 0 (g+1) (t,z.2++[x]):=⟨_,rfl⟩
 have e3:x.kind=3->AU s (AS s n) p b g z=z1:=by
  intro e;unfold AU;rw[a_ J,hh,a_ B];simp only;rw[e,S];rfl
 have e2:x.kind=2->AU s (AS s n) p b g z=CI s (AS s n) z.2.length 1 (g+1) z1:=by
  intro e;unfold AU;rw[a_ J,hh,a_ B];simp only;rw[e,S];rfl
 have C:B8 s z1.1->B8 s (AU s (AS s n) p b g z).1:=by
  intro A;rcases hk with e|e
  .rw[e2 e,A.dBlock];exact A
  .rw[e3 e];exact A
 rcases hr with A|⟨m2,h2,s2,o2,t2⟩
 .left
  refine C ?_;rw[S];unfold CI;rw[B8.dStmts (z:=(nd s t 123,z.2++[x])) A];show B8 s (nd s (nd s t 123) 125);rw[A.dnd (by decide)];exact A
 have ay:=Ge o2;have ap:Hf (z.2++[x]) m2.st:=by rw[t2];exact hc.snoc E
 have al:Mz (nd s t 123,z.2++[x])<n:=by
  unfold Mz;rw[h2.ns];simp;omega
 have ab:(m2.op.length:Int)=g+1:=by rw[o2];simp;omega
 have I:z1=(nd s (AS s n z.2.length 0 (g+1) (nd s t 123,z.2++[x])).1 125,(AS s n z.2.length 0 (g+1) (nd s t 123,z.2++[x])).2):=S;rcases NQ H (z:=(nd s t 123,z.2++[x])) z.2.length 0 (g+1) h2 s2 ay.2.2 ab ap al with A|⟨l,G,q,⟨T,W⟩,a,h4⟩
 .left;refine C ?_;rw[I];exact A
 obtain⟨y,hy⟩:∃y,y=AS s n z.2.length 0 (g+1) (nd s t 123,z.2++[x]):=⟨_,rfl⟩
 rw[<-hy]at q W h4 I;have au:z.2.length+1<=y.2.length:=by have:=q.len;simp at this;omega
 have Z:l.st[z.2.length]?=some u:=by
  rw[q.preS _ (by rw[t2];simp;omega),t2,K];simp
 have aj:y.2[z.2.length]?=some x:=by
  rw[q.preF _ (by simp)];simp
 have Q:l.st.length=y.2.length:=q.cor.len.symm;have o3:l.op=m.op++[⟨m.st.length,false⟩]:=q.op.trans o2;have ag:=Ge o3;have aq:l.st.getD m.st.length AY=u:=by rw[<-K,bG,Z];rfl
 have O:∀i,i<m.st.length->l.st[i]?=m.st[i]?:=λi hi=>by
  rw[q.preS i (by rw[t2];simp;omega),t2,bU hi]
 have N:∀i,i<z.2.length->y.2[i]?=z.2[i]?:=λi hi=>by
  rw[q.preF i (by simp;omega)];exact bU hi
 simp only[Ba]at a;rw[ag.1,ag.2.1]at a;simp only at a;rw[aq]at a;rcases hk with hk|hk
 .have X:u.kind=63:=by rw[E.1,hk];rfl
  rw[bA ⟨X,by first|rfl|trivial⟩]at a;simp only[Option.some.injEq]at a;rw[e2 hk,I];have R:=Sp (m:=G) (by rw[<-a]) (pk s (nd s y.1 125));have o4:G.op=m.op++[⟨m.st.length,false⟩]:=by rw[<-a];exact o3
  have az:=Ge o4;have F:G.st=l.st.set m.st.length {u with fin:=l.st.length,mid:=l.st.length}:=by rw[<-a]
  unfold CI;simp only;rcases h4.aneed (c:=123) (m':={G with op:=G.op.set (G.op.length-1) {top G with second:=true},state:=115}) (by decide) (λe=>by rw[e,bA rfl]at R;exact R) (λe=>by rw[a_ e]at R;exact R) (CT (by rw[<-a];show(125:Int)≠115;decide))with A|⟨m5,h5,e5⟩
  .left
   rw[B8.dStmts (z:=(nd s (nd s y.1 125) 123,y.2)) A];show B8 s (nd s (nd s (nd s y.1 125) 123) 125);rw[A.dnd (by decide)];exact A
  have o5:m5.op=m.op++[⟨m.st.length,true⟩]:=by rw[e5];show G.op.set _ _=_;rw[az.1,o4];simp
  have t5:m5.st=G.st:=by rw[e5]
  have aA:=Ge o5;have aa:Hf y.2 m5.st:=by rw[t5,F,<-K];exact q.cor.set Z (λw hw=>hw)
  have am:Mz (nd s (nd s y.1 125) 123,y.2)<n:=by
   unfold Mz;rw[h5.ns];simp;omega
  have ac:(m5.op.length:Int)=g+1:=by rw[o5];simp;omega
  rcases NQ H (z:=(nd s (nd s y.1 125) 123,y.2)) z.2.length 1 (g+1) h5 (by rw[e5]) aA.2.2 ac aa am with A|⟨P,m7,r,⟨f6,ad⟩,j,h7⟩
  .left;exact A
  right
  obtain⟨L,aB⟩:∃L,L=AS s n z.2.length 1 (g+1) (nd s (nd s y.1 125) 123,y.2):=⟨_,rfl⟩
  rw[<-aB]at r ad h7|-;have av:y.2.length<=L.2.length:=r.len;have o6:P.op=m.op++[⟨m.st.length,true⟩]:=r.op.trans o5;have ah:=Ge o6;have af:m5.st.length=y.2.length:=aa.len.symm;have ai:P.st[m.st.length]?=some {u with fin:=l.st.length,mid:=l.st.length}:=by
   rw[r.preS _ (by rw[af];omega),t5,F,cH,bA rfl,bA (by rw[Q];omega)]
  have ar:P.st.getD m.st.length AY={u with fin:=l.st.length,mid:=l.st.length}:=by rw[bG,ai];rfl
  simp only[Ba]at j;rw[ah.1,ah.2.1]at j;simp only at j;rw[ar,a_ (by simp)]at j;simp only[Option.some.injEq]at j;have V:m7.st=P.st.set m.st.length {u with fin:=P.st.length,mid:=l.st.length}:=by rw[<-j]
  have an:P.st.length=L.2.length:=r.cor.len.symm;have M:∀i,i≠m.st.length->m7.st[i]?=P.st[i]?:=λi hi=>by rw[V,cH,a_ (λe=>hi e.symm)]
  have D:∀i,i≠m.st.length->G.st[i]?=l.st[i]?:=λi hi=>by rw[F,cH,a_ (λe=>hi e.symm)]
  have U:∀i,i<y.2.length->P.st[i]?=G.st[i]?:=λi hi=>by rw[r.preS i (by rw[af];exact hi),t5]
  refine⟨m7,⟨h7,by rw[<-j];exact r.st,by rw[<-j],by rw[V];exact r.cor.set ai (λw hw=>hw),λi hi=>(r.preF i (by show i<y.2.length;omega)).trans (N i hi),λi hi=>by
   rw[M i (by omega),U i (by omega),D i (by omega),O i hi],by show z.2.length<=L.2.length;omega⟩,T+f6,x,{u with fin:=P.st.length,mid:=l.st.length},?_,?_,Y.1,Y.2,by show P.st.length=L.2.length;exact an,by show z.2.length<L.2.length;omega,.inr (.inr ⟨hk,by show z.2.length+1<=l.st.length;omega,by show l.st.length<=L.2.length;omega,?_,?_⟩)⟩
  .show L.2[z.2.length]?=some x;rw[r.preF _ (by show z.2.length<y.2.length;omega)];exact aj
  .rw[V,K,cH,bA rfl,bA (by omega)]
  .show E1 L.2 m7.st (T+f6) z.2.length 0 (z.2.length+1) l.st.length;rw[Q];have hb:E1 y.2 l.st T z.2.length 0 (z.2.length+1) y.2.length:=by
    have h:=W;simp at h;exact h
   exact(hb.keep (λi h1 h2=>r.preF i h2) (λi h1 h2=>by rw[M i (by omega),U i h2,D i (by omega)])).more f6
  .show E1 L.2 m7.st (T+f6) z.2.length 1 l.st.length L.2.length;rw[Q,Nat.add_comm];exact(ad.keep (λi _ _=>rfl) (λi h1 h2=>M i (by have aC:y.2.length<=i:=h1;omega))).more T
 .have X:u.kind=64:=by rw[E.1,hk];rfl
  rw[a_ (by rw[X];simp)]at a;simp only[Option.some.injEq]at a
  right
  rw[e3 hk,I];have F:G.st=l.st.set m.st.length {u with fin:=l.st.length}:=by rw[<-a]
  have D:∀i,i≠m.st.length->G.st[i]?=l.st[i]?:=λi hi=>by rw[F,cH,a_ (λe=>hi e.symm)]
  refine⟨G,⟨h4,by rw[<-a];exact q.st,by rw[<-a],by rw[F,<-K];exact q.cor.set Z (λw hw=>hw),N,λi hi=>by rw[D i (by omega),O i hi],by show z.2.length<=y.2.length;omega⟩,T,x,{u with fin:=l.st.length},aj,?_,Y.1,Y.2,by show l.st.length=y.2.length;exact Q,by show z.2.length<y.2.length;omega,.inr (.inl ⟨hk,?_⟩)⟩
  .rw[F,K,cH,bA rfl,bA (by omega)]
  .show E1 y.2 G.st T z.2.length 0 (z.2.length+1) y.2.length;have hb:E1 y.2 l.st T z.2.length 0 (z.2.length+1) y.2.length:=by
    have h:=W;simp at h;exact h
   exact hb.keep (λi _ _=>rfl) (λi h1 h2=>D i (by omega))
theorem Ln{x l:Ds}{t:Nat×Bool}{o:Int}{y:Ds×(Nat×Bool)}(G:BD s d x o=(l,t))(Q:l.kind=0)(C:y=Ao s (nd s t 61) l)(hb:An y.1.kind=0):Bo s d x o=(y.1,nd s y.2 59):=by
 unfold Bo;rw[G];have e:(if l.kind=0 then Ao s (nd s t 61) l else BR s t l)=y:=by rw[bA Q,C]
 show(if An (if l.kind=0 then Ao s (nd s t 61) l else BR s t l).1.kind=0 then((if l.kind=0 then Ao s (nd s t 61) l else BR s t l).1,nd s (if l.kind=0 then Ao s (nd s t 61) l else BR s t l).2 59)else(if l.kind=0 then Ao s (nd s t 61) l else BR s t l))=_;rw[e,bA hb]
theorem Hv{x l:Ds}{t:Nat×Bool}{o:Int}{y:Ds×(Nat×Bool)}(G:BD s d x o=(l,t))(Q:l.kind≠0)(C:y=BR s t l):Bo s d x o=if An y.1.kind=0 then(y.1,nd s y.2 59)else y:=by
 unfold Bo;rw[G];have e:(if l.kind=0 then Ao s (nd s t 61) l else BR s t l)=y:=by rw[a_ Q,C]
 show(if An (if l.kind=0 then Ao s (nd s t 61) l else BR s t l).1.kind=0 then((if l.kind=0 then Ao s (nd s t 61) l else BR s t l).1,nd s (if l.kind=0 then Ao s (nd s t 61) l else BR s t l).2 59)else(if l.kind=0 then Ao s (nd s t 61) l else BR s t l))=_;rw[e]
theorem SA{n:Nat}(H:VO s n){z:Zt}(p b o:Int)(h:Cl s z.1 m)(hs:m.state=115)(L:(m.op.length:Int)=o)(hc:Hf z.2 m.st)(hm:Mz z<=n)(Q:pk s z.1≠0)(R:pk s z.1≠125):
  B8 s (AU s (AS s n) p b o z).1\/∃m1,Yd s z m (AU s (AS s n) p b o z) m1/\∃f,E7 (AU s (AS s n) p b o z).2 m1.st (E1 (AU s (AS s n) p b o z).2 m1.st f) p b z.2.length (AU s (AS s n) p b o z).2.length:=by
 have hl:=hc.len;have ag:=h.aok.len;have hb:=J2 hs (pk s z.1);have v:=(DA rfl Q).1;have D:AM m (pk s z.1)=none->B8 s (Ez z.1):=λhn=>h.adead hn (λe=>absurd v (by omega));by_cases I:20<=z.2.length
 .left
  have e:AU s (AS s n) p b o z=(Ez z.1,z.2):=bA I;rw[e];exact D (by rw[hb];exact Pr (by omega) R)
 have Z:m.st.length≠20:=by omega
 by_cases E:pk s z.1=33
 .have r:AP m (pk s z.1)=some (Do m 33 0 99):=by unfold AP;rw[E,a_ (by decide),a_ (by decide),bA rfl,Iu Z]
  rw[r]at hb;have h1:=h.aadv Q hb;have q:=h1.cond rfl (.inl (by rw[Ce];rfl)) {AC p b with kind:=1} (by rw[Ce];exact⟨rfl,rfl,rfl,rfl⟩) (by rw[Ce];rfl);have g:=Hu s (BA z.1) {AC p b with kind:=1};have Y:AG (Do m 33 0 99)=59:=by unfold AG;rw[Ce];rfl
  have J:D6 (Do m 33 0 99)=m.op:=by unfold D6;rw[Ce];rfl
  rw[Y]at q;obtain⟨y,C⟩:∃y,y=BR s (BA z.1) {AC p b with kind:=1}:=⟨_,rfl⟩
  rw[<-C]at q g;have N:Bo s z.1 (AC p b) o=(y.1,nd s y.2 59):=by
   have G:BD s z.1 (AC p b) o=({AC p b with kind:=1},BA z.1):=bA E;exact(Hv G (by show(1:Int)≠0;decide) C).trans (bA (by rw[g.1];show An 1=0;decide))
  refine JO (u:={u0 m 33 0 with star:=y.1.any,sg:=y.1.sg,num:=y.1.num}) hc I N (.inr g.1) ⟨g.2.2.1,g.2.2.2⟩ ⟨by rw[g.1];rfl,by rw[g.2.1];rfl,rfl,rfl,rfl⟩ rfl ?_;refine q.mono ?_;rintro w-⟨a,X,c⟩;rw[Ce,F4]at X;exact⟨a,c.trans J,X⟩
 by_cases U:pk s z.1=63\/pk s z.1=64
 .obtain⟨kk,P⟩:∃kk:Int,(kk=2/\pk s z.1=63)\/(kk=3/\pk s z.1=64):=by
   rcases U with e|e
   .exact⟨2,.inl ⟨rfl,e⟩⟩
   .exact⟨3,.inr ⟨rfl,e⟩⟩
  have G:BD s z.1 (AC p b) o=({AC p b with kind:=kk},if 4<=o then Ez z.1 else BA z.1):=by
   unfold BD;rw[a_ E];rcases P with⟨rfl,e⟩|⟨rfl,e⟩
   .rw[bA e]
   .rw[a_ (by omega),bA e]
  have O:An kk≠0/\kk≠0:=by rcases P with⟨rfl,_⟩|⟨rfl,_⟩<;>decide
  by_cases h4:m.op.length<4
  .have r:AP m (pk s z.1)=some (Do m (pk s z.1) 0 99):=by unfold AP;rw[a_ (by omega),bA U,bA h4,Iu Z]
   rw[r]at hb;have h1:=h.aadv Q hb;have q:=h1.cond rfl (.inr (by show m.op.length≠4;omega)) {AC p b with kind:=kk} (by rw[Ce];exact⟨rfl,rfl,rfl,rfl⟩) (by rw[Ce];rfl);have g:=Hu s (BA z.1) {AC p b with kind:=kk};have T:¬(cur (Do m (pk s z.1) 0 99)).kind=33:=by rw[Ce];exact E
   have Y:AG (Do m (pk s z.1) 0 99)=123:=a_ T;have J:D6 (Do m (pk s z.1) 0 99)=m.op++[⟨m.st.length,false⟩]:=by
    unfold D6;rw[a_ T];show m.op++[⟨(m.st++[u0 m (pk s z.1) 0]).length-1,false⟩]=_;simp
   rw[Y]at q;obtain⟨y,C⟩:∃y,y=BR s (BA z.1) {AC p b with kind:=kk}:=⟨_,rfl⟩
   rw[<-C]at q g;have N:Bo s z.1 (AC p b) o=(y.1,y.2):=by
    rw[a_ (by omega)]at G;exact(Hv G O.2 C).trans (a_ (by rw[g.1];exact O.1))
   refine NR H (u:={u0 m (pk s z.1) 0 with star:=y.1.any,sg:=y.1.sg,num:=y.1.num}) h.ns hm L hc I N (by rw[g.1];exact P.elim (λe=>.inl e.1) (λe=>.inr e.1)) ⟨g.2.2.1,g.2.2.2⟩ ⟨?_,by rw[g.2.1];rfl,rfl,rfl,rfl⟩ ?_
   .show pk s z.1=Fr y.1.kind;rw[g.1];rcases P with⟨rfl,e⟩|⟨rfl,e⟩<;>rw[e]<;>rfl
   .refine q.mono ?_;rintro w-⟨a,X,c⟩;rw[Ce,F4]at X;exact⟨a,c.trans J,X⟩
  .left
   have r:AP m (pk s z.1)=none:=by unfold AP;rw[a_ (by omega),bA U,a_ h4]
   have B:=D (by rw[hb];exact r);have N:(Bo s z.1 (AC p b) o).2=Ez z.1:=by
    rw[bA (by omega)]at G;rw[(Hv G O.2 rfl).trans (a_ (by rw[(Hu s (Ez z.1) {AC p b with kind:=kk}).1];exact O.1))];exact B.dCond _
   have e:(AU s (AS s n) p b o z).1=Ez z.1:=by unfold AU;rw[a_ I,N];rfl
   rw[e];exact B
 by_cases hv:97<=pk s z.1/\pk s z.1<=100
 .have r:AP m (pk s z.1)=some (Do m 61 (pk s z.1-97) 61):=by unfold AP;rw[bA hv,Iu Z]
  rw[r]at hb;have h1:=h.aadv Q hb;have ev:Bq s z.1 (-1)=(pk s z.1-97,BA z.1):=by unfold Bq;rw[Dj hv,a_ (by omega)]
  have G:BD s z.1 (AC p b) o=({AC p b with kind:=0,target:=pk s z.1-97},BA z.1):=by
   unfold BD;rw[a_ E,a_ (λe=>U (.inl e)),a_ (λe=>U (.inr e)),ev]
  obtain⟨y,C⟩:∃y,y=Ao s (nd s (BA z.1) 61) {AC p b with kind:=0,target:=pk s z.1-97}:=⟨_,rfl⟩
  have g:=JM s (nd s (BA z.1) 61) {AC p b with kind:=0,target:=pk s z.1-97};rw[<-C]at g;have N:Bo s z.1 (AC p b) o=(y.1,nd s y.2 59):=by
   exact Ln G rfl C (by rw[g.1];show An 0=0;decide)
  refine JO (u:={u0 m 61 (pk s z.1-97)with star:=y.1.any,sg:=y.1.sg,num:=y.1.num}) hc I N (.inl g.1) ⟨g.2.2.1,g.2.2.2⟩ ⟨by rw[g.1];rfl,by rw[g.2.1];rfl,rfl,rfl,rfl⟩ rfl ?_;rcases h1.aneed (c:=61) (m':={Do m 61 (pk s z.1-97) 61 with state:=118}) (by decide) (λe=>by rw[QL rfl,bA rfl]) (λe=>by rw[QL rfl,a_ e]) (CT (by decide:(61:Int)≠115))with B|⟨m2,h2,e2⟩
  .have e:y.2=nd s (BA z.1) 61:=by rw[C];exact B.dValue _
   rw[e,B.dnd (by decide)];exact .inl B
  .have ec:cur m2=u0 m 61 (pk s z.1-97):=by rw[e2];exact Ce 61 _ 61
   have V:=h2.value (by rw[e2]) (by rw[ec];rfl) {AC p b with kind:=0,target:=pk s z.1-97} (by rw[ec];exact⟨rfl,rfl,rfl,rfl⟩);rw[<-C]at V;refine V.mono ?_;rintro w-⟨a,X,c⟩;refine⟨a,X.trans (by rw[e2];rfl),c.trans ?_⟩;rw[ec,e2];exact F4 61 _ 61 _
 .left
  have r:AP m (pk s z.1)=none:=by unfold AP;rw[a_ hv,a_ U,a_ E,a_ (λe=>R e.1)]
  have B:=D (by rw[hb];exact r);have ev:Bq s z.1 (-1)=(0,Ez z.1):=by unfold Bq;rw[bA (.inl (Ff hv))]
  have G:BD s z.1 (AC p b) o=({AC p b with kind:=0,target:=0},Ez z.1):=by
   unfold BD;rw[a_ E,a_ (λe=>U (.inl e)),a_ (λe=>U (.inr e)),ev]
  have N:(Bo s z.1 (AC p b) o).2=Ez z.1:=by
   rw[Ln G rfl rfl (by rw[(JM s (nd s (Ez z.1) 61) {AC p b with kind:=0,target:=0}).1];show An 0=0;decide)];show nd s (Ao s (nd s (Ez z.1) 61) _).2 59=_;rw[B.dnd (by decide),B.dValue,B.dnd (by decide)]
  have e:(AU s (AS s n) p b o z).1=Ez z.1:=by unfold AU;rw[a_ I,N];rfl
  rw[e];exact B
theorem UW(s:ByteArray)(n:Nat):VO s n:=by
 induction n with
 |zero=>intro p b o z m _ _ _ _ hm;omega
 |succ n ih=>
  intro p b o z m h hs L hc hm;by_cases K:pk s z.1=0\/pk s z.1=125
  .right
   have e:AS s (n+1) p b o z=z:=by unfold AS;rw[bA K]
   rw[e];exact⟨m,⟨h,hs,rfl,hc,P_.refl _,P_.refl _,bB _⟩,⟨0,rfl⟩,K⟩
  .have e:AS s (n+1) p b o z=AS s n p b o (AU s (AS s n) p b o z):=by rw[AS,a_ K]
   have ac:QB s z:=⟨h.le,by rw[hc.len];exact h.aok.len⟩
   have ad:=P9 (AS s n) (A_ s n) p b o ac h.ns;rw[e];rcases SA ih p b o h hs L hc (by omega) (λe=>K (.inl e)) (λe=>K (.inr e))with B|⟨m1,A,f1,r⟩
   .left;rw[B.dStmts];exact B
   obtain⟨y,C⟩:∃y,y=AU s (AS s n) p b o z:=⟨_,rfl⟩
   rw[<-C]at A r ad|-;rcases ih p b o y m1 A.sync A.st (by rw[A.op];exact L) A.cor (by omega)with B|⟨m2,ho2,⟨f2,hf2⟩,aa⟩
   .left;exact B
   .right
    have F:=A.cor.len;refine⟨m2,⟨ho2.sync,ho2.st,ho2.op.trans A.op,ho2.cor,A.preF.trans ho2.preF A.len,A.preS.trans ho2.preS (by rw[<-F,<-hc.len];exact A.len),cN A.len ho2.len⟩,⟨f1+f2+1,.inr ⟨y.2.length,ho2.len,?_,?_⟩⟩,aa⟩
    .have v:=r.lt;refine r.into (ho2.preF _ v) (ho2.preS _ (by rw[<-F];exact v)) (λ_ _ i j hi ah hj hR=>?_);exact(E1.keep hR (λk h1 h2=>ho2.preF k (by omega)) (λk h1 h2=>ho2.preS k (by rw[<-F];omega))).more f2
    .rw[Nat.add_comm f1 f2];exact hf2.more f1
theorem Lr(s:ByteArray):B8 s (AI s).1\/∃m,Yd s ((0,false),[]) CY (AI s) m/\(∃f,E1 (AI s).2 m.st f (-1) 0 0 (AI s).2.length)/\(pk s (AI s).1=0\/pk s (AI s).1=125):=
 UW s 22 (-1) 0 0 ((0,false),[]) CY ⟨rfl,bY _,rfl⟩ rfl rfl ⟨rfl,λi x u h=>by simp at h⟩ (by decide)
theorem Kf(s:ByteArray):(AA s).take s.size=AA s:=cG (by rw[AR];exact bB _)
theorem TR{s:ByteArray}{k:Nat}(h:k<s.size):(AA s)[k]?=some ((AA s).getD k 0):=by rw[bG,Ck s k h];rfl
theorem I9(s:ByteArray):DX s=Bv (AA s):=by
 have hl:=AR s;by_cases h:160<s.size
 .unfold DX Bv;rw[bA h,bA (by omega)]
 have af:∀x,Bv (AA s)=x↔(match BH CY (AA s) 0 with
  |(n,none)=>(0,1,n)
  |(n,some m)=>if BS m then((m.st.length:Int)+1,0,0)else(0,1,n))=x:=by intro x;unfold Bv;rw[a_ (by omega)];exact Iff.rfl
 symm
 rw[af]
 have W:∀(m:Rd),En CY ((AA s).take (AI s).1.1)=some m->(AI s).1.1<s.size->AM m ((AA s).getD (AI s).1.1 0)=none->BP s=false->(match BH CY (AA s) 0 with
  |(n,none)=>(0,1,(n:Int))
  |(n,some m)=>if BS m then((m.st.length:Int)+1,0,0)else(0,1,n))=DX s:=by
  intro m M v hb S;rw[Hc (n:=0) M (TR v) hb];unfold DX;rw[a_ h,S];simp
 rcases Lr s with B|⟨m,A,_,aa⟩
 .obtain⟨m,M,ai,h1,h2⟩:=B.ex;have S:BP s=false:=by unfold BP;rw[B.st];rfl
  by_cases v:(AI s).1.1<s.size
  .exact W m M v (h1 v) S
  .have K:(AI s).1.1=s.size:=by omega
   rw[K,Kf]at M;rw[EH (n:=0) M];simp only;rw[h2 K];unfold DX;rw[a_ h,S];simp;omega
 .have M:=A.sync.fd;have ab:m.op=[]:=A.op;by_cases v:(AI s).1.1<s.size
  .have S:BP s=false:=by unfold BP;rw[A.sync.ns];simp;omega
   refine W m M v ?_ S;rw[<-A.sync.apk,J2 A.st];rcases aa with e|e
   .rw[e];unfold AP;rw[a_ (by decide),a_ (by decide),a_ (by decide),a_ (by omega)]
   .rw[e];unfold AP;rw[a_ (by decide),a_ (by decide),a_ (by decide),a_ (by rw[ab];simp)]
  .have S:BP s=true:=by unfold BP;rw[A.sync.ns];simp;omega
   have K:(AI s).1.1=s.size:=by have:=A.sync.le;omega
   rw[K,Kf]at M;rw[EH (n:=0) M];have ae:BS m=true:=by unfold BS;rw[A.st,ab];rfl
   simp only;rw[ae];unfold DX;rw[a_ h,S,A.cor.len];rfl
variable {F:List Ds}{S:List St}
theorem E1.par{f:Nat}:∀{p b:Int}{a c:Nat},E1 F S f p b a c->∀j,a<=j->j<c->∃x,F[j]?=some x/\((x.parent=p/\x.block=b)\/((a:Int)<=x.parent/\x.parent<j)):=by
 induction f with
 |zero=>intro p b a c h j h1 h2;have J:a=c:=h;omega
 |succ f ih=>
  intro p b a c h j h1 h2;rcases h with h|⟨e,G,hs,hr⟩
  .omega
  .obtain⟨x,u,hx,C,B,hb,t,A,hk⟩:=hs;by_cases M:j=a
   .subst M;exact⟨x,hx,.inl ⟨B,hb⟩⟩
   .by_cases r:j<e
    .rcases hk with⟨_,hk⟩|⟨_,hk⟩|⟨_,O,P,d,l⟩
     .omega
     .obtain⟨y,w,h3⟩:=ih hk j (by omega) r;refine⟨y,w,.inr ?_⟩;rcases h3 with⟨h3,_⟩|h3<;>omega
     .by_cases s:j<u.mid
      .obtain⟨y,w,h3⟩:=ih d j (by omega) s;refine⟨y,w,.inr ?_⟩;rcases h3 with⟨h3,_⟩|h3<;>omega
      .obtain⟨y,w,h3⟩:=ih l j (by omega) r;refine⟨y,w,.inr ?_⟩;rcases h3 with⟨h3,_⟩|h3<;>omega
    .obtain⟨y,w,h3⟩:=ih hr j (by omega) h2;refine⟨y,w,?_⟩;rcases h3 with h3|h3
     .exact .inl h3
     .exact .inr (by omega)
theorem E1.fins{f:Nat}:∀{p b:Int}{a c:Nat},E1 F S f p b a c->∀j,a<=j->j<c->∃u,S[j]?=some u/\j<u.fin/\u.fin<=c:=by
 induction f with
 |zero=>intro p b a c h j h1 h2;have J:a=c:=h;omega
 |succ f ih=>
  intro p b a c h j h1 h2;rcases h with h|⟨e,G,hs,hr⟩
  .omega
  .obtain⟨x,u,hx,C,B,hb,t,A,hk⟩:=hs;by_cases M:j=a
   .subst M;exact⟨u,C,by omega,by omega⟩
   .by_cases r:j<e
    .rcases hk with⟨_,hk⟩|⟨_,hk⟩|⟨_,O,P,d,l⟩
     .omega
     .obtain⟨v,D,h3,h4⟩:=ih hk j (by omega) r;exact⟨v,D,h3,by omega⟩
     .by_cases s:j<u.mid
      .obtain⟨v,D,h3,h4⟩:=ih d j (by omega) s;exact⟨v,D,h3,by omega⟩
      .obtain⟨v,D,h3,h4⟩:=ih l j (by omega) r;exact⟨v,D,h3,by omega⟩
    .exact ih hr j (by omega) h2
theorem E1.at_{f:Nat}:∀{p b:Int}{a c:Nat},E1 F S f p b a c->p<a->∀i x,a<=i->i<c->F[i]?=some x->x.parent=p->(∀k,a<=k->k<i->∃u,S[k]?=some u/\u.fin<=i)/\∃g e,e<=c/\E7 F S (E1 F S g) p b i e/\E1 F S g p b e c:=by
 induction f with
 |zero=>intro p b a c h _ i x h1 h2;have J:a=c:=h;omega
 |succ f ih=>
  intro p b a c h af i x h1 h2 hx B;rcases h with h|⟨e,G,hs,hr⟩
  .omega
  .have A:=hs.lt;by_cases hi:i=a
   .subst hi;exact⟨λk h3 h4=>by omega,f,e,G,hs,hr⟩
   .have ab:E1 F S (f+1) p b a c:=.inr ⟨e,G,hs,hr⟩;have H:E1 F S (f+1) p b a e:=.inr ⟨e,bB _,hs,by cases f with|zero=>exact rfl|succ f=>exact .inl rfl⟩;by_cases o:i<e
    .exfalso;obtain⟨y,u,w,C,ae,ad,t,aa,hk⟩:=hs;have m:∀(b:Int)(I c1:Nat),a+1<=I->E1 F S f a b I c1->I<=i->i<c1->False:=by
      intro b I c1 ac T h3 h4;obtain⟨z,hz,h5⟩:=T.par i h3 h4;rw[hx]at hz;cases hz
      rcases h5 with⟨h5,_⟩|h5<;>omega
     rcases hk with⟨_,hk⟩|⟨_,hk⟩|⟨_,O,P,d,l⟩
     .omega
     .exact m _ _ _ (by omega) hk (by omega) o
     .by_cases s:i<u.mid
      .exact m _ _ _ (by omega) d (by omega) s
      .exact m _ _ _ (by omega) l (by omega) o
    .obtain⟨h3,h4⟩:=ih hr (by omega) i x (by omega) h2 hx B;refine⟨λk d l=>?_,h4⟩;by_cases N:k<e
     .obtain⟨v,D,_,h6⟩:=H.fins k d N;exact⟨v,D,by omega⟩
     .exact h3 k (by omega) l
def SF(F:List Ds)(S:List St)(p b:Int)(a c:Nat):Prop:=
 (p= -1/\b=0/\a=0/\c=F.length)\/∃(q:Nat)(x:Ds)(u:St),p=q/\F[q]?=some x/\S[q]?=some u/\
  ((x.kind=3/\b=0/\a=q+1/\c=u.fin)\/(x.kind=2/\b=0/\a=q+1/\c=u.mid/\u.mid<=u.fin)\/(x.kind=2/\b=1/\a=u.mid/\c=u.fin/\q+1<=u.mid))
theorem SF.lt{p b:Int}{a c:Nat}(h:SF F S p b a c):p<a:=by
 rcases h with⟨h1,_,h3,_⟩|⟨q,x,u,h1,_,_,h2⟩
 .omega
 .rcases h2 with h2|h2|h2<;>omega
theorem E1.pos{f:Nat}:∀{p b:Int}{a c:Nat},E1 F S f p b a c->(∃n,n<=a/\SF F S p b n c/\∃g,E1 F S g p b n c)->∀i,a<=i->i<c->∃x n c0,F[i]?=some x/\n<=i/\i<c0/\SF F S x.parent x.block n c0/\∃g,E1 F S g x.parent x.block n c0:=by
 induction f with
 |zero=>intro p b a c h _ i h1 h2;have J:a=c:=h;omega
 |succ f ih=>
  intro p b a c h E i h1 h2;obtain⟨n,K,Q,g,R⟩:=E;rcases h with h|⟨e,G,hs,hr⟩
  .omega
  .obtain⟨x,u,hx,C,B,hb,t,A,hk⟩:=hs;by_cases hi:i=a
   .subst hi;exact⟨x,n,c,hx,K,h2,by rw[B,hb];exact Q,g,by rw[B,hb];exact R⟩
   .by_cases o:i<e
    .rcases hk with⟨_,hk⟩|⟨U,hk⟩|⟨k2,O,P,d,l⟩
     .omega
     .exact ih hk ⟨a+1,bB _,.inr ⟨a,x,u,rfl,hx,C,.inl ⟨U,rfl,rfl,t.symm⟩⟩,f,hk⟩ i (by omega) o
     .by_cases L:i<u.mid
      .exact ih d ⟨a+1,bB _,.inr ⟨a,x,u,rfl,hx,C,.inr (.inl ⟨k2,rfl,rfl,rfl,by omega⟩)⟩,f,d⟩ i (by omega) L
      .exact ih l ⟨u.mid,bB _,.inr ⟨a,x,u,rfl,hx,C,.inr (.inr ⟨k2,rfl,rfl,t.symm,by omega⟩)⟩,f,l⟩ i (by omega) o
    .exact ih hr ⟨n,by omega,Q,g,R⟩ i (by omega) h2
def Bj(F:List Ds)(S:List St):Prop:=Hf F S/\∃f,E1 F S f (-1) 0 0 F.length
theorem Bj.pos(h:Bj F S)(i:Nat)(hi:i<F.length):∃x n c0,F[i]?=some x/\n<=i/\i<c0/\SF F S x.parent x.block n c0/\∃g,E1 F S g x.parent x.block n c0:=by
 obtain⟨_,f,t⟩:=h;exact t.pos ⟨0,bB _,.inl ⟨rfl,rfl,rfl,rfl⟩,f,t⟩ i (bY _) hi
end Go.Proofs.YtffajooegiempaaGreatDoor
