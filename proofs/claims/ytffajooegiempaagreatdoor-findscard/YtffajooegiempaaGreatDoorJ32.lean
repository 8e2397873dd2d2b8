import Derived.Test.YtffajooegiempaaGreatDoorJ31
set_option maxRecDepth 100000
set_option maxHeartbeats 6400000
namespace Go.Proofs.YtffajooegiempaaGreatDoor
open Go.RowKit
variable {M N:Nat->Int}{F:List Ds}{c:Int}
structure Wv(c:Int)(M:Nat->Int):Prop where
 tc:TC M
 box:∀i,i<8->M (i*8+i)<=2*c
theorem Wv.mono{d:Int}(h:Wv c M)(hd:c<=d):Wv d M:=⟨h.tc,λi hi=>by have:=h.box i hi;omega⟩
theorem Wv.ne(h:Wv c M)(hc:c<=9000){i:Nat}(hi:i<8):M (i*8+i)≠NB:=by have:=h.box i hi;unfold NB;omega
theorem Wv.up(h:Wv c M)(hc:c<=9000){i j:Nat}(hi:i<8)(hj:j<8):M (i*8+j)≠NB/\M (i*8+j)<=2*c:=by
 obtain⟨a,b⟩:=h.tc.half i j hi hj (h.ne hc hi) (h.ne hc hj);have:=h.box i hi;have:=h.box j hj;exact⟨a,by omega⟩
theorem Wv.lo(h:Wv c M)(hc:c<=9000){i j:Nat}(hi:i<8)(hj:j<8): -(2*c)<=M (i*8+j):=by
 have t:=h.tc.tri (opp j) (Ah hj) i (opp i) hi (Ah hi);rw[h.tc.zero i hi,CL j hj]at t;have a:=h.up hc hi hj;have b:=h.up hc (Ah hj) (Ah hi);rcases t with q|q|q
 ·exact absurd q a.1
 ·exact absurd q b.1
 ·omega
theorem Wv.all(h:Wv c M)(hc:c<=9000){k:Nat}(hk:k<64):M k≠NB/\ -(2*c)<=M k/\M k<=2*c:=by
 have e:k=k/8*8+k%8:=by omega
 rw[e];have a:=h.up hc (i:=k/8) (j:=k%8) (by omega) (by omega);exact⟨a.1,h.lo hc (by omega) (by omega),a.2⟩
theorem Wv.tq(h:Wv c M)(hc:c<=9000):TQ M:=⟨h.tc,λk hk=>.inr (by have:=h.all hc hk;omega),λk hk=>by have:=h.all hc hk;omega⟩
theorem Wv.sm(h:Wv c M)(hc:c<=9000):Sm M:=λk hk=>by have:=h.all hc hk;omega
theorem Wf(hc:0<=c):Wv c (λ_=>0):=⟨Jo,λ_ _=>by show(0:Int)<=2*c;omega⟩
theorem We(hc:c<=9000)(h:Wv c M)(k:Wv c N):Wv c (jF M N 64):=by
 have fin:∀{a:Nat},a<64->jF M N 64 a≠NB/\jF M N 64 a<=2*c:=λ{a} ha=>by
  rcases(C1 M N ha).1 with e|e<;>rw[e]
  ·exact⟨(h.all hc ha).1,(h.all hc ha).2.2⟩
  ·exact⟨(k.all hc ha).1,(k.all hc ha).2.2⟩
 refine⟨⟨?_,?_,?_,?_,?_,?_⟩,λi hi=>(fin (by omega)).2⟩
 ·intro s hs i j hi hj;have o1:=Ah hs;have a1:=C1 M N (a:=i*8+j) (by omega);have a2:=C1 M N (a:=i*8+opp s) (by omega);have a3:=C1 M N (a:=s*8+j) (by omega);refine .inr (.inr ⟨(fin (by omega)).1,?_⟩);have t1:=h.tc.tri s hs i j hi hj;have t2:=k.tc.tri s hs i j hi hj;have n1:=h.up hc hi o1;have n2:=h.up hc hs hj;have n3:=k.up hc hi o1;have n4:=k.up hc hs hj;rcases t1 with q|q|q
  ·exact absurd q n1.1
  ·exact absurd q n2.1
  ·rcases t2 with r|r|r
   ·exact absurd r n3.1
   ·exact absurd r n4.1
   ·rcases a1.1 with e|e<;>rw[e]<;>omega
 ·intro i hi;have o:=Ah hi;rcases(C1 M N (a:=i*8+opp i) (by omega)).1 with e|e<;>rw[e]
  ·exact h.tc.zero i hi
  ·exact k.tc.zero i hi
 ·intro i hi;rcases(C1 M N (a:=i*8+i) (by omega)).1 with e|e<;>rw[e]
  ·exact h.tc.even i hi
  ·exact k.tc.even i hi
 ·intro i j hi hj _ _;refine⟨(fin (by omega)).1,?_⟩;have a1:=C1 M N (a:=i*8+j) (by omega);have a2:=C1 M N (a:=i*8+i) (by omega);have a3:=C1 M N (a:=j*8+j) (by omega);have t1:=(h.tc.half i j hi hj (h.ne hc hi) (h.ne hc hj)).2;have t2:=(k.tc.half i j hi hj (k.ne hc hi) (k.ne hc hj)).2;rcases a1.1 with e|e<;>rw[e]<;>omega
 ·intro i j hi hj;rw[KH,KH,h.tc.sym i j hi hj,k.tc.sym i j hi hj];by_cases q:M (j*8+i)<N (j*8+i)
  ·rw[if_pos ⟨by omega,q⟩,if_pos ⟨by omega,q⟩]
  ·rw[if_neg (λz=>q z.2),if_neg (λz=>q z.2)]
 ·intro a ha;have:=fin ha;exact .inr (by omega)
theorem RY(h:Wv c M)(hc:c<=9000){i:Nat}(hi:i<8):2*mo M i i=M (i*8+i):=by
 exact((Lg h.tc hi).2 (h.ne hc hi)).1
theorem M8(h:Wv c M)(hc:c<=9000)(h9:999<=c){x:Ds}(hx:DQ x)(way:Int)(he:CA false M x way=false):Wv (c+99) (CE false M x way):=by
 have n:=hx.g.num;have ht:=hx.tg;have hT:=h.tq hc;unfold CA at he;unfold CE;rw[if_neg (by decide)]at he|-;by_cases k0:x.kind=0
 ·rw[if_pos k0];unfold JF;have bt:∀{lo hi:Int}, -999<=lo->hi<=999->lo<=hi->Wv (c+99) (FI M x.target.toNat lo hi):=λ{lo hi} h1 h2 h3=>by
   have hlo: -999<=lo/\lo<=999:=⟨h1,by omega⟩
   have hhi: -999<=hi/\hi<=999:=⟨by omega,h2⟩
   refine⟨(QI h.tc hT.top (by omega) hlo hhi h3).1,λi hi'=>?_⟩;rw[Dx M (by omega) hlo hhi hi' hi'];unfold Po;by_cases ti:C6 x.target.toNat i
   ·rw[if_pos ti,if_pos ti,if_pos rfl];split<;>omega
   ·rw[if_neg ti,if_neg ti];have:=h.box i hi';omega
  by_cases a:x.any=true
  ·rw[if_pos a];exact bt (by omega) (by omega) (by omega)
  ·rw[if_neg a];by_cases q:CF x.sg=opp (C4 x.sg)
   ·rw[if_pos q];exact bt (by omega) (by omega) (Int.le_refl _)
   ·rw[if_neg q];have hf:=(Cx x.sg 4 (Nat.le_refl _)).1;have hf':CF x.sg<8:=hf;refine⟨(Uj h.tc hT.top (by omega) hf ⟨by omega,by omega⟩).1,λi hi=>?_⟩;rw[Hd M _ _ _ hi hi];have b0:=h.box i hi;have b1:=h.box _ hf';have b2:=h.box _ (Ah hf');unfold Ak BK;by_cases i1:i=2*x.target.toNat
    ·rw[if_pos i1,if_pos i1];unfold pl;rw[if_neg (λz=>z.elim (h.ne hc hf') (λq=>by unfold NB at q;omega))];omega
    ·rw[if_neg i1,if_neg i1];by_cases i2:i=2*x.target.toNat+1
     ·rw[if_pos i2,if_pos i2];unfold pl;rw[if_neg (λz=>z.elim (h.ne hc (Ah hf')) (λq=>by unfold NB at q;omega))];omega
     ·rw[if_neg i2,if_neg i2];unfold pl;rw[if_neg (λz=>z.elim (h.ne hc hi) (λq=>by unfold NB at q;omega))];omega
 ·rw[if_neg k0]at he|-;cases ha:x.any with
  |true=>rw[if_pos rfl];exact h.mono (by omega)
  |false=>
   rw[ha,if_neg (by decide)]at he;rw[if_neg (by decide)];have hz1:1<=nz x.sg:=(hx.fc k0).resolve_left (by rw[ha];decide);have fin:∀{l:List Int}{d:Int},l.length=4->(∀i, -1<=AK l i/\AK l i<=1)->1<=nz l->nz l<=2->d<=1000->GJ false M l d=false->Wv (c+99) (E5 false M l d):=λ{l d} a1 a2 a3 a4 a5 a6=>by
    refine⟨NL hT a1 a2 a3 a4 a5 a6,λi hi=>?_⟩;obtain⟨f,hf,hnf,hgr,hs1,hs2⟩:=Ep h.tc a1 a2 a3 a4;have b0:=h.box i hi;unfold E5;by_cases q:Ko false M l d=true
    ·rw[if_pos q];omega
    ·rw[if_neg q];have e:lm M (CF l) (C4 l) d=sb M f d:=by rw[hs1,hs2];rfl
     rw[e];have s1:=Cs (sb M f d) (i*8+i);have hd':¬FC M l<=d:=by
      unfold Ko at q;simpa using q
     rw[hgr]at hd';rw[EZ M hf (by unfold NB;omega) hi hi]at s1;split at s1
     ·rename_i z;obtain⟨n1,n2,n3,n4,n5,n6⟩:=FE f hf;have f8:f<8:=by
       rcases Nat.lt_or_ge f 8 with r|r
       ·exact r
       ·exact absurd (show fs f=ss f by omega) (G7 f hf r)
      rw[if_pos f8]at s1;have hb:bd M f=mo M f f:=by
       obtain⟨q1,q2⟩:=Eo f f8;unfold bd mo;rw[q1,q2]
      have hd:=RY h hc f8;have hif:i=f:=by
       obtain⟨q1,q2⟩:=Eo f f8;omega
      rw[hb]at hd';rw[<-hif]at hd' hd;omega
     ·omega
   by_cases w0:way=0
   ·rw[if_pos w0]at he|-;exact fin hx.len hx.g.sg hz1 hx.nz2 (by omega) he
   ·rw[if_neg w0]at he|-;exact fin (Cp _) (DJ hx.g.sg) (by rw[C9 hx.len];exact hz1) (by rw[C9 hx.len];exact hx.nz2) (by omega) he
def Yi:Option (Nat->Int)->Bool->(Nat->Int)->Option (Nat->Int)
 |r,true,_=>r
 |none,false,M=>some M
 |some A,false,M=>some (jF A M 64)
abbrev Kl:=List (Option (Nat->Int))
inductive Od(F:List Ds):Nat->Kl->Prop
 |beg:Od F 0 (some (λ_=>0)::List.replicate F.length none)
 |stp {t:Nat} {K:Kl} {k:Nat} {M:Nat->Int} (q:Nat) (way:Int):Od F t K->k<F.length->K.getD k none=some M->Od F (t+1) (K.set q (Yi (K.getD q none) (CA false M (F.getD k (AC 0 0)) way) (CE false M (F.getD k (AC 0 0)) way)))
theorem Od.len{t:Nat}{K:Kl}(h:Od F t K):K.length=F.length+1:=by
 induction h with
 |beg=>simp
 |stp q way _ _ _ ih=>rw[List.length_set];exact ih
theorem Jc(K:Kl)(q i:Nat)(o:Option (Nat->Int)):(K.set q o).getD i none=if q=i/\q<K.length then o else K.getD i none:=by
 rw[List.getD_eq_getElem?_getD,List.getD_eq_getElem?_getD,List.getElem?_set];by_cases e:q=i
 ·subst e;by_cases l:q<K.length
  ·rw[if_pos rfl,if_pos l,if_pos ⟨rfl,l⟩];rfl
  ·rw[if_pos rfl,if_neg l,if_neg (λz=>l z.2),List.getElem?_eq_none (by omega)]
 ·rw[if_neg e,if_neg (λz=>e z.1)]
theorem Ns{P:(Nat->Int)->Prop}(hj:∀A B,P A->P B->P (jF A B 64)){r:Option (Nat->Int)}{e:Bool}{M:Nat->Int}(hr:∀A,r=some A->P A)(hM:e=false->P M):∀A,Yi r e M=some A->P A:=by
 intro A h;cases e with
 |true=>cases r<;>exact hr A h
 |false=>
  cases r with
  |none=>cases h;exact hM rfl
  |some B=>cases h;exact hj _ _ (hr B rfl) (hM rfl)
theorem Sg(i:Nat)(A:Nat->Int)(h:(some (λ_=>(0:Int))::List.replicate F.length none:Kl).getD i none=some A):A=λ_=>0:=by
 cases i with
 |zero=>cases h;rfl
 |succ i=>
  rw[List.getD_cons_succ,List.getD_eq_getElem?_getD,List.getElem?_replicate]at h;split at h<;>cases h
theorem Od.wv(hD:∀k,k<F.length->DQ (F.getD k (AC 0 0))){t:Nat}{K:Kl}(h:Od F t K)(ht:t<=40):∀i A,K.getD i none=some A->Wv (999+99*t) A:=by
 induction h with
 |beg=>intro i A hA;rw[Sg i A hA];exact Wf (by omega)
 |@stp t K k M q way _ hk hM ih=>
  intro i A hA;have ih':=ih (by omega);have e1:(999:Int)+99*((t+1:Nat):Int)=999+99*(t:Int)+99:=by omega
  rw[e1];rw[Jc]at hA;split at hA
  ·refine Ns (P:=Wv (999+99*(t:Int)+99)) (λA B a b=>We (by omega) a b) (λA h=>(ih' q A h).mono (by omega)) (λhe=>M8 (ih' k M hM) (by omega) (by omega) (hD k hk) way he) A hA
  ·exact(ih' i A hA).mono (by omega)
def VK(K K':Kl):Prop:=∀i A,K.getD i none=some A->∃B,K'.getD i none=some B/\Le A B
theorem VK.refl(K:Kl):VK K K:=λ_ A h=>⟨A,h,λ_ _=>Int.le_refl _⟩
theorem VK.trans{K K' K'':Kl}(h:VK K K')(h':VK K' K''):VK K K'':=λi A hA=>by
 obtain⟨B,hB,l⟩:=h i A hA;obtain⟨C,hC,l'⟩:=h' i B hB;exact⟨C,hC,l.trans l'⟩
theorem Qb(K:Kl)(q:Nat)(e:Bool)(M:Nat->Int):VK K (K.set q (Yi (K.getD q none) e M)):=λi A hA=>by
 rw[Jc];split
 ·rename_i z;obtain⟨rfl,_⟩:=z;rw[hA];cases e with
  |true=>exact⟨A,rfl,λ_ _=>Int.le_refl _⟩
  |false=>exact⟨_,rfl,λa ha=>(C1 A M ha).2.1⟩
 ·exact⟨A,hA,λ_ _=>Int.le_refl _⟩
theorem Od.wn(hD:∀k,k<F.length->DQ (F.getD k (AC 0 0))){t:Nat}{K:Kl}(h:Od F t K){Z:Kl}(hZ:∀k,k<F.length->∀A,Z.getD k none=some A->(∀a,a<64->A a<=NB)/\DF false A (F.getD k (AC 0 0))=true)(hg:VK K Z):∀i A,K.getD i none=some A->Wn A:=by
 induction h with
 |beg=>intro i A hA;rw[Sg i A hA];exact M7
 |@stp t K k M q way _ hk hM ih=>
  intro i A hA;have ih':=ih ((Qb K q _ _).trans hg);obtain⟨B,hB,hl⟩:=((Qb K q _ _).trans hg) k M hM;have hs:DF false M (F.getD k (AC 0 0))=true:=Jn hl (hZ k hk B hB).1 (hD k hk) (hZ k hk B hB).2;rw[Jc]at hA;split at hA
  ·exact Ns (P:=Wn) (λA B a b=>RE a b) (λA h=>ih' q A h) (λhe=>Jp (ih' k M hM) (hD k hk) hs way he) A hA
  ·exact ih' i A hA
theorem I3{A B B':Nat->Int}:∀n,(∀f,f<n->B f=B' f)->leF A B n=leF A B' n
 |0,_=>rfl
 |n+1,h=>by
  show(leF A B n&&decide (A n<=B n))=(leF A B' n&&decide (A n<=B' n))
  rw[I3 n (λf hf=>h f (by omega)),h n (by omega)]
def GQ(e:Bool)(M:Nat->Int):Option (Nat->Int)->Bool
 |none=>e
 |some N=>e||leF (bd M) (bd N) 32
structure Zb(F:List Ds)(K:Kl):Prop where
 st:∃A,K.getD 0 none=some A/\leF (λ_=>0) (bd A) 32=true
 sf:∀k,k<F.length->∀A,K.getD k none=some A->DF false A (F.getD k (AC 0 0))=true
 wy:∀k,k<F.length->∀A,K.getD k none=some A->∀way:Nat,(way:Int)<Ae (F.getD k (AC 0 0)).kind->GQ (CA false A (F.getD k (AC 0 0)) way) (CE false A (F.getD k (AC 0 0)) way) (K.getD (Ap F k way).1.toNat none)=true
def VB(K:Kl):List (Option (List Int)):=K.map (Option.map Bl)
theorem PC(K:Kl)(k:Nat):BG (VB K) (k:Int)=(K.getD k none).map Bl:=by
 rw[E8,List.getD_eq_getElem?_getD,List.getD_eq_getElem?_getD];unfold VB;rw[List.getElem?_map];cases K[k]?<;>rfl
theorem Od.cert(hD:∀k,k<F.length->DQ (F.getD k (AC 0 0))){t:Nat}{K:Kl}(h:Od F t K)(ht:t<=40)(hK:Zb F K):Bt F (VB K):=by
 have hv:=h.wv hD ht;have hw:=h.wn hD (Z:=K) (λk hk A hA=>⟨(hv k A hA).tc.hi,hK.sf k hk A hA⟩) (VK.refl K);have ok1:∀A,Wn A->F_ (some (Bl A)):=λA h l e=>by
  cases e
  exact⟨BJ _,λf hf=>by rw[CP _ hf];exact Jw h hf⟩
 have hok:∀r,r∈VB K->F_ r:=by
  intro r hr;obtain⟨o,ho,rfl⟩:=List.mem_map.1 hr;cases o with
  |none=>intro l e;cases e
  |some A=>
   obtain⟨i,hi⟩:=List.mem_iff_getElem?.1 ho;exact ok1 A (hw i A (by rw[List.getD_eq_getElem?_getD,hi];rfl))
 have to:∀{e:Bool}{A:Nat->Int}{k:Nat},(e=false->TC A)->GQ e A (K.getD k none)=true->DY e (cE (BG (VB K) (k:Int))) A (cM (BG (VB K) (k:Int)))=true:=λ{e A k} hT hi=>by
  rw[PC];cases hr:K.getD k none with
  |none=>rw[hr]at hi;exact Bi.2 (.inl hi)
  |some N=>
   rw[hr]at hi;rw[show Option.map Bl (some N)=some (Bl N)from rfl,KG hT (ok1 N (hw k N hr))];show(e||leF (bd A) (λf=>(Bl N).getD f 0) 32)=true;have el:leF (bd A) (λf=>(Bl N).getD f 0) 32=leF (bd A) (bd N) 32:=I3 32 (λf hf=>CP N hf);rw[el];exact hi
 refine⟨hok,?_,?_⟩
 ·obtain⟨A,hA,hl⟩:=hK.st;refine to (k:=0) (λ_=>Jo) ?_;rw[hA];show(false||leF (bd λ_=>0) (bd A) 32)=true;rw[show bd (λ_=>0)=λ_=>0 from funext MC];exact hl
 ·intro k hk;have hx:=hD k hk;cases hr:K.getD k none with
  |none=>exact NZ (by rw[<-E8,PC,hr];rfl)
  |some A=>
   have hA:=hw k A hr;have hs:=MW hA;have ea:BG (VB K) (k:Int)=some (Bl A):=by rw[PC,hr];rfl
   have hT:TQ (BT (Bl A)):=Su (r:=some (Bl A)) (ok1 A hA) hs.1;have hWn:Wn (BT (Bl A)):=⟨hT.tc,λi hi=>Int.le_trans (hs.2.2 (i*8+i) (by omega)) (hA.box i hi)⟩
   unfold EK;rw[ea];show(if DF (ovE (Bl A)) (BT (Bl A)) (F.getD k (AC 0 0))=false then(6:Int)else _)=0;rw[hs.1,Jn hs.2.2 hA.tc.hi hx (hK.sf k hk A hr),if_neg (by decide),if_pos];have all:∀n,n<=(Ae (F.getD k (AC 0 0)).kind).toNat->ET (D0 F (VB K) k) n=true:=by
    intro n;induction n with
    |zero=>intro _;rfl
    |succ n ih=>
     intro hn;show(ET (D0 F (VB K) k) n&&D0 F (VB K) k n)=true;rw[ih (by omega),Bool.true_and];have hz:=Du (F:=F) k n (Fv F k hk n (by omega));obtain⟨q,hq⟩:∃q:Nat,(Ap F k n).1=(q:Int):=⟨_,(Int.toNat_of_nonneg hz.1).symm⟩
     have hi:=hK.wy k hk A hr n (by omega);rw[hq,Int.toNat_natCast]at hi;unfold D0;rw[hq,ea];show DY (CA (ovE (Bl A)) (BT (Bl A)) (F.getD k (AC 0 0)) n) _ (CE (ovE (Bl A)) (BT (Bl A)) (F.getD k (AC 0 0)) n) _=true;rw[hs.1];cases hpe:CA false (BT (Bl A)) (F.getD k (AC 0 0)) n with
     |true=>exact Bi.2 (.inl rfl)
     |false=>
      obtain⟨a,b⟩:=Md hWn hA.tq hs.2.2 hx n hpe;rw[a]at hi;have hP:=Jp hA hx (hK.sf k hk A hr) n a;obtain⟨_,c2,c3⟩:=(Bi.1 (to (λ_=>hP.tc) hi)).resolve_left (by decide);exact Bi.2 (.inr ⟨rfl,c2,b.trans c3⟩)
   exact all _ (Nat.le_refl _)
end Go.Proofs.YtffajooegiempaaGreatDoor
namespace Go.Proofs.YtffajooegiempaaGreatDoor
open Go.RowKit
variable {w:World}
theorem R5{x:Ds}{u:St}{C:Nat->Int}(hc:OX x u)(hu:SI u)(hC0:C (0*8+1)=0):DF false C x=H_ false C u:=by
 obtain⟨c0,_,c2,c3,c4⟩:=hc;unfold DF H_;have g1:=(Gp hC0 hu.len hu.sg hu.nz).1;have g2:=(Gp hC0 (Cp u.sg) (DJ hu.sg) (by rw[C9 hu.len];exact hu.nz)).1;have e1:FC C u.sg=GP C u.sg:=g1;have e2:FC C (Dv u.sg)=GP C (Dv u.sg):=g2;rw[if_neg (show¬(false=true) by decide),if_neg (show¬(false=true) by decide)];have k0:x.kind=0↔u.kind=61:=by
  rw[c0];unfold Fr;constructor
  ·intro h;rw[if_pos h]
  ·intro h;by_cases q:x.kind=0
   ·exact q
   ·rw[if_neg q]at h;split at h
    ·cases h
    ·split at h<;>cases h
 have k1:x.kind=1↔u.kind=33:=by
  rw[c0];unfold Fr;constructor
  ·intro h;rw[if_neg (by omega),if_pos h]
  ·intro h;by_cases q:x.kind=0
   ·rw[if_pos q]at h;cases h
   ·rw[if_neg q]at h;by_cases q1:x.kind=1
    ·exact q1
    ·rw[if_neg q1]at h;split at h<;>cases h
 by_cases q0:x.kind=0
 ·rw[if_pos q0,if_pos (k0.1 q0),<-c2,<-c4,<-c3];unfold ftB;rw[e1,e2]
 ·rw[if_neg q0,if_neg (λz=>q0 (k0.2 z))];by_cases q1:x.kind=1
  ·rw[if_pos q1,if_pos (k1.1 q1),<-c2,<-c4,<-c3,e1]
  ·rw[if_neg q1,if_neg (λz=>q1 (k1.2 z))]
def KV(w:World):Option (Nat->Int)->Value->Prop
 |none,u=>u=.slice none 0 0
 |some M,u=>∃g,u=.slice (some ⟨g,0,none⟩) 32 32/\At w g (ic (Bl M)) Gc
theorem KV.keep{w w':World}{o:Option (Nat->Int)}{u:Value}(h:KV w o u)(hb:Below w.heap.size w w'):KV w' o u:=by
 cases o with
 |none=>exact h
 |some M=>obtain⟨g,e,ha⟩:=h;exact⟨g,e,ha.keep hb ha.lt⟩
theorem KV.isSlice{o:Option (Nat->Int)}{u:Value}(h:KV w o u):∃a n c,u=.slice a n c:=by
 cases o with
 |none=>exact⟨_,_,_,h⟩
 |some M=>obtain⟨g,e,ha⟩:=h;exact⟨_,_,_,e⟩
theorem At.reads{g:Nat}{M:Nat->Int}(ha:At w g (ic (Bl M)) Gc):AQ w (.slice (some ⟨g,0,none⟩) 32 32) (Bl M):=AQ.at_ ha (BJ M) (Nat.le_refl _) (λi hi=>Aa _ _ (by rw[BJ];exact hi))
theorem Pc{e0:Bool}{M:Nat->Int}(u v:Value)(r:Option (Nat->Int))(hT:e0=false->TC M/\Sm M)(hu:LV w e0 M u)(hv:KV w r v):
  Calls Tryz.prog 65 #[u,v] w λe w'=>e=.returned (.bool (GQ e0 M r))/\Below w.heap.size w w':=by
 have hq1:∀(w:World)(a:Option Addr)(n c:Nat),(binOp .eql 32 (.slice a n c) (.slice none 0 0)).run Tryz.prog w=.ok (.bool a.isNone) w:=λw a n c=>Lib.run_eql_slice_nil w 32 tN a n c 0 0 Tryz.underlying32;rcases hu with⟨rfl,rfl⟩|⟨rfl,g0,rfl,ha0⟩
 ·have HE:Hid (GQ true M r=true):=by cases r<;>rfl
  obtain⟨va,vn,vc,rfl⟩:=hv.isSlice;clear hT hv;go_enter Tryz.func65,Tryz.ntmps65;go_wp2_with fail;go_ret;exact⟨EX HE.out,Below.refl _ _⟩
 ·have hcl:=F2 (w:=w) (hT rfl).1 (hT rfl).2 (.slice (some ⟨g0,0,none⟩) 32 32) (AQ.at_ ha0 (BJ M) (Nat.le_refl _) (λi hi=>Aa _ _ (by rw[BJ];exact hi)));cases r with
  |none=>
   obtain rfl:v=.slice none 0 0:=hv;have HE:Hid (GQ false M none=false):=rfl;clear hT ha0;go_enter Tryz.func65,Tryz.ntmps65;go_wp2_with fail;refine hcl.mono ?_;rintro e w1 ⟨hb1,⟨he, -⟩|⟨-,g,rfl,hg,ha⟩⟩
   ·cases he
   ·have HB1:Hid (Below w.heap.size w w1):=hb1;clear hb1 hcl ha;go_wp2_with fail;go_ret;exact⟨EX HE.out,HB1.out⟩
  |some p=>
   obtain⟨g2,rfl,hg2⟩:=hv;have hv:AQ w (.slice (some ⟨g2,0,none⟩) 32 32) (Bl p):=hg2.reads;have HL:Hid (∀w1 g,Below w.heap.size w w1->At w1 g (ic (Bl M)) Gc->Calls Tryz.prog 99 #[.slice (some ⟨g,0,none⟩) 32 32,.slice (some ⟨g2,0,none⟩) 32 32] w1 λe w'=>e=.returned (.bool (leF (bd M) (bd p) 32))/\Below w1.heap.size w1 w'):=by
    intro w1 g hb ha;have h:=Mj (w:=w1) (.slice (some ⟨g,0,none⟩) 32 32) (.slice (some ⟨g2,0,none⟩) 32 32) (Bl M) (Bl p) (BJ M) (BJ p) (AQ.at_ ha (BJ M) (Nat.le_refl _) (λi hi=>Aa _ _ (by rw[BJ];exact hi))) (hv.keep hb);rw[Gt (A:=λf=>(Bl M).getD f 0) (A':=bd M) 32 (λf hf=>Gh M f hf),I3 (B:=λf=>(Bl p).getD f 0) (B':=bd p) 32 (λf hf=>CP p hf)]at h;exact h
   have HE:Hid (GQ false M (some p)=leF (bd M) (bd p) 32):=Bool.false_or _;generalize leF (bd M) (bd p) 32=b at *;clear hT ha0 hv hg2;go_enter Tryz.func65,Tryz.ntmps65;go_wp2_with fail;refine hcl.mono ?_;rintro e w1 ⟨hb1,⟨he, -⟩|⟨-,g,rfl,hg,ha⟩⟩
   ·cases he
   ·have hls:=HL.out w1 g hb1 ha;have HB1:Hid (Below w.heap.size w w1):=hb1;clear hb1 hcl ha;go_wp2_with fail;refine hls.mono ?_;rintro e w2 ⟨rfl,hb2⟩;go_wp2_with fail;go_ret;exact⟨EX HE.out,HB1.out.trans (hb2.mono HB1.out.size)⟩
def R9:Option (Nat->Int)->Bool
 |none=>false
 |some A=>leF (λ_=>0) (bd A) 32
theorem Pe(v:Value)(r:Option (Nat->Int))(hv:KV w r v):
  Calls Tryz.prog 63 #[v] w λe w'=>e=.returned (.bool (R9 r))/\Below w.heap.size w w':=by
 have hq1:∀(w:World)(a:Option Addr)(n c:Nat),(binOp .eql 32 (.slice a n c) (.slice none 0 0)).run Tryz.prog w=.ok (.bool a.isNone) w:=λw a n c=>Lib.run_eql_slice_nil w 32 tN a n c 0 0 Tryz.underlying32;cases r with
 |none=>
  obtain rfl:v=.slice none 0 0:=hv;have HE:Hid (R9 none=false):=rfl;go_enter Tryz.func63,Tryz.ntmps63;go_wp2_with fail;go_ret;exact⟨EX HE.out,Below.refl _ _⟩
 |some l=>
  obtain⟨p,rfl,hp⟩:=hv;have HC:Hid (∀i,i<32->w.cell? ⟨p,i,none⟩=some (.int .i64 (bd l i))):=λi hi=>by rw[hp.cell,Aa _ _ (by rw[BJ];exact hi),CP l hi]
  have HE:Hid (R9 (some l)=leF (λ_=>0) (bd l) 32):=rfl;obtain⟨A,hA⟩:∃A:Nat->Int,A=λ_=>0:=⟨_,rfl⟩
  obtain⟨B,hB⟩:∃B:Nat->Int,B=bd l:=⟨_,rfl⟩
  have HC':Hid (∀i,i<32->w.cell? ⟨p,i,none⟩=some (.int .i64 (B i))):=by rw[hB];exact HC.out
  have HA:Hid (∀i,A i=0):=by rw[hA];exact λ_=>rfl
  rw[<-hA,<-hB]at HE;have hpl:=hp.lt;clear HC hA hB hp;go_enter Tryz.func63,Tryz.ntmps63;go_wp2_with fail;go_loopw [3] (λi wr=>∃(f k:Nat),f<=32/\i=.int .i64 f/\Hid (wr=w.drewN k/\leF A B f=true)) (λi _=>32-(intOf i).toNat);case atStart=>exact⟨0,0,by omega,rfl,rfl,rfl⟩
  case round=>
   obtain⟨f,k,hf,rfl,HR⟩:=hrel;by_cases hlt:f<32
   ·have hfi:(f:Int)<32:=by omega
    have ca:wr.cell? ⟨p,f,none⟩=some (.int .i64 (B f)):=by rw[HR.out.1];exact HC'.out f hlt
    have HN:Hid (B f<0->leF A B 32=false):=λh=>by
     cases e:leF A B 32 with
     |false=>rfl
     |true=>have:=DI.1 e f hlt;rw[HA.out]at this;omega
    have HY:Hid (¬B f<0->leF A B (f+1)=true):=λh=>by
     show(leF A B f&&decide (A f<=B f))=true;rw[HR.out.2,HA.out,decide_eq_true (by omega)];rfl
    generalize B f=y at *;by_cases hxy:y<0
    ·have HF:Hid (leF A B 32=false):=HN.out hxy;go_wp2_with fail;go_ret;exact⟨EX (HE.out.trans HF.out),by rw[HR.out.1];exact below_drewN (Below.refl _ _) _⟩
    ·have HF:Hid (leF A B (f+1)=true):=HY.out hxy;go_wp2_with fail;go_roundw;case rel=>exact⟨f+1,k,by omega,by go_num,HR.out.1,HF.out⟩
     case measure=>simp[intOf];omega
   ·have hf32:f=32:=by omega
    subst hf32;go_wp2_with fail;go_ret;exact⟨EX (HE.out.trans HR.out.2),by rw[HR.out.1];exact below_drewN (Below.refl _ _) _⟩
theorem OE{B r:Nat}{m:Rd}{vs vo:Value}{P Q O:Nat->Nat}{l:List Int}{F:List Ds}{K:Kl}{b:Nat}(h:AZ B w r m vs vo P Q O)(hp:AV l=some m)(hW:Bj F m.st)(hl:F.length<=20)(hblt:b<w.heap.size)(hcell:∀i,i<F.length+1->∃u,w.cell? ⟨b,i,none⟩=some u/\KV w (K.getD i none) u)(hv:∀i A,K.getD i none=some A->Wv 8000 A):
  Calls Tryz.prog 25 #[.pointer (some ⟨r,0,none⟩),.slice (some ⟨b,0,none⟩) (F.length+1) (F.length+1)] w λe w'=>∃a b,e=.returned (.tuple #[.int .i64 a,.int .i64 b])/\(a=0->Zb F K)/\Below w.heap.size w w':=by
 have hq1:∀(w:World)(a:Option Addr)(n c:Nat),(binOp .eql 32 (.slice a n c) (.slice none 0 0)).run Tryz.prog w=.ok (.bool a.isNone) w:=λw a n c=>Lib.run_eql_slice_nil w 32 tN a n c 0 0 Tryz.underlying32;have hSl:F.length=m.st.length:=hW.1.len;have HC:Hid (∀w1,Below w.heap.size w w1->∀i,i<F.length+1->∃a nn c,w1.cell? ⟨b,i,none⟩=some (.slice a nn c)/\KV w1 (K.getD i none) (.slice a nn c)):=λw1 hb i hi=>by
  obtain⟨x,h1,h2⟩:=hcell i (by omega);obtain⟨a,nn,c,rfl⟩:=h2.isSlice;exact⟨a,nn,c,(hb.cell (by exact hblt)).trans h1,h2.keep hb⟩
 have HSt:Hid (∀w1 a nn c,KV w1 (K.getD 0 none) (.slice a nn c)->Calls Tryz.prog 63 #[.slice a nn c] w1 λe w'=>e=.returned (.bool (R9 (K.getD 0 none)))/\Below w1.heap.size w1 w'):=λw1 a nn c hr=>Pe _ _ hr;have HCl:Hid (∀w1 k o a nn c,K.getD k none=some o->KV w1 (some o) (.slice a nn c)->Calls Tryz.prog 59 #[.slice a nn c] w1 (BF w1 false o)):=λw1 k o a nn c hr hrd=>by
  obtain⟨g,e,ha⟩:=hrd;cases e
  exact F2 (hv k o hr).tc ((hv k o hr).sm (by decide)) _ ha.reads
 have HSf:Hid (∀w1,Below w.heap.size w w1->∀k,k<F.length->∀o a nn c,K.getD k none=some o->KV w1 (some o) (.slice a nn c)->Calls Tryz.prog 64 #[.pointer (some ⟨r,0,none⟩),.int .i64 (k:Int),.slice a nn c] w1 λe w'=>e=.returned (.bool (DF false o (F.getD k (AC 0 0))))/\Below w1.heap.size w1 w'):=λw1 hb k hk o a nn c hr hrd=>by
  have hz:=(hv k o hr).tc.zero 0 (by omega);rw[R5 (EV hp hW hk).2 (Ga hp k) hz];exact OI (h.keep hb) k (by omega) (Ga hp k) _ ⟨_,_,_,rfl⟩ (HCl.out w1 k o a nn c hr hrd) ((hv k o hr).sm (by decide)) (λ_=>hz)
 have HWy:Hid (∀w1,Below w.heap.size w w1->∀k:Nat,k<F.length->Calls Tryz.prog 21 #[.pointer (some ⟨r,0,none⟩),.int .i64 (k:Int)] w1 λe w'=>e=.returned (.int .i64 (Ae (F.getD k (AC 0 0)).kind))/\w'=w1):=λw1 hb k hk=>by
  have:=(h.keep hb).ways (k:Int);rw[if_neg (by omega),Int.toNat_natCast,<-EG hW hk]at this;exact this
 have HAf:Hid (∀w1,Below w.heap.size w w1->∀k,k<F.length->∀o a nn c way,K.getD k none=some o->KV w1 (some o) (.slice a nn c)->Calls Tryz.prog 22 #[.pointer (some ⟨r,0,none⟩),.int .i64 (k:Int),.int .i64 way,.slice a nn c] w1 (BF w1 (CA false o (F.getD k (AC 0 0)) way) (CE false o (F.getD k (AC 0 0)) way))):=λw1 hb k hk o a nn c way hr hrd=>
  Jm (h.keep hb) k (by omega) (Gb hp (by omega)) (EV hp hW hk).2 way _ false ⟨_,_,_,rfl⟩ (HCl.out w1 k o a nn c hr hrd) (λ_=>(hv k o hr).tq (by decide))
 have HNx:Hid (∀w1,Below w.heap.size w w1->∀(k way:Nat),k<F.length->(way:Int)<Ae (F.getD k (AC 0 0)).kind->Calls Tryz.prog 23 #[.pointer (some ⟨r,0,none⟩),.int .i64 (k:Int),.int .i64 (way:Int)] w1 λe w'=>e=.returned (.int .i64 (Ap F k way).1)/\Below w1.heap.size w1 w'):=λw1 hb k way hk hw=>by
  have e:=FX hW hl k hk way;rw[if_neg (by rw[<-EG hW hk];omega)]at e;rw[e];exact((h.keep hb).next (by omega) k (by omega) way).mono λe w' ⟨h1,j,h2⟩=>⟨h1,by rw[h2];exact below_drewN (Below.refl _ _) j⟩
 have HIn:Hid (∀w1 (k way qn:Nat) o u a nn c,k<F.length->K.getD k none=some o->LV w1 (CA false o (F.getD k (AC 0 0)) way) (CE false o (F.getD k (AC 0 0)) way) u->KV w1 (K.getD qn none) (.slice a nn c)->Calls Tryz.prog 65 #[u,.slice a nn c] w1 λe w'=>e=.returned (.bool (GQ (CA false o (F.getD k (AC 0 0)) way) (CE false o (F.getD k (AC 0 0)) way) (K.getD qn none)))/\Below w1.heap.size w1 w'):=λw1 k way qn o u a nn c hk hr hu hrd=>by
  refine Pc u _ _ (λhe=>?_) hu hrd;have hP:=M8 ((hv k o hr)) (by decide) (by decide) (JI hp hW hk) way he;exact⟨hP.tc,hP.sm (by decide)⟩
 have HLn:Hid (∀w1,Below w.heap.size w w1->∃sa sc,w1.cell? ⟨r,1,none⟩=some (.slice sa F.length sc)):=λw1 hb=>by
  obtain⟨sa,sc,hvs⟩:=(h.keep hb).slen';obtain⟨_,r1,_⟩:=(h.keep hb).rdc;rw[hvs,<-hSl]at r1;exact⟨sa,sc,r1⟩
 have HNi:Hid (∀(k way:Nat),k<F.length->(way:Int)<Ae (F.getD k (AC 0 0)).kind->∃qn:Nat,(Ap F k way).1=(qn:Int)/\qn<F.length+1):=λk way hk hw=>by
  have:=Du (F:=F) k way (Fv F k hk way hw);exact⟨(Ap F k way).1.toNat,by omega,by omega⟩
 have HWr:Hid (∀k,1<=Ae (F.getD k (AC 0 0)).kind/\Ae (F.getD k (AC 0 0)).kind<=2):=λk=>D1 _;have hr0:r<w.heap.size:=h.rd.lt;obtain⟨G,hG⟩:∃G:Nat->Prop,G=λk=>∀A,K.getD k none=some A->DF false A (F.getD k (AC 0 0))=true/\∀way:Nat,(way:Int)<Ae (F.getD k (AC 0 0)).kind->GQ (CA false A (F.getD k (AC 0 0)) way) (CE false A (F.getD k (AC 0 0)) way) (K.getD (Ap F k way).1.toNat none)=true:=⟨_,rfl⟩
 have HKk:Hid (R9 (K.getD 0 none)=true->(∀j,j<F.length->G j)->Zb F K):=λq h=>by
  rw[hG]at h;refine⟨?_,λk hk A hA=>(h k hk A hA).1,λk hk A hA=>(h k hk A hA).2⟩;cases hr:K.getD 0 none with
  |none=>rw[hr]at q;cases q
  |some A=>rw[hr]at q;exact⟨A,rfl,q⟩
 have HNo:Hid (∀k,K.getD k none=none->G k):=λk hk=>by rw[hG];intro A hA;rw[hk]at hA;cases hA
 have HGo:Hid (∀k o,K.getD k none=some o->DF false o (F.getD k (AC 0 0))=true->(∀way:Nat,(way:Int)<Ae (F.getD k (AC 0 0)).kind->GQ (CA false o (F.getD k (AC 0 0)) way) (CE false o (F.getD k (AC 0 0)) way) (K.getD (Ap F k way).1.toNat none)=true)->G k):=λk o ho h1 h2=>by rw[hG];intro A hA;rw[ho]at hA;cases hA;exact⟨h1,h2⟩
 clear h hp hW hcell hSl HCl hv hG;generalize hnn:F.length=n at *;obtain⟨a0,n0,c0,cx0,hrd0⟩:=HC.out w (Below.refl _ _) 0 (by omega);have cx00:w.cell? ⟨b,0,none⟩=some (.slice a0 n0 c0):=cx0;have hst:=HSt.out w _ _ _ hrd0;have h0n:(0:Int)<((n+1:Nat):Int):=by omega
 clear hrd0 HSt;generalize R9 (K.getD 0 none)=st at *;go_enter Tryz.func25,Tryz.ntmps25;go_wp2_with fail;refine hst.mono ?_;rintro e w1 ⟨rfl,hb1⟩;have HB1:Hid (Below w.heap.size w w1):=hb1;clear hb1 hst cx0 cx00;cases st with
 |false=>
  clear HKk;go_wp2_with fail
  go_ret2
  exact⟨_,_,rfl,λz=>absurd z (by decide),HB1.out⟩
 |true=>
  have HKl:Hid ((∀j,j<n->G j)->Zb F K):=HKk.out rfl;clear HKk;go_wp2_with fail;go_loopw [6,7] (λokv pv wr=>∃(i:Nat)(bb:Bool),i<=n/\okv=.bool bb/\pv=.int .i64 (i:Int)/\Hid ((∀j,j<i->G j)/\Below w.heap.size w wr)) (λ_ pv _=>n-(intOf pv).toNat);case atStart=>exact⟨0,_,by omega,rfl,rfl,λj hj=>by omega,HB1.out⟩
  case round=>
   obtain⟨i,bb,hi,rfl,rfl,HR⟩:=hrel;obtain⟨sa,sc,cl⟩:=HLn.out wr HR.out.2;by_cases hin:i<n
   ·have hii:(i:Int)<(n:Int):=by omega
    have hii1:(i:Int)<((n+1:Nat):Int):=by omega
    obtain⟨a,nn,c,cx,hrd⟩:=HC.out wr HR.out.2 i (by omega);have HA:Hid (G i->∀j,j<i+1->G j):=λh0 j hj=>by
     rcases Nat.lt_or_ge j i with q|q
     ·exact HR.out.1 j q
     ·rw[show j=i by omega];exact h0
    cases hr:K.getD i none with
    |none=>
     rw[hr]at hrd;have hrd':Value.slice a nn c=.slice none 0 0:=hrd;cases hrd'
     have HF:Hid (∀j,j<i+1->G j):=HA.out (HNo.out i hr);clear hrd;go_wp2_with fail;go_roundw;case rel=>exact⟨i+1,bb,by omega,rfl,by go_num,HF.out,HR.out.2⟩
     case measure=>simp[intOf];omega
    |some o=>
     rw[hr]at hrd;obtain⟨g',e', -⟩:=id hrd;cases e'
     have hsf:=HSf.out wr HR.out.2 i (by omega) o _ _ _ hr hrd;have HGi:Hid (DF false o (F.getD i (AC 0 0))=true->(∀way:Nat,(way:Int)<Ae (F.getD i (AC 0 0)).kind->GQ (CA false o (F.getD i (AC 0 0)) way) (CE false o (F.getD i (AC 0 0)) way) (K.getD (Ap F i way).1.toNat none)=true)->G i):=HGo.out i o hr;have HHr:Hid (K.getD i none=some o):=hr;clear hrd hr;generalize DF false o (F.getD i (AC 0 0))=sf at *;go_wp2_with fail;refine hsf.mono ?_;rintro e w2 ⟨rfl,hb2⟩;have H2:Hid (Below w.heap.size w w2):=HR.out.2.trans (hb2.mono HR.out.2.size);clear hb2 hsf cx cl;cases sf with
     |false=>
      clear HGi;go_wp2_with fail
      go_ret2
      exact⟨_,_,rfl,λz=>absurd z (by decide),H2.out⟩
     |true=>
      have hwy:=HWy.out w2 H2.out i (by omega);have hwr:=HWr.out i;have HNxi:Hid (∀w1,Below w.heap.size w w1->∀(way:Nat),(way:Int)<Ae (F.getD i (AC 0 0)).kind->∃qn:Nat,qn<n+1/\(Ap F i way).1.toNat=qn/\Calls Tryz.prog 23 #[.pointer (some ⟨r,0,none⟩),.int .i64 (i:Int),.int .i64 (way:Int)] w1 λe w'=>e=.returned (.int .i64 (qn:Int))/\Below w1.heap.size w1 w'):=λw1 hb way hw=>by
       obtain⟨qn,q1,q2⟩:=HNi.out i way (by omega) hw;have:=HNx.out w1 hb i way (by omega) hw;rw[q1]at this;exact⟨qn,q2,by rw[q1,Int.toNat_natCast],this⟩
      have HAfi:Hid (∀w1,Below w.heap.size w w1->∀a nn c (way:Nat),KV w1 (some o) (.slice a nn c)->Calls Tryz.prog 22 #[.pointer (some ⟨r,0,none⟩),.int .i64 (i:Int),.int .i64 (way:Int),.slice a nn c] w1 λe w'=>∃a' n' c',e=.returned (.slice a' n' c')/\Below w1.heap.size w1 w'/\LV w' (CA false o (F.getD i (AC 0 0)) way) (CE false o (F.getD i (AC 0 0)) way) (.slice a' n' c')):=λw1 hb a nn c way hrd=>by
       refine(HAf.out w1 hb i (by omega) o a nn c way HHr.out hrd).mono ?_;rintro e w' ⟨hb',⟨h1,rfl⟩|⟨h1,g,rfl,hg,ha⟩⟩
       ·exact⟨_,_,_,rfl,hb',.inl ⟨h1,rfl⟩⟩
       ·exact⟨_,_,_,rfl,hb',.inr ⟨h1,g,rfl,ha⟩⟩
      have HIni:Hid (∀w1 (way qn:Nat) u a nn c,LV w1 (CA false o (F.getD i (AC 0 0)) way) (CE false o (F.getD i (AC 0 0)) way) u->KV w1 (K.getD qn none) (.slice a nn c)->Calls Tryz.prog 65 #[u,.slice a nn c] w1 λe w'=>e=.returned (.bool (GQ (CA false o (F.getD i (AC 0 0)) way) (CE false o (F.getD i (AC 0 0)) way) (K.getD qn none)))/\Below w1.heap.size w1 w'):=λw1 way qn u a nn c hu hrd=>HIn.out w1 i way qn o u a nn c (by omega) HHr.out hu hrd;have HCx:Hid (∀w1,Below w.heap.size w w1->∀j,j<n+1->∃a nn c,w1.cell? ⟨b,j,none⟩=some (.slice a nn c)/\KV w1 (K.getD j none) (.slice a nn c)):=HC.out;clear HSf HWy HAf HNx HIn HNi HWr HGo HNo;obtain⟨kn,hkn⟩:∃kn:Nat,Ae (F.getD i (AC 0 0)).kind=(kn:Int):=⟨(Ae (F.getD i (AC 0 0)).kind).toNat,by omega⟩
      rw[hkn]at HGi hwy hwr HNxi;have HGj:Hid ((∀way:Nat,way<kn->GQ (CA false o (F.getD i (AC 0 0)) way) (CE false o (F.getD i (AC 0 0)) way) (K.getD (Ap F i way).1.toNat none)=true)->G i):=λh=>HGi.out rfl (λway hw=>h way (by omega));clear hkn HGi;go_wp2_with fail;refine hwy.mono ?_;rintro e w3 ⟨rfl,rfl⟩;clear hwy;go_wp2_with fail;go_loopw [6,9] (λokv yv wq=>∃(y:Nat)(bb:Bool),y<=kn/\okv=.bool bb/\yv=.int .i64 (y:Int)/\Hid ((∀way:Nat,way<y->GQ (CA false o (F.getD i (AC 0 0)) way) (CE false o (F.getD i (AC 0 0)) way) (K.getD (Ap F i way).1.toNat none)=true)/\Below w.heap.size w wq)) (λ_ yv _=>kn-(intOf yv).toNat);case atStart=>exact⟨0,_,by omega,rfl,rfl,λj hj=>by omega,H2.out⟩
      case round=>
       obtain⟨y,bb',hy,rfl,rfl,HQ⟩:=hrel;by_cases hyn:y<kn
       ·have hyi:(y:Int)<(kn:Int):=by omega
        obtain⟨a1,n1,c1,cx1,hrd1⟩:=HCx.out wr HQ.out.2 i (by omega);rw[HHr.out]at hrd1;have haf:=HAfi.out wr HQ.out.2 a1 n1 c1 y hrd1;clear hrd1;go_wp2_with fail;refine haf.mono ?_;rintro e w4 ⟨ua,un,uc,rfl,hb4,hu4⟩;have H4:Hid (Below w.heap.size w w4/\LV w4 (CA false o (F.getD i (AC 0 0)) y) (CE false o (F.getD i (AC 0 0)) y) (.slice ua un uc)):=⟨HQ.out.2.trans (hb4.mono HQ.out.2.size),hu4⟩
        clear hb4 hu4 haf cx1;obtain⟨qn,hqn,hqe,hnx⟩:=HNxi.out w4 H4.out.1 y hyi;have HQe:Hid ((Ap F i y).1.toNat=qn):=hqe;clear hqe;go_wp2_with fail;refine hnx.mono ?_;rintro e w5 ⟨rfl,hb5⟩;have H5:Hid (Below w.heap.size w w5/\LV w5 (CA false o (F.getD i (AC 0 0)) y) (CE false o (F.getD i (AC 0 0)) y) (.slice ua un uc)):=⟨H4.out.1.trans (hb5.mono H4.out.1.size),H4.out.2.keep hb5⟩
        clear hb5 hnx;obtain⟨a2,n2,c2,cx2,hrd2⟩:=HCx.out w5 H5.out.1 qn hqn;have hqi:(qn:Int)<((n+1:Nat):Int):=by omega
        have his:=HIni.out w5 y qn _ a2 n2 c2 H5.out.2 hrd2;clear hrd2;have HE7:Hid (GQ (CA false o (F.getD i (AC 0 0)) y) (CE false o (F.getD i (AC 0 0)) y) (K.getD (Ap F i y).1.toNat none)=GQ (CA false o (F.getD i (AC 0 0)) y) (CE false o (F.getD i (AC 0 0)) y) (K.getD qn none)):=by show _=_;rw[HQe.out]
        generalize GQ (CA false o (F.getD i (AC 0 0)) y) (CE false o (F.getD i (AC 0 0)) y) (K.getD qn none)=bi at *;go_wp2_with fail;refine his.mono ?_;rintro e w6 ⟨rfl,hb6⟩;have H6:Hid (Below w.heap.size w w6):=H5.out.1.trans (hb6.mono H5.out.1.size);clear hb6 his cx2;cases bi with
        |false=>
         go_wp2_with fail
         go_ret2
         exact⟨_,_,rfl,λz=>absurd z (by decide),H6.out⟩
        |true=>
         have HE8:Hid (∀way:Nat,way<y+1->GQ (CA false o (F.getD i (AC 0 0)) way) (CE false o (F.getD i (AC 0 0)) way) (K.getD (Ap F i way).1.toNat none)=true):=λj hj=>by
          rcases Nat.lt_or_ge j y with q|q
          ·exact HQ.out.1 j q
          ·rw[show j=y by omega];exact HE7.out
         clear HE7;go_wp2_with fail;go_roundw;case rel=>exact⟨y+1,_,by omega,rfl,by go_num,HE8.out,H6.out⟩
         case measure=>simp[intOf];omega
       ·have hye:y=kn:=by omega
        subst hye;have HF:Hid (∀j,j<i+1->G j):=HA.out (HGj.out HQ.out.1);go_wp2_with fail;go_roundw;case rel=>exact⟨i+1,_,by omega,rfl,by go_num,HF.out,HQ.out.2⟩
        case measure=>simp[intOf];omega
   ·have hie:i=n:=by omega
    subst hie;go_wp2_with fail
    go_ret2
    exact⟨_,_,rfl,λ_=>HKl.out HR.out.1,HR.out.2⟩
theorem Lt(s c:ByteArray)(hm:s.size<=maxLen)(hc:c.size<=maxLen):Calls Tryz.prog 8 #[.string s,.string c] w (L4 w s c):=by
 have hs:=Ey s w hm;cases hp:AV (AA s)with
 |none=>
  have h1:=EQ hp;have HE:Hid (∀x,Bv (AA s)=x->BI s c (x.2.1,x.2.2)):=λx hx=>by
   unfold BI;rw[hp,<-hx]
  generalize Bv (AA s)=x at *;obtain⟨a,b,d⟩:=x;have h2:b=1:=h1;subst h2;simp only[FK]at hs;clear hm hp h1 hc;go_enter Tryz.func8,Tryz.ntmps8;go_wp2_with fail;refine hs.mono ?_;rintro e w1 ⟨rfl,hb⟩;go_wp2_with fail
  go_ret2
  exact⟨_,_,rfl,HE.out _ rfl,hb⟩
 |some m=>
  have hsz:(AA s).length<=160:=(Au hp).1;have hl:=AR s;rw[(Au hp).2.2.2]at hs;simp only[FK]at hs;have hW:Bj (AI s).2 m.st:=by
   rcases BU s (by omega)with⟨_,hn⟩|⟨m',_,hp',hW⟩
   ·rw[hp]at hn;cases hn
   ·rw[hp]at hp';cases hp';exact hW
  have hlen:(AI s).2.length<=20:=(A_ s 22 (-1) 0 0 ((0,false),[]) ⟨Nat.zero_le _,Nat.zero_le _⟩).ok.len;have hSl:(AI s).2.length=m.st.length:=hW.1.len;have HS:Hid (∀r,Ad (AI s).2 (AA c) r->BI s c r):=λr h=>by unfold BI;rw[hp];exact h
  have HD:Hid (∀w1,Calls Tryz.prog 26 #[.string c] w1 (VM w1 c)):=λw1=>OF (by unfold maxLen at hc;omega);have HR:Hid (∀w1,Calls Tryz.prog 20 #[.string s] w1 λe w'=>∃n:Nat,e=.returned (.tuple #[.pointer (some ⟨w1.heap.size,0,none⟩),.int .i64 n,.bool true])/\Below w1.heap.size w1 w'/\m.st.length<=20/\∃vs vo P Q O,AZ w1.heap.size w' w1.heap.size m vs vo P Q O):=λw1=>Gx hp w1;have HK:Hid (∀{B r:Nat}{w1:World}{vs vo:Value}{P Q O:Nat->Nat}(v:Value)(L:List (Option (List Int))),AZ B w1 r m vs vo P Q O->CX w1 v L->L.length=(AI s).2.length+1->DS (AA c)=some L->Calls Tryz.prog 25 #[.pointer (some ⟨r,0,none⟩),v] w1 λe w'=>∃a b,e=.returned (.tuple #[.int .i64 a,.int .i64 b])/\BI s c (a,b)/\Below w1.heap.size w1 w'):=λv L hrep hv hn hd=>by
   refine(Rt hrep hp hW hlen v hv hn (GM (Om c) hd).2.2.2).mono ?_;rintro e w' ⟨a,b,rfl,h1,h2⟩;refine⟨a,b,rfl,HS.out _ ?_,h2⟩;unfold Ad;rw[hd];show(if L.length≠(AI s).2.length+1 then _ else _);rw[if_neg (by omega)];exact h1
  have HB:Hid (∀L,DS (AA c)=some L->L.length≠(AI s).2.length+1->BI s c (4,0)):=λL hd hn=>HS.out _ (by unfold Ad;rw[hd];show(if L.length≠(AI s).2.length+1 then((4:Int),(0:Int))=(4,0)else _);rw[if_pos hn]);have HB0:Hid (DS (AA c)=none->BI s c (4,0)):=λhd=>HS.out _ (by unfold Ad;rw[hd]);rw[<-hSl]at hs HR;clear hm hp hc hl hsz hW HS hSl;generalize(AI s).2.length=n at *;go_enter Tryz.func8,Tryz.ntmps8;go_wp2_with fail;refine hs.mono ?_;rintro e w1 ⟨rfl,hb1⟩;have H1:Hid (Below w.heap.size w w1):=hb1;clear hb1 hs;go_wp2_with fail;refine(HD.out w1).mono ?_;rintro e w2 ⟨hb2,⟨hd,rfl⟩|⟨L,v,hd,rfl,hrl,a,nn,cc,rfl⟩⟩
  ·have H2:Hid (Below w.heap.size w w2/\BI s c (4,0)):=⟨H1.out.trans (hb2.mono H1.out.size),HB0.out (by rw[<-MN];exact hd)⟩
   clear hb2 hd;go_wp2_with fail
   go_ret2
   exact⟨_,_,rfl,H2.out.2,H2.out.1⟩
  ·have HLl:Hid (nn=L.length):=by obtain⟨_,_,e,_,_⟩:=hrl;cases e;exact(rfl:L.length=L.length)
   have H2:Hid (Below w.heap.size w w2/\DS (AA c)=some L/\CX w2 (.slice (some a) nn cc) L):=⟨H1.out.trans (hb2.mono H1.out.size),by rw[<-MN];exact hd,hrl⟩
   clear hb2 hd hrl;by_cases hne:nn=n+1
   ·have hni:(nn:Int)=(n:Int)+1:=by omega
    have HNe:Hid (nn=n+1):=hne;clear hne;go_wp2_with fail;refine(HR.out w2).mono ?_;rintro e w3 ⟨n3,rfl,hb3,_,vs,vo,P,Q,O,hrep⟩;have H3:Hid (Below w.heap.size w w3):=H2.out.1.trans (hb3.mono H2.out.1.size);have hck:=HK.out (.slice (some a) nn cc) L hrep (H2.out.2.2.keep hb3) (by rw[<-HLl.out];exact HNe.out) H2.out.2.1;clear hb3 hrep;go_wp2_with fail;refine hck.mono ?_;rintro e w4 ⟨x,y,rfl,h4,hb4⟩;have H4:Hid (Below w.heap.size w w4/\BI s c (x,y)):=⟨H3.out.trans (hb4.mono H3.out.size),h4⟩
    clear hb4 h4 hck;go_wp2_with fail
    go_ret2
    exact⟨_,_,rfl,H4.out.2,H4.out.1⟩
   ·have hni:¬(nn:Int)=(n:Int)+1:=by omega
    have HF:Hid (BI s c (4,0)):=HB.out L H2.out.2.1 (by rw[<-HLl.out];exact hne);clear hne;go_wp2_with fail
    go_ret2
    exact⟨_,_,rfl,HF.out,H2.out.1⟩
def Qg(A B:Nat->Int)(k:Nat):Nat->Int:=λf=>if f<k then Tj A B f else 0
theorem Y7(A B:Nat->Int):rl (Qg A B 0)=List.replicate 32 0:=by
 unfold rl;rw[List.map_congr_left (g:=λ_=>(0:Int)) (λf _=>by unfold Qg;rw[if_neg (by omega)])];rfl
theorem Y8(A B:Nat->Int)(k:Nat):Qg A B (k+1)=Bw (Qg A B k) k (Tj A B k):=by
 funext f
 show(if f<k+1 then Tj A B f else 0)=if f=k then Tj A B k else if f<k then Tj A B f else 0
 by_cases e:f=k
 ·subst e;rw[if_pos (by omega),if_pos rfl]
 ·rw[if_neg e];by_cases c:f<k
  ·rw[if_pos c,if_pos (by omega)]
  ·rw[if_neg c,if_neg (by omega)]
theorem Wa(R:Nat->Int)(k:Nat)(x y:Int):Bw (Bw R k x) k y=Bw R k y:=by
 funext f
 unfold Bw;by_cases e:f=k
 ·rw[if_pos e,if_pos e]
 ·rw[if_neg e,if_neg e,if_neg e]
theorem Qd:(List.replicate 32 (Value.int .i64 0)).toArray=ic (List.replicate 32 0):=by
 unfold ic;rw[List.map_replicate]
theorem JN(ga gb:Nat)(A B:Nat->Int)(ha:At w ga (ic (rl A)) tNk)(hb:At w gb (ic (rl B)) tNk):
  Calls Tryz.prog 24 #[.slice (some ⟨ga,0,none⟩) 32 32,.slice (some ⟨gb,0,none⟩) 32 32] w λe w'=>e=.returned (.slice (some ⟨w.heap.size,0,none⟩) 32 32)/\At w' w.heap.size (ic (rl (Tj A B))) tNk/\Below w.heap.size w w':=by
 have hq1:∀(w:World)(a:Option Addr)(n c:Nat),(binOp .eql 32 (.slice a n c) (.slice none 0 0)).run Tryz.prog w=.ok (.bool a.isNone) w:=λw a n c=>Lib.run_eql_slice_nil w 32 tN a n c 0 0 Tryz.underlying32;have hmk:∀w,(Instr.makeSlice 32 (.int .i64 32) (.int .i64 32)).run Tryz.prog w=.ok (.slice (some ⟨w.heap.size,0,none⟩) 32 32) (w.alloc (.cells (List.replicate 32 (Value.int .i64 0)).toArray tNk)):=λ_=>by kernel_rfl
 obtain⟨cur,hcur⟩:∃cur,cur=(List.replicate 32 (Value.int .i64 0)).toArray:=⟨_,rfl⟩
 rw[<-hcur]at hmk;have HBe:Hid (Below w.heap.size w (w.alloc (.cells cur tNk))):=(Below.refl _ _).alloc (Nat.le_refl _) _;have HA0:Hid (At (w.alloc (.cells cur tNk)) w.heap.size (ic (rl (Qg A B 0))) tNk):=by
  show At _ _ _ _;rw[Y7,<-Qd,<-hcur];exact At.new _ _ _
 have HAB:Hid (At w ga (ic (rl A)) tNk/\At w gb (ic (rl B)) tNk):=⟨ha,hb⟩
 have HEnd:Hid (rl (Qg A B 32)=rl (Tj A B)):=by
  refine List.map_congr_left λf hf=>?_;have:f<32:=by simpa using hf
  unfold Qg;rw[if_pos this]
 clear ha hb hcur;go_enter Tryz.func24,Tryz.ntmps24;go_wp2_with fail;go_loopw [6] (λi wr=>∃(f:Nat),f<=32/\i=.int .i64 f/\Hid (At wr w.heap.size (ic (rl (Qg A B f))) tNk/\Below w.heap.size w wr)) (λi _=>32-(intOf i).toNat);case atStart=>exact⟨0,by omega,rfl,HA0.out,HBe.out⟩
 case round=>
  obtain⟨f,hf,rfl,HR⟩:=hrel;by_cases hlt:f<32
  ·have hfi:(f:Int)<32:=by omega
   obtain⟨w4,rfl⟩:∃w4,w4=wr:=⟨_,rfl⟩
   have la:=HAB.out.1.lt;have lb:=HAB.out.2.lt;have ca:=DK (HAB.out.1.keep HR.out.2 la) hlt;have cb:=DK (HAB.out.2.keep HR.out.2 lb) hlt;have co:=DK HR.out.1 hlt;have cf:=HR.out.1.free;have hl:=HR.out.1.lt;have na:ga≠w.heap.size:=by omega
   have nb:gb≠w.heap.size:=by omega
   have HS:Hid (Qg A B (f+1)=Bw (Qg A B f) f (if A f<B f then B f else A f)):=Y8 A B f;generalize A f=x at *;generalize B f=y at *;by_cases hxy:x<y
   ·have HE:Hid (Qg A B (f+1)=Bw (Bw (Qg A B f) f x) f y):=by show _=_;rw[HS.out,if_pos hxy,Wa]
    clear HS;go_wp2_with fail;go_quiet (fail);go_wp2_with fail;go_roundw;case rel=>
     refine⟨f+1,by omega,by go_num,?_,?_⟩
     ·rw[HE.out,<-EE,<-Be,<-EE,<-Be];exact At.put (At.drewN (HR.out.1.put f _) _) f _
     ·exact(below_drewN (HR.out.2.setCell (Nat.le_refl _) _) _).setCell (Nat.le_refl _) _
    case measure=>simp[intOf];omega
   ·have HE:Hid (Qg A B (f+1)=Bw (Qg A B f) f x):=by show _=_;rw[HS.out,if_neg hxy]
    clear HS;go_wp2_with fail;go_quiet (fail);go_wp2_with fail;go_roundw;case rel=>
     refine⟨f+1,by omega,by go_num,?_,?_⟩
     ·rw[HE.out,<-EE,<-Be];exact At.drewN (HR.out.1.put f _) _
     ·exact below_drewN (HR.out.2.setCell (Nat.le_refl _) _) _
    case measure=>simp[intOf];omega
  ·have hf32:f=32:=by omega
   subst hf32;go_wp2_with fail;go_ret;exact⟨rfl,by rw[<-HEnd.out];exact HR.out.1,HR.out.2⟩
theorem F1(a:Option Addr)(n c:Nat):Calls Tryz.prog 24 #[.slice none 0 0,.slice a n c] w λe w'=>e=.returned (.slice a n c)/\w'=w:=by
 have hq1:∀(w:World)(a:Option Addr)(n c:Nat),(binOp .eql 32 (.slice a n c) (.slice none 0 0)).run Tryz.prog w=.ok (.bool a.isNone) w:=λw a n c=>Lib.run_eql_slice_nil w 32 tN a n c 0 0 Tryz.underlying32;go_enter Tryz.func24,Tryz.ntmps24;go_wp2_with fail;go_ret;exact⟨rfl,rfl⟩
theorem KT(a:Addr)(n c:Nat):Calls Tryz.prog 24 #[.slice (some a) n c,.slice none 0 0] w λe w'=>e=.returned (.slice (some a) n c)/\w'=w:=by
 have hq1:∀(w:World)(a:Option Addr)(n c:Nat),(binOp .eql 32 (.slice a n c) (.slice none 0 0)).run Tryz.prog w=.ok (.bool a.isNone) w:=λw a n c=>Lib.run_eql_slice_nil w 32 tN a n c 0 0 Tryz.underlying32;go_enter Tryz.func24,Tryz.ntmps24;go_wp2_with fail;go_ret;exact⟨rfl,rfl⟩
end Go.Proofs.YtffajooegiempaaGreatDoor
