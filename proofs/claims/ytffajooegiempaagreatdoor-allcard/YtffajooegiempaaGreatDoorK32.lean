import Derived.Test.YtffajooegiempaaGreatDoorK31
set_option maxRecDepth 100000
set_option maxHeartbeats 6400000
namespace Go.Proofs.YtffajooegiempaaGreatDoor
open Go.RowKit Go.Proofs.Tryz
variable {w:World}
theorem E8(L:List (Option (List Int)))(k:Nat):BG L (k:Int)=L.getD k none:=by
 unfold BG;rw[a_ (by omega),bK]
theorem LK:∀n,ET (λ_=>true) n=true
 |0=>rfl
 |n+1=>by show(ET (λ_=>true) n&&true)=true;rw[LK n];rfl
theorem NZ{F:List Ds}{L:List (Option (List Int))}{k:Nat}(h:L.getD k none=none):EK F L k=0:=by
 unfold EK;rw[E8,h];have e:DF (cE none) (cM none) (F.getD k (AC 0 0))=true:=rfl;rw[e,a_ (by decide)];have e2:D0 F L k=λ_=>true:=by
  funext d
  unfold D0;rw[E8,h];have e3:CA (cE none) (cM none) (F.getD k (AC 0 0)) d=true:=rfl;rw[e3];rfl
 rw[e2,bA (LK _)]
theorem Kt.isSlice{v:Value}{r:Option (List Int)}(h:Kt w v r):∃a n c,v=.slice a n c:=by
 cases r with
 |none=>exact⟨_,_,_,h⟩
 |some o=>obtain⟨_,a,n,c,e⟩:=h;exact⟨_,_,_,e⟩
def Fk(F:List Ds)(L:List (Option (List Int)))(r:Int×Int):Prop:=if DY false (cE (BG L 0)) (λ_=>0) (cM (BG L 0))=false then r=(5,0)else FL (EK F L) F.length r
theorem Rt{B r:Nat}{m:Rd}{vs vo:Value}{P Q O:Nat->Nat}{l:List Int}{F:List Ds}{L:List (Option (List Int))}(h:AZ B w r m vs vo P Q O)(N:AV l=some m)(M:Bj F m.st)(hl:F.length<=20)(v:Value)(hv:CX w v L)(hn:L.length=F.length+1)(A:∀r,r∈L->F_ r):
  Calls prog 25 #[.pointer (some ⟨r,0,none⟩),v] w λe w'=>∃a b,e=.returned (.tuple #[.int .i64 a,.int .i64 b])/\Fk F L (a,b)/\dc w w':=by
 have a8:∀(w:World)(a:Option Addr)(n c:Nat),(binOp .eql 32 (.slice a n c) (.slice none 0 0)).run prog w=.ok (.bool a.isNone) w:=λw a n c=>cz w 32 tN a n c 0 0 underlying32;have av:F.length=m.st.length:=M.1.len;obtain⟨ao,cap,rfl,aD,h0⟩:=hv;obtain⟨b,off,rfl,aC,D⟩:=h0 (by omega);have HC:Hid (∀p,dc w p->∀i,i<F.length+1->∃a t c,p.cell? ⟨b,off+i,none⟩=some (.slice a t c)/\Kt p (.slice a t c) (L.getD i none)):=λp hb i hi=>by
  obtain⟨x,h1,h2⟩:=D i (by omega);obtain⟨a,t,c,rfl⟩:=h2.isSlice;exact⟨a,t,c,(hb.cell (by exact aC)).trans h1,h2.keep hb⟩
 have an:Hid (∀p a t c,Kt p (.slice a t c) (L.getD 0 none)->Calls prog 63 #[.slice a t c] p λe w'=>e=.returned (.bool (DY false (cE (BG L 0)) (λ_=>0) (cM (BG L 0))))/\dc p w'):=λp a t c hr=>by
  have e0:BG L 0=L.getD 0 none:=E8 L 0;rw[e0];exact UD _ _ (Da A 0) hr
 have am:Hid (∀p,dc w p->∀k,k<F.length->∀o a t c,L.getD k none=some o->Kt p (.slice a t c) (some o)->Calls prog 64 #[.pointer (some ⟨r,0,none⟩),.int .i64 (k:Int),.slice a t c] p λe w'=>e=.returned (.bool (DF (cE (BG L k)) (cM (BG L k)) (F.getD k (AC 0 0))))/\dc p w'):=λp hb k hk o a t c hr s=>by
  have ho:B_ o:=FO (by rw[<-hr];exact Da A k);rw[E8,hr];show Calls prog 64 _ p λe w'=>e=.returned (.bool (DF (ovE o) (BT o) (F.getD k (AC 0 0))))/\_;rw[Q5 (EV N M hk).2 (Ga N k) ho];exact UC (h.keep hb) k (by omega) (Ga N k) _ o ho s.1
 have aq:Hid (∀p,dc w p->∀k:Nat,k<F.length->Calls prog 21 #[.pointer (some ⟨r,0,none⟩),.int .i64 (k:Int)] p λe w'=>e=.returned (.int .i64 (Ae (F.getD k (AC 0 0)).kind))/\w'=p):=λp hb k hk=>by
  have:=(h.keep hb).ways (k:Int);rw[a_ (by omega),bK,<-EG M hk]at this;exact this
 have ac:Hid (∀p,dc w p->∀k,k<F.length->∀o a t c d,L.getD k none=some o->Kt p (.slice a t c) (some o)->Calls prog 22 #[.pointer (some ⟨r,0,none⟩),.int .i64 (k:Int),.int .i64 d,.slice a t c] p (BF p (CA (cE (BG L k)) (cM (BG L k)) (F.getD k (AC 0 0)) d) (CE (cE (BG L k)) (cM (BG L k)) (F.getD k (AC 0 0)) d))):=λp hb k hk o a t c d hr s=>by
  have ho:B_ o:=FO (by rw[<-hr];exact Da A k);rw[E8,hr];exact Jm (h.keep hb) k (by omega) (Gb N (by omega)) (EV N M hk).2 d _ (ovE o) ⟨_,_,_,rfl⟩ (DC _ o ho s.1) (λhe=>Ll ho he)
 have al:Hid (∀p,dc w p->∀(k d:Nat),k<F.length->(d:Int)<Ae (F.getD k (AC 0 0)).kind->Calls prog 23 #[.pointer (some ⟨r,0,none⟩),.int .i64 (k:Int),.int .i64 (d:Int)] p λe w'=>e=.returned (.int .i64 (Ap F k d).1)/\dc p w'):=λp hb k d hk hw=>by
  have e:=FX M hl k hk d;rw[a_ (by rw[<-EG M hk];omega)]at e;rw[e];exact((h.keep hb).next (by omega) k (by omega) d).mono λe w' ⟨h1,j,h2⟩=>⟨h1,by rw[h2];exact bD (bC _ _) j⟩
 have ai:Hid (∀p (k d z:Nat) u a t c,k<F.length->(Ap F k d).1=(z:Int)->LV p (CA (cE (BG L k)) (cM (BG L k)) (F.getD k (AC 0 0)) d) (CE (cE (BG L k)) (cM (BG L k)) (F.getD k (AC 0 0)) d) u->Kt p (.slice a t c) (L.getD z none)->Calls prog 65 #[u,.slice a t c] p λe w'=>e=.returned (.bool (D0 F L k d))/\dc p w'):=λp k d z u a t c hk hq hu s=>by
  unfold D0;rw[hq,E8 L z];refine Pd u _ _ (λhe=>?_) (Da A z) hu s;have hD:=EV N M hk;have Z:=Gb N (show k<m.st.length by omega);have ht:0<=(F.getD k (AC 0 0)).target/\(F.getD k (AC 0 0)).target<4:=by rw[<-hD.2.2.1];exact⟨Z.var.1,by have:=Z.var.2;omega⟩
  have hS:=W7 (QN (Ek A (k:Int))) (Yw (Ek A (k:Int))) hD.1 ht d;cases Y:cE (BG L k)with
  |true=>rw[Y]at he;cases he
  |false=>
   rw[Y]at he hS;exact⟨ZG (Su (Ek A _) Y) hD.1 Z hD.2 d he,hS⟩
 have aP:Hid (∀p,dc w p->∃sa sc,p.cell? ⟨r,1,none⟩=some (.slice sa F.length sc)):=λp hb=>by
  obtain⟨sa,sc,aW⟩:=(h.keep hb).slen';obtain⟨_,r1,_⟩:=(h.keep hb).rdc;rw[aW,<-av]at r1;exact⟨sa,sc,r1⟩
 have ak:Hid (∀(k d:Nat),k<F.length->(d:Int)<Ae (F.getD k (AC 0 0)).kind->∃z:Nat,(Ap F k d).1=(z:Int)/\z<F.length+1):=λk d hk hw=>by
  have:=Du (F:=F) k d (Fv F k hk d hw);exact⟨(Ap F k d).1.toNat,by omega,by omega⟩
 have af:Hid (∀k,EK F L k=if DF (cE (BG L k)) (cM (BG L k)) (F.getD k (AC 0 0))=false then 6 else if ET (D0 F L k) (Ae (F.getD k (AC 0 0)).kind).toNat then 0 else 7):=λk=>rfl;have aQ:Hid (∀k,L.getD k none=none->EK F L k=0):=λk hk=>NZ hk;have ap:Hid (∀k,1<=Ae (F.getD k (AC 0 0)).kind/\Ae (F.getD k (AC 0 0)).kind<=2):=λk=>D1 _;have ba:r<w.heap.size:=h.rd.lt;have T:Hid (DY false (cE (BG L 0)) (λ_=>0) (cM (BG L 0))=false->Fk F L (5,0)):=λq=>by show Fk F L (5,0);unfold Fk;rw[bA q]
 have U:Hid (DY false (cE (BG L 0)) (λ_=>0) (cM (BG L 0))=true->∀r,FL (EK F L) F.length r->Fk F L r):=λq r h=>by show Fk F L r;unfold Fk;rw[a_ (by rw[q];decide)];exact h
 clear h N M h0 D A aD av;generalize EK F L=f at *;rw[hn];generalize hnn:F.length=n at *;obtain⟨a0,n0,c0,ar,R⟩:=HC.out w (bC _ _) 0 (by omega);have au:w.cell? ⟨b,off,none⟩=some (.slice a0 n0 c0):=ar;have aL:=an.out w _ _ _ R;have a6:(0:Int)<((n+1:Nat):Int):=by omega
 clear R an;generalize DY false (cE (BG L 0)) (λ_=>0) (cM (BG L 0))=st at *;go_enter func25,ntmps25;go_wp2_with fail;refine aL.mono ?_;rintro e p ⟨rfl,ay⟩;have ae:Hid (dc w p):=ay;clear ay aL ar au;cases st with
 |false=>
  have aO:Hid (Fk F L (5,0)):=T.out rfl;clear T U;go_wp2_with fail
  go_ret2
  exact⟨_,_,rfl,aO.out,ae.out⟩
 |true=>
  have V:Hid (∀r,FL f n r->Fk F L r):=U.out rfl;clear T U;go_wp2_with fail;go_loopw [6,7] (λab pv wr=>∃(i:Nat)(bb:Bool),i<=n/\ab=.bool bb/\pv=.int .i64 (i:Int)/\Hid ((∀j,j<i->f j=0)/\dc w wr)) (λ_ pv _=>n-(intOf pv).toNat);case atStart=>exact⟨0,_,by omega,rfl,rfl,λj hj=>by omega,ae.out⟩
  case round=>
   obtain⟨i,bb,hi,rfl,rfl,C⟩:=hrel;obtain⟨sa,sc,cl⟩:=aP.out wr C.out.2;by_cases aE:i<n
   .have a7:(i:Int)<(n:Int):=by omega
    have a4:(i:Int)<((n+1:Nat):Int):=by omega
    obtain⟨a,t,c,cx,s⟩:=HC.out wr C.out.2 i (by omega);have HA:Hid (f i=0->∀j,j<i+1->f j=0):=λh0 j hj=>by
     rcases bW j i with q|q
     .exact C.out.1 j q
     .rw[show j=i by omega];exact h0
    cases hr:L.getD i none with
    |none=>
     rw[hr]at s;have aJ:Value.slice a t c=.slice none 0 0:=s;cases aJ
     have I:Hid (∀j,j<i+1->f j=0):=HA.out (aQ.out i hr);clear s;go_wp2_with fail;go_roundw;case rel=>exact⟨i+1,bb,by omega,rfl,by go_num,I.out,C.out.2⟩
     case measure=>simp[intOf];omega
    |some o=>
     rw[hr]at s;obtain⟨a',bc,c',e'⟩:=id s.2;cases e'
     have aK:=am.out wr C.out.2 i (by omega) o _ _ _ hr s;have G:Hid (f i=if DF (cE (BG L i)) (cM (BG L i)) (F.getD i (AC 0 0))=false then 6 else if ET (D0 F L i) (Ae (F.getD i (AC 0 0)).kind).toNat then 0 else 7):=af.out i;have ah:Hid (L.getD i none=some o):=hr;clear s hr;generalize DF (cE (BG L i)) (cM (BG L i)) (F.getD i (AC 0 0))=sf at *;go_wp2_with fail;refine aK.mono ?_;rintro e w2 ⟨rfl,az⟩;have H2:Hid (dc w w2):=C.out.2.trans (az.mono C.out.2.size);clear az aK cx cl;cases sf with
     |false=>
      have I:Hid (f i=6):=G.out.trans (bA rfl);clear G;go_wp2_with fail
      go_ret2
      exact⟨_,_,rfl,V.out _ (.inr ⟨i,aE,C.out.1,by rw[I.out];decide,by rw[I.out]⟩),H2.out⟩
     |true=>
      have H:Hid (f i=if ET (D0 F L i) (Ae (F.getD i (AC 0 0)).kind).toNat then 0 else 7):=G.out.trans (a_ (by decide));have aa:=aq.out w2 H2.out i (by omega);have aX:=ap.out i;have K:Hid (∀p,dc w p->∀(d:Nat),(d:Int)<Ae (F.getD i (AC 0 0)).kind->∃z:Nat,z<n+1/\(Ap F i d).1=(z:Int)/\Calls prog 23 #[.pointer (some ⟨r,0,none⟩),.int .i64 (i:Int),.int .i64 (d:Int)] p λe w'=>e=.returned (.int .i64 (z:Int))/\dc p w'):=λp hb d hw=>by
       obtain⟨z,q1,q2⟩:=ak.out i d (by omega) hw;have:=al.out p hb i d (by omega) hw;rw[q1]at this;exact⟨z,q2,q1,this⟩
      have ad:Hid (∀p,dc w p->∀a t c (d:Nat),Kt p (.slice a t c) (some o)->Calls prog 22 #[.pointer (some ⟨r,0,none⟩),.int .i64 (i:Int),.int .i64 (d:Int),.slice a t c] p λe w'=>∃a' n' c',e=.returned (.slice a' n' c')/\dc p w'/\LV w' (CA (cE (BG L i)) (cM (BG L i)) (F.getD i (AC 0 0)) d) (CE (cE (BG L i)) (cM (BG L i)) (F.getD i (AC 0 0)) d) (.slice a' n' c')):=λp hb a t c d s=>by
       refine(ac.out p hb i (by omega) o a t c d ah.out s).mono ?_;rintro e w' ⟨ax,⟨h1,rfl⟩|⟨h1,g,rfl,hg,ha⟩⟩
       .exact⟨_,_,_,rfl,ax,.inl ⟨h1,rfl⟩⟩
       .exact⟨_,_,_,rfl,ax,.inr ⟨h1,g,rfl,ha⟩⟩
      have aj:Hid (∀p (d z:Nat) u a t c,(Ap F i d).1=(z:Int)->LV p (CA (cE (BG L i)) (cM (BG L i)) (F.getD i (AC 0 0)) d) (CE (cE (BG L i)) (cM (BG L i)) (F.getD i (AC 0 0)) d) u->Kt p (.slice a t c) (L.getD z none)->Calls prog 65 #[u,.slice a t c] p λe w'=>e=.returned (.bool (D0 F L i d))/\dc p w'):=λp d z u a t c hq hu s=>ai.out p i d z u a t c (by omega) hq hu s;have ag:Hid (∀p,dc w p->∀j,j<n+1->∃a t c,p.cell? ⟨b,off+j,none⟩=some (.slice a t c)/\Kt p (.slice a t c) (L.getD j none)):=HC.out;clear G am aq ac al ai ak af ap;generalize D0 F L i=wp at *;obtain⟨kn,aG⟩:∃kn:Nat,Ae (F.getD i (AC 0 0)).kind=(kn:Int):=⟨(Ae (F.getD i (AC 0 0)).kind).toNat,by omega⟩
      rw[aG]at H aa aX K;rw[bK]at H;clear aG;go_wp2_with fail;refine aa.mono ?_;rintro e w3 ⟨rfl,rfl⟩;clear aa;go_wp2_with fail;go_loopw [6,9] (λab yv wq=>∃(y:Nat)(bb:Bool),y<=kn/\ab=.bool bb/\yv=.int .i64 (y:Int)/\Hid (ET wp y=true/\dc w wq)) (λ_ yv _=>kn-(intOf yv).toNat);case atStart=>exact⟨0,_,by omega,rfl,rfl,rfl,H2.out⟩
      case round=>
       obtain⟨y,a5,hy,rfl,rfl,W⟩:=hrel;by_cases a3:y<kn
       .have aZ:(y:Int)<(kn:Int):=by omega
        obtain⟨a1,n1,c1,aS,E⟩:=ag.out wr W.out.2 i (by omega);rw[ah.out]at E;have aw:=ad.out wr W.out.2 a1 n1 c1 y E;clear E;go_wp2_with fail;refine aw.mono ?_;rintro e w4 ⟨ua,un,uc,rfl,aA,aM⟩;have H4:Hid (dc w w4/\LV w4 (CA (cE (BG L i)) (cM (BG L i)) (F.getD i (AC 0 0)) y) (CE (cE (BG L i)) (cM (BG L i)) (F.getD i (AC 0 0)) y) (.slice ua un uc)):=⟨W.out.2.trans (aA.mono W.out.2.size),aM⟩
        clear aA aM aw aS;obtain⟨z,aV,aI,aH⟩:=K.out w4 H4.out.1 y aZ;have aR:Hid ((Ap F i y).1=(z:Int)):=aI;clear aI;go_wp2_with fail;refine aH.mono ?_;rintro e w5 ⟨rfl,X⟩;have H5:Hid (dc w w5/\LV w5 (CA (cE (BG L i)) (cM (BG L i)) (F.getD i (AC 0 0)) y) (CE (cE (BG L i)) (cM (BG L i)) (F.getD i (AC 0 0)) y) (.slice ua un uc)):=⟨H4.out.1.trans (X.mono H4.out.1.size),H4.out.2.keep X⟩
        clear X aH;obtain⟨a2,n2,c2,aT,S⟩:=ag.out w5 H5.out.1 z aV;have a9:(z:Int)<((n+1:Nat):Int):=by omega
        have aF:=aj.out w5 y z _ a2 n2 c2 aR.out H5.out.2 S;clear S;go_wp2_with fail;refine aF.mono ?_;rintro e w6 ⟨rfl,aB⟩;have H6:Hid (dc w w6):=H5.out.1.trans (aB.mono H5.out.1.size);clear aB aF aT;cases J:wp y with
        |false=>
         have I:Hid (f i=7):=H.out.trans (a_ (by rw[MA a3 J];decide));clear J;go_wp2_with fail
         go_ret2
         exact⟨_,_,rfl,V.out _ (.inr ⟨i,aE,C.out.1,by rw[I.out];decide,by rw[I.out]⟩),H6.out⟩
        |true=>
         have aN:Hid (ET wp (y+1)=true):=by show(ET wp y&&wp y)=true;rw[W.out.1,J];rfl
         clear J;go_wp2_with fail;go_roundw;case rel=>exact⟨y+1,_,by omega,rfl,by go_num,aN.out,H6.out⟩
         case measure=>simp[intOf];omega
       .have aY:y=kn:=by omega
        subst aY;have I:Hid (∀j,j<i+1->f j=0):=HA.out (H.out.trans (bA W.out.1));go_wp2_with fail;go_roundw;case rel=>exact⟨i+1,_,by omega,rfl,by go_num,I.out,W.out.2⟩
        case measure=>simp[intOf];omega
   .have aU:i=n:=by omega
    subst aU;go_wp2_with fail
    go_ret2
    exact⟨_,_,rfl,V.out _ (.inl ⟨C.out.1,rfl⟩),C.out.2⟩
variable {M N:Nat->Int}{F:List Ds}{c:Int}
structure Wv(c:Int)(M:Nat->Int):Prop where
 tc:TC M
 box:∀i,i<8->M (i*8+i)<=2*c
theorem Wv.mono{d:Int}(h:Wv c M)(hd:c<=d):Wv d M:=⟨h.tc,λi hi=>by have:=h.box i hi;omega⟩
theorem Wv.ne(h:Wv c M)(hc:c<=9000){i:Nat}(hi:i<8):M (i*8+i)≠NB:=by have:=h.box i hi;unfold NB;omega
theorem Wv.up(h:Wv c M)(hc:c<=9000){i j:Nat}(hi:i<8)(u:j<8):M (i*8+j)≠NB/\M (i*8+j)<=2*c:=by
 obtain⟨a,b⟩:=h.tc.half i j hi u (h.ne hc hi) (h.ne hc u);have:=h.box i hi;have:=h.box j u;exact⟨a,by omega⟩
theorem Wv.lo(h:Wv c M)(hc:c<=9000){i j:Nat}(hi:i<8)(u:j<8): -(2*c)<=M (i*8+j):=by
 have t:=h.tc.tri (opp j) (Ah u) i (opp i) hi (Ah hi);rw[h.tc.zero i hi,CL j u]at t;have a:=h.up hc hi u;have b:=h.up hc (Ah u) (Ah hi);rcases t with q|q|q
 .exact absurd q a.1
 .exact absurd q b.1
 .omega
theorem Wv.all(h:Wv c M)(hc:c<=9000){k:Nat}(hk:k<64):M k≠NB/\ -(2*c)<=M k/\M k<=2*c:=by
 have e:k=k/8*8+k%8:=by omega
 rw[e];have a:=h.up hc (i:=k/8) (j:=k%8) (by omega) (by omega);exact⟨a.1,h.lo hc (by omega) (by omega),a.2⟩
theorem Wv.tq(h:Wv c M)(hc:c<=9000):TQ M:=⟨h.tc,λk hk=>.inr (by have:=h.all hc hk;omega),λk hk=>by have:=h.all hc hk;omega⟩
theorem Wv.sm(h:Wv c M)(hc:c<=9000):Sm M:=λk hk=>by have:=h.all hc hk;omega
theorem Wf(hc:0<=c):Wv c (λ_=>0):=⟨Jo,λ_ _=>by show(0:Int)<=2*c;omega⟩
theorem We(hc:c<=9000)(h:Wv c M)(k:Wv c N):Wv c (jF M N 64):=by
 have fin:∀{a:Nat},a<64->jF M N 64 a≠NB/\jF M N 64 a<=2*c:=λ{a} w=>by
  rcases(C1 M N w).1 with e|e<;>rw[e]
  .exact⟨(h.all hc w).1,(h.all hc w).2.2⟩
  .exact⟨(k.all hc w).1,(k.all hc w).2.2⟩
 refine⟨⟨?_,?_,?_,?_,?_,?_⟩,λi hi=>(fin (by omega)).2⟩
 .intro s hs i j hi u;have o1:=Ah hs;have Q:=C1 M N (a:=i*8+j) (by omega);have X:=C1 M N (a:=i*8+opp s) (by omega);have Y:=C1 M N (a:=s*8+j) (by omega);refine .inr (.inr ⟨(fin (by omega)).1,?_⟩);have t1:=h.tc.tri s hs i j hi u;have t2:=k.tc.tri s hs i j hi u;have n1:=h.up hc hi o1;have n2:=h.up hc hs u;have n3:=k.up hc hi o1;have n4:=k.up hc hs u;rcases t1 with q|q|q
  .exact absurd q n1.1
  .exact absurd q n2.1
  .rcases t2 with r|r|r
   .exact absurd r n3.1
   .exact absurd r n4.1
   .rcases Q.1 with e|e<;>rw[e]<;>omega
 .intro i hi;have o:=Ah hi;rcases(C1 M N (a:=i*8+opp i) (by omega)).1 with e|e<;>rw[e]
  .exact h.tc.zero i hi
  .exact k.tc.zero i hi
 .intro i hi;rcases(C1 M N (a:=i*8+i) (by omega)).1 with e|e<;>rw[e]
  .exact h.tc.even i hi
  .exact k.tc.even i hi
 .intro i j hi u _ _;refine⟨(fin (by omega)).1,?_⟩;have Q:=C1 M N (a:=i*8+j) (by omega);have X:=C1 M N (a:=i*8+i) (by omega);have Y:=C1 M N (a:=j*8+j) (by omega);have t1:=(h.tc.half i j hi u (h.ne hc hi) (h.ne hc u)).2;have t2:=(k.tc.half i j hi u (k.ne hc hi) (k.ne hc u)).2;rcases Q.1 with e|e<;>rw[e]<;>omega
 .intro i j hi u;rw[KH,KH,h.tc.sym i j hi u,k.tc.sym i j hi u];by_cases q:M (j*8+i)<N (j*8+i)
  .rw[bA ⟨by omega,q⟩,bA ⟨by omega,q⟩]
  .rw[a_ (λz=>q z.2),a_ (λz=>q z.2)]
 .intro a w;have:=fin w;exact .inr (by omega)
theorem RY(h:Wv c M)(hc:c<=9000){i:Nat}(hi:i<8):2*mo M i i=M (i*8+i):=by
 exact((Lg h.tc hi).2 (h.ne hc hi)).1
theorem M8(h:Wv c M)(hc:c<=9000)(h9:999<=c){x:Ds}(hx:DQ x)(m:Int)(y:CA false M x m=false):Wv (c+99) (CE false M x m):=by
 have n:=hx.g.num;have ht:=hx.tg;have I:=h.tq hc;unfold CA at y;unfold CE;rw[a_ (by decide)]at y|-;by_cases k0:x.kind=0
 .rw[bA k0];unfold JF;have bt:∀{lo hi:Int}, -999<=lo->hi<=999->lo<=hi->Wv (c+99) (FI M x.target.toNat lo hi):=λ{lo hi} h1 h2 h3=>by
   have U: -999<=lo/\lo<=999:=⟨h1,by omega⟩
   have T: -999<=hi/\hi<=999:=⟨by omega,h2⟩
   refine⟨(QI h.tc I.top (by omega) U T h3).1,λi L=>?_⟩;rw[Dx M (by omega) U T L L];unfold Po;by_cases ti:C6 x.target.toNat i
   .rw[bA ti,bA ti,bA rfl];split<;>omega
   .rw[a_ ti,a_ ti];have:=h.box i L;omega
  by_cases a:x.any=true
  .rw[bA a];exact bt (by omega) (by omega) (by omega)
  .rw[a_ a];by_cases q:CF x.sg=opp (C4 x.sg)
   .rw[bA q];exact bt (by omega) (by omega) (bN _)
   .rw[a_ q];have D:=(Cx x.sg 4 (bB _)).1;have E:CF x.sg<8:=D;refine⟨(Uj h.tc I.top (by omega) D ⟨by omega,by omega⟩).1,λi hi=>?_⟩;rw[Hd M _ _ _ hi hi];have b0:=h.box i hi;have b1:=h.box _ E;have b2:=h.box _ (Ah E);unfold Ak BK;by_cases i1:i=2*x.target.toNat
    .rw[bA i1,bA i1];unfold pl;rw[a_ (λz=>z.elim (h.ne hc E) (λq=>by unfold NB at q;omega))];omega
    .rw[a_ i1,a_ i1];by_cases i2:i=2*x.target.toNat+1
     .rw[bA i2,bA i2];unfold pl;rw[a_ (λz=>z.elim (h.ne hc (Ah E)) (λq=>by unfold NB at q;omega))];omega
     .rw[a_ i2,a_ i2];unfold pl;rw[a_ (λz=>z.elim (h.ne hc hi) (λq=>by unfold NB at q;omega))];omega
 .rw[a_ k0]at y|-;cases w:x.any with
  |true=>rw[bA rfl];exact h.mono (by omega)
  |false=>
   rw[w,a_ (by decide)]at y;rw[a_ (by decide)];have V:1<=nz x.sg:=(hx.fc k0).resolve_left (by rw[w];decide);have fin:∀{l:List Int}{d:Int},l.length=4->(∀i, -1<=AK l i/\AK l i<=1)->1<=nz l->nz l<=2->d<=1000->GJ false M l d=false->Wv (c+99) (E5 false M l d):=λ{l d} Q X Y a4 a5 a6=>by
    refine⟨NL I Q X Y a4 a5 a6,λi hi=>?_⟩;obtain⟨f,D,ah,ab,af,ag⟩:=Ep h.tc Q X Y a4;have b0:=h.box i hi;unfold E5;by_cases q:Ko false M l d=true
    .rw[bA q];omega
    .rw[a_ q];have e:lm M (CF l) (C4 l) d=sb M f d:=by rw[af,ag];rfl
     rw[e];have s1:=Cs (sb M f d) (i*8+i);have J:¬FC M l<=d:=by
      unfold Ko at q;simpa using q
     rw[ab]at J;rw[EZ M D (by unfold NB;omega) hi hi]at s1;split at s1
     .rename_i z;obtain⟨n1,n2,n3,n4,n5,n6⟩:=FE f D;have f8:f<8:=by
       rcases bW f 8 with r|r
       .exact r
       .exact absurd (show fs f=ss f by omega) (G7 f D r)
      rw[bA f8]at s1;have hb:bd M f=mo M f f:=by
       obtain⟨q1,q2⟩:=Eo f f8;unfold bd mo;rw[q1,q2]
      have hd:=RY h hc f8;have ac:i=f:=by
       obtain⟨q1,q2⟩:=Eo f f8;omega
      rw[hb]at J;rw[<-ac]at J hd;omega
     .omega
   by_cases w0:m=0
   .rw[bA w0]at y|-;exact fin hx.len hx.g.sg V hx.nz2 (by omega) y
   .rw[a_ w0]at y|-;exact fin (Cp _) (DJ hx.g.sg) (by rw[C9 hx.len];exact V) (by rw[C9 hx.len];exact hx.nz2) (by omega) y
def Yi:Option (Nat->Int)->Bool->(Nat->Int)->Option (Nat->Int)
 |r,true,_=>r
 |none,false,M=>some M
 |some A,false,M=>some (jF A M 64)
abbrev Kl:=List (Option (Nat->Int))
inductive Od(F:List Ds):Nat->Kl->Prop
 |beg:Od F 0 (some (λ_=>0)::List.replicate F.length none)
 |stp {t:Nat} {K:Kl} {k:Nat} {M:Nat->Int} (q:Nat) (m:Int):Od F t K->k<F.length->K.getD k none=some M->Od F (t+1) (K.set q (Yi (K.getD q none) (CA false M (F.getD k (AC 0 0)) m) (CE false M (F.getD k (AC 0 0)) m)))
theorem Od.len{t:Nat}{K:Kl}(h:Od F t K):K.length=F.length+1:=by
 induction h with
 |beg=>simp
 |stp q m _ _ _ ih=>rw[b8];exact ih
theorem Jc(K:Kl)(q i:Nat)(o:Option (Nat->Int)):(K.set q o).getD i none=if q=i/\q<K.length then o else K.getD i none:=by
 rw[bG,bG,cH];by_cases e:q=i
 .subst e;by_cases l:q<K.length
  .rw[bA rfl,bA l,bA ⟨rfl,l⟩];rfl
  .rw[bA rfl,a_ l,a_ (λz=>l z.2),bO (by omega)]
 .rw[a_ e,a_ (λz=>e z.1)]
theorem Ns{P:(Nat->Int)->Prop}(u:∀A B,P A->P B->P (jF A B 64)){r:Option (Nat->Int)}{e:Bool}{M:Nat->Int}(hr:∀A,r=some A->P A)(H:e=false->P M):∀A,Yi r e M=some A->P A:=by
 intro A h;cases e with
 |true=>cases r<;>exact hr A h
 |false=>
  cases r with
  |none=>cases h;exact H rfl
  |some B=>cases h;exact u _ _ (hr B rfl) (H rfl)
theorem Sg(i:Nat)(A:Nat->Int)(h:(some (λ_=>(0:Int))::List.replicate F.length none:Kl).getD i none=some A):A=λ_=>0:=by
 cases i with
 |zero=>cases h;rfl
 |succ i=>
  rw[List.getD_cons_succ,bG,List.getElem?_replicate]at h;split at h<;>cases h
theorem Od.wv(G:∀k,k<F.length->DQ (F.getD k (AC 0 0))){t:Nat}{K:Kl}(h:Od F t K)(ht:t<=40):∀i A,K.getD i none=some A->Wv (999+99*t) A:=by
 induction h with
 |beg=>intro i A p;rw[Sg i A p];exact Wf (by omega)
 |@stp t K k M q m _ hk H ih=>
  intro i A p;have v:=ih (by omega);have e1:(999:Int)+99*((t+1:Nat):Int)=999+99*(t:Int)+99:=by omega
  rw[e1];rw[Jc]at p;split at p
  .refine Ns (P:=Wv (999+99*(t:Int)+99)) (λA B a b=>We (by omega) a b) (λA h=>(v q A h).mono (by omega)) (λy=>M8 (v k M H) (by omega) (by omega) (G k hk) m y) A p
  .exact(v i A p).mono (by omega)
def VK(K W:Kl):Prop:=∀i A,K.getD i none=some A->∃B,W.getD i none=some B/\Le A B
theorem VK.refl(K:Kl):VK K K:=λ_ A h=>⟨A,h,λ_ _=>bN _⟩
theorem VK.trans{K W R:Kl}(h:VK K W)(h':VK W R):VK K R:=λi A p=>by
 obtain⟨B,hB,l⟩:=h i A p;obtain⟨C,hC,l'⟩:=h' i B hB;exact⟨C,hC,l.trans l'⟩
theorem Qb(K:Kl)(q:Nat)(e:Bool)(M:Nat->Int):VK K (K.set q (Yi (K.getD q none) e M)):=λi A p=>by
 rw[Jc];split
 .rename_i z;obtain⟨rfl,_⟩:=z;rw[p];cases e with
  |true=>exact⟨A,rfl,λ_ _=>bN _⟩
  |false=>exact⟨_,rfl,λa w=>(C1 A M w).2.1⟩
 .exact⟨A,p,λ_ _=>bN _⟩
theorem Od.wn(G:∀k,k<F.length->DQ (F.getD k (AC 0 0))){t:Nat}{K:Kl}(h:Od F t K){Z:Kl}(hZ:∀k,k<F.length->∀A,Z.getD k none=some A->(∀a,a<64->A a<=NB)/\DF false A (F.getD k (AC 0 0))=true)(hg:VK K Z):∀i A,K.getD i none=some A->Wn A:=by
 induction h with
 |beg=>intro i A p;rw[Sg i A p];exact M7
 |@stp t K k M q m _ hk H ih=>
  intro i A p;have v:=ih ((Qb K q _ _).trans hg);obtain⟨B,hB,hl⟩:=((Qb K q _ _).trans hg) k M H;have hs:DF false M (F.getD k (AC 0 0))=true:=Jn hl (hZ k hk B hB).1 (G k hk) (hZ k hk B hB).2;rw[Jc]at p;split at p
  .exact Ns (P:=Wn) (λA B a b=>RE a b) (λA h=>v q A h) (λy=>Jp (v k M H) (G k hk) hs m y) A p
  .exact v i A p
theorem I3{A B B':Nat->Int}:∀n,(∀f,f<n->B f=B' f)->leF A B n=leF A B' n
 |0,_=>rfl
 |n+1,h=>by
  show(leF A B n&&decide (A n<=B n))=(leF A B' n&&decide (A n<=B' n))
  rw[I3 n (λf D=>h f (by omega)),h n (by omega)]
def GQ(e:Bool)(M:Nat->Int):Option (Nat->Int)->Bool
 |none=>e
 |some N=>e||leF (bd M) (bd N) 32
structure Zb(F:List Ds)(K:Kl):Prop where
 st:∃A,K.getD 0 none=some A/\leF (λ_=>0) (bd A) 32=true
 sf:∀k,k<F.length->∀A,K.getD k none=some A->DF false A (F.getD k (AC 0 0))=true
 wy:∀k,k<F.length->∀A,K.getD k none=some A->∀m:Nat,(m:Int)<Ae (F.getD k (AC 0 0)).kind->GQ (CA false A (F.getD k (AC 0 0)) m) (CE false A (F.getD k (AC 0 0)) m) (K.getD (Ap F k m).1.toNat none)=true
def VB(K:Kl):List (Option (List Int)):=K.map (Option.map Bl)
theorem PC(K:Kl)(k:Nat):BG (VB K) (k:Int)=(K.getD k none).map Bl:=by
 rw[E8,bG,bG];unfold VB;rw[List.getElem?_map];cases K[k]?<;>rfl
theorem Od.cert(G:∀k,k<F.length->DQ (F.getD k (AC 0 0))){t:Nat}{K:Kl}(h:Od F t K)(ht:t<=40)(S:Zb F K):Bt F (VB K):=by
 have hv:=h.wv G ht;have hw:=h.wn G (Z:=K) (λk hk A p=>⟨(hv k A p).tc.hi,S.sf k hk A p⟩) (VK.refl K);have O:∀A,Wn A->F_ (some (Bl A)):=λA h l e=>by
  cases e
  exact⟨BJ _,λf D=>by rw[CP _ D];exact Jw h D⟩
 have ad:∀r,r∈VB K->F_ r:=by
  intro r hr;obtain⟨o,ho,rfl⟩:=List.mem_map.1 hr;cases o with
  |none=>intro l e;cases e
  |some A=>
   obtain⟨i,hi⟩:=List.mem_iff_getElem?.1 ho;exact O A (hw i A (by rw[bG,hi];rfl))
 have to:∀{e:Bool}{A:Nat->Int}{k:Nat},(e=false->TC A)->GQ e A (K.getD k none)=true->DY e (cE (BG (VB K) (k:Int))) A (cM (BG (VB K) (k:Int)))=true:=λ{e A k} I hi=>by
  rw[PC];cases hr:K.getD k none with
  |none=>rw[hr]at hi;exact Bi.2 (.inl hi)
  |some N=>
   rw[hr]at hi;rw[show Option.map Bl (some N)=some (Bl N)from rfl,KG I (O N (hw k N hr))];show(e||leF (bd A) (λf=>(Bl N).getD f 0) 32)=true;have el:leF (bd A) (λf=>(Bl N).getD f 0) 32=leF (bd A) (bd N) 32:=I3 32 (λf D=>CP N D);rw[el];exact hi
 refine⟨ad,?_,?_⟩
 .obtain⟨A,p,hl⟩:=S.st;refine to (k:=0) (λ_=>Jo) ?_;rw[p];show(false||leF (bd λ_=>0) (bd A) 32)=true;rw[show bd (λ_=>0)=λ_=>0 from funext MC];exact hl
 .intro k hk;have hx:=G k hk;cases hr:K.getD k none with
  |none=>exact NZ (by rw[<-E8,PC,hr];rfl)
  |some A=>
   have p:=hw k A hr;have hs:=MW p;have ea:BG (VB K) (k:Int)=some (Bl A):=by rw[PC,hr];rfl
   have I:TQ (BT (Bl A)):=Su (r:=some (Bl A)) (O A p) hs.1;have aa:Wn (BT (Bl A)):=⟨I.tc,λi hi=>cd (hs.2.2 (i*8+i) (by omega)) (p.box i hi)⟩
   unfold EK;rw[ea];show(if DF (ovE (Bl A)) (BT (Bl A)) (F.getD k (AC 0 0))=false then(6:Int)else _)=0;rw[hs.1,Jn hs.2.2 p.tc.hi hx (S.sf k hk A hr),a_ (by decide),bA];have all:∀n,n<=(Ae (F.getD k (AC 0 0)).kind).toNat->ET (D0 F (VB K) k) n=true:=by
    intro n;induction n with
    |zero=>intro _;rfl
    |succ n ih=>
     intro hn;show(ET (D0 F (VB K) k) n&&D0 F (VB K) k n)=true;rw[ih (by omega),Bool.true_and];have hz:=Du (F:=F) k n (Fv F k hk n (by omega));obtain⟨q,hq⟩:∃q:Nat,(Ap F k n).1=(q:Int):=⟨_,(Int.toNat_of_nonneg hz.1).symm⟩
     have hi:=S.wy k hk A hr n (by omega);rw[hq,bK]at hi;unfold D0;rw[hq,ea];show DY (CA (ovE (Bl A)) (BT (Bl A)) (F.getD k (AC 0 0)) n) _ (CE (ovE (Bl A)) (BT (Bl A)) (F.getD k (AC 0 0)) n) _=true;rw[hs.1];cases ae:CA false (BT (Bl A)) (F.getD k (AC 0 0)) n with
     |true=>exact Bi.2 (.inl rfl)
     |false=>
      obtain⟨a,b⟩:=Md aa p.tq hs.2.2 hx n ae;rw[a]at hi;have hP:=Jp p hx (S.sf k hk A hr) n a;obtain⟨_,c2,c3⟩:=(Bi.1 (to (λ_=>hP.tc) hi)).resolve_left (by decide);exact Bi.2 (.inr ⟨rfl,c2,b.trans c3⟩)
   exact all _ (bB _)
theorem R5{x:Ds}{u:St}{C:Nat->Int}(hc:OX x u)(S:SI u)(aD:C (0*8+1)=0):DF false C x=H_ false C u:=by
 obtain⟨c0,_,c2,c3,c4⟩:=hc;unfold DF H_;have g1:=(Gp aD S.len S.sg S.nz).1;have g2:=(Gp aD (Cp u.sg) (DJ S.sg) (by rw[C9 S.len];exact S.nz)).1;have e1:FC C u.sg=GP C u.sg:=g1;have e2:FC C (Dv u.sg)=GP C (Dv u.sg):=g2;rw[a_ (show¬(false=true) by decide),a_ (show¬(false=true) by decide)];have k0:x.kind=0↔u.kind=61:=by
  rw[c0];unfold Fr;constructor
  .intro h;rw[bA h]
  .intro h;by_cases q:x.kind=0
   .exact q
   .rw[a_ q]at h;split at h
    .cases h
    .split at h<;>cases h
 have k1:x.kind=1↔u.kind=33:=by
  rw[c0];unfold Fr;constructor
  .intro h;rw[a_ (by omega),bA h]
  .intro h;by_cases q:x.kind=0
   .rw[bA q]at h;cases h
   .rw[a_ q]at h;by_cases X:x.kind=1
    .exact X
    .rw[a_ X]at h;split at h<;>cases h
 by_cases q0:x.kind=0
 .rw[bA q0,bA (k0.1 q0),<-c2,<-c4,<-c3];unfold ftB;rw[e1,e2]
 .rw[a_ q0,a_ (λz=>q0 (k0.2 z))];by_cases X:x.kind=1
  .rw[bA X,bA (k1.1 X),<-c2,<-c4,<-c3,e1]
  .rw[a_ X,a_ (λz=>X (k1.2 z))]
def KV(w:World):Option (Nat->Int)->Value->Prop
 |none,u=>u=.slice none 0 0
 |some M,u=>∃g,u=.slice (some ⟨g,0,none⟩) 32 32/\At w g (ic (Bl M)) Gc
theorem KV.keep{w w':World}{o:Option (Nat->Int)}{u:Value}(h:KV w o u)(hb:dc w w'):KV w' o u:=by
 cases o with
 |none=>exact h
 |some M=>obtain⟨g,e,L⟩:=h;exact⟨g,e,L.keep hb L.lt⟩
theorem KV.isSlice{o:Option (Nat->Int)}{u:Value}(h:KV w o u):∃a n c,u=.slice a n c:=by
 cases o with
 |none=>exact⟨_,_,_,h⟩
 |some M=>obtain⟨g,e,L⟩:=h;exact⟨_,_,_,e⟩
theorem At.reads{g:Nat}{M:Nat->Int}(L:At w g (ic (Bl M)) Gc):AQ w (.slice (some ⟨g,0,none⟩) 32 32) (Bl M):=AQ.at_ L (BJ M) (bB _) (λi hi=>Aa _ _ (by rw[BJ];exact hi))
theorem Pc{e0:Bool}{M:Nat->Int}(u v:Value)(r:Option (Nat->Int))(hT:e0=false->TC M/\Sm M)(S:LV w e0 M u)(I:KV w r v):
  Calls prog 65 #[u,v] w λe w'=>e=.returned (.bool (GQ e0 M r))/\dc w w':=by
 have aQ:∀(w:World)(a:Option Addr)(n c:Nat),(binOp .eql 32 (.slice a n c) (.slice none 0 0)).run prog w=.ok (.bool a.isNone) w:=λw a n c=>cz w 32 tN a n c 0 0 underlying32;rcases S with⟨rfl,rfl⟩|⟨rfl,g0,rfl,ah⟩
 .have T:Hid (GQ true M r=true):=by cases r<;>rfl
  obtain⟨va,vn,vc,rfl⟩:=I.isSlice;clear hT I;go_enter func65,ntmps65;go_wp2_with fail;go_ret;exact⟨EX T.out,bC _ _⟩
 .have aa:=F2 (w:=w) (hT rfl).1 (hT rfl).2 (.slice (some ⟨g0,0,none⟩) 32 32) (AQ.at_ ah (BJ M) (bB _) (λi hi=>Aa _ _ (by rw[BJ];exact hi)));cases r with
  |none=>
   obtain rfl:v=.slice none 0 0:=I;have T:Hid (GQ false M none=false):=rfl;clear hT ah;go_enter func65,ntmps65;go_wp2_with fail;refine aa.mono ?_;rintro e s ⟨H,⟨he, -⟩|⟨-,g,rfl,hg,L⟩⟩
   .cases he
   .have N:Hid (dc w s):=H;clear H aa L;go_wp2_with fail;go_ret;exact⟨EX T.out,N.out⟩
  |some p=>
   obtain⟨g2,rfl,aL⟩:=I;have I:AQ w (.slice (some ⟨g2,0,none⟩) 32 32) (Bl p):=aL.reads;have HL:Hid (∀s g,dc w s->At s g (ic (Bl M)) Gc->Calls prog 99 #[.slice (some ⟨g,0,none⟩) 32 32,.slice (some ⟨g2,0,none⟩) 32 32] s λe w'=>e=.returned (.bool (leF (bd M) (bd p) 32))/\dc s w'):=by
    intro s g hb L;have h:=Mj (w:=s) (.slice (some ⟨g,0,none⟩) 32 32) (.slice (some ⟨g2,0,none⟩) 32 32) (Bl M) (Bl p) (BJ M) (BJ p) (AQ.at_ L (BJ M) (bB _) (λi hi=>Aa _ _ (by rw[BJ];exact hi))) (I.keep hb);rw[Gt (A:=λf=>(Bl M).getD f 0) (A':=bd M) 32 (λf hf=>Gh M f hf),I3 (B:=λf=>(Bl p).getD f 0) (B':=bd p) 32 (λf hf=>CP p hf)]at h;exact h
   have T:Hid (GQ false M (some p)=leF (bd M) (bd p) 32):=Bool.false_or _;generalize leF (bd M) (bd p) 32=b at *;clear hT ah I aL;go_enter func65,ntmps65;go_wp2_with fail;refine aa.mono ?_;rintro e s ⟨H,⟨he, -⟩|⟨-,g,rfl,hg,L⟩⟩
   .cases he
   .have a9:=HL.out s g H L;have N:Hid (dc w s):=H;clear H aa L;go_wp2_with fail;refine a9.mono ?_;rintro e w2 ⟨rfl,Z⟩;go_wp2_with fail;go_ret;exact⟨EX T.out,N.out.trans (Z.mono N.out.size)⟩
def R9:Option (Nat->Int)->Bool
 |none=>false
 |some A=>leF (λ_=>0) (bd A) 32
theorem Pe(v:Value)(r:Option (Nat->Int))(I:KV w r v):
  Calls prog 63 #[v] w λe w'=>e=.returned (.bool (R9 r))/\dc w w':=by
 have aQ:∀(w:World)(a:Option Addr)(n c:Nat),(binOp .eql 32 (.slice a n c) (.slice none 0 0)).run prog w=.ok (.bool a.isNone) w:=λw a n c=>cz w 32 tN a n c 0 0 underlying32;cases r with
 |none=>
  obtain rfl:v=.slice none 0 0:=I;have T:Hid (R9 none=false):=rfl;go_enter func63,ntmps63;go_wp2_with fail;go_ret;exact⟨EX T.out,bC _ _⟩
 |some l=>
  obtain⟨p,rfl,V⟩:=I;have HC:Hid (∀i,i<32->w.cell? ⟨p,i,none⟩=some (.int .i64 (bd l i))):=λi hi=>by rw[V.cell,Aa _ _ (by rw[BJ];exact hi),CP l hi]
  have T:Hid (R9 (some l)=leF (λ_=>0) (bd l) 32):=rfl;obtain⟨A,R⟩:∃A:Nat->Int,A=λ_=>0:=⟨_,rfl⟩
  obtain⟨B,hB⟩:∃B:Nat->Int,B=bd l:=⟨_,rfl⟩
  have aX:Hid (∀i,i<32->w.cell? ⟨p,i,none⟩=some (.int .i64 (B i))):=by rw[hB];exact HC.out
  have HA:Hid (∀i,A i=0):=by rw[R];exact λ_=>rfl
  rw[<-R,<-hB]at T;have bo:=V.lt;clear HC R hB V;go_enter func63,ntmps63;go_wp2_with fail;go_loopw [3] (λi wr=>∃(f k:Nat),f<=32/\i=.int .i64 f/\Hid (wr=w.drewN k/\leF A B f=true)) (λi _=>32-(intOf i).toNat);case atStart=>exact⟨0,0,by omega,rfl,rfl,rfl⟩
  case round=>
   obtain⟨f,k,hf,rfl,J⟩:=hrel;by_cases aO:f<32
   .have bl:(f:Int)<32:=by omega
    have ca:wr.cell? ⟨p,f,none⟩=some (.int .i64 (B f)):=by rw[J.out.1];exact aX.out f aO
    have HN:Hid (B f<0->leF A B 32=false):=λh=>by
     cases e:leF A B 32 with
     |false=>rfl
     |true=>have:=DI.1 e f aO;rw[HA.out]at this;omega
    have HY:Hid (¬B f<0->leF A B (f+1)=true):=λh=>by
     show(leF A B f&&decide (A f<=B f))=true;rw[J.out.2,HA.out,cC (by omega)];rfl
    generalize B f=y at *;by_cases aW:y<0
    .have HF:Hid (leF A B 32=false):=HN.out aW;go_wp2_with fail;go_ret;exact⟨EX (T.out.trans HF.out),by rw[J.out.1];exact bD (bC _ _) _⟩
    .have HF:Hid (leF A B (f+1)=true):=HY.out aW;go_wp2_with fail;go_roundw;case rel=>exact⟨f+1,k,by omega,by go_num,J.out.1,HF.out⟩
     case measure=>simp[intOf];omega
   .have aK:f=32:=by omega
    subst aK;go_wp2_with fail;go_ret;exact⟨EX (T.out.trans J.out.2),by rw[J.out.1];exact bD (bC _ _) _⟩
theorem OE{B r:Nat}{m:Rd}{vs vo:Value}{P Q O:Nat->Nat}{l:List Int}{F:List Ds}{K:Kl}{b:Nat}(h:AZ B w r m vs vo P Q O)(V:AV l=some m)(hW:Bj F m.st)(hl:F.length<=20)(aJ:b<w.heap.size)(U:∀i,i<F.length+1->∃u,w.cell? ⟨b,i,none⟩=some u/\KV w (K.getD i none) u)(I:∀i A,K.getD i none=some A->Wv 8000 A):
  Calls prog 25 #[.pointer (some ⟨r,0,none⟩),.slice (some ⟨b,0,none⟩) (F.length+1) (F.length+1)] w λe w'=>∃a b,e=.returned (.tuple #[.int .i64 a,.int .i64 b])/\(a=0->Zb F K)/\dc w w':=by
 have aQ:∀(w:World)(a:Option Addr)(n c:Nat),(binOp .eql 32 (.slice a n c) (.slice none 0 0)).run prog w=.ok (.bool a.isNone) w:=λw a n c=>cz w 32 tN a n c 0 0 underlying32;have aE:F.length=m.st.length:=hW.1.len;have HC:Hid (∀s,dc w s->∀i,i<F.length+1->∃a t c,s.cell? ⟨b,i,none⟩=some (.slice a t c)/\KV s (K.getD i none) (.slice a t c)):=λs hb i hi=>by
  obtain⟨x,h1,h2⟩:=U i (by omega);obtain⟨a,t,c,rfl⟩:=h2.isSlice;exact⟨a,t,c,(hb.cell (by exact aJ)).trans h1,h2.keep hb⟩
 have ay:Hid (∀s a t c,KV s (K.getD 0 none) (.slice a t c)->Calls prog 63 #[.slice a t c] s λe w'=>e=.returned (.bool (R9 (K.getD 0 none)))/\dc s w'):=λs a t c hr=>Pe _ _ hr;have ae:Hid (∀s k o a t c,K.getD k none=some o->KV s (some o) (.slice a t c)->Calls prog 59 #[.slice a t c] s (BF s false o)):=λs k o a t c hr D=>by
  obtain⟨g,e,L⟩:=D;cases e
  exact F2 (I k o hr).tc ((I k o hr).sm (by decide)) _ L.reads
 have ax:Hid (∀s,dc w s->∀k,k<F.length->∀o a t c,K.getD k none=some o->KV s (some o) (.slice a t c)->Calls prog 64 #[.pointer (some ⟨r,0,none⟩),.int .i64 (k:Int),.slice a t c] s λe w'=>e=.returned (.bool (DF false o (F.getD k (AC 0 0))))/\dc s w'):=λs hb k hk o a t c hr D=>by
  have hz:=(I k o hr).tc.zero 0 (by omega);rw[R5 (EV V hW hk).2 (Ga V k) hz];exact OI (h.keep hb) k (by omega) (Ga V k) _ ⟨_,_,_,rfl⟩ (ae.out s k o a t c hr D) ((I k o hr).sm (by decide)) (λ_=>hz)
 have aA:Hid (∀s,dc w s->∀k:Nat,k<F.length->Calls prog 21 #[.pointer (some ⟨r,0,none⟩),.int .i64 (k:Int)] s λe w'=>e=.returned (.int .i64 (Ae (F.getD k (AC 0 0)).kind))/\w'=s):=λs hb k hk=>by
  have:=(h.keep hb).ways (k:Int);rw[a_ (by omega),bK,<-EG hW hk]at this;exact this
 have al:Hid (∀s,dc w s->∀k,k<F.length->∀o a t c d,K.getD k none=some o->KV s (some o) (.slice a t c)->Calls prog 22 #[.pointer (some ⟨r,0,none⟩),.int .i64 (k:Int),.int .i64 d,.slice a t c] s (BF s (CA false o (F.getD k (AC 0 0)) d) (CE false o (F.getD k (AC 0 0)) d))):=λs hb k hk o a t c d hr D=>
  Jm (h.keep hb) k (by omega) (Gb V (by omega)) (EV V hW hk).2 d _ false ⟨_,_,_,rfl⟩ (ae.out s k o a t c hr D) (λ_=>(I k o hr).tq (by decide))
 have aw:Hid (∀s,dc w s->∀(k d:Nat),k<F.length->(d:Int)<Ae (F.getD k (AC 0 0)).kind->Calls prog 23 #[.pointer (some ⟨r,0,none⟩),.int .i64 (k:Int),.int .i64 (d:Int)] s λe w'=>e=.returned (.int .i64 (Ap F k d).1)/\dc s w'):=λs hb k d hk hw=>by
  have e:=FX hW hl k hk d;rw[a_ (by rw[<-EG hW hk];omega)]at e;rw[e];exact((h.keep hb).next (by omega) k (by omega) d).mono λe w' ⟨h1,j,h2⟩=>⟨h1,by rw[h2];exact bD (bC _ _) j⟩
 have aq:Hid (∀s (k d E:Nat) o u a t c,k<F.length->K.getD k none=some o->LV s (CA false o (F.getD k (AC 0 0)) d) (CE false o (F.getD k (AC 0 0)) d) u->KV s (K.getD E none) (.slice a t c)->Calls prog 65 #[u,.slice a t c] s λe w'=>e=.returned (.bool (GQ (CA false o (F.getD k (AC 0 0)) d) (CE false o (F.getD k (AC 0 0)) d) (K.getD E none)))/\dc s w'):=λs k d E o u a t c hk hr S D=>by
  refine Pc u _ _ (λhe=>?_) S D;have hP:=M8 ((I k o hr)) (by decide) (by decide) (JI V hW hk) d he;exact⟨hP.tc,hP.sm (by decide)⟩
 have a4:Hid (∀s,dc w s->∃sa sc,s.cell? ⟨r,1,none⟩=some (.slice sa F.length sc)):=λs hb=>by
  obtain⟨sa,sc,bc⟩:=(h.keep hb).slen';obtain⟨_,r1,_⟩:=(h.keep hb).rdc;rw[bc,<-aE]at r1;exact⟨sa,sc,r1⟩
 have au:Hid (∀(k d:Nat),k<F.length->(d:Int)<Ae (F.getD k (AC 0 0)).kind->∃E:Nat,(Ap F k d).1=(E:Int)/\E<F.length+1):=λk d hk hw=>by
  have:=Du (F:=F) k d (Fv F k hk d hw);exact⟨(Ap F k d).1.toNat,by omega,by omega⟩
 have az:Hid (∀k,1<=Ae (F.getD k (AC 0 0)).kind/\Ae (F.getD k (AC 0 0)).kind<=2):=λk=>D1 _;have bq:r<w.heap.size:=h.rd.lt;obtain⟨G,hG⟩:∃G:Nat->Prop,G=λk=>∀A,K.getD k none=some A->DF false A (F.getD k (AC 0 0))=true/\∀d:Nat,(d:Int)<Ae (F.getD k (AC 0 0)).kind->GQ (CA false A (F.getD k (AC 0 0)) d) (CE false A (F.getD k (AC 0 0)) d) (K.getD (Ap F k d).1.toNat none)=true:=⟨_,rfl⟩
 have ag:Hid (R9 (K.getD 0 none)=true->(∀j,j<F.length->G j)->Zb F K):=λq h=>by
  rw[hG]at h;refine⟨?_,λk hk A R=>(h k hk A R).1,λk hk A R=>(h k hk A R).2⟩;cases hr:K.getD 0 none with
  |none=>rw[hr]at q;cases q
  |some A=>rw[hr]at q;exact⟨A,rfl,q⟩
 have av:Hid (∀k,K.getD k none=none->G k):=λk hk=>by rw[hG];intro A R;rw[hk]at R;cases R
 have ap:Hid (∀k o,K.getD k none=some o->DF false o (F.getD k (AC 0 0))=true->(∀d:Nat,(d:Int)<Ae (F.getD k (AC 0 0)).kind->GQ (CA false o (F.getD k (AC 0 0)) d) (CE false o (F.getD k (AC 0 0)) d) (K.getD (Ap F k d).1.toNat none)=true)->G k):=λk o ho h1 h2=>by rw[hG];intro A R;rw[ho]at R;cases R;exact⟨h1,h2⟩
 clear h V hW U aE ae I hG;generalize hnn:F.length=n at *;obtain⟨a0,n0,c0,aB,ac⟩:=HC.out w (bC _ _) 0 (by omega);have aC:w.cell? ⟨b,0,none⟩=some (.slice a0 n0 c0):=aB;have aU:=ay.out w _ _ _ ac;have bk:(0:Int)<((n+1:Nat):Int):=by omega
 clear ac ay;generalize R9 (K.getD 0 none)=st at *;go_enter func25,ntmps25;go_wp2_with fail;refine aU.mono ?_;rintro e s ⟨rfl,H⟩;have N:Hid (dc w s):=H;clear H aU aB aC;cases st with
 |false=>
  clear ag;go_wp2_with fail
  go_ret2
  exact⟨_,_,rfl,λz=>absurd z (by decide),N.out⟩
 |true=>
  have a3:Hid ((∀j,j<n->G j)->Zb F K):=ag.out rfl;clear ag;go_wp2_with fail;go_loopw [6,7] (λak pv wr=>∃(i:Nat)(bb:Bool),i<=n/\ak=.bool bb/\pv=.int .i64 (i:Int)/\Hid ((∀j,j<i->G j)/\dc w wr)) (λ_ pv _=>n-(intOf pv).toNat);case atStart=>exact⟨0,_,by omega,rfl,rfl,λj hj=>by omega,N.out⟩
  case round=>
   obtain⟨i,bb,hi,rfl,rfl,J⟩:=hrel;obtain⟨sa,sc,cl⟩:=a4.out wr J.out.2;by_cases bn:i<n
   .have bm:(i:Int)<(n:Int):=by omega
    have bh:(i:Int)<((n+1:Nat):Int):=by omega
    obtain⟨a,t,c,cx,D⟩:=HC.out wr J.out.2 i (by omega);have HA:Hid (G i->∀j,j<i+1->G j):=λh0 j hj=>by
     rcases bW j i with q|q
     .exact J.out.1 j q
     .rw[show j=i by omega];exact h0
    cases hr:K.getD i none with
    |none=>
     rw[hr]at D;have aS:Value.slice a t c=.slice none 0 0:=D;cases aS
     have HF:Hid (∀j,j<i+1->G j):=HA.out (av.out i hr);clear D;go_wp2_with fail;go_roundw;case rel=>exact⟨i+1,bb,by omega,rfl,by go_num,HF.out,J.out.2⟩
     case measure=>simp[intOf];omega
    |some o=>
     rw[hr]at D;obtain⟨g',e', -⟩:=id D;cases e'
     have aT:=ax.out wr J.out.2 i (by omega) o _ _ _ hr D;have Y:Hid (DF false o (F.getD i (AC 0 0))=true->(∀d:Nat,(d:Int)<Ae (F.getD i (AC 0 0)).kind->GQ (CA false o (F.getD i (AC 0 0)) d) (CE false o (F.getD i (AC 0 0)) d) (K.getD (Ap F i d).1.toNat none)=true)->G i):=ap.out i o hr;have af:Hid (K.getD i none=some o):=hr;clear D hr;generalize DF false o (F.getD i (AC 0 0))=sf at *;go_wp2_with fail;refine aT.mono ?_;rintro e w2 ⟨rfl,Z⟩;have H2:Hid (dc w w2):=J.out.2.trans (Z.mono J.out.2.size);clear Z aT cx cl;cases sf with
     |false=>
      clear Y;go_wp2_with fail
      go_ret2
      exact⟨_,_,rfl,λz=>absurd z (by decide),H2.out⟩
     |true=>
      have aj:=aA.out w2 H2.out i (by omega);have be:=az.out i;have ab:Hid (∀s,dc w s->∀(d:Nat),(d:Int)<Ae (F.getD i (AC 0 0)).kind->∃E:Nat,E<n+1/\(Ap F i d).1.toNat=E/\Calls prog 23 #[.pointer (some ⟨r,0,none⟩),.int .i64 (i:Int),.int .i64 (d:Int)] s λe w'=>e=.returned (.int .i64 (E:Int))/\dc s w'):=λs hb d hw=>by
       obtain⟨E,X,q2⟩:=au.out i d (by omega) hw;have:=aw.out s hb i d (by omega) hw;rw[X]at this;exact⟨E,q2,by rw[X,bK],this⟩
      have am:Hid (∀s,dc w s->∀a t c (d:Nat),KV s (some o) (.slice a t c)->Calls prog 22 #[.pointer (some ⟨r,0,none⟩),.int .i64 (i:Int),.int .i64 (d:Int),.slice a t c] s λe w'=>∃a' n' c',e=.returned (.slice a' n' c')/\dc s w'/\LV w' (CA false o (F.getD i (AC 0 0)) d) (CE false o (F.getD i (AC 0 0)) d) (.slice a' n' c')):=λs hb a t c d D=>by
       refine(al.out s hb i (by omega) o a t c d af.out D).mono ?_;rintro e w' ⟨aG,⟨h1,rfl⟩|⟨h1,g,rfl,hg,L⟩⟩
       .exact⟨_,_,_,rfl,aG,.inl ⟨h1,rfl⟩⟩
       .exact⟨_,_,_,rfl,aG,.inr ⟨h1,g,rfl,L⟩⟩
      have ar:Hid (∀s (d E:Nat) u a t c,LV s (CA false o (F.getD i (AC 0 0)) d) (CE false o (F.getD i (AC 0 0)) d) u->KV s (K.getD E none) (.slice a t c)->Calls prog 65 #[u,.slice a t c] s λe w'=>e=.returned (.bool (GQ (CA false o (F.getD i (AC 0 0)) d) (CE false o (F.getD i (AC 0 0)) d) (K.getD E none)))/\dc s w'):=λs d E u a t c S D=>aq.out s i d E o u a t c (by omega) af.out S D;have an:Hid (∀s,dc w s->∀j,j<n+1->∃a t c,s.cell? ⟨b,j,none⟩=some (.slice a t c)/\KV s (K.getD j none) (.slice a t c)):=HC.out;clear ax aA al aw aq au az ap av;obtain⟨kn,aN⟩:∃kn:Nat,Ae (F.getD i (AC 0 0)).kind=(kn:Int):=⟨(Ae (F.getD i (AC 0 0)).kind).toNat,by omega⟩
      rw[aN]at Y aj be ab;have aZ:Hid ((∀d:Nat,d<kn->GQ (CA false o (F.getD i (AC 0 0)) d) (CE false o (F.getD i (AC 0 0)) d) (K.getD (Ap F i d).1.toNat none)=true)->G i):=λh=>Y.out rfl (λd hw=>h d (by omega));clear aN Y;go_wp2_with fail;refine aj.mono ?_;rintro e w3 ⟨rfl,rfl⟩;clear aj;go_wp2_with fail;go_loopw [6,9] (λak yv wq=>∃(y:Nat)(bb:Bool),y<=kn/\ak=.bool bb/\yv=.int .i64 (y:Int)/\Hid ((∀d:Nat,d<y->GQ (CA false o (F.getD i (AC 0 0)) d) (CE false o (F.getD i (AC 0 0)) d) (K.getD (Ap F i d).1.toNat none)=true)/\dc w wq)) (λ_ yv _=>kn-(intOf yv).toNat);case atStart=>exact⟨0,_,by omega,rfl,rfl,λj hj=>by omega,H2.out⟩
      case round=>
       obtain⟨y,bj,hy,rfl,rfl,HQ⟩:=hrel;by_cases br:y<kn
       .have bg:(y:Int)<(kn:Int):=by omega
        obtain⟨a1,n1,c1,a6,W⟩:=an.out wr HQ.out.2 i (by omega);rw[af.out]at W;have aF:=am.out wr HQ.out.2 a1 n1 c1 y W;clear W;go_wp2_with fail;refine aF.mono ?_;rintro e w4 ⟨ua,un,uc,rfl,aH,aV⟩;have H4:Hid (dc w w4/\LV w4 (CA false o (F.getD i (AC 0 0)) y) (CE false o (F.getD i (AC 0 0)) y) (.slice ua un uc)):=⟨HQ.out.2.trans (aH.mono HQ.out.2.size),aV⟩
        clear aH aV aF a6;obtain⟨E,ba,aR,aP⟩:=ab.out w4 H4.out.1 y bg;have a5:Hid ((Ap F i y).1.toNat=E):=aR;clear aR;go_wp2_with fail;refine aP.mono ?_;rintro e w5 ⟨rfl,ai⟩;have H5:Hid (dc w w5/\LV w5 (CA false o (F.getD i (AC 0 0)) y) (CE false o (F.getD i (AC 0 0)) y) (.slice ua un uc)):=⟨H4.out.1.trans (ai.mono H4.out.1.size),H4.out.2.keep ai⟩
        clear ai aP;obtain⟨a2,n2,c2,a7,ad⟩:=an.out w5 H5.out.1 E ba;have bp:(E:Int)<((n+1:Nat):Int):=by omega
        have aM:=ar.out w5 y E _ a2 n2 c2 H5.out.2 ad;clear ad;have ao:Hid (GQ (CA false o (F.getD i (AC 0 0)) y) (CE false o (F.getD i (AC 0 0)) y) (K.getD (Ap F i y).1.toNat none)=GQ (CA false o (F.getD i (AC 0 0)) y) (CE false o (F.getD i (AC 0 0)) y) (K.getD E none)):=by show _=_;rw[a5.out]
        generalize GQ (CA false o (F.getD i (AC 0 0)) y) (CE false o (F.getD i (AC 0 0)) y) (K.getD E none)=bi at *;go_wp2_with fail;refine aM.mono ?_;rintro e w6 ⟨rfl,aI⟩;have H6:Hid (dc w w6):=H5.out.1.trans (aI.mono H5.out.1.size);clear aI aM a7;cases bi with
        |false=>
         go_wp2_with fail
         go_ret2
         exact⟨_,_,rfl,λz=>absurd z (by decide),H6.out⟩
        |true=>
         have aY:Hid (∀d:Nat,d<y+1->GQ (CA false o (F.getD i (AC 0 0)) d) (CE false o (F.getD i (AC 0 0)) d) (K.getD (Ap F i d).1.toNat none)=true):=λj hj=>by
          rcases bW j y with q|q
          .exact HQ.out.1 j q
          .rw[show j=y by omega];exact ao.out
         clear ao;go_wp2_with fail;go_roundw;case rel=>exact⟨y+1,_,by omega,rfl,by go_num,aY.out,H6.out⟩
         case measure=>simp[intOf];omega
       .have bf:y=kn:=by omega
        subst bf;have HF:Hid (∀j,j<i+1->G j):=HA.out (aZ.out HQ.out.1);go_wp2_with fail;go_roundw;case rel=>exact⟨i+1,_,by omega,rfl,by go_num,HF.out,HQ.out.2⟩
        case measure=>simp[intOf];omega
   .have a8:i=n:=by omega
    subst a8;go_wp2_with fail
    go_ret2
    exact⟨_,_,rfl,λ_=>a3.out J.out.1,J.out.2⟩
end Go.Proofs.YtffajooegiempaaGreatDoor
