import Derived.Test.YtffajooegiempaaGreatDoorK26
set_option maxRecDepth 100000
set_option maxHeartbeats 6400000
namespace Go.Proofs.YtffajooegiempaaGreatDoor
open Go.RowKit Go.Proofs.Tryz
variable {w:World}{s:ByteArray}
def FL(f:Nat->Int)(n:Nat)(r:Int×Int):Prop:=((∀j,j<n->f j=0)/\r=(0,0))\/∃k,k<n/\(∀j,j<k->f j=0)/\f k≠0/\r=(f k,(k:Int))
theorem FL.one{f:Nat->Int}{n:Nat}{r r':Int×Int}(h:FL f n r)(h':FL f n r'):r=r':=by
 rcases h with⟨h,rfl⟩|⟨k,hk,h1,h2,rfl⟩<;>rcases h' with⟨h',rfl⟩|⟨k',ai,ag,U,rfl⟩
 .rfl
 .exact absurd (h k' ai) U
 .exact absurd (h' k hk) h2
 .have:k=k':=by
   rcases Nat.lt_trichotomy k k' with q|q|q
   .exact absurd (ag k q) h2
   .exact q
   .exact absurd (h1 k' q) U
  rw[this]
def Ad(F:List Ds)(b:List Int)(r:Int×Int):Prop:=
 match DS b with
 |none=>r=(4,0)
 |some L=>if L.length≠F.length+1 then r=(4,0)else if DY false (cE (BG L 0)) (λ_=>0) (cM (BG L 0))=false then r=(5,0)else FL (EK F L) F.length r
theorem N2:Calls prog 52 #[] w λe w'=>e=.returned (.agg (oc false λ_=>0))/\dc w w':=by
 obtain⟨d,l⟩:∃d:Nat->Int,d=λ_=>0:=⟨_,rfl⟩
 have hz:∀w,(zeroValue tO).run prog w=.ok (.agg (oc false d)) w:=by rw[l];exact Bn
 have A:Hid (∃v,(storeCells ⟨w.heap.size,0,none⟩ (oc false d).toList).run prog (w.alloc (.cells (oc false d) tO))=.ok () v/\AL v w.heap.size false d/\dc w v/\w.heap.size<v.heap.size):=by rw[l];exact Bb w false _
 have ak:(oc false d).size=65:=Am _ _;have al:¬oc false d=#[]:=λh=>by have:=congrArg Array.size h;rw[Am]at this;simp at this
 rw[<-l];clear l;obtain⟨p,an,D,z,au⟩:=A.out;have H3:Hid (AL p w.heap.size false d/\dc w p):=⟨D,z⟩
 clear D z;go_enter func52,ntmps52;go_wp2_with fail;try simp only[Exit.inBlock,Exit.then]
 refine bJ (Ag rfl _ rfl H3.out.1) rfl ?_;exact⟨rfl,H3.out.2⟩
def KB(w wr:World)(g:Nat)(L:List (Option (List Int)))(pv:Value):Prop:=At wr w.heap.size #[pv] JP/\JQ wr g L/\dc w wr
theorem KB.keep{wr w':World}{g:Nat}{L:List (Option (List Int))}{pv:Value}(h:KB w wr g L pv)(hb:dc wr w'):KB w w' g L pv:=
 ⟨h.1.keep hb h.1.lt,h.2.1.keep hb,h.2.2.trans (hb.mono h.2.2.size)⟩
theorem QM{cap:Nat}{t:Option Addr}{F:List Ds}(hG:Cr w)(hs:s.size<=9223372036854775807)(hl:F.length<=20)
  (hp:∀c,dc w c->∀g L,JQ c g L->(∀r,r∈L->F_ r)->∀k,k<F.length->Calls prog 91 #[.agg #[.slice t F.length cap],.slice (some ⟨g,0,none⟩) L.length 21,.int .i64 (k:Int)] c λe w'=>e=.returned (.int .i64 (EK F L k))/\dc c w'):
  Calls prog 57 #[.agg #[.slice t F.length cap],.string s] w λe w'=>∃a b,e=.returned (.tuple #[.int .i64 a,.int .i64 b])/\Ad F (AA s) (a,b)/\dc w w':=by
 obtain⟨d,l⟩:∃d:Nat->Int,d=λ_=>0:=⟨_,rfl⟩
 have hz:∀w,(zeroValue tO).run prog w=.ok (.agg (oc false d)) w:=by rw[l];exact Bn
 have A:Hid (∀(c:World) e M,∃v,(storeCells ⟨c.heap.size,0,none⟩ (oc e M).toList).run prog (c.alloc (.cells (oc false d) tO))=.ok () v/\AL v c.heap.size e M/\dc c v/\c.heap.size<v.heap.size):=by rw[l];exact λc e M=>Bb c e M
 have ae:Hid (∀c,Calls prog 52 #[] c λe w'=>e=.returned (.agg (oc false d))/\dc c w'):=by rw[l];exact λc=>N2
 have ad:Hid (d=λ_=>0):=l;have ak:(oc false d).size=65:=Am _ _;have al:¬oc false d=#[]:=λh=>by have:=congrArg Array.size h;rw[Am]at this;simp at this
 clear l;have S:Hid (∀c,dc w c->Calls prog 89 #[.string s] c (Wi c s)):=λc hb=>MH (hG.keep hb hG.size) hs;have HP:Hid (∀c,dc w c->∀g L,JQ c g L->(∀r,r∈L->F_ r)->∀k,k<F.length->Calls prog 91 #[.agg #[.slice t F.length cap],.slice (some ⟨g,0,none⟩) L.length 21,.int .i64 (k:Int)] c λe w'=>e=.returned (.int .i64 (EK F L k))/\dc c w'):=hp;obtain⟨n,hn⟩:∃n,n=F.length:=⟨_,rfl⟩
 have HN:Hid (n=F.length):=hn;have aj:n<=20:=by omega
 rw[<-hn];clear hp hG hn;go_enter func57,ntmps57;go_wp2_with fail;refine(S.out _ ((bC _ _).alloc (bB _) _)).mono ?_;rintro e c ⟨y,⟨P,rfl⟩|⟨L,g,P,rfl,hg,H⟩⟩
 .have HB:Hid (dc w c):=((bC _ _).alloc (bB _) _).trans (y.mono (by simp));have x:Hid (Ad F (AA s) (4,0)):=by show Ad _ _ _;unfold Ad;rw[P]
  clear y P;go_wp2_with fail
  go_ret2
  exact⟨_,_,rfl,x.out,HB.out⟩
 .have R:Hid (∀r,r∈L->F_ r):=(GM (Om s) P).2.2.2;have am:=(GM (Om s) P).2.2.1;have H1:Hid (KB w c g L (.slice t n cap)):=⟨At.keep (At.new w _ _) y (by simp),H,((bC _ _).alloc (bB _) _).trans (y.mono (by simp))⟩
  have HS:Hid (∀r,(L.length≠n+1->r=(4,0))->(L.length=n+1->if DY false (cE (BG L 0)) d (cM (BG L 0))=false then r=(5,0)else FL (EK F L) n r)->Ad F (AA s) r):=by
   intro r h1 h2;rw[ad.out]at h2;unfold Ad;rw[P,<-HN.out];show if _ then _ else _
   split
   .rename_i q;exact h1 q
   .rename_i q;exact h2 (by simpa using q)
  have C:Hid (∀c,Calls prog 67 #[.agg #[.slice t n cap]] c λe w'=>e=.returned (.int .i64 (n:Int))/\dc c w'):=λc=>(J7 t n cap c aj).mono λe w' ⟨h1,o,h2⟩=>⟨h1,by rw[h2];exact(bC _ _).alloc (bB _) _⟩
  have c0:c.cell? ⟨w.heap.size,0,none⟩=some (.slice t n cap):=H1.out.1.cell 0;clear y P H hg S;go_wp2_with fail;refine(C.out c).mono ?_;rintro e v ⟨rfl,V⟩;have H2:Hid (KB w v g L (.slice t n cap)):=H1.out.keep V;clear V c0 H1;by_cases u:L.length=n+1
  .have ab:(L.length:Int)=(n:Int)+1:=by omega
   have J:Hid (∀r,(if DY false (cE (BG L 0)) d (cM (BG L 0))=false then r=(5,0)else FL (EK F L) n r)->Ad F (AA s) r):=λr h=>HS.out r (λq=>absurd u q) (λ_=>h);have I:=λp (h:KB w p g L (.slice t n cap))=>LP h.2.1 (0:Int);have I:Hid (∀p,KB w p g L (.slice t n cap)->Calls prog 90 #[.slice (some ⟨g,0,none⟩) L.length 21,.int .i64 0] p λe w'=>e=.returned (.agg (oc (cE (BG L 0)) (cM (BG L 0))))/\dc p w'):=I;have af:Hid (∀p,KB w p g L (.slice t n cap)->∀k,k<n->Calls prog 91 #[.agg #[.slice t n cap],.slice (some ⟨g,0,none⟩) L.length 21,.int .i64 (k:Int)] p λe w'=>e=.returned (.int .i64 (EK F L k))/\dc p w'):=λp h k hk=>by
    have:=HP.out p h.2.2 g L h.2.1 R.out k (by rw[<-HN.out];exact hk);rw[<-HN.out]at this;exact this
   clear HP HS R ab;generalize L.length=m at *;subst u;generalize cE (BG L 0)=e1 at *;generalize cM (BG L 0)=M1 at *;generalize EK F L=f at *;go_wp2_with fail;refine(I.out v H2.out).mono ?_;rintro e p ⟨rfl,z⟩;obtain⟨w4,ap,E,W,av⟩:=A.out p e1 M1;have H4:Hid (AL w4 p.heap.size e1 M1/\KB w w4 g L (.slice t n cap)):=⟨E,(H2.out.keep z).keep W⟩
   clear z E W;go_wp2_with fail;refine(ae.out w4).mono ?_;rintro e w5 ⟨rfl,K⟩;obtain⟨w6,aq,G,O,aw⟩:=A.out w5 false d;have H6:Hid (AL w6 w5.heap.size false d/\AL w6 p.heap.size e1 M1/\KB w w6 g L (.slice t n cap)):=by
    have h9:AL w5 p.heap.size e1 M1:=At.keep H4.out.1 K (At.lt H4.out.1);exact⟨G,At.keep h9 O (At.lt h9),(H4.out.2.keep K).keep O⟩
   clear K G O;go_wp2_with (first|refine AH rfl (.tmp 9) rfl rfl H6.out.1 ?_|refine AH rfl (.tmp 8) rfl rfl H6.out.2.1 ?_);refine(Ia (w:=w6) (e1:=false) (e2:=e1) (M:=d) (N:=M1)).mono ?_;rintro e w7 ⟨rfl,X⟩;have H7:Hid (KB w w7 g L (.slice t n cap)):=H6.out.2.2.keep X;clear X H6;cases B:DY false e1 d M1 with
   |false=>
    have x:Hid (Ad F (AA s) (5,0)):=J.out _ (by rw[bA B]);clear B;go_wp2_with fail
    go_ret2
    exact⟨_,_,rfl,x.out,H7.out.2.2⟩
   |true=>
    have T:Hid (∀r,FL f n r->Ad F (AA s) r):=λr h=>J.out r (by rw[a_ (by rw[B];decide)];exact h);clear B J;go_wp2_with fail;go_loopw [7,10] (λ_ iv wr=>∃i:Nat,i<=n/\iv=.int .i64 (i:Int)/\Hid ((∀j,j<i->f j=0)/\KB w wr g L (.slice t n cap))) (λ_ iv _=>n-(intOf iv).toNat);case atStart=>exact⟨0,by omega,rfl,λj hj=>by omega,H7.out⟩
    case round=>
     obtain⟨i,hi,rfl,x⟩:=hrel;have c0:wr.cell? ⟨w.heap.size,0,none⟩=some (.slice t n cap):=x.out.2.1.cell 0;go_wp2_with fail;refine(C.out wr).mono ?_;rintro e w8 ⟨rfl,Y⟩;have H8:Hid (KB w w8 g L (.slice t n cap)):=x.out.2.keep Y;clear Y c0;by_cases aa:i<n
     .have ar:(i:Int)<(n:Int):=by omega
      have c0:w8.cell? ⟨w.heap.size,0,none⟩=some (.slice t n cap):=H8.out.1.cell 0;have ac:=af.out w8 H8.out i aa;go_wp2_with fail;refine ac.mono ?_;rintro e w9 ⟨rfl,Z⟩;have H9:Hid (KB w w9 g L (.slice t n cap)):=H8.out.keep Z;clear Z c0 ac;by_cases h0:f i=0
      .have Q:Hid (∀j,j<i+1->f j=0):=λj hj=>by
        rcases bW j i with q|q
        .exact x.out.1 j q
        .rw[show j=i by omega];exact h0
       rw[h0];clear h0;go_wp2_with fail;go_roundw;case rel=>exact⟨i+1,by omega,by go_num,Q.out,H9.out⟩
       case measure=>simp[intOf];omega
      .have Q:Hid (Ad F (AA s) (f i,(i:Int))):=T.out _ (.inr ⟨i,aa,x.out.1,h0,rfl⟩);go_wp2_with fail
       go_ret2
       exact⟨_,_,rfl,Q.out,H9.out.2.2⟩
     .have ah:i=n:=by omega
      subst ah;have Q:Hid (Ad F (AA s) (0,0)):=T.out _ (.inl ⟨x.out.1,rfl⟩);go_wp2_with fail
      go_ret2
      exact⟨_,_,rfl,Q.out,H8.out.2.2⟩
  .have ab:¬(L.length:Int)=(n:Int)+1:=by omega
   have x:Hid (Ad F (AA s) (4,0)):=HS.out _ (λ_=>rfl) (λq=>absurd q u);clear u;go_wp2_with fail
   go_ret2
   exact⟨_,_,rfl,x.out,H2.out.2.2⟩
theorem QN{r:Option (List Int)}(h:F_ r):∀j,j<64-> -20000000000<=cM r j/\cM r j<=1000000:=by
 cases r with
 |none=>intro j _;show -20000000000<=(0:Int)/\(0:Int)<=1000000;omega
 |some l=>exact PP (FO h)
theorem Yw{r:Option (List Int)}(h:F_ r)(i:cE r=false):Sh (cM r):=by
 cases r with
 |none=>cases i
 |some l=>exact(Ll (FO h) i).sh
theorem Ek{L:List (Option (List Int))}(h:∀r,r∈L->F_ r)(pt:Int):F_ (BG L pt):=by
 unfold BG;split
 .intro l e;cases e
 .exact Da h _
theorem F7{l:List Int}{m:Rd}{F:List Ds}{c cap:Nat}(n:AV l=some m)(f:Bj F m.st)(t:F.length<=20)(b:∀(k:Nat)(x:Ds),F[k]?=some x-> -1<=x.parent/\x.parent<(k:Int))(q:Cc w c F){g:Nat}{L:List (Option (List Int))}(p:JQ w g L)(a:∀r,r∈L->F_ r){k:Nat}(hk:k<F.length):
  Calls prog 91 #[.agg #[.slice (some ⟨c,0,none⟩) F.length cap],.slice (some ⟨g,0,none⟩) L.length 21,.int .i64 (k:Int)] w λe w'=>e=.returned (.int .i64 (EK F L k))/\dc w w':=by
 have d:=EV n f hk;have o:=Gb n (show k<m.st.length by have:=f.1.len;omega);exact MG q t b hk p d.1 (by rw[<-d.2.2.1];exact⟨o.var.1,by have:=o.var.2;omega⟩) (QN (Ek a _)) (Yw (Ek a _))
variable {C:Nat->Int}
theorem NL(h:TQ C){l:List Int}(c:l.length=4)(P:∀i, -1<=AK l i/\AK l i<=1)(h1:1<=nz l)(h2:nz l<=2){n:Int}(hn:n<=1000)(b:GJ false C l n=false):TC (E5 false C l n):=by
 obtain⟨f,L,ab,aa,B,D⟩:=Ep h.tc c P h1 h2;unfold GJ at b;unfold E5;by_cases q:Ko false C l n=true
 .rw[bA q];exact h.tc
 .rw[a_ q]at b|-;have e:lm C (CF l) (C4 l) n=sb C f n:=by rw[B,D];rfl
  rw[e]at b|-;exact(Ua h.tc (h.top.mono (by decide)) L hn).tc b
theorem ZG(h:TQ C){x:Ds}{u:St}(hx:OY x)(o:Yn u)(hc:OX x u)(m:Int)(b:CA false C x m=false):TC (CE false C x m):=by
 have y:=O8 hc;obtain⟨-,c1,c2,c3,c4⟩:=id hc;have n:=hx.num;have ht:0<=x.target/\x.target<4:=by rw[<-c1];exact⟨o.var.1,by have:=o.var.2;omega⟩
 unfold CA at b;unfold CE;rw[a_ (by decide)]at b|-;by_cases E:x.kind=0
 .rw[bA E];unfold JF;split
  .exact(QI h.tc h.top (by omega) ⟨by omega,by omega⟩ ⟨by omega,by omega⟩ (by omega)).1
  .split
   .exact(QI h.tc h.top (by omega) ⟨by omega,by omega⟩ ⟨by omega,by omega⟩ (bN _)).1
   .exact(Uj h.tc h.top (by omega) (Cx x.sg 4 (bB _)).1 ⟨by omega,by omega⟩).1
 .rw[a_ E]at b|-;have F:¬u.kind=61:=λz=>E (y.2 z);cases s:x.any with
  |true=>rw[bA rfl];exact h.tc
  |false=>
   rw[s,a_ (by decide)]at b;rw[a_ (by decide)];have d:1<=nz u.sg:=(o.fq.2 F).resolve_left (by rw[c2,s];decide);rw[c3]at d;have t:x.sg.length=4:=by rw[<-c3];exact o.g.len
   have G:nz x.sg<=2:=by rw[<-c3];exact o.g.nz
   by_cases I:m=0
   .rw[bA I]at b|-;exact NL h t hx.sg d G (by omega) b
   .rw[a_ I]at b|-;exact NL h (Cp _) (DJ hx.sg) (by rw[C9 t];exact d) (by rw[C9 t];exact G) (by omega) b
theorem Su{r:Option (List Int)}(h:F_ r)(b:cE r=false):TQ (cM r):=by
 cases r with
 |none=>cases b
 |some l=>exact Ll (FO h) b
def TX(e:Bool)(M:Nat->Int):Option (List Int)->Bool
 |none=>e
 |some p=>e||leF (bd M) (λf=>p.getD f 0) 32
theorem KG{e:Bool}{M:Nat->Int}(K:e=false->TC M){r:Option (List Int)}(hr:F_ r):DY e (cE r) M (cM r)=TX e M r:=by
 cases r with
 |none=>cases e<;>rfl
 |some p=>
  have A:=FO hr;unfold TX DY;show(if(e||ovE p)=true then e else leF M (BT p) 64)=_;cases e with
  |true=>rfl
  |false=>
   have v:=K rfl;have H:leF (bd M) (λf=>p.getD f 0) 32=true->Le M (BT p):=λh=>v.below_sharp (I2 v A (DI.1 h)) (Jd A);have J:Le M (BT p)->leF (bd M) (λf=>p.getD f 0) 32=true:=λh=>DI.2 (NM A (λa s=>cd (h a s) (Cs _ a)));cases O:ovE p with
   |true=>
    show false=(false||leF (bd M) (λf=>p.getD f 0) 32)
    cases c:leF (bd M) (λf=>p.getD f 0) 32 with
    |false=>rfl
    |true=>
     exfalso;have h:=H c
     have:By (BT p) 8=false:=II (λi hi=>by
      have a:=h (i*8+opp i) (by have:=Ah hi;omega);rw[v.zero i hi]at a
      exact a)
     rw[show By (BT p) 8=ovE p from rfl,O]at this;cases this
   |false=>
    show leF M (BT p) 64=(false||leF (bd M) (λf=>p.getD f 0) 32)
    cases c:leF (bd M) (λf=>p.getD f 0) 32 with
    |true=>exact DI.2 (H c)
    |false=>
     cases N:leF M (BT p) 64 with
     |false=>rfl
     |true=>rw[J (DI.1 N)]at c;cases c
theorem Jo:TC (λ_=>0):=by
 refine⟨?_,λ_ _=>rfl,λ_ _=>.inr rfl,λ_ _ _ _ _ _=>⟨by unfold NB;decide,by decide⟩,λ_ _ _ _=>rfl,λ_ _=>.inr (by decide)⟩;intro k _ i j _ _;exact .inr (.inr ⟨show(0:Int)≠NB by decide,show(0:Int)<=0+0 by decide⟩)
theorem MC(f:Nat):bd (λ_=>0) f=0:=by
 unfold bd;split<;>rfl
def Uk:Option (List Int)->Bool
 |none=>false
 |some p=>leF (λ_=>0) (λf=>p.getD f 0) 32
theorem Kd{r:Option (List Int)}(hr:F_ r):DY false (cE r) (λ_=>0) (cM r)=Uk r:=by
 rw[KG (λ_=>Jo) hr];cases r with
 |none=>rfl
 |some p=>
  show(false||leF (bd λ_=>0) (λf=>p.getD f 0) 32)=_;rw[show bd (λ_=>0)=λ_=>0 from funext MC];rfl
variable {M N:Nat->Int}{F:List Ds}
structure Wn(M:Nat->Int):Prop where
 tc:TC M
 box:∀i,i<8->M (i*8+i)<=1998
theorem Wn.ne(h:Wn M){i:Nat}(hi:i<8):M (i*8+i)≠NB:=by have:=h.box i hi;unfold NB;omega
theorem Wn.up(h:Wn M){i j:Nat}(hi:i<8)(m:j<8):M (i*8+j)≠NB/\M (i*8+j)<=1998:=by
 obtain⟨a,b⟩:=h.tc.half i j hi m (h.ne hi) (h.ne m);have:=h.box i hi;have:=h.box j m;exact⟨a,by omega⟩
theorem Wn.lo(h:Wn M){i j:Nat}(hi:i<8)(m:j<8): -1998<=M (i*8+j):=by
 have t:=h.tc.tri (opp j) (Ah m) i (opp i) hi (Ah hi);rw[h.tc.zero i hi,CL j m]at t;have a:=h.up hi m;have b:=h.up (Ah m) (Ah hi);rcases t with q|q|q
 .exact absurd q a.1
 .exact absurd q b.1
 .omega
theorem Wn.all(h:Wn M){k:Nat}(hk:k<64):M k≠NB/\ -1998<=M k/\M k<=1998:=by
 have e:k=k/8*8+k%8:=by omega
 rw[e];have a:=h.up (i:=k/8) (j:=k%8) (by omega) (by omega);exact⟨a.1,h.lo (by omega) (by omega),a.2⟩
theorem Wn.tq(h:Wn M):TQ M:=⟨h.tc,λk hk=>.inr (by have:=h.all hk;omega),λk hk=>by have:=h.all hk;omega⟩
theorem M7:Wn (λ_=>0):=⟨Jo,λ_ _=>by show(0:Int)<=1998;omega⟩
theorem C1(M N:Nat->Int){a:Nat}(v:a<64):(jF M N 64 a=M a\/jF M N 64 a=N a)/\M a<=jF M N 64 a/\N a<=jF M N 64 a:=by
 rw[KH];by_cases q:a<64/\M a<N a
 .rw[bA q];exact⟨.inr rfl,by omega,bN _⟩
 .rw[a_ q];exact⟨.inl rfl,bN _,by omega⟩
theorem RE(h:Wn M)(k:Wn N):Wn (jF M N 64):=by
 have fin:∀{a:Nat},a<64->jF M N 64 a≠NB/\jF M N 64 a<=1998:=λ{a} v=>by
  rcases(C1 M N v).1 with e|e<;>rw[e]
  .exact⟨(h.all v).1,(h.all v).2.2⟩
  .exact⟨(k.all v).1,(k.all v).2.2⟩
 refine⟨⟨?_,?_,?_,?_,?_,?_⟩,λi hi=>(fin (by omega)).2⟩
 .intro s hs i j hi m;have o1:=Ah hs;have B:=C1 M N (a:=i*8+j) (by omega);have J:=C1 M N (a:=i*8+opp s) (by omega);have K:=C1 M N (a:=s*8+j) (by omega);refine .inr (.inr ⟨(fin (by omega)).1,?_⟩);have t1:=h.tc.tri s hs i j hi m;have t2:=k.tc.tri s hs i j hi m;have n1:=h.up hi o1;have n2:=h.up hs m;have n3:=k.up hi o1;have n4:=k.up hs m;rcases t1 with q|q|q
  .exact absurd q n1.1
  .exact absurd q n2.1
  .rcases t2 with r|r|r
   .exact absurd r n3.1
   .exact absurd r n4.1
   .rcases B.1 with e|e<;>rw[e]<;>omega
 .intro i hi;have o:=Ah hi;rcases(C1 M N (a:=i*8+opp i) (by omega)).1 with e|e<;>rw[e]
  .exact h.tc.zero i hi
  .exact k.tc.zero i hi
 .intro i hi;rcases(C1 M N (a:=i*8+i) (by omega)).1 with e|e<;>rw[e]
  .exact h.tc.even i hi
  .exact k.tc.even i hi
 .intro i j hi m _ _;refine⟨(fin (by omega)).1,?_⟩;have B:=C1 M N (a:=i*8+j) (by omega);have J:=C1 M N (a:=i*8+i) (by omega);have K:=C1 M N (a:=j*8+j) (by omega);have t1:=(h.tc.half i j hi m (h.ne hi) (h.ne m)).2;have t2:=(k.tc.half i j hi m (k.ne hi) (k.ne m)).2;rcases B.1 with e|e<;>rw[e]<;>omega
 .intro i j hi m;rw[KH,KH,h.tc.sym i j hi m,k.tc.sym i j hi m];by_cases q:M (j*8+i)<N (j*8+i)
  .rw[bA ⟨by omega,q⟩,bA ⟨by omega,q⟩]
  .rw[a_ (λz=>q z.2),a_ (λz=>q z.2)]
 .intro a v;have:=fin v;exact .inr (by omega)
def YS(l:List Int):Bool:=decide (1<nz l)||(if CF l=C4 l then decide (CF (Dv l)=opp (CF l))&&decide (C4 (Dv l)=opp (CF l))else true)
theorem Ur:(OO.all λa=>OO.all λb=>OO.all λc=>OO.all λd=>YS [a,b,c,d])=true:=by decide +kernel
theorem ZD{l:List Int}(hl:l.length=4)(h:∀i, -1<=AK l i/\AK l i<=1)(h1:nz l<=1)(u:CF l=C4 l):CF (Dv l)=opp (CF l)/\C4 (Dv l)=opp (CF l):=by
 have t:YS l=true:=by
  obtain⟨a,b,c,d,rfl⟩:=C0 hl;have t:=Ur;simp only[List.all_eq_true]at t;exact t a (Ca (h 0)) b (Ca (h 1)) c (Ca (h 2)) d (Ca (h 3))
 unfold YS at t;rw[bT (by omega:¬1<nz l),Bool.false_or,bA u,cA]at t;exact⟨ce t.1,ce t.2⟩
theorem Gr(h:Wn M){i:Nat}(hi:i<8):2*mo M i i=M (i*8+i):=by
 exact((Lg h.tc hi).2 (h.ne hi)).1
theorem Jp(h:Wn M){x:Ds}(hx:DQ x)(hs:DF false M x=true)(A:Int)(u:CA false M x A=false):Wn (CE false M x A):=by
 have n:=hx.g.num;have ht:=hx.tg;have R:=h.tq;unfold DF at hs;unfold CA at u;unfold CE;rw[a_ (by decide)]at hs u|-;by_cases I:x.kind=0
 .rw[bA I]at hs|-;unfold JF;have Y:∀{lo hi:Int}, -999<=lo->hi<=999->lo<=hi->Wn (FI M x.target.toNat lo hi):=λ{lo hi} h1 h2 h3=>by
   have G: -999<=lo/\lo<=999:=⟨h1,by omega⟩
   have E: -999<=hi/\hi<=999:=⟨by omega,h2⟩
   refine⟨(QI h.tc R.top (by omega) G E h3).1,λi y=>?_⟩;rw[Dx M (by omega) G E y y];unfold Po;by_cases Q:C6 x.target.toNat i
   .rw[bA Q,bA Q,bA rfl];split<;>omega
   .rw[a_ Q,a_ Q];exact h.box i y
  by_cases a:x.any=true
  .rw[bA a];exact Y (by omega) (by omega) (by omega)
  .rw[a_ a];rw[show x.any=false by simpa using a,Bool.false_or]at hs;unfold ftB at hs;obtain⟨g1,g2,g3,g4⟩:=ce hs;by_cases q:CF x.sg=opp (C4 x.sg)
   .rw[bA q];exact Y (by omega) (by omega) (bN _)
   .rw[a_ q];have D:=(Cx x.sg 4 (bB _)).1;have e:=(Tu hx.len hx.g.sg (hx.fa I)).resolve_right q;have ng:=ZD hx.len hx.g.sg (hx.fa I) e;have w:CF x.sg<8:=D;refine⟨(Uj h.tc R.top (by omega) D ⟨by omega,by omega⟩).1,λi hi=>?_⟩;rw[Hd M _ _ _ hi hi];have u1:FC M x.sg=mo M (CF x.sg) (CF x.sg):=by unfold FC;rw[<-e]
    have u2:FC M (Dv x.sg)=mo M (opp (CF x.sg)) (opp (CF x.sg)):=by unfold FC;rw[ng.1,ng.2]
    have d1:=Gr h w;have d2:=Gr h (Ah w);have b0:=h.box i hi;unfold Ak BK;by_cases O:i=2*x.target.toNat
    .rw[bA O,bA O];unfold pl;rw[a_ (λz=>z.elim (h.ne w) (λq=>by unfold NB at q;omega))];rw[u1]at g3;omega
    .rw[a_ O,a_ O];by_cases P:i=2*x.target.toNat+1
     .rw[bA P,bA P];unfold pl;rw[a_ (λz=>z.elim (h.ne (Ah w)) (λq=>by unfold NB at q;omega))];rw[u2]at g4;omega
     .rw[a_ P,a_ P];unfold pl;rw[a_ (λz=>z.elim (h.ne hi) (λq=>by unfold NB at q;omega))];omega
 .rw[a_ I]at hs u|-;cases v:x.any with
  |true=>rw[bA rfl];exact h
  |false=>
   rw[v,a_ (by decide)]at u;rw[a_ (by decide)];have H:1<=nz x.sg:=(hx.fc I).resolve_left (by rw[v];decide);have fin:∀{l:List Int}{c:Int},l.length=4->(∀i, -1<=AK l i/\AK l i<=1)->1<=nz l->nz l<=2->c<=1000->GJ false M l c=false->Wn (E5 false M l c):=λ{l c} B J K X a5 a6=>by
    refine⟨NL R B J K X a5 a6,λi hi=>?_⟩;obtain⟨f,D,aa,S,U,V⟩:=Ep h.tc B J K X;unfold E5;by_cases q:Ko false M l c=true
    .rw[bA q];exact h.box i hi
    .rw[a_ q];have e:lm M (CF l) (C4 l) c=sb M f c:=by rw[U,V];rfl
     rw[e];have W:=Cs (sb M f c) (i*8+i);have hc:¬FC M l<=c:=by
      unfold Ko at q;simpa using q
     rw[S]at hc;rw[EZ M D (by unfold NB;omega) hi hi]at W;have b0:=h.box i hi;split at W
     .rename_i z;obtain⟨n1,n2,n3,n4,n5,n6⟩:=FE f D;have L:f<8:=by
       rcases bW f 8 with r|r
       .exact r
       .exact absurd (show fs f=ss f by omega) (G7 f D r)
      rw[bA L]at W;have hb:bd M f=mo M f f:=by
       obtain⟨q1,q2⟩:=Eo f L;unfold bd mo;rw[q1,q2]
      have hd:=Gr h L;have T:i=f:=by
       obtain⟨q1,q2⟩:=Eo f L;omega
      rw[hb]at hc;rw[<-T]at hc hd;omega
     .omega
   by_cases w0:A=0
   .rw[bA w0]at u|-;exact fin hx.len hx.g.sg H hx.nz2 (by omega) u
   .rw[a_ w0]at u|-;exact fin (Cp _) (DJ hx.g.sg) (by rw[C9 hx.len];exact H) (by rw[C9 hx.len];exact hx.nz2) (by omega) u
def GC(p:Pl):Prop:=(p.e=false/\Wn p.M)\/(p.e=true/\p.M=λ_=>0)
def Bf(s:SS):Prop:=∀i,GC (s.1.getD i p0)
theorem GC.p0:GC p0:=.inr ⟨rfl,rfl⟩
theorem GC.rg{p:Pl}(h:GC p):Ym p:=by
 rcases h with⟨h1,h2⟩|⟨h1,h2⟩
 .exact⟨λj m=>by have:=h2.all m;omega,λ_=>h2.tq.sh⟩
 .exact⟨λj _=>by rw[h2];show -20000000000<=(0:Int)/\(0:Int)<=1000000;omega,λq=>by rw[h1]at q;cases q⟩
theorem GC.sm{p:Pl}(h:GC p):Sm p.M:=λk hk=>by have:=h.rg.1 k hk;omega
theorem KF{s:SS}(h:Bf s)(k:Nat){p:Pl}(hp:GC p)(b:Bool):Bf (s.1.set k p,b):=by
 intro i;show GC ((s.1.set k p).getD i Go.Proofs.YtffajooegiempaaGreatDoor.p0);rcases bW k s.1.length with q|q
 .rw[DB q];split
  .exact hp
  .exact h i
 .rw[List.set_eq_of_length_le q];exact h i
theorem Na{s:SS}(h:Bf s)(pt:Int){e:Bool}{M:Nat->Int}(C:e=false->Wn M):Bf (DR s pt e M):=by
 unfold DR;split
 .exact h
 .split
  .exact h
  .rename_i q;have u:e=false:=by
    cases e with
    |false=>rfl
    |true=>exact absurd rfl q
   have Z:=C u;refine KF h _ ?_ true;subst u;rcases h pt.toNat with⟨h1,h2⟩|⟨h1,h2⟩
   .refine .inl ⟨?_,?_⟩
    .show Hn _ false=false;rw[h1];rfl
    .show Wn (GF _ false _ M);rw[h1];exact RE h2 Z
   .refine .inl ⟨?_,?_⟩
    .show Hn _ false=false;rw[h1];rfl
    .show Wn (GF _ false _ M);rw[h1];exact Z
theorem Km{s:SS}(h:Bf s){k:Nat}(hx:DQ (F.getD k (AC 0 0))){e:Bool}{M:Nat->Int}(C:e=false->Wn M)(hs:DF e M (F.getD k (AC 0 0))=true):∀n,Bf (GH F k e M s n)
 |0=>h
 |n+1=>by
  refine Na (Km h hx C hs n) _ λu=>?_;cases e with
  |true=>cases u
  |false=>exact Jp (C rfl) hx hs n u
theorem TG{s:SS}(h:Bf s){k:Nat}(hx:k<F.length->DQ (F.getD k (AC 0 0))){e:Bool}{M:Nat->Int}(C:e=false->Wn M):Bf (Dp F k e M s):=by
 unfold Dp;split
 .rename_i q;split
  .rename_i hs;exact Km h (hx q) C hs _
  .exact h
 .exact h
theorem T0{s:SS}(h:Bf s){k:Nat}(hx:k<F.length->DQ (F.getD k (AC 0 0))):Bf (Fz F k s):=by
 unfold Fz;split
 .refine TG (KF h _ ?_ _) hx ?_
  .rcases h k with q|q
   .exact .inl q
   .exact .inr q
  .intro u;rcases h k with q|q
   .exact q.2
   .rw[q.1]at u;cases u
 .exact h
theorem DW{s:SS}(h:Bf s)(hx:∀k,k<F.length->DQ (F.getD k (AC 0 0))):∀n,Bf (C3 F s n)
 |0=>h
 |n+1=>T0 (DW h hx n) (hx n)
theorem Qf(hx:∀k,k<F.length->DQ (F.getD k (AC 0 0))):∀r {s:SS},Bf s->Bf (F9 F r s)
 |0,_,h=>h
 |r+1,s,h=>by
  rw[F9];split
  .exact Qf hx r (DW h hx _)
  .exact h
theorem TZ(F:List Ds):∀r (s:SS),(F9 F r s).1.length=s.1.length
 |0,_=>rfl
 |r+1,s=>by
  rw[F9];split
  .rw[TZ F r,DD]
  .rfl
def GK(n:Nat):SS:=DR (List.replicate (n+1) p0,false) 0 false (λ_=>0)
def B3(F:List Ds):SS:=F9 F 2685334 (GK F.length)
theorem ID(n:Nat):Bf (GK n):=by
 refine Na (λi=>?_) _ λ_=>M7;show GC ((List.replicate (n+1) p0).getD i p0);rw[bG,List.getElem?_replicate];split<;>exact GC.p0
theorem MD(n:Nat):(GK n).1.length=n+1:=by unfold GK;rw[J4];simp
theorem KA(hx:∀k,k<F.length->DQ (F.getD k (AC 0 0))):Bf (B3 F):=Qf hx _ (ID _)
theorem JY(F:List Ds):(B3 F).1.length=F.length+1:=by unfold B3;rw[TZ,MD]
end Go.Proofs.YtffajooegiempaaGreatDoor
