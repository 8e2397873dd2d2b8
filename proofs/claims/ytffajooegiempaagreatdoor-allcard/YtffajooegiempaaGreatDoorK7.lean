import Derived.Test.YtffajooegiempaaGreatDoorK6
set_option maxRecDepth 100000
set_option maxHeartbeats 6400000
namespace Go.Proofs.YtffajooegiempaaGreatDoor
open Go.RowKit Go.Proofs.Tryz
theorem TC.below_rd{C T:Nat->Int}(g:TC C)(h:Le C T)(hi:∀a,a<64->T a<=NB):Le C (Ef T 8):=by
 intro a l;rw[KX];have h1:=h a l;split
 .rename_i q;have e:a=a/9*8+a/9:=by omega
  have h3:=hi a l;rcases g.even (a/9) q.2.1 with z|z
  .rw[<-e]at z;have:=q.2.2;omega
  .rw[<-e]at z;omega
 .exact h1
theorem TC.below_ah{C T:Nat->Int}(g:TC C)(h:Le C T)(hi:∀a,a<64->T a<=NB):∀k,k<=64->Le C (Ea T k):=by
 intro k;induction k with
 |zero=>intro _;exact h
 |succ k ih=>
  intro hk;have h1:=ih (by omega);have r:∀a,a<64->Ea T k a<=NB:=λa l=>cd (Is T k a) (hi a l);rw[Ea];generalize Ea T k=S at h1 r;intro a l;unfold SZ;split
  .rename_i q;unfold Bw;split
   .rename_i e;obtain⟨q1,q2,U⟩:=GU q.1;have P:k/8<8:=by omega
    have Q:k%8<8:=by omega
    have l1:=h1 (k/8*8+k/8) (by omega);have l2:=h1 (k%8*8+k%8) (by omega);have u1:=r (k/8*8+k/8) (by omega);have u2:=r (k%8*8+k%8) (by omega);have I:=(g.half (k/8) (k%8) P Q (by omega) (by omega)).2;rw[show k/8*8+k%8=k by omega]at I;rw[e,U];have t:=ER (S (k/8*8+k/8)+S (k%8*8+k%8));rcases cR (S (k/8*8+k/8)+S (k%8*8+k%8)) 0 with c|c
    .rw[t.2 c];omega
    .rw[t.1 c];omega
   .exact h1 a l
  .exact h1 a l
theorem TC.below_sharp{C M:Nat->Int}(g:TC C)(h:Le C M)(hi:∀a,a<64->M a<=NB):Le C (Aj M):=by
 have h1:=NO g.tri h hi 8 (bB _);have D:∀a,a<64->fw M 8 a<=NB:=λa l=>cd (F8 M 8 a) (hi a l);have h2:=g.below_rd h1 D;exact g.below_ah h2 (λa l=>cd (Hx _ 8 a) (D a l)) 64 (bB _)
theorem DI{M N:Nat->Int}:∀{n:Nat},leF M N n=true↔∀k,k<n->M k<=N k:=by
 intro n;induction n with
 |zero=>exact⟨λ_ k hk=>absurd hk (by omega),λ_=>rfl⟩
 |succ n ih=>
  show(leF M N n&&decide (M n<=N n))=true↔_;rw[cA,ih,cD];constructor
  .rintro⟨h1,h2⟩ k hk;rcases bX (ch.1 hk)with e|e
   .exact h1 k e
   .rw[e];exact h2
  .intro h;exact⟨λk hk=>h k (by omega),h n (by omega)⟩
theorem II{M:Nat->Int}:∀{n:Nat},(∀i,i<n->0<=M (i*8+opp i))->By M n=false:=by
 intro n;induction n with
 |zero=>intro _;rfl
 |succ n ih=>
  intro h;rw[By,ih (λi hi=>h i (by omega))];have:=h n (by omega);rw[bT (by omega)];rfl
theorem I2{C:Nat->Int}{p:List Int}(g:TC C)(m:B_ p)(h:∀f,f<32->bd C f<=p.getD f 0):Le C (FW p 32):=by
 intro a l;have e:a=a/8*8+a%8:=by omega
 have hi:a/8<8:=by omega
 have u:a%8<8:=by omega
 rw[e];generalize a/8=i at hi;generalize a%8=j at u;by_cases e1:j=opp i
 .rw[e1,Gs p i hi,g.zero i hi];exact bN _
 .rw[Hp p hi u e1];have top:∀k,k<64->C k<=NB:=λk hk=>by
   rcases g.top k hk with q|q
   .omega
   .unfold NB;omega
  by_cases e2:i=j
  .subst e2;rw[Gv];have b:=J0 p hi;by_cases q:p.getD i 0=NB
   .rw[b.1 q];exact top _ (by omega)
   .rw[b.2 q];have h1:=h i (by omega);have h2:=(Iz (m.2 i (by omega))).resolve_left q;by_cases z:C (i*8+i)=NB
    .rw[(g.lo hi).1 z]at h1;unfold NB at h1;omega
    .have:=((g.lo hi).2 z).1;omega
  .rw[NS p hi u e2 e1];have h1:=h (nf i j) (DN i hi j u e1).1;rw[IC g.sym hi u e2 e1]at h1;exact h1
theorem Jd{p:List Int}(m:B_ p):∀a,a<64->FW p 32 a<=NB:=λa _=>(EA p 32 m.2 a).2
theorem NM{C:Nat->Int}{p:List Int}(m:B_ p)(h:Le C (FW p 32)):∀f,f<32->bd C f<=p.getD f 0:=by
 intro f s;have a:=D5 f s;have b:=D7 f s
 have:=Wo (o:=p) (M:=λk=>if k<64 then C k else FW p 32 k) m.2 (λk=>by
  show(if k<64 then C k else FW p 32 k)<=_;split
  .rename_i hk;exact h k hk
  .exact bN _) f s
 have e:bd (λk=>if k<64 then C k else FW p 32 k) f=bd C f:=by
  unfold bd;simp only[bA (show fs f*8+ss f<64 by omega)]
 rw[e]at this;exact this
def Wx(o p:List Int):Bool:=ovE o||leF (bd (BT o)) (λf=>p.getD f 0) 32
theorem Wd{o p:List Int}(K:B_ o)(m:B_ p):DY (ovE o) (ovE p) (BT o) (BT p)=Wx o p:=by
 unfold DY Wx;cases H:ovE o with
 |true=>rfl
 |false=>
  have g:TC (BT o):=(Db K).tc H;have F:leF (bd (BT o)) (λf=>p.getD f 0) 32=true->Le (BT o) (BT p):=λh=>g.below_sharp (I2 g m (DI.1 h)) (Jd m);have G:Le (BT o) (BT p)->leF (bd (BT o)) (λf=>p.getD f 0) 32=true:=λh=>DI.2 (NM m (λa l=>cd (h a l) (Cs _ a)));cases L:ovE p with
  |true=>
   show false=(false||leF (bd (BT o)) (λf=>p.getD f 0) 32)
   cases v:leF (bd (BT o)) (λf=>p.getD f 0) 32 with
   |false=>rfl
   |true=>
    exfalso;have h:=F v
    have:By (BT p) 8=false:=II (λi hi=>by
     have a:=h (i*8+opp i) (by have:=Ah hi;omega);rw[g.zero i hi]at a
     exact a)
    rw[show By (BT p) 8=ovE p from rfl,L]at this;cases this
  |false=>
   show leF (BT o) (BT p) 64=(false||leF (bd (BT o)) (λf=>p.getD f 0) 32)
   cases v:leF (bd (BT o)) (λf=>p.getD f 0) 32 with
   |true=>exact DI.2 (F v)
   |false=>
    cases J:leF (BT o) (BT p) 64 with
    |false=>rfl
    |true=>rw[G (DI.1 J)]at v;cases v
def Tj(R S:Nat->Int)(f:Nat):Int:=if R f<S f then S f else R f
theorem KH(M N:Nat->Int):∀k a,jF M N k a=if a<k/\M a<N a then N a else M a:=by
 intro k;induction k with
 |zero=>intro a;rw[a_ (by omega)];rfl
 |succ k ih=>
  intro a;rw[jF];have hk:jF M N k k=M k:=by rw[ih,a_ (by omega)]
  rw[hk];by_cases e:a=k
  .subst e;by_cases c:M a<N a
   .rw[bA c,CV,bA ⟨by omega,c⟩]
   .rw[a_ c,ih,a_ (by omega),a_ (λz=>c z.2)]
  .have:(if M k<N k then Bw (jF M N k) k (N k)else jF M N k) a=jF M N k a:=by
    split
    .exact BO _ _ e
    .rfl
   rw[this,ih];by_cases q:a<k/\M a<N a
   .rw[bA q,bA ⟨by omega,q.2⟩]
   .rw[a_ q,a_ (λz=>q ⟨by omega,z.2⟩)]
theorem MB{M N:Nat->Int}{f:Nat}(w:M (fs f*8+ss f)<=NB)(A:N (fs f*8+ss f)<=NB)(h:M (fs f*8+ss f)<=N (fs f*8+ss f)):bd M f<=bd N f:=by
 unfold bd;generalize M (fs f*8+ss f)=x at *;generalize N (fs f*8+ss f)=y at *;have tx:=ER x;have B:=ER y;have hx:=cR x 0;have O:=cR y 0;unfold NB at *;by_cases e:fs f=ss f
 .by_cases E:y=1000000
  .rw[a_ (show¬(fs f=ss f/\y≠1000000)from λz=>z.2 E)];split
   .rcases hx with c|c
    .rw[tx.2 c];omega
    .rw[tx.1 c];omega
   .omega
  .rw[bA (show fs f=ss f/\y≠1000000 from⟨e,E⟩),bA (show fs f=ss f/\x≠1000000 from⟨e,by omega⟩)];rcases hx with c|c
   .rw[tx.2 c];rcases O with d|d
    .rw[B.2 d];omega
    .rw[B.1 d];omega
   .rw[tx.1 c,B.1 (by omega)];omega
 .rw[a_ (show¬(fs f=ss f/\y≠1000000)from λz=>e z.1),a_ (show¬(fs f=ss f/\x≠1000000)from λz=>e z.1)];exact h
theorem W2{M N:Nat->Int}(w:∀a,a<64->M a<=NB)(A:∀a,a<64->N a<=NB){f:Nat}(s:f<32):bd (jF M N 64) f=Tj (bd M) (bd N) f:=by
 have k:fs f*8+ss f<64:=by have:=D5 f s;have:=D7 f s;omega
 have e:=KH M N 64 (fs f*8+ss f);unfold Tj;by_cases c:M (fs f*8+ss f)<N (fs f*8+ss f)
 .rw[bA ⟨k,c⟩]at e;have h1:bd (jF M N 64) f=bd N f:=by unfold bd;rw[e]
  have h2:=MB (w _ k) (A _ k) (Int.le_of_lt c);rw[h1];split<;>omega
 .rw[a_ (λz=>c z.2)]at e;have h1:bd (jF M N 64) f=bd M f:=by unfold bd;rw[e]
  have h2:=MB (f:=f) (A _ k) (w _ k) (by omega);rw[h1,a_ (by omega)]
def Jh(f:Nat):Nat:=nf (opp (fs f)) (opp (ss f))
theorem Tk:∀f:Nat,f<32->Jh f<32/\kdT f (Jh f)=1/\Jh f≠f:=by decide +kernel
theorem TC.pick1c{C:Nat->Int}(h:TC C){c:Int}(hc:bd C 1=NB\/0<=c+bd C 1):∃v,SK (bd C) v 4/\sd v 0<=c:=by
 have hr:=h.rd;obtain⟨a,G,a2,Y⟩:∃a:Int,a<=c/\(bd C 0=NB\/a<=bd C 0)/\(bd C 1=NB\/ -a<=bd C 1):=by
  have z:bd C 0=NB\/bd C 1=NB\/0<=bd C 0+bd C 1:=by
   by_cases B:bd C 0=NB
   .exact .inl B
   .by_cases p:bd C 1=NB
    .exact .inr (.inl p)
    .exact .inr (.inr (hr.zer 0 1 (by omega) (by omega) (by decide +kernel) B p))
  generalize bd C 0=x at *;generalize bd C 1=y at *;by_cases q:x=NB
  .exact⟨c,bN _,.inl q,hc.imp id (λh=>by omega)⟩
  .by_cases p:c<=x
   .exact⟨c,bN _,.inr p,hc.imp id (λh=>by omega)⟩
   .exact⟨x,by omega,.inr (bN _),(z.resolve_left q).imp id (λh=>by omega)⟩
 have k1:SK (bd C) (λ_=>a) 1:=by
  refine⟨λi hi=>?_,λi j hi H e1 e2=>?_⟩
  .rcases(show i=0\/i=1 by omega)with rfl|rfl
   .exact a2
   .exact Y
  .exfalso;rcases(show i=0\/i=1 by omega)with rfl|rfl
   .rcases(show j=0\/j=1 by omega)with rfl|rfl
    .exact e1 rfl
    .exact e2 rfl
   .rcases(show j=0\/j=1 by omega)with rfl|rfl
    .exact e2 rfl
    .exact e1 rfl
 have w:∀f,f<32->bd C f=NB\/bd C f<=432000:=λf d=>h.bd_top d;obtain⟨t2,k2⟩:=IL (by decide) VC (by decide) w hr k1;obtain⟨t3,k3⟩:=IL (by decide) VC (by decide) w hr k2;obtain⟨t4,k4⟩:=IL (by decide) VC (by decide) w hr k3;exact⟨_,k4,G⟩
theorem TC.pick2c{C:Nat->Int}(h:TC C){c:Int}(ae:c<=bd C 8)(hc:bd C 11=NB\/0<=c+bd C 11):∃v,SK (bd C) v 4/\sd v 0+sd v 2<=c:=by
 have hr:=h.rd;have w:∀f,f<32->bd C f=NB\/bd C f<=432000:=λf d=>h.bd_top d;have Z:∀f g,f<32->g<32->kdT f g=1->bd C f≠NB->bd C g≠NB->0<=bd C f+bd C g:=λf g d E k B p=>hr.zer f g d E k B p;have S:∀f g n,f<32->g<32->(kdT f g=3/\nmT f g=n)->bd C f≠NB->bd C g≠NB->bd C n≠NB/\bd C n<=bd C f+bd C g:=λf g n d E k B p=>by
  have:=hr.sum f g d E k.1 B p;rw[k.2]at this;have a:=(w f d).resolve_left B;have b:=(w g E).resolve_left p;unfold NB;exact⟨by omega,this⟩
 have D:∀f g n,f<32->g<32->(kdT f g=2/\nmT f g=n)->bd C f≠NB->bd C g≠NB->bd C n≠NB/\2*bd C n<=bd C f+bd C g:=λf g n d E k B p=>by
  have:=hr.dou f g d E k.1 B p;rw[k.2]at this;have a:=(w f d).resolve_left B;have b:=(w g E).resolve_left p;unfold NB;exact⟨by omega,by omega⟩
 have z1:=Z 0 1 (by omega) (by omega) (by decide +kernel);have z2:=Z 2 3 (by omega) (by omega) (by decide +kernel);have z4:=Z 9 10 (by omega) (by omega) (by decide +kernel);have F:=S 1 3 11 (by omega) (by omega) (by decide +kernel);have d2:=D 10 11 1 (by omega) (by omega) (by decide +kernel);have t1:=S 9 2 0 (by omega) (by omega) (by decide +kernel);have t5:=S 9 1 3 (by omega) (by omega) (by decide +kernel);have t6:=S 11 2 1 (by omega) (by omega) (by decide +kernel);have t7:=S 10 3 1 (by omega) (by omega) (by decide +kernel);have hn:(1000000:Int)=NB:=rfl;obtain⟨a,b,h0,h1,h2,h3,h9,L,M,ab⟩:∃a b:Int,(bd C 0=NB\/a<=bd C 0)/\(bd C 1=NB\/ -a<=bd C 1)/\(bd C 2=NB\/b<=bd C 2)/\(bd C 3=NB\/ -b<=bd C 3)/\(bd C 9=NB\/a-b<=bd C 9)/\(bd C 10=NB\/ -a+b<=bd C 10)/\(bd C 11=NB\/ -a-b<=bd C 11)/\a+b<=c:=by
  clear w hr S D Z;generalize bd C 0=r0 at *;generalize bd C 1=r1 at *;generalize bd C 2=r2 at *;generalize bd C 3=r3 at *;generalize bd C 9=r9 at *;generalize bd C 10=r10 at *;generalize bd C 11=r11 at *;obtain⟨a,A,G,Y,a9⟩:∃a:Int,(r0=NB\/a<=r0)/\(r1=NB\/a= -r1)/\(r3=NB\/a<=c+r3)/\(r9=NB\/2*a<=c+r9):=by
   by_cases q:r1=NB
   .refine⟨min (min r0 (c+r3)) (min (c+r9) 0),.inr (by omega),.inl q,.inr (by omega),.inr (by omega)⟩
   .refine⟨-r1,?_,.inr rfl,?_,?_⟩
    .by_cases q0:r0=NB
     .exact .inl q0
     .have:=z1 q0 q;exact .inr (by omega)
    .by_cases q3:r3=NB
     .exact .inl q3
     .have:=F q q3;have:=hc.resolve_left this.1;exact .inr (by omega)
    .by_cases q9:r9=NB
     .exact .inl q9
     .have x:=t5 q9 q;have y:=F q x.1;have:=hc.resolve_left y.1;exact .inr (by omega)
  have o:∀b:Int,(b=c-a\/(r2≠NB/\b=r2)\/(r10≠NB/\b=r10+a))->(r3=NB\/ -b<=r3)/\(r9=NB\/a-b<=r9)/\(r11=NB\/ -a-b<=r11):=by
   intro b hb;refine⟨?_,?_,?_⟩
   .by_cases q:r3=NB
    .exact .inl q
    .have y:=Y.resolve_left q;rcases hb with e|⟨e1,e⟩|⟨e1,e⟩
     .exact .inr (by omega)
     .have:=z2 e1 q;exact .inr (by omega)
     .have x:=t7 e1 q;have:=G.resolve_left x.1;exact .inr (by omega)
   .by_cases q:r9=NB
    .exact .inl q
    .have y:=a9.resolve_left q;rcases hb with e|⟨e1,e⟩|⟨e1,e⟩
     .exact .inr (by omega)
     .have x:=t1 q e1;have:=A.resolve_left x.1;exact .inr (by omega)
     .have:=z4 q e1;exact .inr (by omega)
   .by_cases q:r11=NB
    .exact .inl q
    .have y:=hc.resolve_left q;rcases hb with e|⟨e1,e⟩|⟨e1,e⟩
     .exact .inr (by omega)
     .have x:=t6 q e1;have:=G.resolve_left x.1;exact .inr (by omega)
     .have x:=d2 e1 q;have:=G.resolve_left x.1;exact .inr (by omega)
  have l:r1=NB\/ -a<=r1:=G.imp id (λh=>by omega);by_cases p:r2=NB
  .by_cases u:r10=NB
   .obtain⟨r,s,t⟩:=o (c-a) (.inl rfl);exact⟨a,c-a,A,l,.inl p,r,s,.inl u,t,by omega⟩
   .by_cases m:c-a<=r10+a
    .obtain⟨r,s,t⟩:=o (c-a) (.inl rfl);exact⟨a,c-a,A,l,.inl p,r,s,.inr (by omega),t,by omega⟩
    .obtain⟨r,s,t⟩:=o (r10+a) (.inr (.inr ⟨u,rfl⟩));exact⟨a,r10+a,A,l,.inl p,r,s,.inr (by omega),t,by omega⟩
  .by_cases u:r10=NB
   .by_cases m:c-a<=r2
    .obtain⟨r,s,t⟩:=o (c-a) (.inl rfl);exact⟨a,c-a,A,l,.inr (by omega),r,s,.inl u,t,by omega⟩
    .obtain⟨r,s,t⟩:=o r2 (.inr (.inl ⟨p,rfl⟩));exact⟨a,r2,A,l,.inr (by omega),r,s,.inl u,t,by omega⟩
   .by_cases m:c-a<=r10+a
    .by_cases m2:c-a<=r2
     .obtain⟨r,s,t⟩:=o (c-a) (.inl rfl);exact⟨a,c-a,A,l,.inr (by omega),r,s,.inr (by omega),t,by omega⟩
     .obtain⟨r,s,t⟩:=o r2 (.inr (.inl ⟨p,rfl⟩));exact⟨a,r2,A,l,.inr (by omega),r,s,.inr (by omega),t,by omega⟩
    .by_cases m2:r10+a<=r2
     .obtain⟨r,s,t⟩:=o (r10+a) (.inr (.inr ⟨u,rfl⟩));exact⟨a,r10+a,A,l,.inr (by omega),r,s,.inr (by omega),t,by omega⟩
     .obtain⟨r,s,t⟩:=o r2 (.inr (.inl ⟨p,rfl⟩));exact⟨a,r2,A,l,.inr (by omega),r,s,.inr (by omega),t,by omega⟩
 have q8:bd C 8=NB\/a+b<=bd C 8:=.inr (by omega)
 .have k2:SK (bd C) (GX (λ_=>a) 1 b) 2:=by
   have R:sd (GX (λ_=>a) 1 b) 0=a:=rfl;have T:sd (GX (λ_=>a) 1 b) 1= -a:=rfl;have U:sd (GX (λ_=>a) 1 b) 2=b:=rfl;have V:sd (GX (λ_=>a) 1 b) 3= -b:=rfl;refine⟨λi hi=>?_,λi j hi H e1 e2=>?_⟩
   .rcases(show i=0\/i=1\/i=2\/i=3 by omega)with rfl|rfl|rfl|rfl
    .rw[R];exact h0
    .rw[T];exact h1
    .rw[U];exact h2
    .rw[V];exact h3
   .have n1:nf 0 2=8/\nf 2 0=8/\nf 0 3=9/\nf 3 0=9/\nf 1 2=10/\nf 2 1=10/\nf 1 3=11/\nf 3 1=11:=by decide
    obtain⟨m1,m2,m3,m4,m5,m6,m7,m8⟩:=n1;rcases(show i=0\/i=1\/i=2\/i=3 by omega)with rfl|rfl|rfl|rfl
    .rcases(show j=0\/j=1\/j=2\/j=3 by omega)with rfl|rfl|rfl|rfl
     .exact absurd rfl e1
     .exact absurd rfl e2
     .rw[R,U,m1];exact q8
     .rw[R,V,m3];exact h9.imp id (λh=>by omega)
    .rcases(show j=0\/j=1\/j=2\/j=3 by omega)with rfl|rfl|rfl|rfl
     .exact absurd rfl e2
     .exact absurd rfl e1
     .rw[T,U,m5];exact L
     .rw[T,V,m7];exact M.imp id (λh=>by omega)
    .rcases(show j=0\/j=1\/j=2\/j=3 by omega)with rfl|rfl|rfl|rfl
     .rw[U,R,m2];exact q8.imp id (λh=>by omega)
     .rw[U,T,m6];exact L.imp id (λh=>by omega)
     .exact absurd rfl e1
     .exact absurd rfl e2
    .rcases(show j=0\/j=1\/j=2\/j=3 by omega)with rfl|rfl|rfl|rfl
     .rw[V,R,m4];exact h9.imp id (λh=>by omega)
     .rw[V,T,m8];exact M.imp id (λh=>by omega)
     .exact absurd rfl e2
     .exact absurd rfl e1
  obtain⟨af,k3⟩:=IL (by decide) VC (by decide) w hr k2;obtain⟨ag,k4⟩:=IL (by decide) VC (by decide) w hr k3;exact⟨_,k4,ab⟩
theorem TC.back{C:Nat->Int}(h:TC C){f:Nat}(d:f<32){v:Nat->Int}(P:SK (bd (Uv f C)) v 4):∃J,Ej J C/\∀b,b<8->sd J b=sd v (GZ f b):=by
 obtain⟨Q,I,X,F⟩:=Kb f d;have hs:=(h.trn d).sat P;have hb:∀b,b<8->sd (λx=>sd v (GZ f (2*x))) b=sd v (GZ f b):=by
  intro b hb;by_cases e:b%2=0
  .unfold sd;rw[bA e];show sd v (GZ f (2*(b/2)))=sd v (GZ f b);rw[show 2*(b/2)=b by omega]
  .have ho:opp b=2*(b/2):=by unfold opp;rw[a_ e];omega
   have e1:sd (λx=>sd v (GZ f (2*x))) b= -sd v (GZ f (2*(b/2))):=by
    show(if b%2=0 then sd v (GZ f (2*(b/2)))else -sd v (GZ f (2*(b/2))))=_;rw[a_ e]
   rw[e1,<-ho,Q6 d hb,FR,Int.neg_neg]
 refine⟨λx=>sd v (GZ f (2*x)),λi j hi H=>?_,hb⟩;rw[hb i hi,hb j H];have:=hs (GZ f i) (GZ f j) (I i hi).1 (I j H).1;rw[Ch f C (I j H).1,(I i hi).2,(I j H).2]at this;exact this
theorem Lh:∀f:Nat,f<32->(f<8->fs (Jh f)=opp f/\ss (Jh f)=opp f)/\(8<=f->opp (fs f)≠opp (ss f)/\opp (ss f)≠opp (opp (fs f))):=by decide +kernel
theorem TC.low{C:Nat->Int}(h:TC C){f:Nat}(d:f<32){c:Int}(ac:c<=bd C f)(hc:bd C (Jh f)=NB\/0<=c+bd C (Jh f)):∃v,Ej v C/\K_ v f<=c:=by
 obtain⟨Q,I,X,F⟩:=Kb f d;have hT:=h.trn d;have N:=D5 f d;have O:=D7 f d;have e0:GZ f (fs f)=0:=by rw[<-X];exact(Q 0 (by omega)).2.2
 have m1:Mu f 1=opp (fs f):=by rw[<-X];exact(Q 0 (by omega)).2.1
 by_cases K:f<8
 .have ff:=Eo f K;have e1:bd (Uv f C) 1=bd C (Jh f):=by
   obtain⟨g1,g2⟩:=(Lh f d).1 K;have z0:fs 1=1/\ss 1=1:=by decide
   unfold bd;rw[z0.1,z0.2,Ch f C (by omega),m1,g1,g2,ff.1];simp
  obtain⟨v,P,e⟩:=hT.pick1c (c:=c) (by rw[e1];exact hc);obtain⟨J,h1,h2⟩:=h.back d P;refine⟨J,h1,?_⟩;unfold K_;rw[bA K,h2 f K];rw[ff.1]at e0;rw[e0];exact e
 .have ad:=G7 f d (by omega);have m3:Mu f 3=opp (ss f):=by rw[<-F (by omega)];exact(Q 2 (by omega)).2.1
  have e8:bd (Uv f C) 8=bd C f:=by
   unfold bd;have W:fs 8=0/\ss 8=2:=by decide
   rw[W.1,W.2,Ch f C (by omega),X,F (by omega),a_ (λq=>absurd q.1 (by decide)),a_ (λq=>ad q.1)]
  have aa:bd (Uv f C) 11=bd C (Jh f):=by
   obtain⟨g1,g2⟩:=(Lh f d).2 (by omega);have W:fs 11=1/\ss 11=3:=by decide
   have x:bd C (Jh f)=C (opp (fs f)*8+opp (ss f)):=IC h.sym (Ah N) (Ah O) g1 g2;rw[x];unfold bd;rw[W.1,W.2,Ch f C (by omega),m1,m3,a_ (λq=>absurd q.1 (by decide))]
  obtain⟨v,P,e⟩:=hT.pick2c (c:=c) (by rw[e8];exact ac) (by rw[aa];exact hc);obtain⟨J,h1,h2⟩:=h.back d P;refine⟨J,h1,?_⟩;have e2:GZ f (ss f)=2:=by rw[<-F (by omega)];exact(Q 2 (by omega)).2.2
  unfold K_;rw[a_ K,h2 _ N,h2 _ O,e0,e2];exact e
structure P7(M R:Nat->Int):Prop where
 raw:NI M
 hi:∀f,f<32->R f<=NB
 un:Un R M
 ab:Ab (Aj M) R
theorem P7.some{M R:Nat->Int}(h:P7 M R)(w:By (Aj M) 8=false)(n:Nat):∃R',EO R n=some R'/\Ab (Aj M) R'/\∀f,f<32->R' f<=NB:=I0 (h.raw.tc w) h.hi h.ab n
theorem P7.done{M B:Nat->Int}(t:P7 M B){n:Nat}{R R':Nat->Int}(h:EO B n=Option.some R)(h2:Kq R=Option.some (R',false)):By (Aj M) 8=false/\∀f,f<32->R' f=bd (Aj M) f:=by
 have Q:=Fp t.hi n R h;have hI:=EW Q 1024 (bB _) R' false h2;have hs:=hI.same rfl;have Z:=T7 Q h2;have ai:Ku R R:=⟨λf _=>bN _,Z.zer,λf g d l k G H=>by rw[<-hs _ (G_ d l (.inl k))];exact Z.dou f g d l k G H,λf g d l k G H=>by rw[<-hs _ (G_ d l (.inr k))];exact Z.sum f g d l k G H⟩
 have S:∀m R1,EO B m=Option.some R1->∀f,f<32->R1 f<=B f:=by
  intro m;induction m with
  |zero=>intro R1 e f _;cases e;exact bN _
  |succ m ih=>
   intro R1 e f d;obtain⟨U,b,e1,e2⟩:=Dq e;have ac:=Fp t.hi m U e1;exact cd ((EW ac 1024 (bB _) _ b e2).le f d) (ih U e1 f d)
 have h0:Un R M:=by
  have u:=t.un;refine⟨λi hi q=>?_,λi j hi o h1 O q=>?_,u.zer⟩
  .have a:=u.dia i hi q;have b:=S n R h i (by omega);omega
  .have a:=u.off i j hi o h1 O q;have b:=S n R h (nf i j) (DN i hi j o O).1;omega
 have hu:=ai.un t.raw h0;cases w:By (Aj M) 8 with
 |true=>
  obtain⟨i,hi,q⟩:=Gi w;have:=hu.zer i hi;omega
 |false=>
  obtain⟨R1,e,a,hi⟩:=t.some w n;have:R1=R:=bV (e.symm.trans h);subst this;refine⟨rfl,λf d=>?_⟩;rw[hs f d];exact hu.eqs (t.raw.tc w) a hi f d
def XH(m:Nat)(R:Nat->Int):Prop:=∀f,f<32-> -(20000000000*((Ks m).getD f 0:Int))<=R f
theorem UQ{m:Nat}(hm:m<4096){R:Nat->Int}(h:XH m R){b:Bool}{R':Nat->Int}{b':Bool}{f g:Nat}(ef:f=m/32%32)(eg:g=m%32)(e:Lw R b f g=some (R',b')):XH (m+1) R':=by
 have d:f<32:=by omega
 have l:g<32:=by omega
 have s:=Mp R b d l;rw[e]at s;have K:=Pv (My m (by omega)) d l;have hS:Ks (m+1)=RA (Ks m) f g:=by rw[Io hm,ef,eg]
 cases s with
 |same _=>
  intro x hx;have:=h x hx;have:=K.1 x;rw[hS];omega
 |put n c G H hn en hc hk=>
  intro x hx;rw[hS];unfold Bw;split
  .rename_i ex;have a:=h f d;have a':=h g l;rcases hk with⟨k,X⟩|⟨k,X⟩
   .have:=K.2.1 k;rw[ex,en,X];omega
   .have:=K.2.2 k;rw[ex,en,X];omega
  .have:=h x hx;have:=K.1 x;omega
theorem WD{R:Nat->Int}(h:∀f,f<32-> -20000000000<=R f):∀k,k<=1024->∀R' b,rF R k=some (R',b)->XH k R':=by
 intro k;induction k with
 |zero=>
  intro _ R' b e;rw[rF]at e;cases e
  intro f d;have:=h f d;have:(Ks 0).getD f 0=1:=(show∀f:Nat,f<32->(Ks 0).getD f 0=1 by decide +kernel) f d;rw[this];omega
 |succ k ih=>
  intro hk R' b e;rw[rF]at e;generalize hp:rF R k=p at e
  match p,hp,e with
  |some (R1,V),hp,e=>
   exact UQ (by omega) (ih (by omega) R1 V hp) (by omega) (by omega) e
theorem RB:(tb 8).length=32/\(tb 8).all (λx=>decide (x<=20000))=true:=by decide +kernel
theorem SB{m:Nat}(hm:m<=1024){x:Nat}(hx:x<32):(Ks m).getD x 0<=20000:=by
 have h:=List.all_eq_true.1 RB.2;have a:=Kg m (1024-m) x (by omega);have e:Ks (m+(1024-m))=tb 8:=by rw[show m+(1024-m)=1024 by omega];rfl
 rw[e]at a;have F:=RB.1
 have b:=h ((tb 8).getD x 0) (by
  rw[List.getD,bP (by omega)]
  exact List.getElem_mem _)
 have:=ce b;omega
theorem P7.nov{M B:Nat->Int}(t:P7 M B)(ae:∀k,k<64-> -20000000000<=M k)(hR:∀f,f<32-> -20000000000<=B f)(aa:By (Aj M) 8=true->EO B 1=none){n:Nat}{R:Nat->Int}(h:EO B n=Option.some R):Wl R:=by
 have hi:=Fp t.hi n R h;intro k hk R' b e f d;have up:R' f<=1000000:=by
  have:=(EW hi k hk R' b e).le f d;have:=hi f d;unfold NB at this;omega
 refine⟨?_,up⟩;cases w:By (Aj M) 8 with
 |true=>
  have hn:n=0:=by
   rcases Nat.eq_zero_or_pos n with c|c
   .exact c
   .have:=IU (aa w) (n-1);rw[show 1+(n-1)=n by omega,h]at this;cases this
  subst hn;cases h
  have a:=WD hR k hk R' b e f d;have c:=SB hk d;omega
 |false=>
  have K:=t.raw.tc w;obtain⟨R1,e1,a,ad⟩:=t.some w n;have:R1=R:=bV (e1.symm.trans h);subst this;obtain⟨U,W,e2,E,_⟩:=KR K a ad k hk;have e3:(R',b)=(U,W):=bV (e.symm.trans e2);cases e3
  have x:=E f d;have T:Lo 33592320000000001 (Aj M):=Oi (by decide) (Mk (QW (L:=20000000000) (by decide) ae 8 (bB _)) 8) 64 (bB _);have y:=QG (by decide) T d;omega
theorem OP(M:Nat->Int)(hM:∀a,a<64->M a<=NB):∀f,f<32->bd (Aj M) f<=bd M f:=by
 intro f d;have k1:=D5 f d;have k2:=D7 f d;exact MB (cd (Cs M _) (hM _ (by omega))) (hM _ (by omega)) (Cs M _)
theorem TC.hi{C:Nat->Int}(h:TC C):∀a,a<64->C a<=NB:=by
 intro a P;rcases h.top a P with q|q
 .omega
 .unfold NB;omega
theorem TC.un{C:Nat->Int}(h:TC C):Un (bd C) C:=by
 refine⟨λi hi q=>?_,λi j hi o h1 h2 q=>?_,λi hi=>?_⟩
 .have:=((h.lo hi).2 q).1;omega
 .rw[IC h.sym hi o h1 h2];exact bN _
 .rw[h.zero i hi];exact bN _
theorem TC.bd_hi{C:Nat->Int}(h:TC C){f:Nat}(d:f<32):bd C f<=NB:=by
 rcases h.bd_top d with q|q
 .omega
 .unfold NB;omega
theorem TC.doc{C:Nat->Int}(h:TC C)(hb:Bd 60000 C):P7 C (bd C):=
 ⟨⟨hb,h.sym,h.zero⟩,λ_ d=>h.bd_hi d,h.un,OP C h.hi⟩
theorem TC.sharp_eq{C:Nat->Int}(h:TC C):∀a,a<64->Aj C a=C a:=by
 intro a P;have h1:=Cs C a;have h2:=h.below_sharp (λa _=>bN _) h.hi a P;omega
theorem TC.sharp_con{C:Nat->Int}(h:TC C):By (Aj C) 8=false:=by
 refine II λi hi=>?_;rw[h.sharp_eq _ (by have:=Ah hi;omega),h.zero i hi];exact bN _
theorem TC.sharp_bd_eq{C:Nat->Int}(h:TC C){f:Nat}(d:f<32):bd (Aj C) f=bd C f:=by
 have k1:=D5 f d;have k2:=D7 f d;unfold bd;rw[h.sharp_eq _ (by omega)]
def Hq(C:Nat->Int)(f:Nat)(c:Int):Nat->Int:=λg=>if g=f then c else bd C g
theorem EZ(C:Nat->Int){f:Nat}(d:f<32){c:Int}(hc:c≠NB){i j:Nat}(_hi:i<8)(o:j<8):sb C f c (i*8+j)=if(i=fs f/\j=ss f)\/(i=ss f/\j=fs f)then(if f<8 then 2*c else c)else C (i*8+j):=by
 obtain⟨N,E,A,I,r,J⟩:=FE f d;have e:(if fs f=ss f/\c≠NB then 2*c else c)=if f<8 then 2*c else c:=by
  by_cases q:f<8
  .rw[bA q,bA ⟨by rw[(r q).1,(r q).2],hc⟩]
  .rw[a_ q,a_ (λz=>J (by omega) z.1)]
 unfold sb;rw[e];generalize(if f<8 then 2*c else c)=y;unfold Bw;by_cases G:i*8+j=ss f*8+fs f
 .rw[bA G,bA (.inr (by omega))]
 .rw[a_ G];by_cases H:i*8+j=fs f*8+ss f
  .rw[bA H,bA (.inl (by omega))]
  .rw[a_ H,a_ (by omega)]
theorem Lk{f:Nat}(d:f<32){i:Nat}(hi:i<8):¬((i=fs f/\opp i=ss f)\/(i=ss f/\opp i=fs f)):=by
 obtain⟨N,E,A,I,r,J⟩:=FE f d;rintro(⟨e1,e2⟩|⟨e1,e2⟩)
 .exact I (by rw[<-e1];exact e2.symm)
 .exact I (by rw[<-e2,CL i hi];exact e1.symm)
variable {C:Nat->Int}{f:Nat}{c:Int}
theorem Ua(h:TC C)(hb:Bd 60000 C)(d:f<32)(hc:c<=1000):NI (sb C f c):=by
 have hn:c≠NB:=by unfold NB;omega
 refine⟨λa P=>?_,λi j hi o=>?_,λi hi=>?_⟩
 .rw[show a=a/8*8+a%8 by omega,EZ C d hn (by omega) (by omega)];split
  .split
   .exact .inr (by omega)
   .exact .inr (by omega)
  .exact hb _ (by omega)
 .rw[EZ C d hn hi o,EZ C d hn o hi];generalize(if f<8 then 2*c else c)=y;by_cases q:(i=fs f/\j=ss f)\/(i=ss f/\j=fs f)
  .rw[bA q,bA (by omega)]
  .rw[a_ q,a_ (by omega)];exact h.sym i j hi o
 .rw[EZ C d hn hi (Ah hi),a_ (Lk d hi)];exact h.zero i hi
theorem ZM(_h:TC C)(d:f<32)(hc:c<=1000){g:Nat}(l:g<32):bd (sb C f c) g=Hq C f c g:=by
 have hn:c≠NB:=by unfold NB;omega
 have ag:2*c≠NB:=by unfold NB;omega
 obtain⟨N,E,A,I,r,J⟩:=FE f d;obtain⟨V,W,b3,b4,b5,b6⟩:=FE g l;have hE:sb C f c (fs g*8+ss g)=if g=f then(if f<8 then 2*c else c)else C (fs g*8+ss g):=by
  rw[EZ C d hn V W];generalize(if f<8 then 2*c else c)=y;by_cases e:g=f
  .rw[bA e,bA (.inl (by rw[e];exact⟨rfl,rfl⟩))]
  .rw[a_ e,a_];rintro(⟨e1,e2⟩|⟨e1,e2⟩)
   .exact e (by rw[<-b3,<-A,e1,e2])
   .exact e (by rw[<-b3,<-A,e1,e2,Jg _ (D7 f d) _ (D5 f d)])
 unfold Hq bd;rw[hE];by_cases e:g=f
 .rw[bA e,bA e];by_cases q:f<8
  .rw[bA q,bA ⟨by rw[e,(r q).1,(r q).2],ag⟩];have:=ER (2*c);rcases cR (2*c) 0 with z|z
   .rw[this.2 z];omega
   .rw[this.1 z];omega
  .rw[a_ q,a_ (λz=>J (by omega) (by rw[<-e];exact z.1))]
 .rw[a_ e,a_ e]
theorem W_(h:TC C)(d:f<32)(hc:c<=1000):∀a,a<64->sb C f c a<=NB:=by
 have hn:c≠NB:=by unfold NB;omega
 intro a P;rw[show a=a/8*8+a%8 by omega,EZ C d hn (by omega) (by omega)];split
 .split<;>(unfold NB;omega)
 .exact h.hi _ (by omega)
theorem Pp(h:TC C)(hb:Bd 60000 C)(d:f<32)(hc:c<=1000):P7 (sb C f c) (Hq C f c):=by
 have hn:c≠NB:=by unfold NB;omega
 obtain⟨N,E,A,I,r,J⟩:=FE f d;refine⟨Ua h hb d hc,λg l=>?_,⟨λi hi q=>?_,λi j hi o h1 h2 q=>?_,λi hi=>?_⟩,λg l=>?_⟩
 .unfold Hq;split
  .unfold NB;omega
  .exact h.bd_hi l
 .rw[EZ C d hn hi hi]at q|-;unfold Hq;by_cases e:i=f
  .have D:f<8:=by omega
   rw[bA e,bA (.inl (by rw[(r D).1,(r D).2];exact⟨e,e⟩)),bA D];exact bN _
  .have ah:¬((i=fs f/\i=ss f)\/(i=ss f/\i=fs f)):=by
    intro z;have z1:fs f=i:=by omega
    have z2:ss f=i:=by omega
    rw[z1,z2,Gv]at A;exact e A
   rw[a_ ah]at q|-;rw[a_ e];have:=((h.lo hi).2 q).1;omega
 .rw[EZ C d hn hi o]at q|-;unfold Hq;by_cases e:(i=fs f/\j=ss f)\/(i=ss f/\j=fs f)
  .have e2:nf i j=f:=by
    rcases e with⟨e1,e2⟩|⟨e1,e2⟩
    .rw[e1,e2];exact A
    .rw[e1,e2,Jg _ E _ N];exact A
   have D:¬f<8:=λz=>by have:=r z;omega
   rw[bA e,a_ D,bA e2];exact bN _
  .have e2:nf i j≠f:=by
    intro z;obtain⟨_,n2⟩:=DN i hi j o h2;rw[z]at n2;exact e (by omega)
   rw[a_ e]at q|-;rw[a_ e2,IC h.sym hi o h1 h2];exact bN _
 .rw[EZ C d hn hi (Ah hi),a_ (Lk d hi),h.zero i hi];exact bN _
 .rw[<-ZM h d hc l];exact OP _ (W_ h d hc) g l
theorem Pn{v:Nat->Int}(hv:Ej v C)(d:f<32)(hc:c<=1000)(F:K_ v f<=c):Ej v (sb C f c):=by
 have hn:c≠NB:=by unfold NB;omega
 obtain⟨N,E,A,I,r,J⟩:=FE f d;intro i j hi o;rw[EZ C d hn hi o];unfold K_ at F;split
 .rename_i e
  right
  by_cases D:f<8
  .rw[bA D]at F|-;have:=r D;have e1:i=f:=by omega
   have e2:j=f:=by omega
   rw[e1,e2];omega
  .rw[a_ D]at F|-;rcases e with⟨e1,e2⟩|⟨e1,e2⟩
   .rw[e1,e2];exact F
   .rw[e1,e2];omega
 .exact hv i j hi o
theorem UY(h:TC C)(hb:Bd 60000 C)(d:f<32)(hc:c<=1000)(af:c<=bd C f)(w:By (Aj (sb C f c)) 8=true):EO (Hq C f c) 1=none:=by
 cases e1:EO (Hq C f c) 1 with
 |none=>rfl
 |some R1=>
  exfalso;have t:=Pp h hb d hc;obtain⟨n1,n2,n3⟩:=Tk f d;have hr:=Hm t.hi (n:=0) (R1:=Hq C f c) rfl e1;have Y:bd C (Jh f)=NB\/0<=c+bd C (Jh f):=by
   by_cases q:bd C (Jh f)=NB
   .exact .inl q
   .right
    have r1:Hq C f c f=c:=bA rfl;have r2:Hq C f c (Jh f)=bd C (Jh f):=a_ n3;have:=hr.zer f (Jh f) d n1 n2 (by rw[r1];unfold NB;omega) (by rw[r2];exact q);rw[r1,r2]at this;exact this
  obtain⟨v,hv,F⟩:=h.low d af Y;have:=(Pn hv d hc F).sharp.some;rw[w]at this;cases this
variable {w:World}
theorem Tm{l:List Int}{j:Nat}(h:ND l j=none):∀d,ND l (j+d)=none
 |0=>h
 |d+1=>by
  show(match ND l (j+d)with|none=>none|some (x,y)=>_)=none;rw[Tm h d]
theorem Tl{l:List Int}{j:Nat}(I:j<4)(h:ND l (j+1)=none):Ar l= -1:=by
 have:=Tm h (3-j);rw[show j+1+(3-j)=4 by omega]at this;unfold Ar;rw[this]
theorem Tn{l:List Int}{j:Nat}{x y:Int}(h:ND l j=some (x,y)):ND l (j+1)=if AK l j< -1\/AK l j>1\/(AK l j≠0/\0<=y)then none else some (if AK l j≠0/\x<0 then(j:Int)else x,if AK l j≠0/\0<=x then(j:Int)else y):=by
 rw[ND,h]
theorem V1{l:List Int}{x y:Int}(h:ND l 4=some (x,y)):Ar l=if x<0 then -1 else if y<0 then 2*x+(1-AK l x.toNat).tdiv 2 else 8+4*((x*(8-x-1)).tdiv 2+y-x-1)+(1-AK l x.toNat).tdiv 2*2+(1-AK l y.toNat).tdiv 2:=by
 unfold Ar;rw[h]
theorem Cg{a b:Int}(h:a=b):Ending.returned (.int .i64 a)=.returned (.int .i64 b):=by rw[h]
theorem Fd(u:Value)(l:List Int)(J:l.length=4)(K:AQ w u l)(m:∀i,i<4-> -5000<=AK l i/\AK l i<=5000):
  Calls prog 98 #[u] w λe w'=>e=.returned (.int .i64 (Ar l))/\dc w w':=by
 obtain⟨au,cu,rfl,C,F⟩:=K;obtain⟨p,off,rfl,hp,t⟩:=F (by omega);have k:Hid (∀i,i<4->w.cell? ⟨p,off+i,none⟩=some (.int .i64 (AK l i))):=λi hi=>t i (by omega);rw[J];clear F t C;go_enter func98,ntmps98;go_wp2_with fail;go_loopw [3,4,5] (λL M i wr=>∃(j:Nat)(x y:Int),j<=4/\L=.int .i64 x/\M=.int .i64 y/\i=.int .i64 j/\wr=w/\Hid (ND l j=some (x,y))/\ -1<=x/\x<4/\ -1<=y/\y<4) (λ_ _ i _=>4-(intOf i).toNat);case atStart=>exact⟨0, -1, -1,by omega,rfl,rfl,rfl,rfl,rfl,by omega,by omega,by omega,by omega⟩
 case round=>
  obtain⟨j,x,y,I,rfl,rfl,rfl,rfl,E,x1,x2,y1,y2⟩:=hrel;by_cases v:j<4
  .have aa:(j:Int)<4:=by omega
   have g:=k.out j v;have hb:=m j v;have o:Hid (ND l (j+1)=_):=Tn E.out;generalize AK l j=a at *;by_cases e1:a< -1
   .have f:Hid (Ar l= -1):=Tl v ((o.out).trans (bA (by exact .inl e1)));go_wp2_with fail;go_ret;exact⟨by rw[f.out];rfl,bC _ _⟩
   .by_cases e2:1<a
    .have f:Hid (Ar l= -1):=Tl v ((o.out).trans (bA (by exact .inr (.inl e2))));go_wp2_with fail;go_ret;exact⟨by rw[f.out];rfl,bC _ _⟩
    .by_cases z:a=0
     .have B:(a != 0)=false:=by rw[z];rfl
      have A:Hid (ND l (j+1)=some (x,y)):=by
       show ND l (j+1)=_;rw[o.out,a_ (by omega),a_ (λq=>q.1 z),a_ (λq=>q.1 z)]
      go_wp2_with fail;go_roundw;case rel=>exact⟨j+1,_,_,by omega,rfl,rfl,by go_num,by simp,(A.out),by omega,by omega,by omega,by omega⟩
      case measure=>simp[intOf];omega
     .have B:(a != 0)=true:=by rw[cI];exact z
      by_cases G:0<=y
      .have f:Hid (Ar l= -1):=Tl v ((o.out).trans (bA (by exact .inr (.inr ⟨z,G⟩))));go_wp2_with fail;go_ret;exact⟨by rw[f.out];rfl,bC _ _⟩
      .by_cases H:0<=x
       .have A:Hid (ND l (j+1)=some (x,(j:Int))):=by
         show ND l (j+1)=_;rw[o.out,a_ (by omega),a_ (λq=>by omega),bA ⟨z,H⟩]
        go_wp2_with fail;go_roundw;case rel=>exact⟨j+1,_,_,by omega,rfl,rfl,by go_num,by simp,(A.out),by omega,by omega,by omega,by omega⟩
        case measure=>simp[intOf];omega
       .have A:Hid (ND l (j+1)=some ((j:Int),y)):=by
         show ND l (j+1)=_;rw[o.out,a_ (by omega),bA ⟨z,by omega⟩,a_ (λq=>by omega)]
        go_wp2_with fail;go_roundw;case rel=>exact⟨j+1,_,_,by omega,rfl,rfl,by go_num,by simp,(A.out),by omega,by omega,by omega,by omega⟩
        case measure=>simp[intOf];omega
  .have D:j=4:=by omega
   subst D;have r:Hid (Ar l=_):=V1 E.out;by_cases e1:x<0
   .have f:Hid (Ar l= -1):=r.out.trans (bA e1);go_wp2_with fail;go_ret;exact⟨by rw[f.out];rfl,bC _ _⟩
   .by_cases e2:y<0
    .rcases(show x=0\/x=1\/x=2\/x=3 by omega)with rfl|rfl|rfl|rfl
     .have g:=k.out 0 (by omega);have hb:=m 0 (by omega);have f:Hid (Ar l=2*0+(1-AK l 0).tdiv 2):=r.out.trans ((a_ (by omega)).trans (bA e2));try rw[bZ]at g
      generalize AK l 0=a at *;have s:=AW (1-a);go_wp2_with fail;go_ret;exact⟨by rw[f.out];exact Cg (by omega),bC _ _⟩
     .have g:=k.out 1 (by omega);have hb:=m 1 (by omega);have f:Hid (Ar l=2*1+(1-AK l 1).tdiv 2):=r.out.trans ((a_ (by omega)).trans (bA e2));try rw[bZ]at g
      generalize AK l 1=a at *;have s:=AW (1-a);go_wp2_with fail;go_ret;exact⟨by rw[f.out];exact Cg (by omega),bC _ _⟩
     .have g:=k.out 2 (by omega);have hb:=m 2 (by omega);have f:Hid (Ar l=2*2+(1-AK l 2).tdiv 2):=r.out.trans ((a_ (by omega)).trans (bA e2));try rw[bZ]at g
      generalize AK l 2=a at *;have s:=AW (1-a);go_wp2_with fail;go_ret;exact⟨by rw[f.out];exact Cg (by omega),bC _ _⟩
     .have g:=k.out 3 (by omega);have hb:=m 3 (by omega);have f:Hid (Ar l=2*3+(1-AK l 3).tdiv 2):=r.out.trans ((a_ (by omega)).trans (bA e2));try rw[bZ]at g
      generalize AK l 3=a at *;have s:=AW (1-a);go_wp2_with fail;go_ret;exact⟨by rw[f.out];exact Cg (by omega),bC _ _⟩
    .rcases(show x=0\/x=1\/x=2\/x=3 by omega)with rfl|rfl|rfl|rfl
     .rcases(show y=0\/y=1\/y=2\/y=3 by omega)with rfl|rfl|rfl|rfl
      .have g:=k.out 0 (by omega);have hb:=m 0 (by omega);have n:=k.out 0 (by omega);have hc:=m 0 (by omega);have f:Hid (Ar l=8+4*(-1)+(1-AK l 0).tdiv 2*2+(1-AK l 0).tdiv 2):=r.out.trans ((a_ (by omega)).trans (a_ (by omega)));try rw[bZ]at g
       try rw[bZ]at n
       generalize AK l 0=a at *;generalize AK l 0=c at *;have s:=AW (1-a);have tc:=AW (1-c);go_wp2_with fail;go_quiet (fail);go_wp2_with fail;go_ret;exact⟨by rw[f.out];exact Cg (by omega),bD (bC _ _) _⟩
      .have g:=k.out 0 (by omega);have hb:=m 0 (by omega);have n:=k.out 1 (by omega);have hc:=m 1 (by omega);have f:Hid (Ar l=8+4*(0)+(1-AK l 0).tdiv 2*2+(1-AK l 1).tdiv 2):=r.out.trans ((a_ (by omega)).trans (a_ (by omega)));try rw[bZ]at g
       try rw[bZ]at n
       generalize AK l 0=a at *;generalize AK l 1=c at *;have s:=AW (1-a);have tc:=AW (1-c);go_wp2_with fail;go_quiet (fail);go_wp2_with fail;go_ret;exact⟨by rw[f.out];exact Cg (by omega),bD (bC _ _) _⟩
      .have g:=k.out 0 (by omega);have hb:=m 0 (by omega);have n:=k.out 2 (by omega);have hc:=m 2 (by omega);have f:Hid (Ar l=8+4*(1)+(1-AK l 0).tdiv 2*2+(1-AK l 2).tdiv 2):=r.out.trans ((a_ (by omega)).trans (a_ (by omega)));try rw[bZ]at g
       try rw[bZ]at n
       generalize AK l 0=a at *;generalize AK l 2=c at *;have s:=AW (1-a);have tc:=AW (1-c);go_wp2_with fail;go_quiet (fail);go_wp2_with fail;go_ret;exact⟨by rw[f.out];exact Cg (by omega),bD (bC _ _) _⟩
      .have g:=k.out 0 (by omega);have hb:=m 0 (by omega);have n:=k.out 3 (by omega);have hc:=m 3 (by omega);have f:Hid (Ar l=8+4*(2)+(1-AK l 0).tdiv 2*2+(1-AK l 3).tdiv 2):=r.out.trans ((a_ (by omega)).trans (a_ (by omega)));try rw[bZ]at g
       try rw[bZ]at n
       generalize AK l 0=a at *;generalize AK l 3=c at *;have s:=AW (1-a);have tc:=AW (1-c);go_wp2_with fail;go_quiet (fail);go_wp2_with fail;go_ret;exact⟨by rw[f.out];exact Cg (by omega),bD (bC _ _) _⟩
     .rcases(show y=0\/y=1\/y=2\/y=3 by omega)with rfl|rfl|rfl|rfl
      .have g:=k.out 1 (by omega);have hb:=m 1 (by omega);have n:=k.out 0 (by omega);have hc:=m 0 (by omega);have f:Hid (Ar l=8+4*(1)+(1-AK l 1).tdiv 2*2+(1-AK l 0).tdiv 2):=r.out.trans ((a_ (by omega)).trans (a_ (by omega)));try rw[bZ]at g
       try rw[bZ]at n
       generalize AK l 1=a at *;generalize AK l 0=c at *;have s:=AW (1-a);have tc:=AW (1-c);go_wp2_with fail;go_quiet (fail);go_wp2_with fail;go_ret;exact⟨by rw[f.out];exact Cg (by omega),bD (bC _ _) _⟩
      .have g:=k.out 1 (by omega);have hb:=m 1 (by omega);have n:=k.out 1 (by omega);have hc:=m 1 (by omega);have f:Hid (Ar l=8+4*(2)+(1-AK l 1).tdiv 2*2+(1-AK l 1).tdiv 2):=r.out.trans ((a_ (by omega)).trans (a_ (by omega)));try rw[bZ]at g
       try rw[bZ]at n
       generalize AK l 1=a at *;generalize AK l 1=c at *;have s:=AW (1-a);have tc:=AW (1-c);go_wp2_with fail;go_quiet (fail);go_wp2_with fail;go_ret;exact⟨by rw[f.out];exact Cg (by omega),bD (bC _ _) _⟩
      .have g:=k.out 1 (by omega);have hb:=m 1 (by omega);have n:=k.out 2 (by omega);have hc:=m 2 (by omega);have f:Hid (Ar l=8+4*(3)+(1-AK l 1).tdiv 2*2+(1-AK l 2).tdiv 2):=r.out.trans ((a_ (by omega)).trans (a_ (by omega)));try rw[bZ]at g
       try rw[bZ]at n
       generalize AK l 1=a at *;generalize AK l 2=c at *;have s:=AW (1-a);have tc:=AW (1-c);go_wp2_with fail;go_quiet (fail);go_wp2_with fail;go_ret;exact⟨by rw[f.out];exact Cg (by omega),bD (bC _ _) _⟩
      .have g:=k.out 1 (by omega);have hb:=m 1 (by omega);have n:=k.out 3 (by omega);have hc:=m 3 (by omega);have f:Hid (Ar l=8+4*(4)+(1-AK l 1).tdiv 2*2+(1-AK l 3).tdiv 2):=r.out.trans ((a_ (by omega)).trans (a_ (by omega)));try rw[bZ]at g
       try rw[bZ]at n
       generalize AK l 1=a at *;generalize AK l 3=c at *;have s:=AW (1-a);have tc:=AW (1-c);go_wp2_with fail;go_quiet (fail);go_wp2_with fail;go_ret;exact⟨by rw[f.out];exact Cg (by omega),bD (bC _ _) _⟩
     .rcases(show y=0\/y=1\/y=2\/y=3 by omega)with rfl|rfl|rfl|rfl
      .have g:=k.out 2 (by omega);have hb:=m 2 (by omega);have n:=k.out 0 (by omega);have hc:=m 0 (by omega);have f:Hid (Ar l=8+4*(2)+(1-AK l 2).tdiv 2*2+(1-AK l 0).tdiv 2):=r.out.trans ((a_ (by omega)).trans (a_ (by omega)));try rw[bZ]at g
       try rw[bZ]at n
       generalize AK l 2=a at *;generalize AK l 0=c at *;have s:=AW (1-a);have tc:=AW (1-c);go_wp2_with fail;go_quiet (fail);go_wp2_with fail;go_ret;exact⟨by rw[f.out];exact Cg (by omega),bD (bC _ _) _⟩
      .have g:=k.out 2 (by omega);have hb:=m 2 (by omega);have n:=k.out 1 (by omega);have hc:=m 1 (by omega);have f:Hid (Ar l=8+4*(3)+(1-AK l 2).tdiv 2*2+(1-AK l 1).tdiv 2):=r.out.trans ((a_ (by omega)).trans (a_ (by omega)));try rw[bZ]at g
       try rw[bZ]at n
       generalize AK l 2=a at *;generalize AK l 1=c at *;have s:=AW (1-a);have tc:=AW (1-c);go_wp2_with fail;go_quiet (fail);go_wp2_with fail;go_ret;exact⟨by rw[f.out];exact Cg (by omega),bD (bC _ _) _⟩
      .have g:=k.out 2 (by omega);have hb:=m 2 (by omega);have n:=k.out 2 (by omega);have hc:=m 2 (by omega);have f:Hid (Ar l=8+4*(4)+(1-AK l 2).tdiv 2*2+(1-AK l 2).tdiv 2):=r.out.trans ((a_ (by omega)).trans (a_ (by omega)));try rw[bZ]at g
       try rw[bZ]at n
       generalize AK l 2=a at *;generalize AK l 2=c at *;have s:=AW (1-a);have tc:=AW (1-c);go_wp2_with fail;go_quiet (fail);go_wp2_with fail;go_ret;exact⟨by rw[f.out];exact Cg (by omega),bD (bC _ _) _⟩
      .have g:=k.out 2 (by omega);have hb:=m 2 (by omega);have n:=k.out 3 (by omega);have hc:=m 3 (by omega);have f:Hid (Ar l=8+4*(5)+(1-AK l 2).tdiv 2*2+(1-AK l 3).tdiv 2):=r.out.trans ((a_ (by omega)).trans (a_ (by omega)));try rw[bZ]at g
       try rw[bZ]at n
       generalize AK l 2=a at *;generalize AK l 3=c at *;have s:=AW (1-a);have tc:=AW (1-c);go_wp2_with fail;go_quiet (fail);go_wp2_with fail;go_ret;exact⟨by rw[f.out];exact Cg (by omega),bD (bC _ _) _⟩
     .rcases(show y=0\/y=1\/y=2\/y=3 by omega)with rfl|rfl|rfl|rfl
      .have g:=k.out 3 (by omega);have hb:=m 3 (by omega);have n:=k.out 0 (by omega);have hc:=m 0 (by omega);have f:Hid (Ar l=8+4*(2)+(1-AK l 3).tdiv 2*2+(1-AK l 0).tdiv 2):=r.out.trans ((a_ (by omega)).trans (a_ (by omega)));try rw[bZ]at g
       try rw[bZ]at n
       generalize AK l 3=a at *;generalize AK l 0=c at *;have s:=AW (1-a);have tc:=AW (1-c);go_wp2_with fail;go_quiet (fail);go_wp2_with fail;go_ret;exact⟨by rw[f.out];exact Cg (by omega),bD (bC _ _) _⟩
      .have g:=k.out 3 (by omega);have hb:=m 3 (by omega);have n:=k.out 1 (by omega);have hc:=m 1 (by omega);have f:Hid (Ar l=8+4*(3)+(1-AK l 3).tdiv 2*2+(1-AK l 1).tdiv 2):=r.out.trans ((a_ (by omega)).trans (a_ (by omega)));try rw[bZ]at g
       try rw[bZ]at n
       generalize AK l 3=a at *;generalize AK l 1=c at *;have s:=AW (1-a);have tc:=AW (1-c);go_wp2_with fail;go_quiet (fail);go_wp2_with fail;go_ret;exact⟨by rw[f.out];exact Cg (by omega),bD (bC _ _) _⟩
      .have g:=k.out 3 (by omega);have hb:=m 3 (by omega);have n:=k.out 2 (by omega);have hc:=m 2 (by omega);have f:Hid (Ar l=8+4*(4)+(1-AK l 3).tdiv 2*2+(1-AK l 2).tdiv 2):=r.out.trans ((a_ (by omega)).trans (a_ (by omega)));try rw[bZ]at g
       try rw[bZ]at n
       generalize AK l 3=a at *;generalize AK l 2=c at *;have s:=AW (1-a);have tc:=AW (1-c);go_wp2_with fail;go_quiet (fail);go_wp2_with fail;go_ret;exact⟨by rw[f.out];exact Cg (by omega),bD (bC _ _) _⟩
      .have g:=k.out 3 (by omega);have hb:=m 3 (by omega);have n:=k.out 3 (by omega);have hc:=m 3 (by omega);have f:Hid (Ar l=8+4*(5)+(1-AK l 3).tdiv 2*2+(1-AK l 3).tdiv 2):=r.out.trans ((a_ (by omega)).trans (a_ (by omega)));try rw[bZ]at g
       try rw[bZ]at n
       generalize AK l 3=a at *;generalize AK l 3=c at *;have s:=AW (1-a);have tc:=AW (1-c);go_wp2_with fail;go_quiet (fail);go_wp2_with fail;go_ret;exact⟨by rw[f.out];exact Cg (by omega),bD (bC _ _) _⟩
end Go.Proofs.YtffajooegiempaaGreatDoor
